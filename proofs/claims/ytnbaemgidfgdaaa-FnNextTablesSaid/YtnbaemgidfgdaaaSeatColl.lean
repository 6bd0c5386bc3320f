/-
  slices.Collect of a table's seats; SeatsFrom.
-/
import Derived.Test.YtnbaemgidfgdaaaSeatIter
import Derived.Test.YtnbaemgidfgdaaaSpecFrom
namespace Go.Proofs.Ytnbaemgidfgdaaa
open Go.RowKit
set_option linter.unusedVariables false
attribute [local go_sem] Oper.semAt_some

theorem own_ne_blk {W : World} {lo g : Nat} {v : Value} {ys : List Int} {vs : List Value} {t : TypeId} (ho : Own W lo v ys) (hb : Blk W g t vs) (ht : t ≠ 2) : some g ≠ v.ownBlock := by
  intro e
  rcases ho.2 with ⟨rfl, _⟩ | ⟨g', cap, cur, rfl, _, hh, _⟩
  · cases e
  · have : g = g' := by injection e
    subst this
    have hb' : W.heap[g]? = some (.cells vs.toArray t) := hb
    rw [hh] at hb'
    injection hb' with q
    injection q with _ q2
    exact ht q2.symm
theorem con_own {K : TypeId → Bool} {A B : World} {lo : Nat} {v : Value} {ys : List Int} (hK : K 2 = false) (ho : Own A lo v ys) (hg : A.grownBy B v.ownBlock) : Con K A B :=
  ⟨hg.size, fun i o hi hk => by
    by_cases e : some i = v.ownBlock
    · rcases ho.2 with ⟨rfl, _⟩ | ⟨g', cap, cur, rfl, _, hh, _⟩
      · cases e
      · have : i = g' := by injection e
        subst this
        rw [hh] at hi
        cases hi
        rw [show K 2 = true from hk] at hK
        cases hK
    · exact (hg.block i (Array.getElem?_eq_some_iff.1 hi).1 e).trans hi⟩
theorem own_put {W : World} {lo D : Nat} {v : Value} {ys : List Int} {r : Option (List Deferred)} (ho : Own W lo v ys) (hD : W.heap[D]? = some (.deferred r)) (o : Obj) : Own (W.putObj D o) lo v ys :=
  World.ownsRow.kept ho (grownBy_putObj' W D o) (by
    rcases ho.2 with ⟨rfl, _⟩ | ⟨g', cap, cur, rfl, _, hh, _⟩
    · exact .inl rfl
    · refine .inr (fun e => ?_)
      have : g' = D := by injection e
      subst this
      rw [hh] at hD
      cases hD)
/-- What the rounds keep. -/
def CI (w0 : World) (rb : Nat) (us : List Int) (i : Nat) (W : World) : Prop :=
  Below w0.heap.size w0 W ∧ ∃ v, Blk W rb 24 [v] ∧ Own W w0.heap.size v (us.take i)
theorem ci_itw {w0 : World} {rb n0 i : Nat} {us : List Int} {X Y : World} (h : CI w0 rb us i X) (hb : ItW kWalk n0 X Y) (hn : w0.heap.size ≤ n0) : CI w0 rb us i Y := by
  obtain ⟨h2, v, h3, h4⟩ := h
  refine ⟨h2.trans (hb.1.mono hn), v, itw_blk hb h3 kWalk_ints, ⟨h4.1, ?_⟩⟩
  rcases h4.2 with hl | ⟨g, cap, cur, e, hg, hh, hr⟩
  · exact .inl hl
  · exact .inr ⟨g, cap, cur, e, hg, hb.2 g cur _ _ hh kWalk_int, hr⟩

set_option maxRecDepth 100000 in
set_option maxHeartbeats 2000000 in
theorem appendSeats_any (N : Nat) (t : Int) (w : World) (hN : 0 < N) (hN6 : N ≤ 6) (h0t : 0 ≤ t) (h1t : t < N) :
    Calls Try.prog 82 #[.slice none 0 0, .func (.func 66) #[wkV t N] #[]] w (NewL (fromL N t) w) := by
  obtain ⟨i0, hi, hz0, hz1, hz2⟩ := info_parts infoInt
  have HT := Lib.hid (fun k (hk : k < N) => fromL_take N t k hk)
  have HL := Lib.hid (fromL_len N t)
  have HA : Hid ((fromL N t).take N = fromL N t) := Lib.hid (List.take_of_length_le (by rw [fromL_len]; exact Nat.le_refl _))
  have HN := Lib.hid hN
  have HN6 := Lib.hid hN6
  have H0T := Lib.hid h0t
  have H1T := Lib.hid h1t
  clear hN hN6 h0t h1t
  refine (callsIn_wide (n := 10)).1 ?_
  refine callsIn_of_wp_marks Try.func82 rfl trivial ?_ rfl
  simp only [Try.ntmps82, List.size_toArray, List.length_cons, List.length_nil, Nat.reduceAdd, Nat.reduceSub, Array.replicate_succ, Array.replicate_zero, List.push_toArray, List.append_toArray, List.nil_append, List.cons_append]
  obtain ⟨w0, rfl⟩ : ∃ w0 : World, w0 = w := ⟨w, rfl⟩
  gi_wp2
  have b3 := blk_new w0 24 [.slice none 0 0]
  have bb := bl_alloc (bl_refl w0) (.cells ([.slice none 0 0] : List Value).toArray 24)
  have I0 : Hid (CI w0 w0.heap.size (fromL N t) 0 (w0.alloc (.cells ([.slice none 0 0] : List Value).toArray 24))) := Lib.hid ⟨bb, _, b3, Own.nil _ _⟩
  have hzz : w0.heap.size ≤ (w0.alloc (.cells ([.slice none 0 0] : List Value).toArray 24)).heap.size := bb.size
  obtain ⟨w4, e4⟩ : ∃ w4, w4 = (w0.alloc (.cells ([.slice none 0 0] : List Value).toArray 24)) := ⟨_, rfl⟩
  rw [← e4] at I0 hzz
  have HE4 := Lib.hid e4
  simp only [List.toArray] at e4
  rw [← e4]
  have KIT := seatsC_any 9 N t (CI w0 w0.heap.size (fromL N t)) w4 (by omega) HN.out HN6.out H0T.out H1T.out
  clear b3 bb e4 HE4
  refine wpIn_rangeCF rfl (by omega) (gf := 66) (fa := #[wkV t N]) (lb := #[]) rfl trivial (enters_of Try.func66 (by kernel_rfl) rfl)
    KIT (fun i W' ar h => by rw [show ar = _ from h]; rfl) (fun i A' B' ar h _ => h)
    (fun i A' B' h hb' => ci_itw h hb' hzz) I0.out
    (fun ar W' => { tmps := #[.slice none 0 0, .func (.func 66) #[wkV t N] #[], .pointer (some ⟨w0.heap.size, 0, none⟩), undef, .slice none 0 0, ar.getD 0 undef, .func (.func 66) #[wkV t N] #[], ar.getD 0 undef, undef, undef, undef, undef, undef], defers := [] })
    (fun ar W' => W') (fun ar W' => bl_refl W') ?assign ?body ?done
  case assign =>
    intro lr i ar W' Kc h hKc
    obtain rfl : ar = _ := h
    gi_wp2
    exact hKc
  case body =>
    intro lr i ar W0 W hi1 hI h hgl hrl hW0 hca hsz
    obtain rfl : ar = _ := h
    obtain ⟨h2, v, h3, h4⟩ := hI
    have crb := (h3.cell 0 _ rfl).1
    have hl : ((fromL N t).take i).length ≤ 6 := by rw [List.length_take, HL.out]; have := HN6.out; omega
    have HO := Lib.hid (HT.out i hi1)
    have P2 := Lib.hid h2
    have P3 := Lib.hid h3
    have P4 := Lib.hid h4
    have HX := h4.below (bl_alloc (bl_refl W) (.cells #[.int .i64 (seatAt N t i)] 2))
    have HXH := Lib.hid HX
    have gsz := Lib.hid h2.size
    generalize seatAt N t i = x at *
    generalize (fromL N t).take i = ys at *
    clear h2 h3 h4 hca hsz hrl I0 KIT HX
    simp only [Array.getD_eq_getD_getElem?]
    gi_wp2_with (gi_at_builtin; refine wpListIn_append_own _ rfl _ _ 24 rfl w0.heap.size 2 i0 (.int .i64 0) 1 8 Try.underlying24 hi hz0 hz1 hz2 rfl (by decide) _ _ _ rfl HXH.out ⟨W.heap.size, 0, none⟩ 1 1 [.int .i64 x] rfl rfl ?c1 ?c2 ?c3 ?c4 ?c5 ?_)
    case c1 =>
      intro j u hj
      match j, hj with
      | 0, hj => simp at hj; subst hj; simp [Addr.add]
    case c2 => intro u hu; simp at hu; subst hu; rfl
    case c3 => unfold maxLen; omega
    case c4 => omega
    case c5 => have := gsz.out; simp; omega
    intro v' w9 hown hg _
    have hN : Own w9 w0.heap.size v' (ys ++ [x]) := own_app hown
    obtain ⟨ws, ew⟩ : ∃ ws, ws = ys ++ [x] := ⟨_, rfl⟩
    rw [← ew] at hN HO
    clear ew hown
    have hb8 := bl_alloc (bl_refl W) (.cells #[.int .i64 x] 2)
    have B8 := P3.out.below hb8
    have B9 := B8.grown hg (own_ne_blk HXH.out B8 (by decide))
    have s := blk_set B9 0 v'
    obtain ⟨c9, f9⟩ := B9.cell 0 _ rfl
    have hne := own_ne_blk hN B9 (by decide)
    have H10 : Own (w9.setCell ⟨w0.heap.size, 0, none⟩ v') w0.heap.size v' ws := World.ownsRow.kept hN s.2 (by
      rcases hq : v'.ownBlock with _ | k
      · exact .inl rfl
      · exact .inr (fun e => hne (by rw [hq, e])))
    have hC : Con kWalk W (w9.setCell ⟨w0.heap.size, 0, none⟩ v') := ((con_below hb8).trans (con_own kWalk_int HXH.out hg)).trans (con_grown s.2 B9 kWalk_ints)
    have hBL : Below w0.heap.size w0 (w9.setCell ⟨w0.heap.size, 0, none⟩ v') :=
      ((bl_trans P2.out hb8).grown hg (Nat.le_trans gsz.out hb8.size) (fun j hj => (World.ownsRow.lt HXH.out j hj).1)).setCell (Nat.le_refl _) _
    have HH := Lib.hid (And.intro (⟨hBL, _, s.1, by rw [HO.out]; exact H10⟩ : CI w0 w0.heap.size (fromL N t) (i + 1) (w9.setCell ⟨w0.heap.size, 0, none⟩ v')) hC)
    obtain ⟨A9, k9, rfl, _⟩ := own_form hN
    clear hN H10 hC hBL s hg B9 B8 hne
    gi_wp2
    exact HH.out
  case done =>
    rintro D W hD ⟨h2, v, h3, h4⟩ hD3
    rw [HA.out] at h4
    obtain ⟨A5, c5, rfl, ho⟩ := own_form h4
    have cr := (h3.cell 0 _ rfl).1
    have HB := Lib.hid h2
    have HO := Lib.hid ho
    clear h2 h3 h4 I0 KIT ho
    gi_wp2
    refine ⟨by simp, .inl ⟨_, _, rfl, run_takeDeferred hD3, ?_⟩⟩
    have hD5 : D < W.heap.size := (Array.getElem?_eq_some_iff.1 hD3).1
    refine ⟨.slice A5 (fromL N t).length c5, by simp [results, Try.f82, go_sem], A5, c5, rfl, own_put HO.out hD3 _, HB.out.trans (putObj_below W D _ (by omega) hD5)⟩
end Go.Proofs.Ytnbaemgidfgdaaa
