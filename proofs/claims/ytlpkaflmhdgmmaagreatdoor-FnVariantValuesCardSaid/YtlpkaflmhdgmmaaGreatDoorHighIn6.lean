/-
  HighIn: the program's walk.
-/
import Derived.Test.YtlpkaflmhdgmmaaGreatDoorHandsIter
import Derived.Test.YtlpkaflmhdgmmaaGreatDoorHandsCards
import Derived.Test.YtlpkaflmhdgmmaaGreatDoorCodeFor
import Derived.Test.YtlpkaflmhdgmmaaGreatDoorVal
namespace Go.Proofs.YtlpkaflmhdgmmaaGreatDoor
open Go.RowKit
set_option linter.unusedVariables false
attribute [local go_sem] Oper.semAt_some

set_option maxHeartbeats 400000 in
theorem maximumJ_any (a b : Int) (w : World) :
    Calls Tryz.prog 62 #[.int .i64 a, .int .i64 b] w (Same (.int .i64 (maxJ a b)) w) := by
  by_cases h : a < b
  · have H : Hid (maxJ a b = b) := Lib.hid (by unfold maxJ; rw [if_pos h])
    go_enter Tryz.func62, Tryz.ntmps62
    go_wp2_with fail
    go_ret
    exact ⟨ret_int H.out.symm, rfl⟩
  · have H : Hid (maxJ a b = a) := Lib.hid (by unfold maxJ; rw [if_neg h])
    go_enter Tryz.func62, Tryz.ntmps62
    go_wp2_with fail
    go_ret
    exact ⟨ret_int H.out.symm, rfl⟩

def hiScale : Value := .agg #[.func (.func 39) #[] #[], .func (.func 62) #[] #[], .int .i64 (-9223372036854775808)]
def scaleL : List Value := [.func (.func 39) #[] #[], .func (.func 62) #[] #[], .int .i64 (-9223372036854775808)]
theorem scaleL_one : ∀ v ∈ scaleL, v.oneCell' = true := fun v hv => by
  unfold scaleL at hv
  simp at hv
  rcases hv with rfl | rfl | rfl <;> rfl
theorem i85S : (Tryz.prog.info? 50).map (·.size) = some 3 := by kernel_rfl
set_option maxRecDepth 100000 in
set_option maxHeartbeats 1000000 in
theorem highScale_any (w : World) :
    Calls Tryz.prog 36 #[] w (Fresh hiScale w) := by
  go_enter Tryz.func36, Tryz.ntmps36
  go_wp2_with (refine wpList_store_blk 50 3 rfl (.tmp 0) (.tmp 1) rfl i85S w.heap.size rfl scaleL rfl rfl scaleL_one _ (heap_alloc_new w _) rfl ?_)
  intro w3 hb3 hg3
  have N3 := Lib.hid hb3
  have B3 := Lib.hid (bl_blk (bl_alloc (bl_refl w) _) hg3 (Nat.le_refl _))
  clear hg3
  obtain ⟨g0, _⟩ := hb3.cell 0 _ rfl
  obtain ⟨g1, _⟩ := hb3.cell 1 _ rfl
  obtain ⟨g2, _⟩ := hb3.cell 2 _ rfl
  clear hb3
  go_wp2_with fail
  exact bodyPost_ret (v := hiScale) (by simp [results, Tryz.results36, go_sem, hiScale, g0, g1, g2]) rfl ⟨rfl, B3.out⟩

/-- What the rounds keep. -/
def BSt (w : World) (V : Nat → Int) (i : Nat) (W : World) : Prop :=
  Blk W w.heap.size 50 [.func (.func 39) #[] #[], .func (.func 62) #[] #[], .int .i64 (-9223372036854775808)] ∧
  Blk W (w.heap.size + 1) 2 (ints [mxV V i]) ∧ Below w.heap.size w W
def cellsV6 : Value → Array Value := fun v => match v with | .agg cs => cs | _ => #[]
set_option maxRecDepth 100000 in
set_option maxHeartbeats 4000000 in
theorem bestValue6_any (A : Option Addr) (c : Nat) (hs : List Int) (A2 : Option Addr) (c2 : Nat) (bs : List Int) (l m b1 b2 b3 : Nat) (hi : Bool) (lo : Int) (B : Nat) (wt w : World) (ht : Hid (Low B wt)) (hB : Hid (Below B wt w)) (hBw : Hid (B ≤ w.heap.size))
    (h1 : Blk w b1 25 [.int .i64 (hs.length : Int), .int .i64 (l : Int), .int .i64 (m : Int), .int .i64 (bs.length : Int), .bool hi, .int .i64 lo]) (h2 : Blk w b2 26 [.slice A hs.length c]) (h3 : Blk w b3 26 [.slice A2 bs.length c2])
    (hr : Rd w A hs) (hr2 : Rd w A2 bs) (hh : hs.length ≤ 7) (hb7 : bs.length ≤ 7) (hlm : l ≤ m) (hm5 : m ≤ 5) (hc : cardsB (hs ++ bs) = true) :
    Calls Tryz.prog 27 #[hiScale, .func (.func 50) #[] #[.pointer (some ⟨b1, 0, none⟩), .pointer (some ⟨b2, 0, none⟩), .pointer (some ⟨b3, 0, none⟩)]] w
      (Fresh (.int .i64 (mxV (fun k => hv ((hRows hs bs l (m + 1 - l)).getD k [])) (hRows hs bs l (m + 1 - l)).length)) w) := by
  have HC := Lib.hid (hRows_cards_at hs bs l (m + 1 - l) (by omega) hc)
  have RB := Lib.hid (And.intro hr hr2)
  have P1 := Lib.hid h1
  have P2 := Lib.hid h2
  have P3 := Lib.hid h3
  have KM := Lib.hid maximumJ_any
  have L1 := h1.lt
  have L2 := h2.lt
  have L3 := h3.lt
  obtain ⟨V, eV⟩ : ∃ V, V = fun k => hv ((hRows hs bs l (m + 1 - l)).getD k []) := ⟨_, rfl⟩
  have EV : Hid (∀ k, V k = hv ((hRows hs bs l (m + 1 - l)).getD k [])) := Lib.hid (fun k => by rw [eV])
  rw [← eV]
  clear eV hr hr2 h1 h2 h3 hc
  unfold hiScale
  refine (callsIn_wide (n := 10)).1 ?_
  refine callsIn_of_wp_marks Tryz.func27 rfl trivial ?_ rfl
  simp only [Tryz.ntmps27, List.size_toArray, List.length_cons, List.length_nil, Nat.reduceAdd, Nat.reduceSub, Array.replicate_succ, Array.replicate_zero, List.push_toArray, List.append_toArray, List.nil_append, List.cons_append]
  obtain ⟨w0, rfl⟩ : ∃ w0 : World, w0 = w := ⟨w, rfl⟩
  gi_wp2
  have b0 := blk_new w0 50 [.func (.func 39) #[] #[], .func (.func 62) #[] #[], .int .i64 (-9223372036854775808)]
  have q0 := blk_new (w0.alloc (.cells #[.func (.func 39) #[] #[], .func (.func 62) #[] #[], .int .i64 (-9223372036854775808)] 50)) 2 (ints [-9223372036854775808])
  have BX := bl_alloc (bl_alloc (bl_refl w0) (.cells #[.func (.func 39) #[] #[], .func (.func 62) #[] #[], .int .i64 (-9223372036854775808)] 50)) (.cells #[.int .i64 (-9223372036854775808)] 2)
  have b1' := b0.below (bl_alloc (bl_refl _) (.cells #[.int .i64 (-9223372036854775808)] 2))
  have hz : ((w0.alloc (.cells #[.func (.func 39) #[] #[], .func (.func 62) #[] #[], .int .i64 (-9223372036854775808)] 50)).alloc (.cells #[.int .i64 (-9223372036854775808)] 2)).heap.size = w0.heap.size + 1 + 1 := by simp
  rw [World.size_alloc] at q0
  simp only [ints, List.map_cons, List.map_nil, List.toArray] at q0 b1'
  obtain ⟨W3, eW3⟩ : ∃ W3, W3 = (w0.alloc (.cells #[.func (.func 39) #[] #[], .func (.func 62) #[] #[], .int .i64 (-9223372036854775808)] 50)).alloc (.cells #[.int .i64 (-9223372036854775808)] 2) := ⟨_, rfl⟩
  rw [← eW3] at BX b1' hz q0 ⊢
  have I0 : Hid (BSt w0 V 0 W3) := Lib.hid ⟨b1', q0, BX⟩
  have KIT := handsIter_any 9 A c hs A2 c2 bs l m b1 b2 b3 hh hb7 hlm hm5 (BSt w0 V) W3 (by omega)
    (fun i W h => by
      have hb := h.2.2
      exact ⟨((P1.out.below hb).cell 1 _ rfl).1, ((P1.out.below hb).cell 2 _ rfl).1, ((P2.out.below hb).cell 0 _ rfl).1, ((P3.out.below hb).cell 0 _ rfl).1, RB.out.1.below hb, RB.out.2.below hb⟩)
  clear eW3 b0 q0 b1' BX
  refine wpIn_rangeC rfl (by omega) (gf := 50) (lb := #[.pointer (some ⟨b1, 0, none⟩), .pointer (some ⟨b2, 0, none⟩), .pointer (some ⟨b3, 0, none⟩)]) rfl trivial (enters_of Tryz.func50 (by kernel_rfl) rfl)
    KIT (fun i W' ar h => by obtain ⟨rfl, _⟩ := h; rfl) (fun i A' B' ar h _ => h)
    (fun i A' B' h hb' => by
      obtain ⟨h1, h2, h3⟩ := h
      exact ⟨itw_blk hb' h1 (by kernel_rfl), itw_blk hb' h2 (by kernel_rfl), h3.trans (hb'.1.mono (by omega))⟩) I0.out
    (fun ar W' => { tmps := #[.agg #[.func (.func 39) #[] #[], .func (.func 62) #[] #[], .int .i64 (-9223372036854775808)],
      .func (.func 50) #[] #[.pointer (some ⟨b1, 0, none⟩), .pointer (some ⟨b2, 0, none⟩), .pointer (some ⟨b3, 0, none⟩)],
      .pointer (some ⟨w0.heap.size, 0, none⟩), undef, .int .i64 0, .pointer (some ⟨w0.heap.size + 1, 0, none⟩), .pointer (some ⟨W'.heap.size, 0, none⟩), .pointer (some ⟨w0.heap.size, 2, none⟩), .int .i64 (-9223372036854775808),
      .func (.func 50) #[] #[.pointer (some ⟨b1, 0, none⟩), .pointer (some ⟨b2, 0, none⟩), .pointer (some ⟨b3, 0, none⟩)],
      ar.getD 0 undef, undef, undef, undef, undef, undef, undef, undef, undef, undef], defers := [] })
    (fun ar W' => W'.alloc (.cells (cellsV6 (ar.getD 0 undef)) 58)) (fun ar W' => bl_alloc (bl_refl W') _) ?assign ?body ?done
  case assign =>
    rintro lr i ar W' Kc ⟨rfl, h5⟩ hKc
    obtain ⟨x0, x1, x2, x3, x4, ex⟩ := list_five _ h5
    rw [ex] at hKc ⊢
    clear ex h5
    simp only [aggI, ints, List.map_cons, List.map_nil] at hKc ⊢
    gi_wp2
    exact hKc
  case body =>
    rintro lr i ar W0 W hi1 ⟨h1, h2, hbl⟩ ⟨rfl, hl5⟩ hgl hrl hW0 hca hsz
    obtain ⟨hcb, hc5⟩ := HC.out i hi1
    have KV := Lib.hid (fun (W' : World) (hb' : Below W.heap.size W W') => fiveValue_any ((hRows hs bs l (m + 1 - l)).getD i []) hcb hc5 B wt W' ht (Lib.hid (hB.out.trans ((hbl.trans (hb'.mono hbl.size)).mono hBw.out))) (Lib.hid (Nat.le_trans hBw.out (Nat.le_trans hbl.size hb'.size))))
    rw [← EV.out i] at KV
    have EM : Hid (mxV V (i + 1) = maxJ (mxV V i) (V i)) := Lib.hid rfl
    generalize V i = v at *
    generalize mxV V i = q at *
    obtain ⟨x0, x1, x2, x3, x4, ex⟩ := list_five _ hl5
    rw [ex] at hca KV ⊢
    unfold aggI at KV
    have hbx : Blk W W0.heap.size 58 (ints [x0, x1, x2, x3, x4]) := hca _ _ _ _ (blk_new W0 58 (ints [x0, x1, x2, x3, x4]))
    have y0 := (hbx.cell 0 _ rfl).1
    have y1 := (hbx.cell 1 _ rfl).1
    have y2 := (hbx.cell 2 _ rfl).1
    have y3 := (hbx.cell 3 _ rfl).1
    have y4 := (hbx.cell 4 _ rfl).1
    have s0 := (h1.cell 0 _ rfl).1
    have s1 := (h1.cell 1 _ rfl).1
    obtain ⟨cq, fq⟩ := h2.cell 0 _ rfl
    have gbx := hbx.lt
    have gq := h2.lt
    have R1 := Lib.hid h1
    have R2 := Lib.hid h2
    have R6 := Lib.hid hbl
    have hmx : Tryz.prog.follows .mixedOrders = true := by kernel_rfl
    clear h1 h2 hbl hca hsz hrl hl5 ex I0 KIT hbx hcb hc5
    simp only [Array.getD_eq_getD_getElem?]
    gi_wp2
    change Code.wpIn (Fence.wide.inRound lr) _ _ _ _ _ _
    refine wpIn_region_anyR lr rfl hmx (noDefer_spec (by kernel_rfl)) ?_
    refine wpAnyIn_S (S := fun W' => Below W.heap.size W W') (last := 8) (m := 0) (k := 8) rfl (fun HC0 => ?_)
    have hS0 : Below W.heap.size W { W with drawn := W.drawn + 1 } := bl_drew (bl_refl W)
    obtain ⟨W1, eW1⟩ : ∃ W1 : World, W1 = { W with drawn := W.drawn + 1 } := ⟨_, rfl⟩
    have hz1 : W1.heap.size = W.heap.size := by rw [eW1]
    rw [← eW1] at hS0 ⊢
    clear eW1
    refine wpAnyS_take (i := 0) (kw := 2) (v := .pointer (some ⟨w0.heap.size, 1, none⟩)) rfl rfl (by kernel_rfl) (by kernel_rfl) (by kernel_rfl) (by kernel_rfl) (fun _ _ _ h => h) HC0 hS0 ⟨Or.inl ⟨by rfl, fun W' hs => ?_⟩, fun _ => rfl⟩ (fun HC1 => ?_)
    · go_simp
    refine wpAnyS_take (i := 3) (kw := 2) (v := .pointer (some ⟨w0.heap.size, 0, none⟩)) rfl rfl (by kernel_rfl) (by kernel_rfl) (by kernel_rfl) (by kernel_rfl) (fun _ _ _ h => h) HC1 hS0 ⟨Or.inl ⟨by rfl, fun W' hs => ?_⟩, fun _ => rfl⟩ (fun HC2 => ?_)
    · go_simp
    refine wpAnyS_take (i := 2) (kw := 2) (v := .int .i64 q) rfl rfl (by kernel_rfl) (by kernel_rfl) (by kernel_rfl) (by kernel_rfl) (fun _ _ _ h => h) HC2 hS0 ⟨Or.inl ⟨by rfl, fun W' hs => ?_⟩, fun _ => rfl⟩ (fun HC3 => ?_)
    · have c := ((bcell hs).1 (w0.heap.size + 1) 0 (by omega)).trans cq
      go_simp
    refine wpAnyS_take (i := 5) (kw := 2) (v := .agg #[.int .i64 x0, .int .i64 x1, .int .i64 x2, .int .i64 x3, .int .i64 x4]) rfl rfl (by kernel_rfl) (by kernel_rfl) (by kernel_rfl) (by kernel_rfl) (fun _ _ _ h => h) HC3 hS0 ⟨Or.inl ⟨by rfl, fun W' hs => ?_⟩, fun _ => rfl⟩ (fun HC4 => ?_)
    · have c0 := ((bcell hs).1 W0.heap.size 0 (by omega)).trans y0
      have c1 := ((bcell hs).1 W0.heap.size 1 (by omega)).trans y1
      have c2 := ((bcell hs).1 W0.heap.size 2 (by omega)).trans y2
      have c3 := ((bcell hs).1 W0.heap.size 3 (by omega)).trans y3
      have c4 := ((bcell hs).1 W0.heap.size 4 (by omega)).trans y4
      go_simp
    refine wpAnyS_take (i := 1) (kw := 2) (v := .func (.func 62) #[] #[]) rfl rfl (by kernel_rfl) (by kernel_rfl) (by kernel_rfl) (by kernel_rfl) (fun _ _ _ h => h) HC4 hS0 ⟨Or.inl ⟨by rfl, fun W' hs => ?_⟩, fun _ => rfl⟩ (fun HC5 => ?_)
    · have c := ((bcell hs).1 w0.heap.size 1 (by omega)).trans s1
      go_simp
    refine wpAnyS_take (i := 4) (kw := 2) (v := .func (.func 39) #[] #[]) rfl rfl (by kernel_rfl) (by kernel_rfl) (by kernel_rfl) (by kernel_rfl) (fun _ _ _ h => h) HC5 hS0 ⟨Or.inl ⟨by rfl, fun W' hs => ?_⟩, fun _ => rfl⟩ (fun HC6 => ?_)
    · have c := ((bcell hs).1 w0.heap.size 0 (by omega)).trans s0
      go_simp
    refine wpAnyS_one HC6 (i := 6) (by kernel_rfl) rfl hS0 (fun K hK => ?_)
    go_simp
    gi_wp2_with (refine ⟨trivial, ?_⟩; gi_at_call 39; refine (callsIn_wide.2 (KV.out _ hS0)).mono ?_; rintro e w6 ⟨rfl, hb6⟩)
    intro HC7
    have hS6 : Below W.heap.size W w6 := hS0.trans (hb6.mono hS0.size)
    refine wpAnyS_one HC7 (i := 7) (by kernel_rfl) rfl hS6 (fun K hK => ?_)
    go_simp
    gi_wp2_with (refine ⟨trivial, ?_⟩; gi_at_call 62; refine (callsIn_wide.2 (KM.out _ _ _)).mono ?_; rintro e w7 ⟨rfl, rfl⟩)
    intro HC8
    have c6 := ((bcell hS6).1 (w0.heap.size + 1) 0 (by omega)).trans cq
    have f6 := ((bcell hS6).2 (w0.heap.size + 1) 0 (by omega)).trans fq
    refine wpAnyS_last (by kernel_rfl) (by kernel_rfl) rfl hS6 (fun K hK => ?_)
    go_simp
    refine hK _ _ ?_
    clear hK K
    have s := blk_setI ((R2.out.below hS6)) 0 (maxJ q v)
    gi_wp2
    have up : ∀ {g : Nat} {t : TypeId} {vs : List Value}, Blk W g t vs → g ≠ w0.heap.size + 1 → Blk (w6.setCell ⟨w0.heap.size + 1, 0, none⟩ (.int .i64 (maxJ q v))) g t vs := fun hq h1 => (hq.below hS6).grown s.2 (fun e => h1 (Option.some.inj e))
    exact ⟨⟨up R1.out (by omega), by rw [EM.out]; exact s.1, bl_blk (bl_trans R6.out hS6) s.2 (by omega)⟩, (con_below hS6).trans (con_grown s.2 (R2.out.below hS6) (by kernel_rfl))⟩
  case done =>
    rintro D W hD ⟨r1, r2, r6⟩ hK
    generalize mxV V (hRows hs bs l (m + 1 - l)).length = q at *
    obtain ⟨cq, fq⟩ := r2.cell 0 _ rfl
    have R6 := Lib.hid r6
    clear r1 r2 r6
    gi_wp2
    refine ⟨by simp, .inl ⟨_, _, rfl, run_takeDeferred hK, ?_⟩⟩
    exact ⟨_, by simp [results, Tryz.f27, go_sem], rfl, R6.out.trans (putObj_below _ _ _ (by omega) (Array.getElem?_eq_some_iff.1 hK).1)⟩
end Go.Proofs.YtlpkaflmhdgmmaaGreatDoor
