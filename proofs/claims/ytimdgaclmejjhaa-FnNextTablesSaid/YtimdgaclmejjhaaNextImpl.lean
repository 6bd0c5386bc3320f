/-
  The stacks that remain, and the next button: the program's.
-/
import Derived.Test.YtimdgaclmejjhaaNextPure
import Derived.Test.YtimdgaclmejjhaaSeatIterX
import Derived.Test.YtimdgaclmejjhaaFromImpl
import Derived.Test.YtimdgaclmejjhaaAnyL
import Derived.Test.YtimdgaclmejjhaaRows2
import Derived.OrdersIn
namespace Go.Proofs.Ytimdgaclmejjhaa
open Go.RowKit
set_option linter.unusedVariables false
attribute [local go_sem] Oper.semAt_some

set_option maxRecDepth 100000 in
set_option maxHeartbeats 1000000 in
theorem remaining_any (A : Option Addr) (c : Nat) (ys : List Int) (w : World) (hr : Rd w A ys) (hn : ys.length ≤ 3000000) :
    Calls Try.prog 20 #[.slice A ys.length c] w (NewL (restL ys) w) := by
  obtain ⟨i0, hi, hz0, hz1, hz2⟩ := info_parts infoInt
  have HR := Lib.hid hr
  clear hr
  obtain ⟨w0, rfl⟩ : ∃ w0 : World, w0 = w := ⟨w, rfl⟩
  go_enter Try.func20, Try.ntmps20
  go_wp2_with fail
  go_loopw [3, 8] (fun v i wr => ∃ k : Nat, k ≤ ys.length ∧ i = .int .i64 k ∧ Hid (Grow w0 (restL (ys.take k)) v wr)) (fun _ i _ => ys.length - (intOf i).toNat)
  case atStart => exact ⟨0, Nat.zero_le _, rfl, Lib.hid ⟨Own.nil _ _, bl_refl _⟩⟩
  case round =>
    obtain ⟨k, hk, rfl, HS⟩ := hrel
    by_cases hlt : k < ys.length
    · have hlt' : (k : Int) < ys.length := by omega
      obtain ⟨bA, oA, rfl, hc⟩ := HR.out.at_ HS.out.2 k hlt
      have hl : (restL (ys.take k)).length ≤ 3000000 := Nat.le_trans (restL_take_len ys k) (by omega)
      have HT := Lib.hid (restL_take ys k hlt)
      generalize nth ys k = x at *
      generalize restL (ys.take k) = rr at *
      by_cases hp : 0 < x
      · rw [if_pos hp] at HT
        have dp : decide (0 < x) = true := decide_eq_true hp
        go_wp2_with (at_builtin; refine wpList_append_own _ rfl _ _ 24 rfl w0.heap.size 2 i0 (.int .i64 0) 1 8 Try.underlying24 hi hz0 hz1 hz2 rfl (by decide) _ _ _ rfl (HS.out.1.alloc _) ⟨wr.heap.size, 0, none⟩ 1 1 [.int .i64 x] rfl rfl ?c1 ?c2 ?c3 ?c4 ?c5 ?_)
        case c1 =>
          intro j u hj
          match j, hj with
          | 0, hj => simp at hj; subst hj; simp [Addr.add]
        case c2 => intro u hu; simp at hu; subst hu; rfl
        case c3 => unfold maxLen; omega
        case c4 => omega
        case c5 => have := HS.out.2.size; simp; omega
        intro v' w1 hown' hgrow _
        have HG := Lib.hid (grow_app HS.out hown' hgrow)
        clear hown' hgrow
        go_wp2_with fail
        go_roundw
        case rel => exact ⟨k + 1, by omega, by go_num, by rw [HT.out]; exact HG⟩
        case measure => simp [intOf]; omega
      · rw [if_neg hp] at HT
        have dp : decide (0 < x) = false := decide_eq_false hp
        go_wp2_with fail
        go_roundw
        case rel => exact ⟨k + 1, by omega, by go_num, by rw [HT.out]; exact HS⟩
        case measure => simp [intOf]; omega
    · obtain rfl : k = ys.length := by omega
      rw [take_all] at HS
      obtain ⟨A', c', rfl, hO⟩ := own_form HS.out.1
      have HO := Lib.hid hO
      clear hO
      go_wp2_with fail
      go_ret
      exact ⟨_, _, rfl, HO.out, HS.out.2⟩
theorem rd_take {w : World} {A : Option Addr} {xs : List Int} (h : Rd w A xs) (k : Nat) : Rd w A (xs.take k) := by
  intro h0
  rw [List.length_take] at h0
  obtain ⟨b, off, e, hc⟩ := h (by omega)
  refine ⟨b, off, e, fun i hi => ?_⟩
  rw [List.length_take] at hi
  rw [hc i (by omega)]
  congr 2
  unfold nth
  rw [List.getD_eq_getElem?_getD, List.getD_eq_getElem?_getD, List.getElem?_take, if_pos (by omega)]
/-- The value of the button's box. -/
def btnV (ys : List Int) (b : Int) (i : Nat) : Int := if i ≤ hopsI ys b then b else nextI ys b
/-- What the rounds keep. -/
def BI (w0 : World) (A2 : Option Addr) (c2 : Nat) (ys : List Int) (b : Int) (i : Nat) (W : World) : Prop :=
  Blk W (w0.heap.size + 1) 24 [.slice A2 ys.length c2] ∧ Blk W (w0.heap.size + 1 + 1) 2 [.int .i64 (btnV ys b i)] ∧ Below w0.heap.size w0 W
theorem bi_itw {w0 : World} {A2 : Option Addr} {c2 i n0 : Nat} {ys : List Int} {b : Int} {X Y : World} (h : BI w0 A2 c2 ys b i X) (hb : ItW kWalk n0 X Y) (hn : w0.heap.size ≤ n0) : BI w0 A2 c2 ys b i Y :=
  ⟨itw_blk hb h.1 kWalk_ints, itw_blk hb h.2.1 kWalk_int, h.2.2.trans (hb.1.mono hn)⟩
set_option maxRecDepth 100000 in
set_option maxHeartbeats 2000000 in
theorem nextButton_any (A : Option Addr) (c : Nat) (xs : List Int) (b s g a l : Int) (A2 : Option Addr) (c2 : Nat) (ys : List Int) (w : World) (hr2 : Rd w A2 ys) (h2 : 2 ≤ xs.length) (h6 : xs.length ≤ 6) (hb0 : 0 ≤ b) (hb1 : b < xs.length) (hl : ys.length = xs.length) (hc : chipsB ys = true) (hf : 0 < (restL ys).length) (hcap : ys.length ≤ c2) :
    Calls Try.prog 22 #[tV A xs.length c b s g a l, .slice A2 ys.length c2] w (Fresh (.int .i64 (newB ys b)) w) := by
  have KL := Lib.hid (fun W : World => leftOfM_any A c xs b s g a l b W h2 h6 hb0 hb1)
  have KW := Lib.hid (fun (W : World) => walkFrom_any A c xs b s g a l (leftI b xs.length) W)
  have HH := Lib.hid (hops_lt ys b hf)
  have HCH := Lib.hid hc
  have HCAP := Lib.hid hcap
  have HLEN := Lib.hid hl
  have HR2 := Lib.hid hr2
  have HFB := Lib.hid (left_bd b xs.length (by omega))
  have HXB := Lib.hid (And.intro h2 h6)
  have hmx : Try.prog.follows .mixedOrders = true := by kernel_rfl
  obtain ⟨w0, rfl⟩ : ∃ w0 : World, w0 = w := ⟨w, rfl⟩
  have n0 := blk_new w0 26 [.slice A xs.length c, .int .i64 b, .int .i64 s, .int .i64 g, .int .i64 a, .int .i64 l]
  have n1 := blk_new (w0.alloc (.cells ([.slice A xs.length c, .int .i64 b, .int .i64 s, .int .i64 g, .int .i64 a, .int .i64 l] : List Value).toArray 26)) 24 [.slice A2 ys.length c2]
  rw [World.size_alloc] at n1
  have n2 := blk_new ((w0.alloc (.cells ([.slice A xs.length c, .int .i64 b, .int .i64 s, .int .i64 g, .int .i64 a, .int .i64 l] : List Value).toArray 26)).alloc (.cells ([.slice A2 ys.length c2] : List Value).toArray 24)) 2 [.int .i64 b]
  rw [World.size_alloc, World.size_alloc] at n2
  have N0 := Lib.hid ((n0.below (bl_alloc (bl_refl _) (.cells ([.slice A2 ys.length c2] : List Value).toArray 24))).below (bl_alloc (bl_refl _) (.cells ([.int .i64 b] : List Value).toArray 2)))
  have N1 := Lib.hid (n1.below (bl_alloc (bl_refl _) (.cells ([.int .i64 b] : List Value).toArray 2)))
  have N2 := Lib.hid n2
  have B := Lib.hid (bl_alloc (bl_alloc (bl_alloc (bl_refl w0) (.cells ([.slice A xs.length c, .int .i64 b, .int .i64 s, .int .i64 g, .int .i64 a, .int .i64 l] : List Value).toArray 26)) (.cells ([.slice A2 ys.length c2] : List Value).toArray 24)) (.cells ([.int .i64 b] : List Value).toArray 2))
  clear n0 n1 n2
  clear hr2 hl hc hf h2 h6 hb0 hb1 hcap
  unfold tV at *
  refine (callsIn_wide (n := 10)).1 ?_
  refine callsIn_of_wp_marks Try.func22 rfl trivial ?_ rfl
  simp only [Try.ntmps22, List.size_toArray, List.length_cons, List.length_nil, Nat.reduceAdd, Nat.reduceSub, Array.replicate_succ, Array.replicate_zero, List.push_toArray, List.append_toArray, List.nil_append, List.cons_append]
  gi_wp2
  obtain ⟨W3, e3⟩ : ∃ W3, W3 = (((w0.alloc (.cells ([.slice A xs.length c, .int .i64 b, .int .i64 s, .int .i64 g, .int .i64 a, .int .i64 l] : List Value).toArray 26)).alloc (.cells ([.slice A2 ys.length c2] : List Value).toArray 24)).alloc (.cells ([.int .i64 b] : List Value).toArray 2)) := ⟨_, rfl⟩
  have z3 : W3.heap.size = w0.heap.size + 1 + 1 + 1 := by rw [e3]; simp
  rw [← e3] at N0 N1 N2 B
  simp only [List.toArray] at e3
  rw [← e3]
  clear e3
  refine wpIn_mono (Q := fun e a w => (∀ c, e ≠ .panic c) ∧ (Exit.then _ _) e a w) ?_ (fun e a w h => h.2)
  refine wpIn_region_any hmx ?_
  refine wpAnyIn_S (S := fun W' => Below W3.heap.size W3 W') (last := 6) (m := 0) (k := 6) rfl (fun HC0 => ?_)
  have hS0 : Below W3.heap.size W3 { W3 with drawn := W3.drawn + 1 } := bl_drew (bl_refl W3)
  obtain ⟨W6, eW6⟩ : ∃ W6 : World, W6 = { W3 with drawn := W3.drawn + 1 } := ⟨_, rfl⟩
  rw [← eW6] at hS0 ⊢
  clear eW6
  refine wpAnyS_take (i := 0) (kw := 4) (v := .agg #[.slice A xs.length c, .int .i64 b, .int .i64 s, .int .i64 g, .int .i64 a, .int .i64 l]) rfl rfl (by kernel_rfl) (by kernel_rfl) (by kernel_rfl) (by kernel_rfl) (fun c _ _ h => absurd rfl (h.1 c)) HC0 hS0 ⟨Or.inl ⟨by kernel_rfl, fun W' hs' => ?_⟩, fun _ => rfl⟩ (fun HC1 => ?_)
  · have hv := N0.out.below hs'
    obtain ⟨q0, _⟩ := hv.cell 0 _ rfl; obtain ⟨q1, _⟩ := hv.cell 1 _ rfl; obtain ⟨q2, _⟩ := hv.cell 2 _ rfl; obtain ⟨q3, _⟩ := hv.cell 3 _ rfl; obtain ⟨q4, _⟩ := hv.cell 4 _ rfl; obtain ⟨q5, _⟩ := hv.cell 5 _ rfl
    go_simp
  refine wpAnyS_take (i := 1) (kw := 4) (v := .agg #[.slice A xs.length c, .int .i64 b, .int .i64 s, .int .i64 g, .int .i64 a, .int .i64 l]) rfl rfl (by kernel_rfl) (by kernel_rfl) (by kernel_rfl) (by kernel_rfl) (fun c _ _ h => absurd rfl (h.1 c)) HC1 hS0 ⟨Or.inl ⟨by kernel_rfl, fun W' hs' => ?_⟩, fun _ => rfl⟩ (fun HC2 => ?_)
  · have hv := N0.out.below hs'
    obtain ⟨q0, _⟩ := hv.cell 0 _ rfl; obtain ⟨q1, _⟩ := hv.cell 1 _ rfl; obtain ⟨q2, _⟩ := hv.cell 2 _ rfl; obtain ⟨q3, _⟩ := hv.cell 3 _ rfl; obtain ⟨q4, _⟩ := hv.cell 4 _ rfl; obtain ⟨q5, _⟩ := hv.cell 5 _ rfl
    go_simp
  refine wpAnyS_take (i := 2) (kw := 4) (v := .pointer (some ⟨w0.heap.size, 1, none⟩)) rfl rfl (by kernel_rfl) (by kernel_rfl) (by kernel_rfl) (by kernel_rfl) (fun c _ _ h => absurd rfl (h.1 c)) HC2 hS0 ⟨Or.inl ⟨by kernel_rfl, fun W' hs' => ?_⟩, fun _ => rfl⟩ (fun HC3 => ?_)
  · go_simp
  refine wpAnyS_take (i := 3) (kw := 4) (v := .int .i64 b) rfl rfl (by kernel_rfl) (by kernel_rfl) (by kernel_rfl) (by kernel_rfl) (fun c _ _ h => absurd rfl (h.1 c)) HC3 hS0 ⟨Or.inl ⟨by kernel_rfl, fun W' hs' => ?_⟩, fun _ => rfl⟩ (fun HC4 => ?_)
  · have hv := N0.out.below hs'
    obtain ⟨q1, _⟩ := hv.cell 1 _ rfl
    go_simp
  refine wpAnyS_one HC4 (i := 4) (by kernel_rfl) rfl hS0 (fun K hK => ?_)
  go_simp
  gi_wp2_with (refine ⟨trivial, ?_⟩; gi_at_call 36; refine (callsIn_wide.2 (KL.out W6)).mono ?_; rintro e w7 ⟨rfl, hb7⟩)
  intro HC5
  have hS7 : Below W3.heap.size W3 w7 := bl_trans hS0 hb7
  refine wpAnyS_one HC5 (i := 5) (by kernel_rfl) rfl hS7 (fun K hK => ?_)
  go_simp
  gi_wp2_with (refine ⟨trivial, ?_⟩; gi_at_call 35; refine (callsIn_wide.2 (KW.out w7)).mono ?_; rintro e w8 ⟨rfl, hb8⟩)
  intro HC6
  have hS8 : Below W3.heap.size W3 w8 := bl_trans hS7 hb8
  refine wpAnyS_last (by kernel_rfl) (by kernel_rfl) rfl hS8 (fun K hK => ?_)
  go_simp
  refine hK _ _ ⟨(fun c e => by cases e), ?_⟩
  clear hK K
  gi_wp2
  have I0 : Hid (BI w0 A2 c2 ys b 0 w8) := Lib.hid ⟨N1.out.below hS8, by unfold btnV; rw [if_pos (Nat.zero_le _)]; exact N2.out.below hS8, bl_trans B.out hS8⟩
  have hzz : w0.heap.size ≤ w8.heap.size := by have := hS8.size; omega
  have KIT := seatsX_any 9 xs.length (hopsI ys b) (leftI b xs.length) (BI w0 A2 c2 ys b) w8 (by omega) (by rw [← HLEN.out]; exact HH.out) HXB.out.2 HFB.out.1 HFB.out.2
  clear N0 N1 N2 B hS8 hS7 hS0 hb7 hb8
  refine wpIn_rangeXF (e0 := .exit 0) (j := .exit 0) rfl (by omega) (gf := 37) (fa := #[wkV (leftI b xs.length) xs.length]) (lb := #[]) rfl trivial (enters_of Try.func37 (by kernel_rfl) rfl)
    (.inr ⟨_, rfl, rfl⟩) KIT (fun i W' ar h => by rw [show ar = _ from h]; rfl) (fun i A' B' ar h _ => h)
    (fun i A' B' h hb' => bi_itw h hb' hzz) I0.out
    (fun ar W' => { tmps := #[.agg #[.slice A xs.length c, .int .i64 b, .int .i64 s, .int .i64 g, .int .i64 a, .int .i64 l], .slice A2 ys.length c2, .pointer (some ⟨w0.heap.size, 0, none⟩), .pointer (some ⟨w0.heap.size + 1, 0, none⟩), .int .i64 0, .pointer (some ⟨w0.heap.size + 1 + 1, 0, none⟩), ar.getD 0 undef, .pointer (some ⟨w0.heap.size, 1, none⟩), .int .i64 b, .agg #[.slice A xs.length c, .int .i64 b, .int .i64 s, .int .i64 g, .int .i64 a, .int .i64 l], .agg #[.slice A xs.length c, .int .i64 b, .int .i64 s, .int .i64 g, .int .i64 a, .int .i64 l], .pointer (some ⟨w0.heap.size, 1, none⟩), .int .i64 b, .int .i64 (leftI b xs.length), wkV (leftI b xs.length) xs.length, .func (.func 37) #[wkV (leftI b xs.length) xs.length] #[], ar.getD 0 undef, undef, undef, undef, undef, undef, undef, undef, undef, undef, undef, undef], defers := [] })
    (fun ar W' W'' => W' = W'') (fun i ar W' W'' hi1 hw hI hY hRA => by subst hRA; exact ⟨Con.refl _ _, hI, hY⟩) ?assign ?body ?last ?done
  case assign =>
    intro lr i ar W' Kc hw hI h hKc
    obtain rfl : ar = _ := h
    have HK := Lib.hid hKc
    clear hKc hI hw I0 KIT
    gi_wp2
    exact HK.out _ rfl
  case body =>
    intro lr i ar W0 Wa W hRA hi0 hI h hgl hrl hW0 hca hsz
    obtain rfl : ar = _ := h
    obtain ⟨h1, h2, h3⟩ := hI
    have e1 : btnV ys b i = b := if_pos (by omega)
    rw [e1] at h2
    have hin : i < ys.length := by have := HH.out; omega
    have hz := hops_before ys b i hi0 hin
    have sb := seatAt_bd xs.length (leftI b xs.length) i (by have := HXB.out.1; omega)
    rw [HLEN.out] at hz
    generalize seatAt xs.length (leftI b xs.length) i = se at *
    obtain ⟨q, rfl⟩ := Int.eq_ofNat_of_zero_le sb.1
    have hq : q < ys.length := by rw [HLEN.out]; omega
    have hq' : (q : Int) < ys.length := by omega
    rw [Int.toNat_natCast] at hz
    obtain ⟨bA, oA, rfl, hcell⟩ := (HR2.out.below h3).at_ (bl_refl _) q hq
    have hd : decide (0 < nth ys q) = false := decide_eq_false hz
    have cs := (h1.cell 0 _ rfl).1
    have HB := Lib.hid (And.intro h1 (And.intro h2 h3))
    generalize nth ys q = x at *
    clear h1 h2 h3 hca hsz hrl I0 KIT hz e1 hRA
    simp only [Array.getD_eq_getD_getElem?]
    gi_wp2
    exact ⟨⟨HB.out.1, by unfold btnV; rw [if_pos (by omega)]; exact HB.out.2.1, HB.out.2.2⟩, Con.refl _ _⟩
  case last =>
    intro lr ar W0 Wa W hRA hI h hgl hrl hW0 hca hsz
    obtain rfl : ar = _ := h
    obtain ⟨h1, h2, h3⟩ := hI
    have hz := hops_at ys b HH.out
    have sb := seatAt_bd xs.length (leftI b xs.length) (hopsI ys b) (by have := HXB.out.1; omega)
    have EN : Hid (nextI ys b = seatAt xs.length (leftI b xs.length) (hopsI ys b)) := Lib.hid (by unfold nextI; rw [HLEN.out])
    rw [HLEN.out] at hz
    generalize seatAt xs.length (leftI b xs.length) (hopsI ys b) = se at *
    obtain ⟨q, rfl⟩ := Int.eq_ofNat_of_zero_le sb.1
    have hq : q < ys.length := by rw [HLEN.out]; omega
    have hq' : (q : Int) < ys.length := by omega
    rw [Int.toNat_natCast] at hz
    obtain ⟨bA, oA, rfl, hcell⟩ := (HR2.out.below h3).at_ (bl_refl _) q hq
    have hd : decide (0 < nth ys q) = true := decide_eq_true hz
    have cs := (h1.cell 0 _ rfl).1
    have cb := h2.cell 0 _ rfl
    have cb1 := cb.1
    have cb2 := cb.2
    have HB := Lib.hid (And.intro h1 (And.intro h2 h3))
    have S := blk_set h2 0 (.int .i64 (q : Int))
    have HP := Lib.hid (And.intro ((HB.out.1).grown S.2 (fun e => by have := Option.some.inj e; omega)) (And.intro S (below_grown1 h3 S.2 (by omega))))
    have HCN := Lib.hid (con_grown (K := kWalk) S.2 h2 kWalk_int)
    generalize nth ys q = x at *
    clear h1 h2 h3 hca hsz hrl I0 KIT hz hRA S cb
    simp only [Array.getD_eq_getD_getElem?]
    gi_wp2
    exact ⟨rfl, ⟨HP.out.1, by unfold btnV; rw [if_neg (by omega), EN.out]; exact HP.out.2.1.1, HP.out.2.2⟩, HCN.out.x _⟩
  case done =>
    rintro D W hD ⟨h1, h2, h3⟩ hK
    have e1 : btnV ys b (hopsI ys b + 1) = nextI ys b := if_neg (by omega)
    rw [e1] at h2
    have sb := seatAt_bd ys.length (leftI b ys.length) (hopsI ys b) (by have := HH.out; omega)
    have EN : Hid (newB ys b = ((restL (ys.take (nextI ys b).toNat)).length : Int)) := Lib.hid rfl
    have hsb : 0 ≤ nextI ys b ∧ nextI ys b < ys.length := sb
    generalize nextI ys b = se at *
    obtain ⟨q, rfl⟩ := Int.eq_ofNat_of_zero_le hsb.1
    rw [Int.toNat_natCast] at EN
    have hq : q < ys.length := by omega
    have htl : (ys.take q).length = q := by rw [List.length_take]; omega
    have hRW := HR2.out.below h3
    obtain ⟨bA, oA, rfl, _⟩ := hRW.at_ (bl_refl _) q hq
    have KR := Lib.hid (remaining_any _ c2 (ys.take q) W (rd_take hRW q) (by rw [htl]; have := HLEN.out; have := HXB.out; omega))
    rw [htl] at KR
    have hst := run_sliceTo bA oA ys.length c2 q (by have := HCAP.out; omega)
    have cs := (h1.cell 0 _ rfl).1
    have cb := (h2.cell 0 _ rfl).1
    have R6 := Lib.hid h3
    have HKD := Lib.hid hK
    clear h1 h2 h3 hK I0 KIT e1 sb hsb hRW htl
    gi_wp2_with (refine ⟨trivial, ?_⟩; gi_at_call 20; refine (callsIn_wide.2 (KR.out)).mono ?_; rintro e w5 ⟨A1, c1, rfl, ho5, hb5⟩)
    have hk5 : w5.heap[D]? = some (Obj.deferred (some [])) := (hb5.block D (Array.getElem?_eq_some_iff.1 HKD.out).1).trans HKD.out
    refine ⟨by simp, .inl ⟨_, _, rfl, run_takeDeferred hk5, ?_⟩⟩
    exact ⟨.int .i64 ((restL (ys.take q)).length : Int), by simp [results, Try.f22, go_sem], by rw [EN.out], (bl_trans R6.out hb5).trans (putObj_below _ _ _ (by omega) (Array.getElem?_eq_some_iff.1 hk5).1)⟩
end Go.Proofs.Ytimdgaclmejjhaa
