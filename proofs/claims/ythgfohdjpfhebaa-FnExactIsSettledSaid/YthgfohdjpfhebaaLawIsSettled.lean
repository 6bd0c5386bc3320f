/-
  The law FnExactIsSettled returns true for every round, and leaves it as it was: IsSettled answers as its model.
  No condition.
-/
import Derived.Test.YthgfohdjpfhebaaBetOpen
import Derived.Test.YthgfohdjpfhebaaSpecBetF
import Derived.Test.YthgfohdjpfhebaaBetF
import Derived.Test.YthgfohdjpfhebaaBetStr
import Derived.Lib.SmallJoins
namespace Go.Proofs.Ythgfohdjpfhebaa
open Go.ChangeShapes Go.WideShapes Go.ChangeAt Go.RowKit Go.Joins
set_option linter.unusedVariables false

set_option maxRecDepth 100000 in
set_option maxHeartbeats 2000000 in
theorem walkIsSettled_big (L : At5) (b : Bt) (w : World) (hm : Mx b) (h : (1048576 : Int) - (b.st.length : Int) - (b.bt.length : Int) - (b.pd.length : Int) - (b.fo.length : Int) - (b.ac.length : Int) < 0) :
    Calls Try.prog 13 #[bV L b] w (Fresh (.bool true) w) := by
  have KZ := Lib.hid (fun W : World => szBetting_no L b 1048576 W (by omega) (by omega) hm h)
  have N0 := blk_new w 62 [.slice L.a1 b.st.length L.c1, .slice L.a2 b.bt.length L.c2, .slice L.a3 b.pd.length L.c3, .slice L.a4 b.fo.length L.c4, .slice L.a5 b.ac.length L.c5, .int .i64 b.tu, .int .i64 b.un, .int .i64 b.ra, .int .i64 b.li]
  obtain ⟨q0, -⟩ := N0.cell 0 _ rfl
  obtain ⟨q1, -⟩ := N0.cell 1 _ rfl
  obtain ⟨q2, -⟩ := N0.cell 2 _ rfl
  obtain ⟨q3, -⟩ := N0.cell 3 _ rfl
  obtain ⟨q4, -⟩ := N0.cell 4 _ rfl
  obtain ⟨q5, -⟩ := N0.cell 5 _ rfl
  obtain ⟨q6, -⟩ := N0.cell 6 _ rfl
  obtain ⟨q7, -⟩ := N0.cell 7 _ rfl
  obtain ⟨q8, -⟩ := N0.cell 8 _ rfl
  have B := Lib.hid (bl_alloc (bl_refl w) (.cells ([.slice L.a1 b.st.length L.c1, .slice L.a2 b.bt.length L.c2, .slice L.a3 b.pd.length L.c3, .slice L.a4 b.fo.length L.c4, .slice L.a5 b.ac.length L.c5, .int .i64 b.tu, .int .i64 b.un, .int .i64 b.ra, .int .i64 b.li] : List Value).toArray 62))
  clear N0 hm h
  unfold bV at *
  go_enter Try.func13, Try.ntmps13
  go_wp2_with (go_at_call 55; refine (KZ.out _).mono ?_; rintro e wn ⟨rfl, hb⟩; have Ba := Lib.hid (bl_trans B.out hb))
  go_ret
  exact ⟨rfl, Ba.out⟩
set_option maxRecDepth 100000 in
set_option maxHeartbeats 4000000 in
theorem walkIsSettled_in (L : At5) (b : Bt) (w : World) (hr : Rd5 w L b) (hs : 0 ≤ (1048576 : Int) - (b.st.length : Int) - (b.bt.length : Int) - (b.pd.length : Int) - (b.fo.length : Int) - (b.ac.length : Int)) (m : Sm b) :
    Calls Try.prog 13 #[bV L b] w (Fresh (.bool true) w) := by
  have KZ := Lib.hid (fun W : World => szBetting_yes L b 1048576 W (by omega) (by omega) hs)
  have KT := Lib.hid (fun (W : World) (h : Below w.heap.size w W) => toBetting_any L b W (hr.below h) m)
  obtain ⟨zz, ez⟩ : ∃ z : Int, z = (1048576 : Int) - (b.st.length : Int) - (b.bt.length : Int) - (b.pd.length : Int) - (b.fo.length : Int) - (b.ac.length : Int) := ⟨_, rfl⟩
  rw [← ez] at KZ hs
  have dz : decide (zz < 0) = false := decide_eq_false (by omega)
  clear ez
  have z : Sz b := ⟨by have := m.m1; omega, by have := m.m2; omega, by have := m.m3; omega⟩
  obtain ⟨rb, K1, K2⟩ : ∃ (rb : Bool), Hid (∀ (L : At5) (W : World), Rd5 W L b → Calls Try.prog 46 #[bV L b] W (Fresh (.bool rb) W)) ∧ Hid (∀ (L : At5) (W : World), Rd5 W L b → Calls Try.prog 45 #[bV L b] W (Fresh (.bool rb) W)) :=
    ⟨_, Lib.hid (fun L W h => specIsSettled_any L b W h z), Lib.hid (fun L W h => implIsSettled_any L b W h)⟩
  have hmx : Try.prog.follows .mixedOrders = true := by kernel_rfl
  clear hr z hs
  unfold NewBt bV at *
  have NA := Lib.hid (blk_new w 62 [.slice L.a1 b.st.length L.c1, .slice L.a2 b.bt.length L.c2, .slice L.a3 b.pd.length L.c3, .slice L.a4 b.fo.length L.c4, .slice L.a5 b.ac.length L.c5, .int .i64 b.tu, .int .i64 b.un, .int .i64 b.ra, .int .i64 b.li])
  have B1 := Lib.hid (bl_alloc (bl_refl w) (.cells ([.slice L.a1 b.st.length L.c1, .slice L.a2 b.bt.length L.c2, .slice L.a3 b.pd.length L.c3, .slice L.a4 b.fo.length L.c4, .slice L.a5 b.ac.length L.c5, .int .i64 b.tu, .int .i64 b.un, .int .i64 b.ra, .int .i64 b.li] : List Value).toArray 62))
  go_enter Try.func13, Try.ntmps13
  go_wp2_with (go_at_call 55; refine (KZ.out _).mono ?_; rintro e w2 ⟨rfl, hb⟩; have X2 := Lib.hid hb; have B2 := Lib.hid (bl_trans B1.out hb); obtain ⟨q1, -⟩ := ((NA.out.below X2.out)).cell 0 _ rfl; obtain ⟨q2, -⟩ := ((NA.out.below X2.out)).cell 1 _ rfl; obtain ⟨q3, -⟩ := ((NA.out.below X2.out)).cell 2 _ rfl; obtain ⟨q4, -⟩ := ((NA.out.below X2.out)).cell 3 _ rfl; obtain ⟨q5, -⟩ := ((NA.out.below X2.out)).cell 4 _ rfl; obtain ⟨q6, -⟩ := ((NA.out.below X2.out)).cell 5 _ rfl; obtain ⟨q7, -⟩ := ((NA.out.below X2.out)).cell 6 _ rfl; obtain ⟨q8, -⟩ := ((NA.out.below X2.out)).cell 7 _ rfl; obtain ⟨q9, -⟩ := ((NA.out.below X2.out)).cell 8 _ rfl)
  go_wp2_with (go_at_call 56; refine (KT.out _ B2.out).mono ?_; rintro e w3 ⟨L1, rfl, ho, hb⟩; have X3 := Lib.hid hb; have B3 := Lib.hid (bl_trans B2.out hb); have O1 := Lib.hid ho; clear q1 q2 q3 q4 q5 q6 q7 q8 q9; obtain ⟨q10, -⟩ := (((NA.out.below X2.out).below X3.out)).cell 0 _ rfl; obtain ⟨q11, -⟩ := (((NA.out.below X2.out).below X3.out)).cell 1 _ rfl; obtain ⟨q12, -⟩ := (((NA.out.below X2.out).below X3.out)).cell 2 _ rfl; obtain ⟨q13, -⟩ := (((NA.out.below X2.out).below X3.out)).cell 3 _ rfl; obtain ⟨q14, -⟩ := (((NA.out.below X2.out).below X3.out)).cell 4 _ rfl; obtain ⟨q15, -⟩ := (((NA.out.below X2.out).below X3.out)).cell 5 _ rfl; obtain ⟨q16, -⟩ := (((NA.out.below X2.out).below X3.out)).cell 6 _ rfl; obtain ⟨q17, -⟩ := (((NA.out.below X2.out).below X3.out)).cell 7 _ rfl; obtain ⟨q18, -⟩ := (((NA.out.below X2.out).below X3.out)).cell 8 _ rfl)
  go_wp2_with (go_at_call 46; refine (K1.out L1 _ O1.out.rd).mono ?_; rintro e w4 ⟨rfl, hb⟩; have X4 := Lib.hid hb; have B4 := Lib.hid (bl_trans B3.out hb); clear q10 q11 q12 q13 q14 q15 q16 q17 q18; obtain ⟨q19, -⟩ := ((((NA.out.below X2.out).below X3.out).below X4.out)).cell 0 _ rfl; obtain ⟨q20, -⟩ := ((((NA.out.below X2.out).below X3.out).below X4.out)).cell 1 _ rfl; obtain ⟨q21, -⟩ := ((((NA.out.below X2.out).below X3.out).below X4.out)).cell 2 _ rfl; obtain ⟨q22, -⟩ := ((((NA.out.below X2.out).below X3.out).below X4.out)).cell 3 _ rfl; obtain ⟨q23, -⟩ := ((((NA.out.below X2.out).below X3.out).below X4.out)).cell 4 _ rfl; obtain ⟨q24, -⟩ := ((((NA.out.below X2.out).below X3.out).below X4.out)).cell 5 _ rfl; obtain ⟨q25, -⟩ := ((((NA.out.below X2.out).below X3.out).below X4.out)).cell 6 _ rfl; obtain ⟨q26, -⟩ := ((((NA.out.below X2.out).below X3.out).below X4.out)).cell 7 _ rfl; obtain ⟨q27, -⟩ := ((((NA.out.below X2.out).below X3.out).below X4.out)).cell 8 _ rfl)
  go_wp2_with (go_at_call 56; refine (KT.out _ B4.out).mono ?_; rintro e w5 ⟨L3, rfl, ho, hb⟩; have X5 := Lib.hid hb; have B5 := Lib.hid (bl_trans B4.out hb); have O3 := Lib.hid ho; clear q19 q20 q21 q22 q23 q24 q25 q26 q27)
  have NX := Lib.hid (blk_new w5 27 [.slice L3.a1 b.st.length L3.c1, .slice L3.a2 b.bt.length L3.c2, .slice L3.a3 b.pd.length L3.c3, .slice L3.a4 b.fo.length L3.c4, .slice L3.a5 b.ac.length L3.c5, .int .i64 b.tu, .int .i64 b.un, .int .i64 b.ra, .int .i64 b.li])
  have B6 := Lib.hid (bl_trans B5.out (bl_alloc (bl_refl w5) (.cells ([.slice L3.a1 b.st.length L3.c1, .slice L3.a2 b.bt.length L3.c2, .slice L3.a3 b.pd.length L3.c3, .slice L3.a4 b.fo.length L3.c4, .slice L3.a5 b.ac.length L3.c5, .int .i64 b.tu, .int .i64 b.un, .int .i64 b.ra, .int .i64 b.li] : List Value).toArray 27)))
  go_wp2_with (go_at_call 45; refine (K2.out L3 _ (O3.out.below (bl_alloc (bl_refl w5) (.cells ([.slice L3.a1 b.st.length L3.c1, .slice L3.a2 b.bt.length L3.c2, .slice L3.a3 b.pd.length L3.c3, .slice L3.a4 b.fo.length L3.c4, .slice L3.a5 b.ac.length L3.c5, .int .i64 b.tu, .int .i64 b.un, .int .i64 b.ra, .int .i64 b.li] : List Value).toArray 27))).rd).mono ?_; rintro e w7 ⟨rfl, hb⟩; have X7 := Lib.hid hb; have B7 := Lib.hid (bl_trans B6.out hb))
  refine wp_region_R (R := fun a b => Below a.heap.size a b) (I := fun W' => Below w7.heap.size w7 W') (last := 4) (k := 4) (fun _ => bl_refl _) hmx rfl (fun HC0 => ?_)
  refine wpAnyR_take (i := 0) (kw := 4) (v := .agg #[.slice L3.a1 b.st.length L3.c1, .slice L3.a2 b.bt.length L3.c2, .slice L3.a3 b.pd.length L3.c3, .slice L3.a4 b.fo.length L3.c4, .slice L3.a5 b.ac.length L3.c5, .int .i64 b.tu, .int .i64 b.un, .int .i64 b.ra, .int .i64 b.li]) (fun _ => bl_refl _) (fun p q => bl_trans p q) rfl (by kernel_rfl) (by kernel_rfl) (by kernel_rfl) (by kernel_rfl) (fun _ _ _ h => h) HC0 (Or.inl ⟨by kernel_rfl, fun W' hI => ?_⟩) (fun HC1 => ?_)
  · have hv := ((NX.out.below X7.out)).below hI
    obtain ⟨z0, _⟩ := hv.cell 0 _ rfl; obtain ⟨z1, _⟩ := hv.cell 1 _ rfl; obtain ⟨z2, _⟩ := hv.cell 2 _ rfl; obtain ⟨z3, _⟩ := hv.cell 3 _ rfl; obtain ⟨z4, _⟩ := hv.cell 4 _ rfl; obtain ⟨z5, _⟩ := hv.cell 5 _ rfl; obtain ⟨z6, _⟩ := hv.cell 6 _ rfl; obtain ⟨z7, _⟩ := hv.cell 7 _ rfl; obtain ⟨z8, _⟩ := hv.cell 8 _ rfl
    exact .inl (by go_simp)
  refine wpAnyR_take (i := 1) (kw := 4) (v := .agg #[.slice L.a1 b.st.length L.c1, .slice L.a2 b.bt.length L.c2, .slice L.a3 b.pd.length L.c3, .slice L.a4 b.fo.length L.c4, .slice L.a5 b.ac.length L.c5, .int .i64 b.tu, .int .i64 b.un, .int .i64 b.ra, .int .i64 b.li]) (fun _ => bl_refl _) (fun p q => bl_trans p q) rfl (by kernel_rfl) (by kernel_rfl) (by kernel_rfl) (by kernel_rfl) (fun _ _ _ h => h) HC1 (Or.inl ⟨by kernel_rfl, fun W' hI => ?_⟩) (fun HC2 => ?_)
  · have hv := (((((((NA.out.below X2.out).below X3.out).below X4.out).below X5.out).below (bl_alloc (bl_refl w5) (.cells ([.slice L3.a1 b.st.length L3.c1, .slice L3.a2 b.bt.length L3.c2, .slice L3.a3 b.pd.length L3.c3, .slice L3.a4 b.fo.length L3.c4, .slice L3.a5 b.ac.length L3.c5, .int .i64 b.tu, .int .i64 b.un, .int .i64 b.ra, .int .i64 b.li] : List Value).toArray 27))).below X7.out)).below hI
    obtain ⟨z0, _⟩ := hv.cell 0 _ rfl; obtain ⟨z1, _⟩ := hv.cell 1 _ rfl; obtain ⟨z2, _⟩ := hv.cell 2 _ rfl; obtain ⟨z3, _⟩ := hv.cell 3 _ rfl; obtain ⟨z4, _⟩ := hv.cell 4 _ rfl; obtain ⟨z5, _⟩ := hv.cell 5 _ rfl; obtain ⟨z6, _⟩ := hv.cell 6 _ rfl; obtain ⟨z7, _⟩ := hv.cell 7 _ rfl; obtain ⟨z8, _⟩ := hv.cell 8 _ rfl
    exact .inl (by go_simp)
  refine wpAnyR_one HC2 (i := 2) (by kernel_rfl) rfl (by rfl) (fun v8 hr8 => ⟨bl_drewT hr8, fun K hK => ?_⟩)
  have X8 := Lib.hid (bl_drewT hr8)
  have B8 := Lib.hid (bl_trans B7.out X8.out)
  go_simp
  go_wp2_with (go_at_call 56; refine (KT.out _ B8.out).mono ?_; rintro e w9 ⟨LE, rfl, ho, hb⟩; have X9 := Lib.hid hb; have B9 := Lib.hid (bl_trans B8.out hb); have OE := Lib.hid ho)
  have I9 := Lib.hid (bl_trans X8.out X9.out)
  intro HC3
  refine wpAnyR_one HC3 (i := 3) (by kernel_rfl) rfl (by rfl) (fun v10 hr10 => ⟨bl_trans I9.out hr10, fun K hK => ?_⟩)
  have X10 := Lib.hid hr10
  have B10 := Lib.hid (bl_trans B9.out X10.out)
  go_simp
  go_wp2_with (go_at_call 58; refine (eqBetting_same _ _ b _ (((((O3.out.below (bl_alloc (bl_refl w5) (.cells ([.slice L3.a1 b.st.length L3.c1, .slice L3.a2 b.bt.length L3.c2, .slice L3.a3 b.pd.length L3.c3, .slice L3.a4 b.fo.length L3.c4, .slice L3.a5 b.ac.length L3.c5, .int .i64 b.tu, .int .i64 b.un, .int .i64 b.ra, .int .i64 b.li] : List Value).toArray 27))).below X7.out).below X8.out).below X9.out).below X10.out).rd (OE.out.below X10.out).rd m).mono ?_; rintro e w11 ⟨rfl, hb⟩; have X11 := Lib.hid hb; have B11 := Lib.hid (bl_trans B10.out hb))
  have I11 := Lib.hid (bl_trans I9.out (bl_trans X10.out X11.out))
  intro HC4
  refine wpAnyR_last (by kernel_rfl) (by kernel_rfl) rfl (by rfl) (fun v12 hr12 => ⟨bl_trans I11.out hr12, fun K hK => ?_⟩)
  have X12 := Lib.hid hr12
  have B12 := Lib.hid (bl_trans B11.out X12.out)
  go_simp
  refine hK _ _ ?_
  clear hK
  go_wp2_with fail
  go_ret
  exact ⟨rfl, B12.out⟩

theorem walkIsSettled (L : At5) (b : Bt) (w : World) (hm : Mx b) (hr : Rd5 w L b) :
    Calls Try.prog 13 #[bV L b] w (Fresh (.bool true) w) := by
  by_cases h : (1048576 : Int) - (b.st.length : Int) - (b.bt.length : Int) - (b.pd.length : Int) - (b.fo.length : Int) - (b.ac.length : Int) < 0
  · exact walkIsSettled_big L b w hm h
  · exact walkIsSettled_in L b w hr (by omega) ⟨by omega, by omega, by omega, by omega, by omega⟩

set_option maxRecDepth 100000 in
theorem fnExactIsSettled_lifted (os : Os) (started : os.Started) (H : Type) (enc : TypeId × Value → H) :
    ReturnsInHanded {} Try.checked os 13 .any (Rows.fnExactIsSettledSpec.pre6 enc Try.prog Try.f13 Rows.fnExactIsSettledRow.domain false) (Rows.fnExactIsSettledSpec.post enc Try.prog Try.f13 false true false false) := by
  refine law_lifted started (by kernel_rfl) Try.func13 (by kernel_rfl) rfl (fun ds h => ?_) ?_
    (ChangeSpec.witness6 (enc := enc) (C := Try.checked) false ⟨#[], #[.agg #[.slice none 0 0, .slice none 0 0, .slice none 0 0, .slice none 0 0, .slice none 0 0, .int .i64 0, .int .i64 0, .int .i64 0, .int .i64 0]], []⟩ 8 (by kernel_rfl) (by kernel_rfl) (by kernel_rfl) (by kernel_rfl)) ?_
  · match ds, h with
    | [d0], _ => rfl
  · rw [Try.params13]
    intro t ht
    obtain rfl : t = 62 := by simpa using ht
    exact ⟨by kernel_rfl, of_decide_eq_true (by kernel_rfl)⟩
  · intro W base args ds ps hval hA
    rw [Try.params13] at hA hval
    obtain ⟨v0, d0, rfl, rfl, h0⟩ := trodAll_one hA
    obtain ⟨L0, b0, rfl, r0, m0, i0a, i0b, i0c, i0d⟩ := open_betting (hval 0 62 v0 rfl rfl) h0
    exact walkIsSettled L0 b0 W m0 r0

/-- IsSettled answers as its model, for every round. -/
theorem fnExactIsSettled_holds : Rows.FnExactIsSettledSaid :=
  OpenClaim.holds_of_wide 13 Try.f13 rfl rfl rfl rfl rfl rfl rfl ⟨rfl, rfl, rfl, rfl, rfl⟩ rfl rfl rfl rfl rfl (by kernel_rfl) Try.func13 (by kernel_rfl)
    (of_decide_eq_true (by kernel_rfl)) (by unfold Func.isWrapper; first | (rw [if_pos (by decide +kernel)]; kernel_rfl) | (rw [if_neg (by decide +kernel)]; exact ⟨rfl, rfl⟩))
    (fun os started H enc _ => fnExactIsSettled_lifted os started H enc)

end Go.Proofs.Ythgfohdjpfhebaa
