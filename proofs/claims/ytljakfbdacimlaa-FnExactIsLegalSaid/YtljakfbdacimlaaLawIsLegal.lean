/-
  The law FnExactIsLegal returns true for every round and every action, and leaves the round as it was: IsLegal answers as its model.
  No condition.
-/
import Derived.Test.YtljakfbdacimlaaActHelp
import Derived.Test.YtljakfbdacimlaaSpecBetL
import Derived.Test.YtljakfbdacimlaaBetLegal
import Derived.Lib.SmallJoins
namespace Go.Proofs.Ytljakfbdacimlaa
open Go.ChangeShapes Go.WideShapes Go.ChangeAt Go.RowKit Go.Joins
set_option linter.unusedVariables false

set_option maxRecDepth 100000 in
set_option maxHeartbeats 2000000 in
theorem walkIsLegal_big (L : At5) (b : Bt) (kk xx : Int) (w : World) (hm : Mx b) (h : (1048576 : Int) - (b.st.length : Int) - (b.bt.length : Int) - (b.pd.length : Int) - (b.fo.length : Int) - (b.ac.length : Int) < 0) :
    Calls Try.prog 10 #[bV L b, acV kk xx] w (Fresh (.bool true) w) := by
  have KZ := Lib.hid (fun W : World => szBetting_no L b 1048576 W (by omega) (by omega) hm h)
  have N0 := blk_new w 56 [.slice L.a1 b.st.length L.c1, .slice L.a2 b.bt.length L.c2, .slice L.a3 b.pd.length L.c3, .slice L.a4 b.fo.length L.c4, .slice L.a5 b.ac.length L.c5, .int .i64 b.tu, .int .i64 b.un, .int .i64 b.ra, .int .i64 b.li]
  obtain ⟨q0, -⟩ := N0.cell 0 _ rfl
  obtain ⟨q1, -⟩ := N0.cell 1 _ rfl
  obtain ⟨q2, -⟩ := N0.cell 2 _ rfl
  obtain ⟨q3, -⟩ := N0.cell 3 _ rfl
  obtain ⟨q4, -⟩ := N0.cell 4 _ rfl
  obtain ⟨q5, -⟩ := N0.cell 5 _ rfl
  obtain ⟨q6, -⟩ := N0.cell 6 _ rfl
  obtain ⟨q7, -⟩ := N0.cell 7 _ rfl
  obtain ⟨q8, -⟩ := N0.cell 8 _ rfl
  have N1 := N0.below (bl_alloc (bl_refl _) (.cells ([.int .i64 kk, .int .i64 xx] : List Value).toArray 61))
  obtain ⟨p0, -⟩ := N1.cell 0 _ rfl
  obtain ⟨p1, -⟩ := N1.cell 1 _ rfl
  obtain ⟨p2, -⟩ := N1.cell 2 _ rfl
  obtain ⟨p3, -⟩ := N1.cell 3 _ rfl
  obtain ⟨p4, -⟩ := N1.cell 4 _ rfl
  obtain ⟨p5, -⟩ := N1.cell 5 _ rfl
  obtain ⟨p6, -⟩ := N1.cell 6 _ rfl
  obtain ⟨p7, -⟩ := N1.cell 7 _ rfl
  obtain ⟨p8, -⟩ := N1.cell 8 _ rfl
  have B := Lib.hid (bl_alloc (bl_alloc (bl_refl w) (.cells ([.slice L.a1 b.st.length L.c1, .slice L.a2 b.bt.length L.c2, .slice L.a3 b.pd.length L.c3, .slice L.a4 b.fo.length L.c4, .slice L.a5 b.ac.length L.c5, .int .i64 b.tu, .int .i64 b.un, .int .i64 b.ra, .int .i64 b.li] : List Value).toArray 56)) (.cells ([.int .i64 kk, .int .i64 xx] : List Value).toArray 61))
  clear N0 N1 hm h
  unfold bV acV at *
  go_enter Try.func10, Try.ntmps10
  go_wp2_with (go_at_call 43; refine (KZ.out _).mono ?_; rintro e wn ⟨rfl, hb⟩; have Ba := Lib.hid (bl_trans B.out hb))
  go_ret
  exact ⟨rfl, Ba.out⟩
set_option maxRecDepth 100000 in
set_option maxHeartbeats 6000000 in
theorem walkIsLegal_in (L : At5) (b : Bt) (kk xx : Int) (w : World) (hr : Rd5 w L b) (hs : 0 ≤ (1048576 : Int) - (b.st.length : Int) - (b.bt.length : Int) - (b.pd.length : Int) - (b.fo.length : Int) - (b.ac.length : Int)) (m : Sm b) :
    Calls Try.prog 10 #[bV L b, acV kk xx] w (Fresh (.bool true) w) := by
  have KZ := Lib.hid (fun W : World => szBetting_yes L b 1048576 W (by omega) (by omega) hs)
  have KT := Lib.hid (fun (W : World) (h : Below w.heap.size w W) => toBetting_any L b W (hr.below h) m)
  obtain ⟨zz, ez⟩ : ∃ z : Int, z = (1048576 : Int) - (b.st.length : Int) - (b.bt.length : Int) - (b.pd.length : Int) - (b.fo.length : Int) - (b.ac.length : Int) := ⟨_, rfl⟩
  rw [← ez] at KZ hs
  have dz : decide (zz < 0) = false := decide_eq_false (by omega)
  clear ez
  have z : Sz b := ⟨by have := m.m1; omega, by have := m.m2; omega, by have := m.m3; omega⟩
  have KA := Lib.hid (fun W : World => toAction_any kk xx W)
  obtain ⟨rb, K1, K2⟩ : ∃ (rb : Bool), Hid (∀ (L : At5) (W : World), Rd5 W L b → Calls Try.prog 24 #[bV L b, acV kk xx] W (Fresh (.bool rb) W)) ∧ Hid (∀ (L : At5) (W : World), Rd5 W L b → Calls Try.prog 23 #[bV L b, acV kk xx] W (Fresh (.bool rb) W)) :=
    ⟨_, Lib.hid (fun L W h => specIsLegal_any L b kk xx W h z), Lib.hid (fun L W h => implIsLegal_any L b kk xx W h)⟩
  have hmx : Try.prog.follows .mixedOrders = true := by kernel_rfl
  clear hr z hs
  unfold NewBt bV acV at *
  have NA := Lib.hid (blk_new w 56 [.slice L.a1 b.st.length L.c1, .slice L.a2 b.bt.length L.c2, .slice L.a3 b.pd.length L.c3, .slice L.a4 b.fo.length L.c4, .slice L.a5 b.ac.length L.c5, .int .i64 b.tu, .int .i64 b.un, .int .i64 b.ra, .int .i64 b.li])
  have B1 := Lib.hid (bl_alloc (bl_refl w) (.cells ([.slice L.a1 b.st.length L.c1, .slice L.a2 b.bt.length L.c2, .slice L.a3 b.pd.length L.c3, .slice L.a4 b.fo.length L.c4, .slice L.a5 b.ac.length L.c5, .int .i64 b.tu, .int .i64 b.un, .int .i64 b.ra, .int .i64 b.li] : List Value).toArray 56))
  have NC := Lib.hid (blk_new (w.alloc (.cells ([.slice L.a1 b.st.length L.c1, .slice L.a2 b.bt.length L.c2, .slice L.a3 b.pd.length L.c3, .slice L.a4 b.fo.length L.c4, .slice L.a5 b.ac.length L.c5, .int .i64 b.tu, .int .i64 b.un, .int .i64 b.ra, .int .i64 b.li] : List Value).toArray 56)) 61 [.int .i64 kk, .int .i64 xx])
  have B2 := Lib.hid (bl_trans B1.out (bl_alloc (bl_refl (w.alloc (.cells ([.slice L.a1 b.st.length L.c1, .slice L.a2 b.bt.length L.c2, .slice L.a3 b.pd.length L.c3, .slice L.a4 b.fo.length L.c4, .slice L.a5 b.ac.length L.c5, .int .i64 b.tu, .int .i64 b.un, .int .i64 b.ra, .int .i64 b.li] : List Value).toArray 56))) (.cells ([.int .i64 kk, .int .i64 xx] : List Value).toArray 61)))
  simp only [World.size_alloc] at NC
  obtain ⟨q1, -⟩ := ((NA.out.below (bl_alloc (bl_refl (w.alloc (.cells ([.slice L.a1 b.st.length L.c1, .slice L.a2 b.bt.length L.c2, .slice L.a3 b.pd.length L.c3, .slice L.a4 b.fo.length L.c4, .slice L.a5 b.ac.length L.c5, .int .i64 b.tu, .int .i64 b.un, .int .i64 b.ra, .int .i64 b.li] : List Value).toArray 56))) (.cells ([.int .i64 kk, .int .i64 xx] : List Value).toArray 61)))).cell 0 _ rfl; obtain ⟨q2, -⟩ := ((NA.out.below (bl_alloc (bl_refl (w.alloc (.cells ([.slice L.a1 b.st.length L.c1, .slice L.a2 b.bt.length L.c2, .slice L.a3 b.pd.length L.c3, .slice L.a4 b.fo.length L.c4, .slice L.a5 b.ac.length L.c5, .int .i64 b.tu, .int .i64 b.un, .int .i64 b.ra, .int .i64 b.li] : List Value).toArray 56))) (.cells ([.int .i64 kk, .int .i64 xx] : List Value).toArray 61)))).cell 1 _ rfl; obtain ⟨q3, -⟩ := ((NA.out.below (bl_alloc (bl_refl (w.alloc (.cells ([.slice L.a1 b.st.length L.c1, .slice L.a2 b.bt.length L.c2, .slice L.a3 b.pd.length L.c3, .slice L.a4 b.fo.length L.c4, .slice L.a5 b.ac.length L.c5, .int .i64 b.tu, .int .i64 b.un, .int .i64 b.ra, .int .i64 b.li] : List Value).toArray 56))) (.cells ([.int .i64 kk, .int .i64 xx] : List Value).toArray 61)))).cell 2 _ rfl; obtain ⟨q4, -⟩ := ((NA.out.below (bl_alloc (bl_refl (w.alloc (.cells ([.slice L.a1 b.st.length L.c1, .slice L.a2 b.bt.length L.c2, .slice L.a3 b.pd.length L.c3, .slice L.a4 b.fo.length L.c4, .slice L.a5 b.ac.length L.c5, .int .i64 b.tu, .int .i64 b.un, .int .i64 b.ra, .int .i64 b.li] : List Value).toArray 56))) (.cells ([.int .i64 kk, .int .i64 xx] : List Value).toArray 61)))).cell 3 _ rfl; obtain ⟨q5, -⟩ := ((NA.out.below (bl_alloc (bl_refl (w.alloc (.cells ([.slice L.a1 b.st.length L.c1, .slice L.a2 b.bt.length L.c2, .slice L.a3 b.pd.length L.c3, .slice L.a4 b.fo.length L.c4, .slice L.a5 b.ac.length L.c5, .int .i64 b.tu, .int .i64 b.un, .int .i64 b.ra, .int .i64 b.li] : List Value).toArray 56))) (.cells ([.int .i64 kk, .int .i64 xx] : List Value).toArray 61)))).cell 4 _ rfl; obtain ⟨q6, -⟩ := ((NA.out.below (bl_alloc (bl_refl (w.alloc (.cells ([.slice L.a1 b.st.length L.c1, .slice L.a2 b.bt.length L.c2, .slice L.a3 b.pd.length L.c3, .slice L.a4 b.fo.length L.c4, .slice L.a5 b.ac.length L.c5, .int .i64 b.tu, .int .i64 b.un, .int .i64 b.ra, .int .i64 b.li] : List Value).toArray 56))) (.cells ([.int .i64 kk, .int .i64 xx] : List Value).toArray 61)))).cell 5 _ rfl; obtain ⟨q7, -⟩ := ((NA.out.below (bl_alloc (bl_refl (w.alloc (.cells ([.slice L.a1 b.st.length L.c1, .slice L.a2 b.bt.length L.c2, .slice L.a3 b.pd.length L.c3, .slice L.a4 b.fo.length L.c4, .slice L.a5 b.ac.length L.c5, .int .i64 b.tu, .int .i64 b.un, .int .i64 b.ra, .int .i64 b.li] : List Value).toArray 56))) (.cells ([.int .i64 kk, .int .i64 xx] : List Value).toArray 61)))).cell 6 _ rfl; obtain ⟨q8, -⟩ := ((NA.out.below (bl_alloc (bl_refl (w.alloc (.cells ([.slice L.a1 b.st.length L.c1, .slice L.a2 b.bt.length L.c2, .slice L.a3 b.pd.length L.c3, .slice L.a4 b.fo.length L.c4, .slice L.a5 b.ac.length L.c5, .int .i64 b.tu, .int .i64 b.un, .int .i64 b.ra, .int .i64 b.li] : List Value).toArray 56))) (.cells ([.int .i64 kk, .int .i64 xx] : List Value).toArray 61)))).cell 7 _ rfl; obtain ⟨q9, -⟩ := ((NA.out.below (bl_alloc (bl_refl (w.alloc (.cells ([.slice L.a1 b.st.length L.c1, .slice L.a2 b.bt.length L.c2, .slice L.a3 b.pd.length L.c3, .slice L.a4 b.fo.length L.c4, .slice L.a5 b.ac.length L.c5, .int .i64 b.tu, .int .i64 b.un, .int .i64 b.ra, .int .i64 b.li] : List Value).toArray 56))) (.cells ([.int .i64 kk, .int .i64 xx] : List Value).toArray 61)))).cell 8 _ rfl; obtain ⟨q10, -⟩ := (NC.out).cell 0 _ rfl; obtain ⟨q11, -⟩ := (NC.out).cell 1 _ rfl
  go_enter Try.func10, Try.ntmps10
  go_wp2_with (go_at_call 43; refine (KZ.out _).mono ?_; rintro e w3 ⟨rfl, hb⟩; have X3 := Lib.hid hb; have B3 := Lib.hid (bl_trans B2.out hb); clear q1 q2 q3 q4 q5 q6 q7 q8 q9 q10 q11; obtain ⟨q12, -⟩ := (((NA.out.below (bl_alloc (bl_refl (w.alloc (.cells ([.slice L.a1 b.st.length L.c1, .slice L.a2 b.bt.length L.c2, .slice L.a3 b.pd.length L.c3, .slice L.a4 b.fo.length L.c4, .slice L.a5 b.ac.length L.c5, .int .i64 b.tu, .int .i64 b.un, .int .i64 b.ra, .int .i64 b.li] : List Value).toArray 56))) (.cells ([.int .i64 kk, .int .i64 xx] : List Value).toArray 61))).below X3.out)).cell 0 _ rfl; obtain ⟨q13, -⟩ := (((NA.out.below (bl_alloc (bl_refl (w.alloc (.cells ([.slice L.a1 b.st.length L.c1, .slice L.a2 b.bt.length L.c2, .slice L.a3 b.pd.length L.c3, .slice L.a4 b.fo.length L.c4, .slice L.a5 b.ac.length L.c5, .int .i64 b.tu, .int .i64 b.un, .int .i64 b.ra, .int .i64 b.li] : List Value).toArray 56))) (.cells ([.int .i64 kk, .int .i64 xx] : List Value).toArray 61))).below X3.out)).cell 1 _ rfl; obtain ⟨q14, -⟩ := (((NA.out.below (bl_alloc (bl_refl (w.alloc (.cells ([.slice L.a1 b.st.length L.c1, .slice L.a2 b.bt.length L.c2, .slice L.a3 b.pd.length L.c3, .slice L.a4 b.fo.length L.c4, .slice L.a5 b.ac.length L.c5, .int .i64 b.tu, .int .i64 b.un, .int .i64 b.ra, .int .i64 b.li] : List Value).toArray 56))) (.cells ([.int .i64 kk, .int .i64 xx] : List Value).toArray 61))).below X3.out)).cell 2 _ rfl; obtain ⟨q15, -⟩ := (((NA.out.below (bl_alloc (bl_refl (w.alloc (.cells ([.slice L.a1 b.st.length L.c1, .slice L.a2 b.bt.length L.c2, .slice L.a3 b.pd.length L.c3, .slice L.a4 b.fo.length L.c4, .slice L.a5 b.ac.length L.c5, .int .i64 b.tu, .int .i64 b.un, .int .i64 b.ra, .int .i64 b.li] : List Value).toArray 56))) (.cells ([.int .i64 kk, .int .i64 xx] : List Value).toArray 61))).below X3.out)).cell 3 _ rfl; obtain ⟨q16, -⟩ := (((NA.out.below (bl_alloc (bl_refl (w.alloc (.cells ([.slice L.a1 b.st.length L.c1, .slice L.a2 b.bt.length L.c2, .slice L.a3 b.pd.length L.c3, .slice L.a4 b.fo.length L.c4, .slice L.a5 b.ac.length L.c5, .int .i64 b.tu, .int .i64 b.un, .int .i64 b.ra, .int .i64 b.li] : List Value).toArray 56))) (.cells ([.int .i64 kk, .int .i64 xx] : List Value).toArray 61))).below X3.out)).cell 4 _ rfl; obtain ⟨q17, -⟩ := (((NA.out.below (bl_alloc (bl_refl (w.alloc (.cells ([.slice L.a1 b.st.length L.c1, .slice L.a2 b.bt.length L.c2, .slice L.a3 b.pd.length L.c3, .slice L.a4 b.fo.length L.c4, .slice L.a5 b.ac.length L.c5, .int .i64 b.tu, .int .i64 b.un, .int .i64 b.ra, .int .i64 b.li] : List Value).toArray 56))) (.cells ([.int .i64 kk, .int .i64 xx] : List Value).toArray 61))).below X3.out)).cell 5 _ rfl; obtain ⟨q18, -⟩ := (((NA.out.below (bl_alloc (bl_refl (w.alloc (.cells ([.slice L.a1 b.st.length L.c1, .slice L.a2 b.bt.length L.c2, .slice L.a3 b.pd.length L.c3, .slice L.a4 b.fo.length L.c4, .slice L.a5 b.ac.length L.c5, .int .i64 b.tu, .int .i64 b.un, .int .i64 b.ra, .int .i64 b.li] : List Value).toArray 56))) (.cells ([.int .i64 kk, .int .i64 xx] : List Value).toArray 61))).below X3.out)).cell 6 _ rfl; obtain ⟨q19, -⟩ := (((NA.out.below (bl_alloc (bl_refl (w.alloc (.cells ([.slice L.a1 b.st.length L.c1, .slice L.a2 b.bt.length L.c2, .slice L.a3 b.pd.length L.c3, .slice L.a4 b.fo.length L.c4, .slice L.a5 b.ac.length L.c5, .int .i64 b.tu, .int .i64 b.un, .int .i64 b.ra, .int .i64 b.li] : List Value).toArray 56))) (.cells ([.int .i64 kk, .int .i64 xx] : List Value).toArray 61))).below X3.out)).cell 7 _ rfl; obtain ⟨q20, -⟩ := (((NA.out.below (bl_alloc (bl_refl (w.alloc (.cells ([.slice L.a1 b.st.length L.c1, .slice L.a2 b.bt.length L.c2, .slice L.a3 b.pd.length L.c3, .slice L.a4 b.fo.length L.c4, .slice L.a5 b.ac.length L.c5, .int .i64 b.tu, .int .i64 b.un, .int .i64 b.ra, .int .i64 b.li] : List Value).toArray 56))) (.cells ([.int .i64 kk, .int .i64 xx] : List Value).toArray 61))).below X3.out)).cell 8 _ rfl; obtain ⟨q21, -⟩ := ((NC.out.below X3.out)).cell 0 _ rfl; obtain ⟨q22, -⟩ := ((NC.out.below X3.out)).cell 1 _ rfl)
  refine wp_region_R (R := fun a b => Below a.heap.size a b) (I := fun W' => Below w3.heap.size w3 W') (last := 5) (k := 5) (fun _ => bl_refl _) hmx rfl (fun HC0 => ?_)
  refine wpAnyR_take (i := 0) (kw := 5) (v := .agg #[.slice L.a1 b.st.length L.c1, .slice L.a2 b.bt.length L.c2, .slice L.a3 b.pd.length L.c3, .slice L.a4 b.fo.length L.c4, .slice L.a5 b.ac.length L.c5, .int .i64 b.tu, .int .i64 b.un, .int .i64 b.ra, .int .i64 b.li]) (fun _ => bl_refl _) (fun p q => bl_trans p q) rfl (by kernel_rfl) (by kernel_rfl) (by kernel_rfl) (by kernel_rfl) (fun _ _ _ h => h) HC0 (Or.inl ⟨by kernel_rfl, fun W' hI => ?_⟩) (fun HC1 => ?_)
  · have hv := (((NA.out.below (bl_alloc (bl_refl (w.alloc (.cells ([.slice L.a1 b.st.length L.c1, .slice L.a2 b.bt.length L.c2, .slice L.a3 b.pd.length L.c3, .slice L.a4 b.fo.length L.c4, .slice L.a5 b.ac.length L.c5, .int .i64 b.tu, .int .i64 b.un, .int .i64 b.ra, .int .i64 b.li] : List Value).toArray 56))) (.cells ([.int .i64 kk, .int .i64 xx] : List Value).toArray 61))).below X3.out)).below hI
    obtain ⟨z0, _⟩ := hv.cell 0 _ rfl; obtain ⟨z1, _⟩ := hv.cell 1 _ rfl; obtain ⟨z2, _⟩ := hv.cell 2 _ rfl; obtain ⟨z3, _⟩ := hv.cell 3 _ rfl; obtain ⟨z4, _⟩ := hv.cell 4 _ rfl; obtain ⟨z5, _⟩ := hv.cell 5 _ rfl; obtain ⟨z6, _⟩ := hv.cell 6 _ rfl; obtain ⟨z7, _⟩ := hv.cell 7 _ rfl; obtain ⟨z8, _⟩ := hv.cell 8 _ rfl
    exact .inl (by go_simp)
  refine wpAnyR_take (i := 2) (kw := 5) (v := .agg #[.int .i64 kk, .int .i64 xx]) (fun _ => bl_refl _) (fun p q => bl_trans p q) rfl (by kernel_rfl) (by kernel_rfl) (by kernel_rfl) (by kernel_rfl) (fun _ _ _ h => h) HC1 (Or.inl ⟨by kernel_rfl, fun W' hI => ?_⟩) (fun HC2 => ?_)
  · have hv := ((NC.out.below X3.out)).below hI
    obtain ⟨z0, _⟩ := hv.cell 0 _ rfl; obtain ⟨z1, _⟩ := hv.cell 1 _ rfl
    exact .inl (by go_simp)
  refine wpAnyR_one HC2 (i := 1) (by kernel_rfl) rfl (by rfl) (fun v4 hr4 => ⟨bl_drewT hr4, fun K hK => ?_⟩)
  have X4 := Lib.hid (bl_drewT hr4)
  have B4 := Lib.hid (bl_trans B3.out X4.out)
  go_simp
  go_wp2_with (go_at_call 44; refine (KT.out _ B4.out).mono ?_; rintro e w5 ⟨L1, rfl, ho, hb⟩; have X5 := Lib.hid hb; have B5 := Lib.hid (bl_trans B4.out hb); have O1 := Lib.hid ho; clear q12 q13 q14 q15 q16 q17 q18 q19 q20 q21 q22)
  have I5 := Lib.hid (bl_trans X4.out X5.out)
  intro HC3
  refine wpAnyR_take (i := 3) (kw := 5) (v := .agg #[.int .i64 kk, .int .i64 xx]) (fun _ => bl_refl _) (fun p q => bl_trans p q) rfl (by kernel_rfl) (by kernel_rfl) (by kernel_rfl) (by kernel_rfl) (fun _ _ _ h => h) HC3 (Or.inl ⟨by kernel_rfl, fun W' hI => ?_⟩) (fun HC4 => ?_)
  · exact .inr ⟨48, #[.agg #[.int .i64 kk, .int .i64 xx]], by go_simp, KA.out W'⟩
  refine wpAnyR_one HC4 (i := 4) (by kernel_rfl) rfl (by rfl) (fun v6 hr6 => ⟨bl_trans I5.out hr6, fun K hK => ?_⟩)
  have X6 := Lib.hid hr6
  have B6 := Lib.hid (bl_trans B5.out X6.out)
  go_simp
  go_wp2_with (go_at_call 24; refine (K1.out L1 _ (O1.out.below X6.out).rd).mono ?_; rintro e w7 ⟨rfl, hb⟩; have X7 := Lib.hid hb; have B7 := Lib.hid (bl_trans B6.out hb))
  have I7 := Lib.hid (bl_trans I5.out (bl_trans X6.out X7.out))
  intro HC5
  refine wpAnyR_last (by kernel_rfl) (by kernel_rfl) rfl (by rfl) (fun v8 hr8 => ⟨bl_trans I7.out hr8, fun K hK => ?_⟩)
  have X8 := Lib.hid hr8
  have B8 := Lib.hid (bl_trans B7.out X8.out)
  go_simp
  refine hK _ _ ?_
  clear hK
  obtain ⟨q23, -⟩ := ((((((((NA.out.below (bl_alloc (bl_refl (w.alloc (.cells ([.slice L.a1 b.st.length L.c1, .slice L.a2 b.bt.length L.c2, .slice L.a3 b.pd.length L.c3, .slice L.a4 b.fo.length L.c4, .slice L.a5 b.ac.length L.c5, .int .i64 b.tu, .int .i64 b.un, .int .i64 b.ra, .int .i64 b.li] : List Value).toArray 56))) (.cells ([.int .i64 kk, .int .i64 xx] : List Value).toArray 61))).below X3.out).below X4.out).below X5.out).below X6.out).below X7.out).below X8.out)).cell 0 _ rfl; obtain ⟨q24, -⟩ := ((((((((NA.out.below (bl_alloc (bl_refl (w.alloc (.cells ([.slice L.a1 b.st.length L.c1, .slice L.a2 b.bt.length L.c2, .slice L.a3 b.pd.length L.c3, .slice L.a4 b.fo.length L.c4, .slice L.a5 b.ac.length L.c5, .int .i64 b.tu, .int .i64 b.un, .int .i64 b.ra, .int .i64 b.li] : List Value).toArray 56))) (.cells ([.int .i64 kk, .int .i64 xx] : List Value).toArray 61))).below X3.out).below X4.out).below X5.out).below X6.out).below X7.out).below X8.out)).cell 1 _ rfl; obtain ⟨q25, -⟩ := ((((((((NA.out.below (bl_alloc (bl_refl (w.alloc (.cells ([.slice L.a1 b.st.length L.c1, .slice L.a2 b.bt.length L.c2, .slice L.a3 b.pd.length L.c3, .slice L.a4 b.fo.length L.c4, .slice L.a5 b.ac.length L.c5, .int .i64 b.tu, .int .i64 b.un, .int .i64 b.ra, .int .i64 b.li] : List Value).toArray 56))) (.cells ([.int .i64 kk, .int .i64 xx] : List Value).toArray 61))).below X3.out).below X4.out).below X5.out).below X6.out).below X7.out).below X8.out)).cell 2 _ rfl; obtain ⟨q26, -⟩ := ((((((((NA.out.below (bl_alloc (bl_refl (w.alloc (.cells ([.slice L.a1 b.st.length L.c1, .slice L.a2 b.bt.length L.c2, .slice L.a3 b.pd.length L.c3, .slice L.a4 b.fo.length L.c4, .slice L.a5 b.ac.length L.c5, .int .i64 b.tu, .int .i64 b.un, .int .i64 b.ra, .int .i64 b.li] : List Value).toArray 56))) (.cells ([.int .i64 kk, .int .i64 xx] : List Value).toArray 61))).below X3.out).below X4.out).below X5.out).below X6.out).below X7.out).below X8.out)).cell 3 _ rfl; obtain ⟨q27, -⟩ := ((((((((NA.out.below (bl_alloc (bl_refl (w.alloc (.cells ([.slice L.a1 b.st.length L.c1, .slice L.a2 b.bt.length L.c2, .slice L.a3 b.pd.length L.c3, .slice L.a4 b.fo.length L.c4, .slice L.a5 b.ac.length L.c5, .int .i64 b.tu, .int .i64 b.un, .int .i64 b.ra, .int .i64 b.li] : List Value).toArray 56))) (.cells ([.int .i64 kk, .int .i64 xx] : List Value).toArray 61))).below X3.out).below X4.out).below X5.out).below X6.out).below X7.out).below X8.out)).cell 4 _ rfl; obtain ⟨q28, -⟩ := ((((((((NA.out.below (bl_alloc (bl_refl (w.alloc (.cells ([.slice L.a1 b.st.length L.c1, .slice L.a2 b.bt.length L.c2, .slice L.a3 b.pd.length L.c3, .slice L.a4 b.fo.length L.c4, .slice L.a5 b.ac.length L.c5, .int .i64 b.tu, .int .i64 b.un, .int .i64 b.ra, .int .i64 b.li] : List Value).toArray 56))) (.cells ([.int .i64 kk, .int .i64 xx] : List Value).toArray 61))).below X3.out).below X4.out).below X5.out).below X6.out).below X7.out).below X8.out)).cell 5 _ rfl; obtain ⟨q29, -⟩ := ((((((((NA.out.below (bl_alloc (bl_refl (w.alloc (.cells ([.slice L.a1 b.st.length L.c1, .slice L.a2 b.bt.length L.c2, .slice L.a3 b.pd.length L.c3, .slice L.a4 b.fo.length L.c4, .slice L.a5 b.ac.length L.c5, .int .i64 b.tu, .int .i64 b.un, .int .i64 b.ra, .int .i64 b.li] : List Value).toArray 56))) (.cells ([.int .i64 kk, .int .i64 xx] : List Value).toArray 61))).below X3.out).below X4.out).below X5.out).below X6.out).below X7.out).below X8.out)).cell 6 _ rfl; obtain ⟨q30, -⟩ := ((((((((NA.out.below (bl_alloc (bl_refl (w.alloc (.cells ([.slice L.a1 b.st.length L.c1, .slice L.a2 b.bt.length L.c2, .slice L.a3 b.pd.length L.c3, .slice L.a4 b.fo.length L.c4, .slice L.a5 b.ac.length L.c5, .int .i64 b.tu, .int .i64 b.un, .int .i64 b.ra, .int .i64 b.li] : List Value).toArray 56))) (.cells ([.int .i64 kk, .int .i64 xx] : List Value).toArray 61))).below X3.out).below X4.out).below X5.out).below X6.out).below X7.out).below X8.out)).cell 7 _ rfl; obtain ⟨q31, -⟩ := ((((((((NA.out.below (bl_alloc (bl_refl (w.alloc (.cells ([.slice L.a1 b.st.length L.c1, .slice L.a2 b.bt.length L.c2, .slice L.a3 b.pd.length L.c3, .slice L.a4 b.fo.length L.c4, .slice L.a5 b.ac.length L.c5, .int .i64 b.tu, .int .i64 b.un, .int .i64 b.ra, .int .i64 b.li] : List Value).toArray 56))) (.cells ([.int .i64 kk, .int .i64 xx] : List Value).toArray 61))).below X3.out).below X4.out).below X5.out).below X6.out).below X7.out).below X8.out)).cell 8 _ rfl
  go_wp2_with (go_at_call 44; refine (KT.out _ B8.out).mono ?_; rintro e w9 ⟨L3, rfl, ho, hb⟩; have X9 := Lib.hid hb; have B9 := Lib.hid (bl_trans B8.out hb); have O3 := Lib.hid ho; clear q23 q24 q25 q26 q27 q28 q29 q30 q31)
  have NX := Lib.hid (blk_new w9 27 [.slice L3.a1 b.st.length L3.c1, .slice L3.a2 b.bt.length L3.c2, .slice L3.a3 b.pd.length L3.c3, .slice L3.a4 b.fo.length L3.c4, .slice L3.a5 b.ac.length L3.c5, .int .i64 b.tu, .int .i64 b.un, .int .i64 b.ra, .int .i64 b.li])
  have B10 := Lib.hid (bl_trans B9.out (bl_alloc (bl_refl w9) (.cells ([.slice L3.a1 b.st.length L3.c1, .slice L3.a2 b.bt.length L3.c2, .slice L3.a3 b.pd.length L3.c3, .slice L3.a4 b.fo.length L3.c4, .slice L3.a5 b.ac.length L3.c5, .int .i64 b.tu, .int .i64 b.un, .int .i64 b.ra, .int .i64 b.li] : List Value).toArray 27)))
  refine wp_region_R (R := fun a b => Below a.heap.size a b) (I := fun W' => Below (w9.alloc (.cells ([.slice L3.a1 b.st.length L3.c1, .slice L3.a2 b.bt.length L3.c2, .slice L3.a3 b.pd.length L3.c3, .slice L3.a4 b.fo.length L3.c4, .slice L3.a5 b.ac.length L3.c5, .int .i64 b.tu, .int .i64 b.un, .int .i64 b.ra, .int .i64 b.li] : List Value).toArray 27)).heap.size (w9.alloc (.cells ([.slice L3.a1 b.st.length L3.c1, .slice L3.a2 b.bt.length L3.c2, .slice L3.a3 b.pd.length L3.c3, .slice L3.a4 b.fo.length L3.c4, .slice L3.a5 b.ac.length L3.c5, .int .i64 b.tu, .int .i64 b.un, .int .i64 b.ra, .int .i64 b.li] : List Value).toArray 27)) W') (last := 4) (k := 4) (fun _ => bl_refl _) hmx rfl (fun HC0 => ?_)
  refine wpAnyR_take (i := 0) (kw := 4) (v := .agg #[.slice L3.a1 b.st.length L3.c1, .slice L3.a2 b.bt.length L3.c2, .slice L3.a3 b.pd.length L3.c3, .slice L3.a4 b.fo.length L3.c4, .slice L3.a5 b.ac.length L3.c5, .int .i64 b.tu, .int .i64 b.un, .int .i64 b.ra, .int .i64 b.li]) (fun _ => bl_refl _) (fun p q => bl_trans p q) rfl (by kernel_rfl) (by kernel_rfl) (by kernel_rfl) (by kernel_rfl) (fun _ _ _ h => h) HC0 (Or.inl ⟨by kernel_rfl, fun W' hI => ?_⟩) (fun HC1 => ?_)
  · have hv := (NX.out).below hI
    obtain ⟨z0, _⟩ := hv.cell 0 _ rfl; obtain ⟨z1, _⟩ := hv.cell 1 _ rfl; obtain ⟨z2, _⟩ := hv.cell 2 _ rfl; obtain ⟨z3, _⟩ := hv.cell 3 _ rfl; obtain ⟨z4, _⟩ := hv.cell 4 _ rfl; obtain ⟨z5, _⟩ := hv.cell 5 _ rfl; obtain ⟨z6, _⟩ := hv.cell 6 _ rfl; obtain ⟨z7, _⟩ := hv.cell 7 _ rfl; obtain ⟨z8, _⟩ := hv.cell 8 _ rfl
    exact .inl (by go_simp)
  refine wpAnyR_take (i := 1) (kw := 4) (v := .agg #[.int .i64 kk, .int .i64 xx]) (fun _ => bl_refl _) (fun p q => bl_trans p q) rfl (by kernel_rfl) (by kernel_rfl) (by kernel_rfl) (by kernel_rfl) (fun _ _ _ h => h) HC1 (Or.inl ⟨by kernel_rfl, fun W' hI => ?_⟩) (fun HC2 => ?_)
  · have hv := (((((((((NC.out.below X3.out).below X4.out).below X5.out).below X6.out).below X7.out).below X8.out).below X9.out).below (bl_alloc (bl_refl w9) (.cells ([.slice L3.a1 b.st.length L3.c1, .slice L3.a2 b.bt.length L3.c2, .slice L3.a3 b.pd.length L3.c3, .slice L3.a4 b.fo.length L3.c4, .slice L3.a5 b.ac.length L3.c5, .int .i64 b.tu, .int .i64 b.un, .int .i64 b.ra, .int .i64 b.li] : List Value).toArray 27)))).below hI
    obtain ⟨z0, _⟩ := hv.cell 0 _ rfl; obtain ⟨z1, _⟩ := hv.cell 1 _ rfl
    exact .inl (by go_simp)
  refine wpAnyR_take (i := 2) (kw := 4) (v := .agg #[.int .i64 kk, .int .i64 xx]) (fun _ => bl_refl _) (fun p q => bl_trans p q) rfl (by kernel_rfl) (by kernel_rfl) (by kernel_rfl) (by kernel_rfl) (fun _ _ _ h => h) HC2 (Or.inl ⟨by kernel_rfl, fun W' hI => ?_⟩) (fun HC3 => ?_)
  · exact .inr ⟨48, #[.agg #[.int .i64 kk, .int .i64 xx]], by go_simp, KA.out W'⟩
  refine wpAnyR_take (i := 3) (kw := 4) (v := .bool rb) (fun _ => bl_refl _) (fun p q => bl_trans p q) rfl (by kernel_rfl) (by kernel_rfl) (by kernel_rfl) (by kernel_rfl) (fun _ _ _ h => h) HC3 (Or.inl ⟨by kernel_rfl, fun W' hI => ?_⟩) (fun HC4 => ?_)
  · exact .inr ⟨23, #[.agg #[.slice L3.a1 b.st.length L3.c1, .slice L3.a2 b.bt.length L3.c2, .slice L3.a3 b.pd.length L3.c3, .slice L3.a4 b.fo.length L3.c4, .slice L3.a5 b.ac.length L3.c5, .int .i64 b.tu, .int .i64 b.un, .int .i64 b.ra, .int .i64 b.li], .agg #[.int .i64 kk, .int .i64 xx]], by go_simp, K2.out L3 W' ((O3.out.below (bl_alloc (bl_refl w9) (.cells ([.slice L3.a1 b.st.length L3.c1, .slice L3.a2 b.bt.length L3.c2, .slice L3.a3 b.pd.length L3.c3, .slice L3.a4 b.fo.length L3.c4, .slice L3.a5 b.ac.length L3.c5, .int .i64 b.tu, .int .i64 b.un, .int .i64 b.ra, .int .i64 b.li] : List Value).toArray 27))).rd.below hI)⟩
  refine wpAnyR_last (by kernel_rfl) (by kernel_rfl) rfl (by rfl) (fun v11 hr11 => ⟨bl_drewT hr11, fun K hK => ?_⟩)
  have X11 := Lib.hid (bl_drewT hr11)
  have B11 := Lib.hid (bl_trans B10.out X11.out)
  go_simp
  refine hK _ _ ?_
  clear hK
  go_wp2_with fail
  refine wp_region_R (R := fun a b => Below a.heap.size a b) (I := fun W' => Below v11.heap.size v11 W') (last := 4) (k := 4) (fun _ => bl_refl _) hmx rfl (fun HC0 => ?_)
  refine wpAnyR_take (i := 0) (kw := 4) (v := .agg #[.slice L3.a1 b.st.length L3.c1, .slice L3.a2 b.bt.length L3.c2, .slice L3.a3 b.pd.length L3.c3, .slice L3.a4 b.fo.length L3.c4, .slice L3.a5 b.ac.length L3.c5, .int .i64 b.tu, .int .i64 b.un, .int .i64 b.ra, .int .i64 b.li]) (fun _ => bl_refl _) (fun p q => bl_trans p q) rfl (by kernel_rfl) (by kernel_rfl) (by kernel_rfl) (by kernel_rfl) (fun _ _ _ h => h) HC0 (Or.inl ⟨by kernel_rfl, fun W' hI => ?_⟩) (fun HC1 => ?_)
  · have hv := ((NX.out.below X11.out)).below hI
    obtain ⟨z0, _⟩ := hv.cell 0 _ rfl; obtain ⟨z1, _⟩ := hv.cell 1 _ rfl; obtain ⟨z2, _⟩ := hv.cell 2 _ rfl; obtain ⟨z3, _⟩ := hv.cell 3 _ rfl; obtain ⟨z4, _⟩ := hv.cell 4 _ rfl; obtain ⟨z5, _⟩ := hv.cell 5 _ rfl; obtain ⟨z6, _⟩ := hv.cell 6 _ rfl; obtain ⟨z7, _⟩ := hv.cell 7 _ rfl; obtain ⟨z8, _⟩ := hv.cell 8 _ rfl
    exact .inl (by go_simp)
  refine wpAnyR_take (i := 1) (kw := 4) (v := .agg #[.slice L.a1 b.st.length L.c1, .slice L.a2 b.bt.length L.c2, .slice L.a3 b.pd.length L.c3, .slice L.a4 b.fo.length L.c4, .slice L.a5 b.ac.length L.c5, .int .i64 b.tu, .int .i64 b.un, .int .i64 b.ra, .int .i64 b.li]) (fun _ => bl_refl _) (fun p q => bl_trans p q) rfl (by kernel_rfl) (by kernel_rfl) (by kernel_rfl) (by kernel_rfl) (fun _ _ _ h => h) HC1 (Or.inl ⟨by kernel_rfl, fun W' hI => ?_⟩) (fun HC2 => ?_)
  · have hv := (((((((((((NA.out.below (bl_alloc (bl_refl (w.alloc (.cells ([.slice L.a1 b.st.length L.c1, .slice L.a2 b.bt.length L.c2, .slice L.a3 b.pd.length L.c3, .slice L.a4 b.fo.length L.c4, .slice L.a5 b.ac.length L.c5, .int .i64 b.tu, .int .i64 b.un, .int .i64 b.ra, .int .i64 b.li] : List Value).toArray 56))) (.cells ([.int .i64 kk, .int .i64 xx] : List Value).toArray 61))).below X3.out).below X4.out).below X5.out).below X6.out).below X7.out).below X8.out).below X9.out).below (bl_alloc (bl_refl w9) (.cells ([.slice L3.a1 b.st.length L3.c1, .slice L3.a2 b.bt.length L3.c2, .slice L3.a3 b.pd.length L3.c3, .slice L3.a4 b.fo.length L3.c4, .slice L3.a5 b.ac.length L3.c5, .int .i64 b.tu, .int .i64 b.un, .int .i64 b.ra, .int .i64 b.li] : List Value).toArray 27))).below X11.out)).below hI
    obtain ⟨z0, _⟩ := hv.cell 0 _ rfl; obtain ⟨z1, _⟩ := hv.cell 1 _ rfl; obtain ⟨z2, _⟩ := hv.cell 2 _ rfl; obtain ⟨z3, _⟩ := hv.cell 3 _ rfl; obtain ⟨z4, _⟩ := hv.cell 4 _ rfl; obtain ⟨z5, _⟩ := hv.cell 5 _ rfl; obtain ⟨z6, _⟩ := hv.cell 6 _ rfl; obtain ⟨z7, _⟩ := hv.cell 7 _ rfl; obtain ⟨z8, _⟩ := hv.cell 8 _ rfl
    exact .inl (by go_simp)
  refine wpAnyR_one HC2 (i := 2) (by kernel_rfl) rfl (by rfl) (fun v12 hr12 => ⟨bl_drewT hr12, fun K hK => ?_⟩)
  have X12 := Lib.hid (bl_drewT hr12)
  have B12 := Lib.hid (bl_trans B11.out X12.out)
  go_simp
  go_wp2_with (go_at_call 44; refine (KT.out _ B12.out).mono ?_; rintro e w13 ⟨LE, rfl, ho, hb⟩; have X13 := Lib.hid hb; have B13 := Lib.hid (bl_trans B12.out hb); have OE := Lib.hid ho)
  have I13 := Lib.hid (bl_trans X12.out X13.out)
  intro HC3
  refine wpAnyR_one HC3 (i := 3) (by kernel_rfl) rfl (by rfl) (fun v14 hr14 => ⟨bl_trans I13.out hr14, fun K hK => ?_⟩)
  have X14 := Lib.hid hr14
  have B14 := Lib.hid (bl_trans B13.out X14.out)
  go_simp
  go_wp2_with (go_at_call 45; refine (eqBetting_same _ _ b _ (((((O3.out.below (bl_alloc (bl_refl w9) (.cells ([.slice L3.a1 b.st.length L3.c1, .slice L3.a2 b.bt.length L3.c2, .slice L3.a3 b.pd.length L3.c3, .slice L3.a4 b.fo.length L3.c4, .slice L3.a5 b.ac.length L3.c5, .int .i64 b.tu, .int .i64 b.un, .int .i64 b.ra, .int .i64 b.li] : List Value).toArray 27))).below X11.out).below X12.out).below X13.out).below X14.out).rd (OE.out.below X14.out).rd m).mono ?_; rintro e w15 ⟨rfl, hb⟩; have X15 := Lib.hid hb; have B15 := Lib.hid (bl_trans B14.out hb))
  have I15 := Lib.hid (bl_trans I13.out (bl_trans X14.out X15.out))
  intro HC4
  refine wpAnyR_last (by kernel_rfl) (by kernel_rfl) rfl (by rfl) (fun v16 hr16 => ⟨bl_trans I15.out hr16, fun K hK => ?_⟩)
  have X16 := Lib.hid hr16
  have B16 := Lib.hid (bl_trans B15.out X16.out)
  go_simp
  refine hK _ _ ?_
  clear hK
  go_wp2_with fail
  go_ret
  exact ⟨rfl, B16.out⟩

theorem walkIsLegal (L : At5) (b : Bt) (kk xx : Int) (w : World) (hm : Mx b) (hr : Rd5 w L b) :
    Calls Try.prog 10 #[bV L b, acV kk xx] w (Fresh (.bool true) w) := by
  by_cases h : (1048576 : Int) - (b.st.length : Int) - (b.bt.length : Int) - (b.pd.length : Int) - (b.fo.length : Int) - (b.ac.length : Int) < 0
  · exact walkIsLegal_big L b kk xx w hm h
  · exact walkIsLegal_in L b kk xx w hr (by omega) ⟨by omega, by omega, by omega, by omega, by omega⟩

set_option maxRecDepth 100000 in
theorem fnExactIsLegal_lifted (os : Os) (started : os.Started) (H : Type) (enc : TypeId × Value → H) :
    ReturnsInHanded {} Try.checked os 10 .any (Rows.fnExactIsLegalSpec.pre6 enc Try.prog Try.f10 Rows.fnExactIsLegalRow.domain false) (Rows.fnExactIsLegalSpec.post enc Try.prog Try.f10 false true false false) := by
  refine law_lifted started (by kernel_rfl) Try.func10 (by kernel_rfl) rfl (fun ds h => ?_) ?_
    (ChangeSpec.witness6 (enc := enc) (C := Try.checked) false ⟨#[], #[.agg #[.slice none 0 0, .slice none 0 0, .slice none 0 0, .slice none 0 0, .slice none 0 0, .int .i64 0, .int .i64 0, .int .i64 0, .int .i64 0], .agg #[.int .i64 0, .int .i64 0]], []⟩ 8 (by kernel_rfl) (by kernel_rfl) (by kernel_rfl) (by kernel_rfl)) ?_
  · match ds, h with
    | [d0, d1], _ => rfl
  · rw [Try.params10]
    intro t ht
    rcases (show t = 56 ∨ t = 61 by simpa using ht) with rfl | rfl <;> exact ⟨by kernel_rfl, of_decide_eq_true (by kernel_rfl)⟩
  · intro W base args ds ps hval hA
    rw [Try.params10] at hA hval
    obtain ⟨v0, v1, d0, d1, p0, p1, rfl, rfl, rfl, h0, h1⟩ := trodAll_two hA
    obtain ⟨L0, b0, rfl, r0, m0, i0a, i0b, i0c, i0d⟩ := open_betting (hval 0 56 v0 rfl rfl) h0
    obtain ⟨kk1, xx1, rfl, ia1, ib1⟩ := open_action (hval 1 61 v1 rfl rfl) h1
    exact walkIsLegal L0 b0 kk1 xx1 W m0 r0

/-- IsLegal answers as its model, for every round and every action. -/
theorem fnExactIsLegal_holds : Rows.FnExactIsLegalSaid :=
  OpenClaim.holds_of_wide 10 Try.f10 rfl rfl rfl rfl rfl rfl rfl ⟨rfl, rfl, rfl, rfl, rfl⟩ rfl rfl rfl rfl rfl (by kernel_rfl) Try.func10 (by kernel_rfl)
    (of_decide_eq_true (by kernel_rfl)) (by unfold Func.isWrapper; first | (rw [if_pos (by decide +kernel)]; kernel_rfl) | (rw [if_neg (by decide +kernel)]; exact ⟨rfl, rfl⟩))
    (fun os started H enc _ => fnExactIsLegal_lifted os started H enc)

end Go.Proofs.Ytljakfbdacimlaa
