/-
  The law FnExactSeatsFrom returns true for every table and every number, and leaves it as it was: SeatsFrom answers as its model.
  No condition.
-/
import Derived.Test.YtnbaemgidfgdaaaTabHelp
import Derived.Test.YtnbaemgidfgdaaaFromImpl
import Derived.Lib.SmallJoins
namespace Go.Proofs.Ytnbaemgidfgdaaa
open Go.ChangeShapes Go.WideShapes Go.ChangeAt Go.RowKit Go.Joins
set_option linter.unusedVariables false

set_option maxRecDepth 100000 in
set_option maxHeartbeats 1000000 in
theorem walkSeatsFrom_big (A : Option Addr) (c : Nat) (xs : List Int) (b s g a l : Int) (n1 : Int) (w : World) (hm : xs.length ≤ maxLen) (h : 1048576 < xs.length) :
    Calls Try.prog 11 #[tV A xs.length c b s g a l, .int .i64 n1] w (Fresh (.bool true) w) := by
  have KZ := Lib.hid (fun W : World => szTable_any A xs.length c b s g a l 1048576 W (by omega) (by omega) (by unfold maxLen at hm; omega))
  rw [if_pos (by omega)] at KZ
  have n0 := blk_new w 45 [.slice A xs.length c, .int .i64 b, .int .i64 s, .int .i64 g, .int .i64 a, .int .i64 l]
  have N0 := Lib.hid n0
  have B := Lib.hid (bl_alloc (bl_refl w) (.cells ([.slice A xs.length c, .int .i64 b, .int .i64 s, .int .i64 g, .int .i64 a, .int .i64 l] : List Value).toArray 45))
  clear n0
  unfold tV at *
  go_enter Try.func11, Try.ntmps11
  go_wp2_with (first
    | (go_at_call 38; refine (KZ.out _).mono ?_; rintro e wn ⟨rfl, hb⟩; have N0a := Lib.hid (N0.out.below hb); clear N0; have N0 := N0a; clear N0a; have Ba := Lib.hid (bl_trans B.out hb); clear B hb; have B := Ba; clear Ba; obtain ⟨q0_0, _⟩ := N0.out.cell 0 _ rfl; obtain ⟨q0_1, _⟩ := N0.out.cell 1 _ rfl; obtain ⟨q0_2, _⟩ := N0.out.cell 2 _ rfl; obtain ⟨q0_3, _⟩ := N0.out.cell 3 _ rfl; obtain ⟨q0_4, _⟩ := N0.out.cell 4 _ rfl; obtain ⟨q0_5, _⟩ := N0.out.cell 5 _ rfl))
  go_ret
  exact ⟨rfl, B.out⟩
set_option maxRecDepth 100000 in
set_option maxHeartbeats 4000000 in
theorem walkSeatsFrom_in (A : Option Addr) (c : Nat) (xs : List Int) (b s g a l : Int) (n1 : Int) (w : World) (hr : Rd w A xs) (hn : xs.length ≤ 1048576) :
    Calls Try.prog 11 #[tV A xs.length c b s g a l, .int .i64 n1] w (Fresh (.bool true) w) := by
  have hn4 : xs.length ≤ 4000000 := by omega
  have hn' : (xs.length : Int) ≤ 1048576 := by omega
  have KZ := Lib.hid (fun W : World => szTable_any A xs.length c b s g a l 1048576 W (by omega) (by omega) (by omega))
  rw [if_neg (by omega)] at KZ
  have KT := Lib.hid (fun (W : World) (h : Below w.heap.size w W) => toTable_any A c xs b s g a l W (hr.below h) hn)
  obtain ⟨ys, ky, hyl, K1, K2⟩ : ∃ (ys : List Int) (ky : Int), ys.length ≤ 4000000 ∧ Hid (∀ (A : Option Addr) (c : Nat) (W : World), Rd W A xs → Calls Try.prog 26 #[tV A xs.length c b s g a l, .int .i64 n1] W (NewRC ys ky W)) ∧ Hid (∀ (A : Option Addr) (c : Nat) (W : World), Rd W A xs → Calls Try.prog 25 #[tV A xs.length c b s g a l, .int .i64 n1] W (NewRC ys ky W)) :=
    ⟨_, _, Nat.le_trans (sfR_len xs b s g a l n1) hn4, Lib.hid (fun A c W h => specSeatsFrom_any A c xs b s g a l n1 W h hn4), Lib.hid (fun A c W h => implSeatsFrom_any A c xs b s g a l n1 W h hn4)⟩
  have k1 : decide ((1 : Int) + (xs.length : Int) < 0) = false := by simp; omega
  have k2 : decide ((1 : Int) + (ys.length : Int) < 0) = false := by simp; omega
  have hmx : Try.prog.follows .mixedOrders = true := by kernel_rfl
  have dz : decide ((1048576 : Int) - (xs.length : Int) < 0) = false := by simp; omega
  clear hr
  unfold tV at *
  have NA := Lib.hid (blk_new w 45 [.slice A xs.length c, .int .i64 b, .int .i64 s, .int .i64 g, .int .i64 a, .int .i64 l])
  have B1 := Lib.hid (bl_alloc (bl_refl w) (.cells ([.slice A xs.length c, .int .i64 b, .int .i64 s, .int .i64 g, .int .i64 a, .int .i64 l] : List Value).toArray 45))
  go_enter Try.func11, Try.ntmps11
  go_wp2_with (go_at_call 38; refine (KZ.out _).mono ?_; rintro e w2 ⟨rfl, hb⟩; have X2 := Lib.hid hb; have B2 := Lib.hid (bl_trans B1.out hb); obtain ⟨q1, _⟩ := ((NA.out.below X2.out)).cell 0 _ rfl; obtain ⟨q2, _⟩ := ((NA.out.below X2.out)).cell 1 _ rfl; obtain ⟨q3, _⟩ := ((NA.out.below X2.out)).cell 2 _ rfl; obtain ⟨q4, _⟩ := ((NA.out.below X2.out)).cell 3 _ rfl; obtain ⟨q5, _⟩ := ((NA.out.below X2.out)).cell 4 _ rfl; obtain ⟨q6, _⟩ := ((NA.out.below X2.out)).cell 5 _ rfl)
  go_wp2_with (go_at_call 40; refine (KT.out _ B2.out).mono ?_; rintro e w3 ⟨A1, c1, rfl, ho, hb⟩; have X3 := Lib.hid hb; have B3 := Lib.hid (bl_trans B2.out hb); have O1 := Lib.hid (Row.of_own ho); clear q1 q2 q3 q4 q5 q6; obtain ⟨q7, _⟩ := (((NA.out.below X2.out).below X3.out)).cell 0 _ rfl; obtain ⟨q8, _⟩ := (((NA.out.below X2.out).below X3.out)).cell 1 _ rfl; obtain ⟨q9, _⟩ := (((NA.out.below X2.out).below X3.out)).cell 2 _ rfl; obtain ⟨q10, _⟩ := (((NA.out.below X2.out).below X3.out)).cell 3 _ rfl; obtain ⟨q11, _⟩ := (((NA.out.below X2.out).below X3.out)).cell 4 _ rfl; obtain ⟨q12, _⟩ := (((NA.out.below X2.out).below X3.out)).cell 5 _ rfl)
  go_wp2_with (go_at_call 26; refine (K1.out _ _ _ O1.out.rd).mono ?_; rintro e w4 ⟨A2, c2, rfl, ho, hb⟩; have X4 := Lib.hid hb; have B4 := Lib.hid (bl_trans B3.out hb); have O2 := Lib.hid ho; clear q7 q8 q9 q10 q11 q12; obtain ⟨q13, _⟩ := ((((NA.out.below X2.out).below X3.out).below X4.out)).cell 0 _ rfl; obtain ⟨q14, _⟩ := ((((NA.out.below X2.out).below X3.out).below X4.out)).cell 1 _ rfl; obtain ⟨q15, _⟩ := ((((NA.out.below X2.out).below X3.out).below X4.out)).cell 2 _ rfl; obtain ⟨q16, _⟩ := ((((NA.out.below X2.out).below X3.out).below X4.out)).cell 3 _ rfl; obtain ⟨q17, _⟩ := ((((NA.out.below X2.out).below X3.out).below X4.out)).cell 4 _ rfl; obtain ⟨q18, _⟩ := ((((NA.out.below X2.out).below X3.out).below X4.out)).cell 5 _ rfl)
  go_wp2_with (go_at_call 40; refine (KT.out _ B4.out).mono ?_; rintro e w5 ⟨A3, c3, rfl, ho, hb⟩; have X5 := Lib.hid hb; have B5 := Lib.hid (bl_trans B4.out hb); have O3 := Lib.hid (Row.of_own ho); clear q13 q14 q15 q16 q17 q18)
  have NX := Lib.hid (blk_new w5 26 [.slice A3 xs.length c3, .int .i64 b, .int .i64 s, .int .i64 g, .int .i64 a, .int .i64 l])
  have B6 := Lib.hid (bl_trans B5.out (bl_alloc (bl_refl w5) (.cells ([.slice A3 xs.length c3, .int .i64 b, .int .i64 s, .int .i64 g, .int .i64 a, .int .i64 l] : List Value).toArray 26)))
  go_wp2_with (go_at_call 25; refine (K2.out _ _ _ (O3.out.below (bl_alloc (bl_refl w5) (.cells ([.slice A3 xs.length c3, .int .i64 b, .int .i64 s, .int .i64 g, .int .i64 a, .int .i64 l] : List Value).toArray 26))).rd).mono ?_; rintro e w7 ⟨A4, c4, rfl, ho, hb⟩; have X7 := Lib.hid hb; have B7 := Lib.hid (bl_trans B6.out hb); have O4 := Lib.hid ho)
  go_wp2_with (go_at_call 42; refine (eqInts_same _ _ _ _ ys _ O4.out.rd (((O2.out.below X5.out).below (bl_alloc (bl_refl w5) (.cells ([.slice A3 xs.length c3, .int .i64 b, .int .i64 s, .int .i64 g, .int .i64 a, .int .i64 l] : List Value).toArray 26))).below X7.out).rd hyl).mono ?_; rintro e w8 ⟨rfl, hb⟩; have X8 := Lib.hid hb; have B8 := Lib.hid (bl_trans B7.out hb))
  refine wp_region_R (R := fun a b => Below a.heap.size a b) (I := fun W' => Below w8.heap.size w8 W') (last := 4) (k := 4) (fun _ => bl_refl _) hmx rfl (fun HC0 => ?_)
  refine wpAnyR_take (i := 0) (kw := 4) (v := .agg #[.slice A3 xs.length c3, .int .i64 b, .int .i64 s, .int .i64 g, .int .i64 a, .int .i64 l]) (fun _ => bl_refl _) (fun p q => bl_trans p q) rfl (by kernel_rfl) (by kernel_rfl) (by kernel_rfl) (by kernel_rfl) (fun _ _ _ h => h) HC0 (Or.inl ⟨by kernel_rfl, fun W' hI => ?_⟩) (fun HC1 => ?_)
  · have hv := (((NX.out.below X7.out).below X8.out)).below hI
    obtain ⟨z0, _⟩ := hv.cell 0 _ rfl; obtain ⟨z1, _⟩ := hv.cell 1 _ rfl; obtain ⟨z2, _⟩ := hv.cell 2 _ rfl; obtain ⟨z3, _⟩ := hv.cell 3 _ rfl; obtain ⟨z4, _⟩ := hv.cell 4 _ rfl; obtain ⟨z5, _⟩ := hv.cell 5 _ rfl
    exact .inl (by go_simp)
  refine wpAnyR_take (i := 1) (kw := 4) (v := .agg #[.slice A xs.length c, .int .i64 b, .int .i64 s, .int .i64 g, .int .i64 a, .int .i64 l]) (fun _ => bl_refl _) (fun p q => bl_trans p q) rfl (by kernel_rfl) (by kernel_rfl) (by kernel_rfl) (by kernel_rfl) (fun _ _ _ h => h) HC1 (Or.inl ⟨by kernel_rfl, fun W' hI => ?_⟩) (fun HC2 => ?_)
  · have hv := ((((((((NA.out.below X2.out).below X3.out).below X4.out).below X5.out).below (bl_alloc (bl_refl w5) (.cells ([.slice A3 xs.length c3, .int .i64 b, .int .i64 s, .int .i64 g, .int .i64 a, .int .i64 l] : List Value).toArray 26))).below X7.out).below X8.out)).below hI
    obtain ⟨z0, _⟩ := hv.cell 0 _ rfl; obtain ⟨z1, _⟩ := hv.cell 1 _ rfl; obtain ⟨z2, _⟩ := hv.cell 2 _ rfl; obtain ⟨z3, _⟩ := hv.cell 3 _ rfl; obtain ⟨z4, _⟩ := hv.cell 4 _ rfl; obtain ⟨z5, _⟩ := hv.cell 5 _ rfl
    exact .inl (by go_simp)
  refine wpAnyR_one HC2 (i := 2) (by kernel_rfl) rfl (by rfl) (fun v9 hr9 => ⟨bl_drewT hr9, fun K hK => ?_⟩)
  have X9 := Lib.hid (bl_drewT hr9)
  have B9 := Lib.hid (bl_trans B8.out X9.out)
  go_simp
  go_wp2_with (go_at_call 40; refine (KT.out _ B9.out).mono ?_; rintro e w10 ⟨AE, cE, rfl, ho, hb⟩; have X10 := Lib.hid hb; have B10 := Lib.hid (bl_trans B9.out hb); have OE := Lib.hid (Row.of_own ho))
  have I10 := Lib.hid (bl_trans X9.out X10.out)
  intro HC3
  refine wpAnyR_one HC3 (i := 3) (by kernel_rfl) rfl (by rfl) (fun v11 hr11 => ⟨bl_trans I10.out hr11, fun K hK => ?_⟩)
  have X11 := Lib.hid hr11
  have B11 := Lib.hid (bl_trans B10.out X11.out)
  go_simp
  go_wp2_with (go_at_call 41; refine (eqTable_same _ _ _ _ xs b s g a l _ ((((((O3.out.below (bl_alloc (bl_refl w5) (.cells ([.slice A3 xs.length c3, .int .i64 b, .int .i64 s, .int .i64 g, .int .i64 a, .int .i64 l] : List Value).toArray 26))).below X7.out).below X8.out).below X9.out).below X10.out).below X11.out).rd (OE.out.below X11.out).rd hn4).mono ?_; rintro e w12 ⟨rfl, hb⟩; have X12 := Lib.hid hb; have B12 := Lib.hid (bl_trans B11.out hb))
  have I12 := Lib.hid (bl_trans I10.out (bl_trans X11.out X12.out))
  intro HC4
  refine wpAnyR_last (by kernel_rfl) (by kernel_rfl) rfl (by rfl) (fun v13 hr13 => ⟨bl_trans I12.out hr13, fun K hK => ?_⟩)
  have X13 := Lib.hid hr13
  have B13 := Lib.hid (bl_trans B12.out X13.out)
  go_simp
  refine hK _ _ ?_
  clear hK
  obtain ⟨q19, _⟩ := ((((((((NX.out.below X7.out).below X8.out).below X9.out).below X10.out).below X11.out).below X12.out).below X13.out)).cell 0 _ rfl; obtain ⟨q20, _⟩ := ((((((((NX.out.below X7.out).below X8.out).below X9.out).below X10.out).below X11.out).below X12.out).below X13.out)).cell 1 _ rfl; obtain ⟨q21, _⟩ := ((((((((NX.out.below X7.out).below X8.out).below X9.out).below X10.out).below X11.out).below X12.out).below X13.out)).cell 2 _ rfl; obtain ⟨q22, _⟩ := ((((((((NX.out.below X7.out).below X8.out).below X9.out).below X10.out).below X11.out).below X12.out).below X13.out)).cell 3 _ rfl; obtain ⟨q23, _⟩ := ((((((((NX.out.below X7.out).below X8.out).below X9.out).below X10.out).below X11.out).below X12.out).below X13.out)).cell 4 _ rfl; obtain ⟨q24, _⟩ := ((((((((NX.out.below X7.out).below X8.out).below X9.out).below X10.out).below X11.out).below X12.out).below X13.out)).cell 5 _ rfl
  go_wp2_with (go_at_call 43; refine (markTable_any _ _ _ xs b s g a l _ _ ((((((((O3.out.below (bl_alloc (bl_refl w5) (.cells ([.slice A3 xs.length c3, .int .i64 b, .int .i64 s, .int .i64 g, .int .i64 a, .int .i64 l] : List Value).toArray 26))).below X7.out).below X8.out).below X9.out).below X10.out).below X11.out).below X12.out).below X13.out) hn4 (by omega) (by omega)).mono ?_; rintro e w14 ⟨rfl, ho, hg⟩; have G14 := Lib.hid hg; have M14 := Lib.hid ho; have B14 := Lib.hid (bl_markR B13.out hg ((((((((O3.out.below (bl_alloc (bl_refl w5) (.cells ([.slice A3 xs.length c3, .int .i64 b, .int .i64 s, .int .i64 g, .int .i64 a, .int .i64 l] : List Value).toArray 26))).below X7.out).below X8.out).below X9.out).below X10.out).below X11.out).below X12.out).below X13.out) (Nat.le_trans (Nat.le_trans (Nat.le_trans (bl_alloc (bl_refl w) (.cells ([.slice A xs.length c, .int .i64 b, .int .i64 s, .int .i64 g, .int .i64 a, .int .i64 l] : List Value).toArray 45)).size X2.out.size) X3.out.size) X4.out.size)); clear ho hg; clear q19 q20 q21 q22 q23 q24)
  go_wp2_with (go_at_call 42; refine (eqInts_same _ _ _ _ ys _ (((((((O4.out.below X8.out).below X9.out).below X10.out).below X11.out).below X12.out).below X13.out).grown G14.out (row_ne' O4.out O3.out (bl_alloc (bl_refl w5) (.cells ([.slice A3 xs.length c3, .int .i64 b, .int .i64 s, .int .i64 g, .int .i64 a, .int .i64 l] : List Value).toArray 26)).size)).rd ((((((((((O2.out.below X5.out).below (bl_alloc (bl_refl w5) (.cells ([.slice A3 xs.length c3, .int .i64 b, .int .i64 s, .int .i64 g, .int .i64 a, .int .i64 l] : List Value).toArray 26))).below X7.out).below X8.out).below X9.out).below X10.out).below X11.out).below X12.out).below X13.out).grown G14.out (row_ne O2.out O3.out (Nat.le_refl _))).rd hyl).mono ?_; rintro e w15 ⟨rfl, hb⟩; have X15 := Lib.hid hb; have B15 := Lib.hid (bl_trans B14.out hb))
  go_wp2_with (go_at_call 44; refine (markRow_any _ _ _ ys _ _ ((((((((O4.out.below X8.out).below X9.out).below X10.out).below X11.out).below X12.out).below X13.out).grown G14.out (row_ne' O4.out O3.out (bl_alloc (bl_refl w5) (.cells ([.slice A3 xs.length c3, .int .i64 b, .int .i64 s, .int .i64 g, .int .i64 a, .int .i64 l] : List Value).toArray 26)).size)).below X15.out) hyl (by omega) (by omega)).mono ?_; rintro e w16 ⟨rfl, ho, hg⟩; have G16 := Lib.hid hg; have M16 := Lib.hid ho; have B16 := Lib.hid (bl_markR B15.out hg ((((((((O4.out.below X8.out).below X9.out).below X10.out).below X11.out).below X12.out).below X13.out).grown G14.out (row_ne' O4.out O3.out (bl_alloc (bl_refl w5) (.cells ([.slice A3 xs.length c3, .int .i64 b, .int .i64 s, .int .i64 g, .int .i64 a, .int .i64 l] : List Value).toArray 26)).size)).below X15.out) (Nat.le_trans (Nat.le_trans (Nat.le_trans (Nat.le_trans (Nat.le_trans (bl_alloc (bl_refl w) (.cells ([.slice A xs.length c, .int .i64 b, .int .i64 s, .int .i64 g, .int .i64 a, .int .i64 l] : List Value).toArray 45)).size X2.out.size) X3.out.size) X4.out.size) X5.out.size) (bl_alloc (bl_refl w5) (.cells ([.slice A3 xs.length c3, .int .i64 b, .int .i64 s, .int .i64 g, .int .i64 a, .int .i64 l] : List Value).toArray 26)).size)); clear ho hg; obtain ⟨q25, _⟩ := ((((((((((((((((NA.out.below X2.out).below X3.out).below X4.out).below X5.out).below (bl_alloc (bl_refl w5) (.cells ([.slice A3 xs.length c3, .int .i64 b, .int .i64 s, .int .i64 g, .int .i64 a, .int .i64 l] : List Value).toArray 26))).below X7.out).below X8.out).below X9.out).below X10.out).below X11.out).below X12.out).below X13.out).grown G14.out (blk_ne_lt O3.out (Nat.lt_of_lt_of_le NA.out.lt (Nat.le_trans (Nat.le_trans X2.out.size X3.out.size) X4.out.size)))).below X15.out).grown G16.out (blk_ne_lt O4.out (Nat.lt_of_lt_of_le NA.out.lt (Nat.le_trans (Nat.le_trans (Nat.le_trans (Nat.le_trans X2.out.size X3.out.size) X4.out.size) X5.out.size) (bl_alloc (bl_refl w5) (.cells ([.slice A3 xs.length c3, .int .i64 b, .int .i64 s, .int .i64 g, .int .i64 a, .int .i64 l] : List Value).toArray 26)).size))))).cell 0 _ rfl; obtain ⟨q26, _⟩ := ((((((((((((((((NA.out.below X2.out).below X3.out).below X4.out).below X5.out).below (bl_alloc (bl_refl w5) (.cells ([.slice A3 xs.length c3, .int .i64 b, .int .i64 s, .int .i64 g, .int .i64 a, .int .i64 l] : List Value).toArray 26))).below X7.out).below X8.out).below X9.out).below X10.out).below X11.out).below X12.out).below X13.out).grown G14.out (blk_ne_lt O3.out (Nat.lt_of_lt_of_le NA.out.lt (Nat.le_trans (Nat.le_trans X2.out.size X3.out.size) X4.out.size)))).below X15.out).grown G16.out (blk_ne_lt O4.out (Nat.lt_of_lt_of_le NA.out.lt (Nat.le_trans (Nat.le_trans (Nat.le_trans (Nat.le_trans X2.out.size X3.out.size) X4.out.size) X5.out.size) (bl_alloc (bl_refl w5) (.cells ([.slice A3 xs.length c3, .int .i64 b, .int .i64 s, .int .i64 g, .int .i64 a, .int .i64 l] : List Value).toArray 26)).size))))).cell 1 _ rfl; obtain ⟨q27, _⟩ := ((((((((((((((((NA.out.below X2.out).below X3.out).below X4.out).below X5.out).below (bl_alloc (bl_refl w5) (.cells ([.slice A3 xs.length c3, .int .i64 b, .int .i64 s, .int .i64 g, .int .i64 a, .int .i64 l] : List Value).toArray 26))).below X7.out).below X8.out).below X9.out).below X10.out).below X11.out).below X12.out).below X13.out).grown G14.out (blk_ne_lt O3.out (Nat.lt_of_lt_of_le NA.out.lt (Nat.le_trans (Nat.le_trans X2.out.size X3.out.size) X4.out.size)))).below X15.out).grown G16.out (blk_ne_lt O4.out (Nat.lt_of_lt_of_le NA.out.lt (Nat.le_trans (Nat.le_trans (Nat.le_trans (Nat.le_trans X2.out.size X3.out.size) X4.out.size) X5.out.size) (bl_alloc (bl_refl w5) (.cells ([.slice A3 xs.length c3, .int .i64 b, .int .i64 s, .int .i64 g, .int .i64 a, .int .i64 l] : List Value).toArray 26)).size))))).cell 2 _ rfl; obtain ⟨q28, _⟩ := ((((((((((((((((NA.out.below X2.out).below X3.out).below X4.out).below X5.out).below (bl_alloc (bl_refl w5) (.cells ([.slice A3 xs.length c3, .int .i64 b, .int .i64 s, .int .i64 g, .int .i64 a, .int .i64 l] : List Value).toArray 26))).below X7.out).below X8.out).below X9.out).below X10.out).below X11.out).below X12.out).below X13.out).grown G14.out (blk_ne_lt O3.out (Nat.lt_of_lt_of_le NA.out.lt (Nat.le_trans (Nat.le_trans X2.out.size X3.out.size) X4.out.size)))).below X15.out).grown G16.out (blk_ne_lt O4.out (Nat.lt_of_lt_of_le NA.out.lt (Nat.le_trans (Nat.le_trans (Nat.le_trans (Nat.le_trans X2.out.size X3.out.size) X4.out.size) X5.out.size) (bl_alloc (bl_refl w5) (.cells ([.slice A3 xs.length c3, .int .i64 b, .int .i64 s, .int .i64 g, .int .i64 a, .int .i64 l] : List Value).toArray 26)).size))))).cell 3 _ rfl; obtain ⟨q29, _⟩ := ((((((((((((((((NA.out.below X2.out).below X3.out).below X4.out).below X5.out).below (bl_alloc (bl_refl w5) (.cells ([.slice A3 xs.length c3, .int .i64 b, .int .i64 s, .int .i64 g, .int .i64 a, .int .i64 l] : List Value).toArray 26))).below X7.out).below X8.out).below X9.out).below X10.out).below X11.out).below X12.out).below X13.out).grown G14.out (blk_ne_lt O3.out (Nat.lt_of_lt_of_le NA.out.lt (Nat.le_trans (Nat.le_trans X2.out.size X3.out.size) X4.out.size)))).below X15.out).grown G16.out (blk_ne_lt O4.out (Nat.lt_of_lt_of_le NA.out.lt (Nat.le_trans (Nat.le_trans (Nat.le_trans (Nat.le_trans X2.out.size X3.out.size) X4.out.size) X5.out.size) (bl_alloc (bl_refl w5) (.cells ([.slice A3 xs.length c3, .int .i64 b, .int .i64 s, .int .i64 g, .int .i64 a, .int .i64 l] : List Value).toArray 26)).size))))).cell 4 _ rfl; obtain ⟨q30, _⟩ := ((((((((((((((((NA.out.below X2.out).below X3.out).below X4.out).below X5.out).below (bl_alloc (bl_refl w5) (.cells ([.slice A3 xs.length c3, .int .i64 b, .int .i64 s, .int .i64 g, .int .i64 a, .int .i64 l] : List Value).toArray 26))).below X7.out).below X8.out).below X9.out).below X10.out).below X11.out).below X12.out).below X13.out).grown G14.out (blk_ne_lt O3.out (Nat.lt_of_lt_of_le NA.out.lt (Nat.le_trans (Nat.le_trans X2.out.size X3.out.size) X4.out.size)))).below X15.out).grown G16.out (blk_ne_lt O4.out (Nat.lt_of_lt_of_le NA.out.lt (Nat.le_trans (Nat.le_trans (Nat.le_trans (Nat.le_trans X2.out.size X3.out.size) X4.out.size) X5.out.size) (bl_alloc (bl_refl w5) (.cells ([.slice A3 xs.length c3, .int .i64 b, .int .i64 s, .int .i64 g, .int .i64 a, .int .i64 l] : List Value).toArray 26)).size))))).cell 5 _ rfl)
  go_wp2_with (go_at_call 45; refine (held_any _ _ 1 ys.length _ M16.out.rd hyl (by omega) (by omega)).mono ?_; rintro e wz ⟨rfl, rfl⟩)
  go_wp2_with (go_at_call 40; refine (KT.out _ B16.out).mono ?_; rintro e w17 ⟨A11, c11, rfl, ho, hb⟩; have X17 := Lib.hid hb; have B17 := Lib.hid (bl_trans B16.out hb); have O11 := Lib.hid (Row.of_own ho); clear q25 q26 q27 q28 q29 q30)
  go_wp2_with (go_at_call 25; refine (K2.out _ _ _ O11.out.rd).mono ?_; rintro e w18 ⟨A12, c12, rfl, ho, hb⟩; have X18 := Lib.hid hb; have B18 := Lib.hid (bl_trans B17.out hb); have O12 := Lib.hid ho)
  go_wp2_with (go_at_call 42; refine (eqInts_same _ _ _ _ ys _ O12.out.rd ((((((((((((((O2.out.below X5.out).below (bl_alloc (bl_refl w5) (.cells ([.slice A3 xs.length c3, .int .i64 b, .int .i64 s, .int .i64 g, .int .i64 a, .int .i64 l] : List Value).toArray 26))).below X7.out).below X8.out).below X9.out).below X10.out).below X11.out).below X12.out).below X13.out).grown G14.out (row_ne O2.out O3.out (Nat.le_refl _))).below X15.out).grown G16.out (row_ne O2.out O4.out (Nat.le_trans X5.out.size (bl_alloc (bl_refl w5) (.cells ([.slice A3 xs.length c3, .int .i64 b, .int .i64 s, .int .i64 g, .int .i64 a, .int .i64 l] : List Value).toArray 26)).size))).below X17.out).below X18.out).rd hyl).mono ?_; rintro e w19 ⟨rfl, hb⟩; have X19 := Lib.hid hb; have B19 := Lib.hid (bl_trans B18.out hb))
  go_wp2_with (go_at_call 45; refine (held_any _ _ 1 ys.length _ (((M16.out.below X17.out).below X18.out).below X19.out).rd hyl (by omega) (by omega)).mono ?_; rintro e wz ⟨rfl, rfl⟩)
  go_ret
  exact ⟨rfl, B19.out⟩

theorem walkSeatsFrom (A : Option Addr) (c : Nat) (xs : List Int) (b s g a l : Int) (n1 : Int) (w : World) (hm : xs.length ≤ maxLen) (hr : Rd w A xs) :
    Calls Try.prog 11 #[tV A xs.length c b s g a l, .int .i64 n1] w (Fresh (.bool true) w) := by
  by_cases h : xs.length ≤ 1048576
  · exact walkSeatsFrom_in A c xs b s g a l n1 w hr h
  · exact walkSeatsFrom_big A c xs b s g a l n1 w hm (by omega)

set_option maxRecDepth 100000 in
theorem fnExactSeatsFrom_lifted (os : Os) (started : os.Started) (H : Type) (enc : TypeId × Value → H) :
    ReturnsInHanded {} Try.checked os 11 .any (Rows.fnExactSeatsFromSpec.pre6 enc Try.prog Try.f11 Rows.fnExactSeatsFromRow.domain false) (Rows.fnExactSeatsFromSpec.post enc Try.prog Try.f11 false true false false) := by
  refine law_lifted started (by kernel_rfl) Try.func11 (by kernel_rfl) rfl (fun ds h => ?_) ?_
    (ChangeSpec.witness6 (enc := enc) (C := Try.checked) false ⟨#[], #[.agg #[.slice none 0 0, .int .i64 0, .int .i64 0, .int .i64 0, .int .i64 0, .int .i64 0], .int .i64 0], []⟩ 8 (by kernel_rfl) (by kernel_rfl) (by kernel_rfl) (by kernel_rfl)) ?_
  · match ds, h with
    | [d0, d1], _ => rfl
  · rw [Try.params11]
    intro t ht
    rcases (show t = 45 ∨ t = 2 by simpa using ht) with rfl | rfl <;> exact ⟨by kernel_rfl, of_decide_eq_true (by kernel_rfl)⟩
  · intro W base args ds ps hval hA
    rw [Try.params11] at hA hval
    obtain ⟨v0, v1, d0, d1, p0, p1, rfl, rfl, rfl, h0, h1⟩ := trodAll_two hA
    obtain ⟨A0, c0, xs0, tb0, ts0, tg0, ta0, tl0, rfl, m0, r0, i0a, i0b, i0c, i0d, i0e⟩ := open_table (hval 0 45 v0 rfl rfl) h0
    obtain ⟨n1, rfl, rfl, rfl, wa1⟩ := open_int Try.underlying2 (hval 1 2 v1 rfl rfl) h1
    exact walkSeatsFrom A0 c0 xs0 tb0 ts0 tg0 ta0 tl0 n1 W m0 r0

/-- SeatsFrom answers as its model, for every table and every number. -/
theorem fnExactSeatsFrom_holds : Rows.FnExactSeatsFromSaid :=
  OpenClaim.holds_of_wide 11 Try.f11 rfl rfl rfl rfl rfl rfl rfl ⟨rfl, rfl, rfl, rfl, rfl⟩ rfl rfl rfl rfl rfl (by kernel_rfl) Try.func11 (by kernel_rfl)
    (of_decide_eq_true (by kernel_rfl)) (by unfold Func.isWrapper; first | (rw [if_pos (by decide +kernel)]; kernel_rfl) | (rw [if_neg (by decide +kernel)]; exact ⟨rfl, rfl⟩))
    (fun os started H enc _ => fnExactSeatsFrom_lifted os started H enc)

end Go.Proofs.Ytnbaemgidfgdaaa
