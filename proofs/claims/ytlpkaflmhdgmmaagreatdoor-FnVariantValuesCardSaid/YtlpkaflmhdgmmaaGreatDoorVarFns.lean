/-
  The functions that say whether a variant is valid: the program's and the model's.
-/
import Derived.Test.YtlpkaflmhdgmmaaGreatDoorVariant
import Derived.BigQuiet
namespace Go.Proofs.YtlpkaflmhdgmmaaGreatDoor
open Go.RowKit
set_option linter.unusedVariables false

def minJ (a b : Int) : Int := if b < a then b else a
theorem minJ_le (a b : Int) : minJ a b ≤ a ∧ minJ a b ≤ b ∧ (minJ a b = a ∨ minJ a b = b) := by unfold minJ; split <;> omega
set_option maxHeartbeats 400000 in
theorem minimumJ_any (a b : Int) (w : World) :
    Calls Tryz.prog 63 #[.int .i64 a, .int .i64 b] w (Same (.int .i64 (minJ a b)) w) := by
  by_cases h : b < a
  · have H : Hid (minJ a b = b) := Lib.hid (by unfold minJ; rw [if_pos h])
    go_enter Tryz.func63, Tryz.ntmps63
    go_wp2_with fail
    go_ret
    exact ⟨ret_int H.out.symm, rfl⟩
  · have H : Hid (minJ a b = a) := Lib.hid (by unfold minJ; rw [if_neg h])
    go_enter Tryz.func63, Tryz.ntmps63
    go_wp2_with fail
    go_ret
    exact ⟨ret_int H.out.symm, rfl⟩
set_option maxRecDepth 100000 in
set_option maxHeartbeats 1000000 in
theorem toVariant_any (h l m b : Int) (hi : Bool) (lo : Int) (w : World) :
    Calls Tryz.prog 17 #[vV h l m b hi lo] w (Fresh (vV h l m b hi lo) w) := by
  unfold vV
  have B0 := Lib.hid (bl_alloc (bl_alloc (bl_alloc (bl_refl w) (.cells #[.int .i64 h, .int .i64 l, .int .i64 m, .int .i64 b, .bool hi, .int .i64 lo] 38)) (.cells #[.int .i64 0, .int .i64 0, .int .i64 0, .int .i64 0, .bool false, .int .i64 0] 25)) (.cells #[.int .i64 0, .int .i64 0, .int .i64 0, .int .i64 0, .bool false, .int .i64 0] 25))
  go_enter Tryz.func17, Tryz.ntmps17
  go_wp2_with fail
  exact bodyPost_ret (v := .agg #[.int .i64 h, .int .i64 l, .int .i64 m, .int .i64 b, .bool hi, .int .i64 lo]) (by simp [results, Tryz.results17, go_sem]) rfl ⟨rfl, bl_alloc (bl_alloc (bl_alloc (bl_refl _) _) _) _⟩
set_option maxRecDepth 100000 in
set_option maxHeartbeats 4000000 in
theorem hasCards_any (h l m b : Int) (hi : Bool) (lo : Int) (w : World) (hm64 : i64B m) :
    Calls Tryz.prog 71 #[vV h l m b hi lo] w (Fresh (.bool (hasCardsB h l m b)) w) := by
  have KM := Lib.hid (fun W : World => minimumJ_any h 5 W)
  obtain ⟨j1, j2, j3⟩ := minJ_le h 5
  have B0 := Lib.hid (bl_alloc (bl_refl w) (.cells #[.int .i64 h, .int .i64 l, .int .i64 m, .int .i64 b, .bool hi, .int .i64 lo] 25))
  unfold i64B at hm64
  unfold vV
  generalize minJ h 5 = q at *
  by_cases c0 : h < 1
  · have HB : Hid (hasCardsB h l m b = false) := Lib.hid (hasCards_no.2 (by omega))
    clear j1 j2 j3 hm64
    go_enter Tryz.func71, Tryz.ntmps71
    go_wp2_with fail
    go_ret
    exact ⟨ret_bool HB.out.symm, B0.out⟩
  by_cases c1 : 7 < h
  · have HB : Hid (hasCardsB h l m b = false) := Lib.hid (hasCards_no.2 (by omega))
    clear j1 j2 j3 hm64
    go_enter Tryz.func71, Tryz.ntmps71
    go_wp2_with fail
    go_ret
    exact ⟨ret_bool HB.out.symm, B0.out⟩
  by_cases c2 : b < 0
  · have HB : Hid (hasCardsB h l m b = false) := Lib.hid (hasCards_no.2 (by omega))
    clear j1 j2 j3 hm64
    go_enter Tryz.func71, Tryz.ntmps71
    go_wp2_with fail
    go_ret
    exact ⟨ret_bool HB.out.symm, B0.out⟩
  by_cases c3 : 5 < b
  · have HB : Hid (hasCardsB h l m b = false) := Lib.hid (hasCards_no.2 (by omega))
    clear j1 j2 j3 hm64
    go_enter Tryz.func71, Tryz.ntmps71
    go_wp2_with fail
    go_ret
    exact ⟨ret_bool HB.out.symm, B0.out⟩
  by_cases c4 : l < 0
  · have HB : Hid (hasCardsB h l m b = false) := Lib.hid (hasCards_no.2 (by omega))
    have d0 : decide (h < 1) = false := decide_eq_false c0
    have d1 : decide (7 < h) = false := decide_eq_false c1
    have d2 : decide (b < 0) = false := decide_eq_false c2
    have d3 : decide (5 < b) = false := decide_eq_false c3
    have d4 : decide (l < 0) = true := decide_eq_true c4
    clear j1 j2 j3 hm64
    go_enter Tryz.func71, Tryz.ntmps71
    go_wp2_with fail
    go_quiet ((go_at_call 63; exact quiet_left (KM.out _)))
    go_wp2_with fail
    go_ret
    exact ⟨ret_bool HB.out.symm, bl_drewN B0.out _⟩
  by_cases c5 : m < l
  · have HB : Hid (hasCardsB h l m b = false) := Lib.hid (hasCards_no.2 (by omega))
    have d0 : decide (h < 1) = false := decide_eq_false c0
    have d1 : decide (7 < h) = false := decide_eq_false c1
    have d2 : decide (b < 0) = false := decide_eq_false c2
    have d3 : decide (5 < b) = false := decide_eq_false c3
    have d4 : decide (l < 0) = false := decide_eq_false c4
    have d5 : decide (m < l) = true := decide_eq_true c5
    clear j1 j2 j3 hm64
    go_enter Tryz.func71, Tryz.ntmps71
    go_wp2_with fail
    go_quiet ((go_at_call 63; exact quiet_left (KM.out _)))
    go_wp2_with fail
    go_ret
    exact ⟨ret_bool HB.out.symm, bl_drewN B0.out _⟩
  by_cases c6 : q < m
  · have HB : Hid (hasCardsB h l m b = false) := Lib.hid (hasCards_no.2 (by omega))
    have d0 : decide (h < 1) = false := decide_eq_false c0
    have d1 : decide (7 < h) = false := decide_eq_false c1
    have d2 : decide (b < 0) = false := decide_eq_false c2
    have d3 : decide (5 < b) = false := decide_eq_false c3
    have d4 : decide (l < 0) = false := decide_eq_false c4
    have d5 : decide (m < l) = false := decide_eq_false c5
    have d6 : decide (q < m) = true := decide_eq_true c6
    clear j1 j2 j3 hm64
    go_enter Tryz.func71, Tryz.ntmps71
    go_wp2_with fail
    go_quiet ((go_at_call 63; exact quiet_left (KM.out _)))
    go_wp2_with fail
    go_ret
    exact ⟨ret_bool HB.out.symm, bl_drewN B0.out _⟩
  have d0 : decide (h < 1) = false := decide_eq_false c0
  have d1 : decide (7 < h) = false := decide_eq_false c1
  have d2 : decide (b < 0) = false := decide_eq_false c2
  have d3 : decide (5 < b) = false := decide_eq_false c3
  have d4 : decide (l < 0) = false := decide_eq_false c4
  have d5 : decide (m < l) = false := decide_eq_false c5
  have d6 : decide (q < m) = false := decide_eq_false c6
  have HB : Hid (hasCardsB h l m b = decide (5 - m ≤ b)) := Lib.hid (by
    by_cases e : 5 - m ≤ b
    · rw [decide_eq_true e]; exact hasCards_iff.2 (by omega)
    · rw [decide_eq_false e]; exact hasCards_no.2 (by omega))
  have eW : IntKind.i64.wrap (5 - m) = 5 - m := IntWalk.i64_in _ (by omega)
  clear j1 j2 j3
  go_enter Tryz.func71, Tryz.ntmps71
  go_wp2_with fail
  go_quiet ((go_at_call 63; exact quiet_left (KM.out _)))
  go_wp2_with fail
  go_ret
  exact ⟨ret_bool HB.out.symm, bl_drewN B0.out _⟩
set_option maxRecDepth 100000 in
set_option maxHeartbeats 4000000 in
theorem hasValues_any (h l m b : Int) (hi : Bool) (lo : Int) (w : World) :
    Calls Tryz.prog 72 #[vV h l m b hi lo] w (Fresh (.bool (hasValuesB hi lo)) w) := by
  have B0 := Lib.hid (bl_alloc (bl_refl w) (.cells #[.int .i64 h, .int .i64 l, .int .i64 m, .int .i64 b, .bool hi, .int .i64 lo] 25))
  unfold vV
  by_cases c0 : lo = 0
  · subst c0
    have HB : Hid (hasValuesB hi 0 = hi) := Lib.hid (by unfold hasValuesB; simp)
    go_enter Tryz.func72, Tryz.ntmps72
    go_wp2_with fail
    go_ret
    exact ⟨ret_bool HB.out.symm, B0.out⟩
  by_cases c1 : lo = 1
  · subst c1
    have HB : Hid (hasValuesB hi 1 = true) := Lib.hid (by unfold hasValuesB; simp)
    go_enter Tryz.func72, Tryz.ntmps72
    go_wp2_with fail
    go_ret
    exact ⟨ret_bool HB.out.symm, B0.out⟩
  by_cases c2 : lo = 2
  · subst c2
    have HB : Hid (hasValuesB hi 2 = !hi) := Lib.hid (by unfold hasValuesB; simp)
    go_enter Tryz.func72, Tryz.ntmps72
    go_wp2_with fail
    go_ret
    exact ⟨ret_bool HB.out.symm, B0.out⟩
  by_cases c3 : lo = 3
  · subst c3
    have HB : Hid (hasValuesB hi 3 = !hi) := Lib.hid (by unfold hasValuesB; simp)
    go_enter Tryz.func72, Tryz.ntmps72
    go_wp2_with fail
    go_ret
    exact ⟨ret_bool HB.out.symm, B0.out⟩
  have HB : Hid (hasValuesB hi lo = false) := Lib.hid (by unfold hasValuesB; simp [c0, c1, c2, c3])
  go_enter Tryz.func72, Tryz.ntmps72
  go_wp2_with fail
  go_ret
  exact ⟨ret_bool HB.out.symm, B0.out⟩
set_option maxRecDepth 100000 in
set_option maxHeartbeats 4000000 in
theorem implIsVar_any (h l m b : Int) (hi : Bool) (lo : Int) (w : World) (hm64 : i64B m) :
    Calls Tryz.prog 47 #[vV h l m b hi lo] w (Fresh (.bool (isVarB h l m b hi lo)) w) := by
  have B0 := Lib.hid (bl_alloc (bl_refl w) (.cells #[.int .i64 h, .int .i64 l, .int .i64 m, .int .i64 b, .bool hi, .int .i64 lo] 25))
  have K1 := Lib.hid (fun W : World => hasCards_any h l m b hi lo W hm64)
  have K2 := Lib.hid (fun W : World => hasValues_any h l m b hi lo W)
  clear hm64
  unfold isVarB
  unfold vV at *
  generalize hasCardsB h l m b = p at *
  generalize hasValuesB hi lo = q at *
  cases p
  all_goals
    go_enter Tryz.func47, Tryz.ntmps47
    go_wp2_with (first
      | (go_at_call 71; refine (K1.out _).mono ?_; rintro e w1 ⟨rfl, hb1⟩; obtain ⟨hcw1, hfw1⟩ := bcell hb1; have B1 := Lib.hid (bl_trans B0.out hb1); clear hb1)
      | (go_at_call 72; refine (K2.out _).mono ?_; rintro e w2 ⟨rfl, hb2⟩; have B2 := Lib.hid (bl_trans B1.out hb2); clear hb2))
    go_ret
  · exact ⟨rfl, B1.out⟩
  · exact ⟨ret_bool (by simp), B2.out⟩
set_option maxRecDepth 100000 in
set_option maxHeartbeats 8000000 in
theorem specIsVar_any (h l m b : Int) (hi : Bool) (lo : Int) (w : World) (hm64 : i64B m) :
    Calls Tryz.prog 54 #[vV h l m b hi lo] w (Fresh (.bool (isVarB h l m b hi lo)) w) := by
  have B0 := Lib.hid (bl_alloc (bl_refl w) (.cells #[.int .i64 h, .int .i64 l, .int .i64 m, .int .i64 b, .bool hi, .int .i64 lo] 25))
  unfold i64B at hm64
  unfold vV
  by_cases hq : h < 5
  · have hq2 : ¬ 5 < h := by omega
    by_cases c0 : (1 : Int) ≤ h ∧ (h : Int) ≤ 7
    rotate_left
    · have HB : Hid (isVarB h l m b hi lo = false) := Lib.hid (by
        unfold isVarB; rw [hasCards_no.2 (by omega), Bool.false_and])
      have o0 : outB h 1 7 := by unfold outB; omega
      have S0 := Lib.hid (fun W : World => specIn_no h 1 7 W o0)
      clear hm64 o0 c0
      go_enter Tryz.func54, Tryz.ntmps54
      go_wp2_with (go_at_call 77; (first | (with_reducible refine (S0.out _).mono ?_) | (exfalso; omega)); rintro e w1 ⟨rfl, rfl⟩)
      go_ret
      exact ⟨ret_bool HB.out.symm, B0.out⟩
    by_cases c1 : 0 ≤ b ∧ b ≤ 5
    rotate_left
    · have HB : Hid (isVarB h l m b hi lo = false) := Lib.hid (by
        unfold isVarB; rw [hasCards_no.2 (by omega), Bool.false_and])
      have o1 : outB b 0 5 := by unfold outB; omega
      have S0 := Lib.hid (fun W : World => specIn_yes h 1 7 W c0.1 c0.2)
      have S1 := Lib.hid (fun W : World => specIn_no b 0 5 W o1)
      clear hm64 o1 c0 c1
      go_enter Tryz.func54, Tryz.ntmps54
      go_wp2_with (go_at_call 77; (first | (with_reducible refine (S0.out _).mono ?_) | (with_reducible refine (S1.out _).mono ?_) | (exfalso; omega)); rintro e w1 ⟨rfl, rfl⟩)
      go_ret
      exact ⟨ret_bool HB.out.symm, B0.out⟩
    by_cases c2 : 0 ≤ lo ∧ lo ≤ 3
    rotate_left
    · have HB : Hid (isVarB h l m b hi lo = false) := Lib.hid (by
        unfold isVarB hasValuesB; rw [if_neg (by omega), if_neg (by omega), if_neg (by omega), if_neg (by omega), Bool.and_false])
      have o2 : outB lo 0 3 := by unfold outB; omega
      have S0 := Lib.hid (fun W : World => specIn_yes h 1 7 W c0.1 c0.2)
      have S1 := Lib.hid (fun W : World => specIn_yes b 0 5 W c1.1 c1.2)
      have S2 := Lib.hid (fun W : World => specIn_no lo 0 3 W o2)
      clear hm64 o2 c0 c1 c2
      go_enter Tryz.func54, Tryz.ntmps54
      go_wp2_with (go_at_call 77; (first | (with_reducible refine (S0.out _).mono ?_) | (with_reducible refine (S1.out _).mono ?_) | (with_reducible refine (S2.out _).mono ?_) | (exfalso; omega)); rintro e w1 ⟨rfl, rfl⟩)
      go_ret
      exact ⟨ret_bool HB.out.symm, B0.out⟩
    by_cases c3 : 0 ≤ m ∧ m ≤ h
    rotate_left
    · have HB : Hid (isVarB h l m b hi lo = false) := Lib.hid (by
        unfold isVarB; rw [hasCards_no.2 (by omega), Bool.false_and])
      have o3 : outB m 0 h := by unfold outB; omega
      have S0 := Lib.hid (fun W : World => specIn_yes h 1 7 W c0.1 c0.2)
      have S1 := Lib.hid (fun W : World => specIn_yes b 0 5 W c1.1 c1.2)
      have S2 := Lib.hid (fun W : World => specIn_yes lo 0 3 W c2.1 c2.2)
      have S3 := Lib.hid (fun W : World => specIn_no m 0 h W o3)
      clear hm64 o3 c0 c1 c2 c3
      go_enter Tryz.func54, Tryz.ntmps54
      go_wp2_with (go_at_call 77; (first | (with_reducible refine (S0.out _).mono ?_) | (with_reducible refine (S1.out _).mono ?_) | (with_reducible refine (S2.out _).mono ?_) | (with_reducible refine (S3.out _).mono ?_) | (exfalso; omega)); rintro e w1 ⟨rfl, rfl⟩)
      go_ret
      exact ⟨ret_bool HB.out.symm, B0.out⟩
    by_cases c4 : 0 ≤ l ∧ l ≤ m
    rotate_left
    · have HB : Hid (isVarB h l m b hi lo = false) := Lib.hid (by
        unfold isVarB; rw [hasCards_no.2 (by omega), Bool.false_and])
      have o4 : outB l 0 m := by unfold outB; omega
      have S0 := Lib.hid (fun W : World => specIn_yes h 1 7 W c0.1 c0.2)
      have S1 := Lib.hid (fun W : World => specIn_yes b 0 5 W c1.1 c1.2)
      have S2 := Lib.hid (fun W : World => specIn_yes lo 0 3 W c2.1 c2.2)
      have S3 := Lib.hid (fun W : World => specIn_yes m 0 h W c3.1 c3.2)
      have S4 := Lib.hid (fun W : World => specIn_no l 0 m W o4)
      clear hm64 o4 c0 c1 c2 c3 c4
      go_enter Tryz.func54, Tryz.ntmps54
      go_wp2_with (go_at_call 77; (first | (with_reducible refine (S0.out _).mono ?_) | (with_reducible refine (S1.out _).mono ?_) | (with_reducible refine (S2.out _).mono ?_) | (with_reducible refine (S3.out _).mono ?_) | (with_reducible refine (S4.out _).mono ?_) | (exfalso; omega)); rintro e w1 ⟨rfl, rfl⟩)
      go_ret
      exact ⟨ret_bool HB.out.symm, B0.out⟩
    have eW : IntKind.i64.wrap (5 - m) = 5 - m := IntWalk.i64_in _ (by omega)
    have S0 := Lib.hid (fun W : World => specIn_yes h 1 7 W c0.1 c0.2)
    have S1 := Lib.hid (fun W : World => specIn_yes b 0 5 W c1.1 c1.2)
    have S2 := Lib.hid (fun W : World => specIn_yes lo 0 3 W c2.1 c2.2)
    have S3 := Lib.hid (fun W : World => specIn_yes m 0 h W c3.1 c3.2)
    have S4 := Lib.hid (fun W : World => specIn_yes l 0 m W c4.1 c4.2)
    by_cases c5 : b < 5 - m
    · have HB : Hid (isVarB h l m b hi lo = false) := Lib.hid (by unfold isVarB; rw [hasCards_no.2 (by omega), Bool.false_and])
      clear hm64 c0 c1 c2 c3 c4
      go_enter Tryz.func54, Tryz.ntmps54
      go_wp2_with (go_at_call 77; (first | (with_reducible refine (S0.out _).mono ?_) | (with_reducible refine (S1.out _).mono ?_) | (with_reducible refine (S2.out _).mono ?_) | (with_reducible refine (S3.out _).mono ?_) | (with_reducible refine (S4.out _).mono ?_) | (exfalso; omega)); rintro e w1 ⟨rfl, rfl⟩)
      go_ret
      exact ⟨ret_bool (by rw [HB.out]), B0.out⟩
    have HC : hasCardsB h l m b = true := hasCards_iff.2 (by omega)
    by_cases e0 : lo = 0
    · subst e0
      have HB : Hid (isVarB h l m b hi 0 = hi) := Lib.hid (by unfold isVarB; rw [HC]; unfold hasValuesB; simp)
      clear hm64 c0 c1 c2 c3 c4 HC
      cases hi
      all_goals
        go_enter Tryz.func54, Tryz.ntmps54
        go_wp2_with (go_at_call 77; (first | (with_reducible refine (S0.out _).mono ?_) | (with_reducible refine (S1.out _).mono ?_) | (with_reducible refine (S2.out _).mono ?_) | (with_reducible refine (S3.out _).mono ?_) | (with_reducible refine (S4.out _).mono ?_) | (exfalso; omega)); rintro e w1 ⟨rfl, rfl⟩)
        go_ret
        exact ⟨ret_bool (by first | (rw [HB.out]; done) | (rw [HB.out]; simp)), B0.out⟩
    by_cases e1 : lo = 1
    · subst e1
      have HB : Hid (isVarB h l m b hi 1 = true) := Lib.hid (by unfold isVarB; rw [HC]; unfold hasValuesB; simp)
      clear hm64 c0 c1 c2 c3 c4 HC
      cases hi
      all_goals
        go_enter Tryz.func54, Tryz.ntmps54
        go_wp2_with (go_at_call 77; (first | (with_reducible refine (S0.out _).mono ?_) | (with_reducible refine (S1.out _).mono ?_) | (with_reducible refine (S2.out _).mono ?_) | (with_reducible refine (S3.out _).mono ?_) | (with_reducible refine (S4.out _).mono ?_) | (exfalso; omega)); rintro e w1 ⟨rfl, rfl⟩)
        go_ret
        exact ⟨ret_bool (by first | (rw [HB.out]; done) | (rw [HB.out]; simp)), B0.out⟩
    by_cases e2 : lo = 2
    · subst e2
      have HB : Hid (isVarB h l m b hi 2 = !hi) := Lib.hid (by unfold isVarB; rw [HC]; unfold hasValuesB; simp)
      clear hm64 c0 c1 c2 c3 c4 HC
      cases hi
      all_goals
        go_enter Tryz.func54, Tryz.ntmps54
        go_wp2_with (go_at_call 77; (first | (with_reducible refine (S0.out _).mono ?_) | (with_reducible refine (S1.out _).mono ?_) | (with_reducible refine (S2.out _).mono ?_) | (with_reducible refine (S3.out _).mono ?_) | (with_reducible refine (S4.out _).mono ?_) | (exfalso; omega)); rintro e w1 ⟨rfl, rfl⟩)
        go_ret
        exact ⟨ret_bool (by first | (rw [HB.out]; done) | (rw [HB.out]; simp)), B0.out⟩
    obtain rfl : lo = 3 := by omega
    have HB : Hid (isVarB h l m b hi 3 = !hi) := Lib.hid (by unfold isVarB; rw [HC]; unfold hasValuesB; simp)
    clear hm64 c0 c1 c2 c3 c4 HC
    cases hi
    all_goals
      go_enter Tryz.func54, Tryz.ntmps54
      go_wp2_with (go_at_call 77; (first | (with_reducible refine (S0.out _).mono ?_) | (with_reducible refine (S1.out _).mono ?_) | (with_reducible refine (S2.out _).mono ?_) | (with_reducible refine (S3.out _).mono ?_) | (with_reducible refine (S4.out _).mono ?_) | (exfalso; omega)); rintro e w1 ⟨rfl, rfl⟩)
      go_ret
      exact ⟨ret_bool (by first | (rw [HB.out]; done) | (rw [HB.out]; simp)), B0.out⟩
  · by_cases hq2 : 5 < h
    · by_cases c0 : (1 : Int) ≤ h ∧ (h : Int) ≤ 7
      rotate_left
      · have HB : Hid (isVarB h l m b hi lo = false) := Lib.hid (by
          unfold isVarB; rw [hasCards_no.2 (by omega), Bool.false_and])
        have o0 : outB h 1 7 := by unfold outB; omega
        have S0 := Lib.hid (fun W : World => specIn_no h 1 7 W o0)
        clear hm64 o0 c0
        go_enter Tryz.func54, Tryz.ntmps54
        go_wp2_with (go_at_call 77; (first | (with_reducible refine (S0.out _).mono ?_) | (exfalso; omega)); rintro e w1 ⟨rfl, rfl⟩)
        go_ret
        exact ⟨ret_bool HB.out.symm, B0.out⟩
      by_cases c1 : 0 ≤ b ∧ b ≤ 5
      rotate_left
      · have HB : Hid (isVarB h l m b hi lo = false) := Lib.hid (by
          unfold isVarB; rw [hasCards_no.2 (by omega), Bool.false_and])
        have o1 : outB b 0 5 := by unfold outB; omega
        have S0 := Lib.hid (fun W : World => specIn_yes h 1 7 W c0.1 c0.2)
        have S1 := Lib.hid (fun W : World => specIn_no b 0 5 W o1)
        clear hm64 o1 c0 c1
        go_enter Tryz.func54, Tryz.ntmps54
        go_wp2_with (go_at_call 77; (first | (with_reducible refine (S0.out _).mono ?_) | (with_reducible refine (S1.out _).mono ?_) | (exfalso; omega)); rintro e w1 ⟨rfl, rfl⟩)
        go_ret
        exact ⟨ret_bool HB.out.symm, B0.out⟩
      by_cases c2 : 0 ≤ lo ∧ lo ≤ 3
      rotate_left
      · have HB : Hid (isVarB h l m b hi lo = false) := Lib.hid (by
          unfold isVarB hasValuesB; rw [if_neg (by omega), if_neg (by omega), if_neg (by omega), if_neg (by omega), Bool.and_false])
        have o2 : outB lo 0 3 := by unfold outB; omega
        have S0 := Lib.hid (fun W : World => specIn_yes h 1 7 W c0.1 c0.2)
        have S1 := Lib.hid (fun W : World => specIn_yes b 0 5 W c1.1 c1.2)
        have S2 := Lib.hid (fun W : World => specIn_no lo 0 3 W o2)
        clear hm64 o2 c0 c1 c2
        go_enter Tryz.func54, Tryz.ntmps54
        go_wp2_with (go_at_call 77; (first | (with_reducible refine (S0.out _).mono ?_) | (with_reducible refine (S1.out _).mono ?_) | (with_reducible refine (S2.out _).mono ?_) | (exfalso; omega)); rintro e w1 ⟨rfl, rfl⟩)
        go_ret
        exact ⟨ret_bool HB.out.symm, B0.out⟩
      by_cases c3 : 0 ≤ m ∧ m ≤ 5
      rotate_left
      · have HB : Hid (isVarB h l m b hi lo = false) := Lib.hid (by
          unfold isVarB; rw [hasCards_no.2 (by omega), Bool.false_and])
        have o3 : outB m 0 5 := by unfold outB; omega
        have S0 := Lib.hid (fun W : World => specIn_yes h 1 7 W c0.1 c0.2)
        have S1 := Lib.hid (fun W : World => specIn_yes b 0 5 W c1.1 c1.2)
        have S2 := Lib.hid (fun W : World => specIn_yes lo 0 3 W c2.1 c2.2)
        have S3 := Lib.hid (fun W : World => specIn_no m 0 5 W o3)
        clear hm64 o3 c0 c1 c2 c3
        go_enter Tryz.func54, Tryz.ntmps54
        go_wp2_with (go_at_call 77; (first | (with_reducible refine (S0.out _).mono ?_) | (with_reducible refine (S1.out _).mono ?_) | (with_reducible refine (S2.out _).mono ?_) | (with_reducible refine (S3.out _).mono ?_) | (exfalso; omega)); rintro e w1 ⟨rfl, rfl⟩)
        go_ret
        exact ⟨ret_bool HB.out.symm, B0.out⟩
      by_cases c4 : 0 ≤ l ∧ l ≤ m
      rotate_left
      · have HB : Hid (isVarB h l m b hi lo = false) := Lib.hid (by
          unfold isVarB; rw [hasCards_no.2 (by omega), Bool.false_and])
        have o4 : outB l 0 m := by unfold outB; omega
        have S0 := Lib.hid (fun W : World => specIn_yes h 1 7 W c0.1 c0.2)
        have S1 := Lib.hid (fun W : World => specIn_yes b 0 5 W c1.1 c1.2)
        have S2 := Lib.hid (fun W : World => specIn_yes lo 0 3 W c2.1 c2.2)
        have S3 := Lib.hid (fun W : World => specIn_yes m 0 5 W c3.1 c3.2)
        have S4 := Lib.hid (fun W : World => specIn_no l 0 m W o4)
        clear hm64 o4 c0 c1 c2 c3 c4
        go_enter Tryz.func54, Tryz.ntmps54
        go_wp2_with (go_at_call 77; (first | (with_reducible refine (S0.out _).mono ?_) | (with_reducible refine (S1.out _).mono ?_) | (with_reducible refine (S2.out _).mono ?_) | (with_reducible refine (S3.out _).mono ?_) | (with_reducible refine (S4.out _).mono ?_) | (exfalso; omega)); rintro e w1 ⟨rfl, rfl⟩)
        go_ret
        exact ⟨ret_bool HB.out.symm, B0.out⟩
      have eW : IntKind.i64.wrap (5 - m) = 5 - m := IntWalk.i64_in _ (by omega)
      have S0 := Lib.hid (fun W : World => specIn_yes h 1 7 W c0.1 c0.2)
      have S1 := Lib.hid (fun W : World => specIn_yes b 0 5 W c1.1 c1.2)
      have S2 := Lib.hid (fun W : World => specIn_yes lo 0 3 W c2.1 c2.2)
      have S3 := Lib.hid (fun W : World => specIn_yes m 0 5 W c3.1 c3.2)
      have S4 := Lib.hid (fun W : World => specIn_yes l 0 m W c4.1 c4.2)
      by_cases c5 : b < 5 - m
      · have HB : Hid (isVarB h l m b hi lo = false) := Lib.hid (by unfold isVarB; rw [hasCards_no.2 (by omega), Bool.false_and])
        clear hm64 c0 c1 c2 c3 c4
        go_enter Tryz.func54, Tryz.ntmps54
        go_wp2_with (go_at_call 77; (first | (with_reducible refine (S0.out _).mono ?_) | (with_reducible refine (S1.out _).mono ?_) | (with_reducible refine (S2.out _).mono ?_) | (with_reducible refine (S3.out _).mono ?_) | (with_reducible refine (S4.out _).mono ?_) | (exfalso; omega)); rintro e w1 ⟨rfl, rfl⟩)
        go_ret
        exact ⟨ret_bool (by rw [HB.out]), B0.out⟩
      have HC : hasCardsB h l m b = true := hasCards_iff.2 (by omega)
      by_cases e0 : lo = 0
      · subst e0
        have HB : Hid (isVarB h l m b hi 0 = hi) := Lib.hid (by unfold isVarB; rw [HC]; unfold hasValuesB; simp)
        clear hm64 c0 c1 c2 c3 c4 HC
        cases hi
        all_goals
          go_enter Tryz.func54, Tryz.ntmps54
          go_wp2_with (go_at_call 77; (first | (with_reducible refine (S0.out _).mono ?_) | (with_reducible refine (S1.out _).mono ?_) | (with_reducible refine (S2.out _).mono ?_) | (with_reducible refine (S3.out _).mono ?_) | (with_reducible refine (S4.out _).mono ?_) | (exfalso; omega)); rintro e w1 ⟨rfl, rfl⟩)
          go_ret
          exact ⟨ret_bool (by first | (rw [HB.out]; done) | (rw [HB.out]; simp)), B0.out⟩
      by_cases e1 : lo = 1
      · subst e1
        have HB : Hid (isVarB h l m b hi 1 = true) := Lib.hid (by unfold isVarB; rw [HC]; unfold hasValuesB; simp)
        clear hm64 c0 c1 c2 c3 c4 HC
        cases hi
        all_goals
          go_enter Tryz.func54, Tryz.ntmps54
          go_wp2_with (go_at_call 77; (first | (with_reducible refine (S0.out _).mono ?_) | (with_reducible refine (S1.out _).mono ?_) | (with_reducible refine (S2.out _).mono ?_) | (with_reducible refine (S3.out _).mono ?_) | (with_reducible refine (S4.out _).mono ?_) | (exfalso; omega)); rintro e w1 ⟨rfl, rfl⟩)
          go_ret
          exact ⟨ret_bool (by first | (rw [HB.out]; done) | (rw [HB.out]; simp)), B0.out⟩
      by_cases e2 : lo = 2
      · subst e2
        have HB : Hid (isVarB h l m b hi 2 = !hi) := Lib.hid (by unfold isVarB; rw [HC]; unfold hasValuesB; simp)
        clear hm64 c0 c1 c2 c3 c4 HC
        cases hi
        all_goals
          go_enter Tryz.func54, Tryz.ntmps54
          go_wp2_with (go_at_call 77; (first | (with_reducible refine (S0.out _).mono ?_) | (with_reducible refine (S1.out _).mono ?_) | (with_reducible refine (S2.out _).mono ?_) | (with_reducible refine (S3.out _).mono ?_) | (with_reducible refine (S4.out _).mono ?_) | (exfalso; omega)); rintro e w1 ⟨rfl, rfl⟩)
          go_ret
          exact ⟨ret_bool (by first | (rw [HB.out]; done) | (rw [HB.out]; simp)), B0.out⟩
      obtain rfl : lo = 3 := by omega
      have HB : Hid (isVarB h l m b hi 3 = !hi) := Lib.hid (by unfold isVarB; rw [HC]; unfold hasValuesB; simp)
      clear hm64 c0 c1 c2 c3 c4 HC
      cases hi
      all_goals
        go_enter Tryz.func54, Tryz.ntmps54
        go_wp2_with (go_at_call 77; (first | (with_reducible refine (S0.out _).mono ?_) | (with_reducible refine (S1.out _).mono ?_) | (with_reducible refine (S2.out _).mono ?_) | (with_reducible refine (S3.out _).mono ?_) | (with_reducible refine (S4.out _).mono ?_) | (exfalso; omega)); rintro e w1 ⟨rfl, rfl⟩)
        go_ret
        exact ⟨ret_bool (by first | (rw [HB.out]; done) | (rw [HB.out]; simp)), B0.out⟩
    · obtain rfl : h = 5 := by omega
      clear hq hq2
      by_cases c0 : (1 : Int) ≤ 5 ∧ (5 : Int) ≤ 7
      rotate_left
      · have HB : Hid (isVarB 5 l m b hi lo = false) := Lib.hid (by
          unfold isVarB; rw [hasCards_no.2 (by omega), Bool.false_and])
        have o0 : outB 5 1 7 := by unfold outB; omega
        have S0 := Lib.hid (fun W : World => specIn_no 5 1 7 W o0)
        clear hm64 o0 c0
        go_enter Tryz.func54, Tryz.ntmps54
        go_wp2_with (go_at_call 77; (first | (with_reducible refine (S0.out _).mono ?_) | (exfalso; omega)); rintro e w1 ⟨rfl, rfl⟩)
        go_ret
        exact ⟨ret_bool HB.out.symm, B0.out⟩
      by_cases c1 : 0 ≤ b ∧ b ≤ 5
      rotate_left
      · have HB : Hid (isVarB 5 l m b hi lo = false) := Lib.hid (by
          unfold isVarB; rw [hasCards_no.2 (by omega), Bool.false_and])
        have o1 : outB b 0 5 := by unfold outB; omega
        have S0 := Lib.hid (fun W : World => specIn_yes 5 1 7 W c0.1 c0.2)
        have S1 := Lib.hid (fun W : World => specIn_no b 0 5 W o1)
        clear hm64 o1 c0 c1
        go_enter Tryz.func54, Tryz.ntmps54
        go_wp2_with (go_at_call 77; (first | (with_reducible refine (S0.out _).mono ?_) | (with_reducible refine (S1.out _).mono ?_) | (exfalso; omega)); rintro e w1 ⟨rfl, rfl⟩)
        go_ret
        exact ⟨ret_bool HB.out.symm, B0.out⟩
      by_cases c2 : 0 ≤ lo ∧ lo ≤ 3
      rotate_left
      · have HB : Hid (isVarB 5 l m b hi lo = false) := Lib.hid (by
          unfold isVarB hasValuesB; rw [if_neg (by omega), if_neg (by omega), if_neg (by omega), if_neg (by omega), Bool.and_false])
        have o2 : outB lo 0 3 := by unfold outB; omega
        have S0 := Lib.hid (fun W : World => specIn_yes 5 1 7 W c0.1 c0.2)
        have S1 := Lib.hid (fun W : World => specIn_yes b 0 5 W c1.1 c1.2)
        have S2 := Lib.hid (fun W : World => specIn_no lo 0 3 W o2)
        clear hm64 o2 c0 c1 c2
        go_enter Tryz.func54, Tryz.ntmps54
        go_wp2_with (go_at_call 77; (first | (with_reducible refine (S0.out _).mono ?_) | (with_reducible refine (S1.out _).mono ?_) | (with_reducible refine (S2.out _).mono ?_) | (exfalso; omega)); rintro e w1 ⟨rfl, rfl⟩)
        go_ret
        exact ⟨ret_bool HB.out.symm, B0.out⟩
      by_cases c3 : 0 ≤ m ∧ m ≤ 5
      rotate_left
      · have HB : Hid (isVarB 5 l m b hi lo = false) := Lib.hid (by
          unfold isVarB; rw [hasCards_no.2 (by omega), Bool.false_and])
        have o3 : outB m 0 5 := by unfold outB; omega
        have S0 := Lib.hid (fun W : World => specIn_yes 5 1 7 W c0.1 c0.2)
        have S1 := Lib.hid (fun W : World => specIn_yes b 0 5 W c1.1 c1.2)
        have S2 := Lib.hid (fun W : World => specIn_yes lo 0 3 W c2.1 c2.2)
        have S3 := Lib.hid (fun W : World => specIn_no m 0 5 W o3)
        clear hm64 o3 c0 c1 c2 c3
        go_enter Tryz.func54, Tryz.ntmps54
        go_wp2_with (go_at_call 77; (first | (with_reducible refine (S0.out _).mono ?_) | (with_reducible refine (S1.out _).mono ?_) | (with_reducible refine (S2.out _).mono ?_) | (with_reducible refine (S3.out _).mono ?_) | (exfalso; omega)); rintro e w1 ⟨rfl, rfl⟩)
        go_ret
        exact ⟨ret_bool HB.out.symm, B0.out⟩
      by_cases c4 : 0 ≤ l ∧ l ≤ m
      rotate_left
      · have HB : Hid (isVarB 5 l m b hi lo = false) := Lib.hid (by
          unfold isVarB; rw [hasCards_no.2 (by omega), Bool.false_and])
        have o4 : outB l 0 m := by unfold outB; omega
        have S0 := Lib.hid (fun W : World => specIn_yes 5 1 7 W c0.1 c0.2)
        have S1 := Lib.hid (fun W : World => specIn_yes b 0 5 W c1.1 c1.2)
        have S2 := Lib.hid (fun W : World => specIn_yes lo 0 3 W c2.1 c2.2)
        have S3 := Lib.hid (fun W : World => specIn_yes m 0 5 W c3.1 c3.2)
        have S4 := Lib.hid (fun W : World => specIn_no l 0 m W o4)
        clear hm64 o4 c0 c1 c2 c3 c4
        go_enter Tryz.func54, Tryz.ntmps54
        go_wp2_with (go_at_call 77; (first | (with_reducible refine (S0.out _).mono ?_) | (with_reducible refine (S1.out _).mono ?_) | (with_reducible refine (S2.out _).mono ?_) | (with_reducible refine (S3.out _).mono ?_) | (with_reducible refine (S4.out _).mono ?_) | (exfalso; omega)); rintro e w1 ⟨rfl, rfl⟩)
        go_ret
        exact ⟨ret_bool HB.out.symm, B0.out⟩
      have eW : IntKind.i64.wrap (5 - m) = 5 - m := IntWalk.i64_in _ (by omega)
      have S0 := Lib.hid (fun W : World => specIn_yes 5 1 7 W c0.1 c0.2)
      have S1 := Lib.hid (fun W : World => specIn_yes b 0 5 W c1.1 c1.2)
      have S2 := Lib.hid (fun W : World => specIn_yes lo 0 3 W c2.1 c2.2)
      have S3 := Lib.hid (fun W : World => specIn_yes m 0 5 W c3.1 c3.2)
      have S4 := Lib.hid (fun W : World => specIn_yes l 0 m W c4.1 c4.2)
      by_cases c5 : b < 5 - m
      · have HB : Hid (isVarB 5 l m b hi lo = false) := Lib.hid (by unfold isVarB; rw [hasCards_no.2 (by omega), Bool.false_and])
        clear hm64 c0 c1 c2 c3 c4
        go_enter Tryz.func54, Tryz.ntmps54
        go_wp2_with (go_at_call 77; (first | (with_reducible refine (S0.out _).mono ?_) | (with_reducible refine (S1.out _).mono ?_) | (with_reducible refine (S2.out _).mono ?_) | (with_reducible refine (S3.out _).mono ?_) | (with_reducible refine (S4.out _).mono ?_) | (exfalso; omega)); rintro e w1 ⟨rfl, rfl⟩)
        go_ret
        exact ⟨ret_bool (by rw [HB.out]), B0.out⟩
      have HC : hasCardsB 5 l m b = true := hasCards_iff.2 (by omega)
      by_cases e0 : lo = 0
      · subst e0
        have HB : Hid (isVarB 5 l m b hi 0 = hi) := Lib.hid (by unfold isVarB; rw [HC]; unfold hasValuesB; simp)
        clear hm64 c0 c1 c2 c3 c4 HC
        cases hi
        all_goals
          go_enter Tryz.func54, Tryz.ntmps54
          go_wp2_with (go_at_call 77; (first | (with_reducible refine (S0.out _).mono ?_) | (with_reducible refine (S1.out _).mono ?_) | (with_reducible refine (S2.out _).mono ?_) | (with_reducible refine (S3.out _).mono ?_) | (with_reducible refine (S4.out _).mono ?_) | (exfalso; omega)); rintro e w1 ⟨rfl, rfl⟩)
          go_ret
          exact ⟨ret_bool (by first | (rw [HB.out]; done) | (rw [HB.out]; simp)), B0.out⟩
      by_cases e1 : lo = 1
      · subst e1
        have HB : Hid (isVarB 5 l m b hi 1 = true) := Lib.hid (by unfold isVarB; rw [HC]; unfold hasValuesB; simp)
        clear hm64 c0 c1 c2 c3 c4 HC
        cases hi
        all_goals
          go_enter Tryz.func54, Tryz.ntmps54
          go_wp2_with (go_at_call 77; (first | (with_reducible refine (S0.out _).mono ?_) | (with_reducible refine (S1.out _).mono ?_) | (with_reducible refine (S2.out _).mono ?_) | (with_reducible refine (S3.out _).mono ?_) | (with_reducible refine (S4.out _).mono ?_) | (exfalso; omega)); rintro e w1 ⟨rfl, rfl⟩)
          go_ret
          exact ⟨ret_bool (by first | (rw [HB.out]; done) | (rw [HB.out]; simp)), B0.out⟩
      by_cases e2 : lo = 2
      · subst e2
        have HB : Hid (isVarB 5 l m b hi 2 = !hi) := Lib.hid (by unfold isVarB; rw [HC]; unfold hasValuesB; simp)
        clear hm64 c0 c1 c2 c3 c4 HC
        cases hi
        all_goals
          go_enter Tryz.func54, Tryz.ntmps54
          go_wp2_with (go_at_call 77; (first | (with_reducible refine (S0.out _).mono ?_) | (with_reducible refine (S1.out _).mono ?_) | (with_reducible refine (S2.out _).mono ?_) | (with_reducible refine (S3.out _).mono ?_) | (with_reducible refine (S4.out _).mono ?_) | (exfalso; omega)); rintro e w1 ⟨rfl, rfl⟩)
          go_ret
          exact ⟨ret_bool (by first | (rw [HB.out]; done) | (rw [HB.out]; simp)), B0.out⟩
      obtain rfl : lo = 3 := by omega
      have HB : Hid (isVarB 5 l m b hi 3 = !hi) := Lib.hid (by unfold isVarB; rw [HC]; unfold hasValuesB; simp)
      clear hm64 c0 c1 c2 c3 c4 HC
      cases hi
      all_goals
        go_enter Tryz.func54, Tryz.ntmps54
        go_wp2_with (go_at_call 77; (first | (with_reducible refine (S0.out _).mono ?_) | (with_reducible refine (S1.out _).mono ?_) | (with_reducible refine (S2.out _).mono ?_) | (with_reducible refine (S3.out _).mono ?_) | (with_reducible refine (S4.out _).mono ?_) | (exfalso; omega)); rintro e w1 ⟨rfl, rfl⟩)
        go_ret
        exact ⟨ret_bool (by first | (rw [HB.out]; done) | (rw [HB.out]; simp)), B0.out⟩
end Go.Proofs.YtlpkaflmhdgmmaaGreatDoor
