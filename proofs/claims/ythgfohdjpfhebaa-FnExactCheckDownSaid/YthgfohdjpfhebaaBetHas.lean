/-
  The program: whether an action is one of the choices; legal actions.
-/
import Derived.Test.YthgfohdjpfhebaaBetRules
namespace Go.Proofs.Ythgfohdjpfhebaa
open Go.RowKit
set_option linter.unusedVariables false

set_option maxRecDepth 100000 in
set_option maxHeartbeats 1000000 in
theorem hasFold_any (c : Bool) (ca le mo x : Int) (w : World) :
    Calls Try.prog 149 #[.agg #[.bool c, .int .i64 ca, .int .i64 le, .int .i64 mo], .int .i64 x] w (Fresh (.bool (legV c ca le mo 0 x)) w) := by
  rw [legV_0]
  have N0 := blk_new w 30 [.bool c, .int .i64 ca, .int .i64 le, .int .i64 mo]
  obtain ⟨q0, -⟩ := N0.cell 0 _ rfl
  obtain ⟨q1, -⟩ := N0.cell 1 _ rfl
  obtain ⟨q2, -⟩ := N0.cell 2 _ rfl
  obtain ⟨q3, -⟩ := N0.cell 3 _ rfl
  have B := Lib.hid (bl_alloc (bl_refl w) (.cells ([.bool c, .int .i64 ca, .int .i64 le, .int .i64 mo] : List Value).toArray 30))
  clear N0
  go_enter Try.func149, Try.ntmps149
  go_wp2_with fail
  go_ret
  exact ⟨ret_bool (by first | rfl | simp), B.out⟩
set_option maxRecDepth 100000 in
set_option maxHeartbeats 1000000 in
theorem hasCheck_any (c : Bool) (ca le mo x : Int) (w : World) :
    Calls Try.prog 151 #[.agg #[.bool c, .int .i64 ca, .int .i64 le, .int .i64 mo], .int .i64 x] w (Fresh (.bool (legV c ca le mo 1 x)) w) := by
  rw [legV_1]
  have N0 := blk_new w 30 [.bool c, .int .i64 ca, .int .i64 le, .int .i64 mo]
  obtain ⟨q0, -⟩ := N0.cell 0 _ rfl
  obtain ⟨q1, -⟩ := N0.cell 1 _ rfl
  obtain ⟨q2, -⟩ := N0.cell 2 _ rfl
  obtain ⟨q3, -⟩ := N0.cell 3 _ rfl
  have B := Lib.hid (bl_alloc (bl_refl w) (.cells ([.bool c, .int .i64 ca, .int .i64 le, .int .i64 mo] : List Value).toArray 30))
  clear N0
  rcases x0 : (x == 0) with _ | _
  all_goals
    go_enter Try.func151, Try.ntmps151
    go_wp2_with fail
    go_ret
    exact ⟨ret_bool (by first | rfl | simp), B.out⟩
set_option maxRecDepth 100000 in
set_option maxHeartbeats 1000000 in
theorem hasCall_any (c : Bool) (ca le mo x : Int) (w : World) :
    Calls Try.prog 153 #[.agg #[.bool c, .int .i64 ca, .int .i64 le, .int .i64 mo], .int .i64 x] w (Fresh (.bool (legV c ca le mo 2 x)) w) := by
  rw [legV_2]
  have N0 := blk_new w 30 [.bool c, .int .i64 ca, .int .i64 le, .int .i64 mo]
  obtain ⟨q0, -⟩ := N0.cell 0 _ rfl
  obtain ⟨q1, -⟩ := N0.cell 1 _ rfl
  obtain ⟨q2, -⟩ := N0.cell 2 _ rfl
  obtain ⟨q3, -⟩ := N0.cell 3 _ rfl
  have B := Lib.hid (bl_alloc (bl_refl w) (.cells ([.bool c, .int .i64 ca, .int .i64 le, .int .i64 mo] : List Value).toArray 30))
  clear N0
  rcases x0 : (x == 0) with _ | _
  all_goals
    go_enter Try.func153, Try.ntmps153
    go_wp2_with fail
    go_ret
    exact ⟨ret_bool (by first | rfl | simp), B.out⟩
set_option maxRecDepth 100000 in
set_option maxHeartbeats 1000000 in
theorem hasRaise_any (c : Bool) (ca le mo x : Int) (w : World) :
    Calls Try.prog 155 #[.agg #[.bool c, .int .i64 ca, .int .i64 le, .int .i64 mo], .int .i64 x] w (Fresh (.bool (legV c ca le mo 3 x)) w) := by
  rw [legV_3]
  have N0 := blk_new w 30 [.bool c, .int .i64 ca, .int .i64 le, .int .i64 mo]
  obtain ⟨q0, -⟩ := N0.cell 0 _ rfl
  obtain ⟨q1, -⟩ := N0.cell 1 _ rfl
  obtain ⟨q2, -⟩ := N0.cell 2 _ rfl
  obtain ⟨q3, -⟩ := N0.cell 3 _ rfl
  have B := Lib.hid (bl_alloc (bl_refl w) (.cells ([.bool c, .int .i64 ca, .int .i64 le, .int .i64 mo] : List Value).toArray 30))
  clear N0
  by_cases m0 : 0 < mo
  · have m1 : decide (0 < mo) = true := decide_eq_true m0
    rw [m1]
    clear m0
    by_cases m2 : le ≤ x
    · have m3 : decide (le ≤ x) = true := decide_eq_true m2
      rw [m3]
      clear m2
      go_enter Try.func155, Try.ntmps155
      go_wp2_with fail
      go_ret
      exact ⟨ret_bool (by first | rfl | simp), B.out⟩
    · have m3 : decide (le ≤ x) = false := decide_eq_false m2
      rw [m3]
      clear m2
      go_enter Try.func155, Try.ntmps155
      go_wp2_with fail
      go_ret
      exact ⟨ret_bool (by first | rfl | simp), B.out⟩
  · have m1 : decide (0 < mo) = false := decide_eq_false m0
    rw [m1]
    clear m0
    go_enter Try.func155, Try.ntmps155
    go_wp2_with fail
    go_ret
    exact ⟨ret_bool (by first | rfl | simp), B.out⟩
end Go.Proofs.Ythgfohdjpfhebaa
