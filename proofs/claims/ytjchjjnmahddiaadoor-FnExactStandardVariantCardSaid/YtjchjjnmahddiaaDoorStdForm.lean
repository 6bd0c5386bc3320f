/-
  A standard variant is a value of six fields; the laws' comparison of variants.
-/
import Derived.Test.YtjchjjnmahddiaaDoorStdFns
import Derived.Test.YtjchjjnmahddiaaDoorNamedFns
namespace Go.Proofs.YtjchjjnmahddiaaDoor
open Go.RowKit
set_option linter.unusedVariables false

/-- A standard variant is a value of six fields. -/
theorem std_form (n : Int) : ∃ (h l m b : Int) (hi : Bool) (lo : Int), stdV n = .agg #[.int .i64 h, .int .i64 l, .int .i64 m, .int .i64 b, .bool hi, .int .i64 lo] ∧ (stdC n = 0 → isVarB h l m b hi lo = true) ∧ i64B m := by
  rcases std_cases n with ⟨h, ho⟩ | rfl | rfl | rfl | rfl | rfl | rfl | rfl | rfl
  · refine ⟨0, 0, 0, 0, false, 0, by unfold stdV; rw [h]; rfl, fun e => ?_, by unfold i64B; omega⟩
    unfold stdC at e; rw [h] at e; cases e
  · exact ⟨_, _, _, _, _, _, rfl, fun _ => by decide, by unfold i64B; decide⟩
  · exact ⟨_, _, _, _, _, _, rfl, fun _ => by decide, by unfold i64B; decide⟩
  · exact ⟨_, _, _, _, _, _, rfl, fun _ => by decide, by unfold i64B; decide⟩
  · exact ⟨_, _, _, _, _, _, rfl, fun _ => by decide, by unfold i64B; decide⟩
  · exact ⟨_, _, _, _, _, _, rfl, fun _ => by decide, by unfold i64B; decide⟩
  · exact ⟨_, _, _, _, _, _, rfl, fun _ => by decide, by unfold i64B; decide⟩
  · exact ⟨_, _, _, _, _, _, rfl, fun _ => by decide, by unfold i64B; decide⟩
  · exact ⟨_, _, _, _, _, _, rfl, fun _ => by decide, by unfold i64B; decide⟩
set_option maxRecDepth 100000 in
set_option maxHeartbeats 1000000 in
theorem eqVariant_any (h l m b : Int) (hi : Bool) (lo : Int) (w : World) :
    Calls Tryd.prog 11 #[.agg #[.int .i64 h, .int .i64 l, .int .i64 m, .int .i64 b, .bool hi, .int .i64 lo], .agg #[.int .i64 h, .int .i64 l, .int .i64 m, .int .i64 b, .bool hi, .int .i64 lo]] w (Fresh (.bool true) w) := by
  go_enter Tryd.func11, Tryd.ntmps11
  go_wp2_with fail
  go_ret
  exact ⟨rfl, bl_alloc (bl_alloc (bl_refl _) _) _⟩

end Go.Proofs.YtjchjjnmahddiaaDoor
