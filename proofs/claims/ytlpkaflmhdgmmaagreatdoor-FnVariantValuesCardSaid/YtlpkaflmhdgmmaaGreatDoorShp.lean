/-
  Shapes by value, literally, and five of their tests.
-/
import Derived.Test.YtlpkaflmhdgmmaaGreatDoorBase
namespace Go.Proofs.YtlpkaflmhdgmmaaGreatDoor
open Go.RowKit
set_option linter.unusedVariables false

/-- A shape by value, literally. -/
abbrev shp (k0 k1 k2 k3 k4 m n : Int) (o : Bool) : Value := .agg #[.int .i64 k0, .int .i64 k1, .int .i64 k2, .int .i64 k3, .int .i64 k4, .int .i64 m, .int .i64 n, .bool o]
set_option maxRecDepth 100000 in
set_option maxHeartbeats 1000000 in
theorem hasPair_any (k0 k1 k2 k3 k4 : Int) (m n : Nat) (o : Bool) (w : World) :
    Calls Tryz.prog 104 #[shp k0 k1 k2 k3 k4 m n o] w (Fresh (.bool (decide (2 ≤ m))) w) := by
  go_enter Tryz.func104, Tryz.ntmps104
  go_wp2_with fail
  go_ret
  exact ⟨ret_bool (by rw [Bool.eq_iff_iff]; simp <;> omega), bl_alloc (bl_refl w) _⟩
set_option maxRecDepth 100000 in
set_option maxHeartbeats 1000000 in
theorem hasTriple_any (k0 k1 k2 k3 k4 : Int) (m n : Nat) (o : Bool) (w : World) :
    Calls Tryz.prog 106 #[shp k0 k1 k2 k3 k4 m n o] w (Fresh (.bool (decide (3 ≤ m))) w) := by
  go_enter Tryz.func106, Tryz.ntmps106
  go_wp2_with fail
  go_ret
  exact ⟨ret_bool (by rw [Bool.eq_iff_iff]; simp <;> omega), bl_alloc (bl_refl w) _⟩
set_option maxRecDepth 100000 in
set_option maxHeartbeats 1000000 in
theorem hasQuadruple_any (k0 k1 k2 k3 k4 : Int) (m n : Nat) (o : Bool) (w : World) :
    Calls Tryz.prog 110 #[shp k0 k1 k2 k3 k4 m n o] w (Fresh (.bool (decide (m = 4))) w) := by
  go_enter Tryz.func110, Tryz.ntmps110
  go_wp2_with fail
  go_ret
  exact ⟨ret_bool (by rw [Bool.eq_iff_iff]; simp <;> omega), bl_alloc (bl_refl w) _⟩
set_option maxRecDepth 100000 in
set_option maxHeartbeats 1000000 in
theorem hasTwoPairs_any (k0 k1 k2 k3 k4 : Int) (m n : Nat) (o : Bool) (w : World) :
    Calls Tryz.prog 105 #[shp k0 k1 k2 k3 k4 m n o] w (Fresh (.bool (decide (2 ≤ m ∧ 2 ≤ n))) w) := by
  by_cases h : 2 ≤ m
  · have h' : (2 : Int) ≤ (m : Int) := by omega
    go_enter Tryz.func105, Tryz.ntmps105
    go_wp2_with fail
    go_ret
    exact ⟨ret_bool (by first | (rw [Bool.eq_iff_iff]; done) | (rw [Bool.eq_iff_iff]; simp [h] <;> omega)), bl_alloc (bl_refl w) _⟩
  · have h' : ¬ (2 : Int) ≤ (m : Int) := by omega
    go_enter Tryz.func105, Tryz.ntmps105
    go_wp2_with fail
    go_ret
    exact ⟨ret_bool (by first | (rw [Bool.eq_iff_iff]; done) | (rw [Bool.eq_iff_iff]; simp [h] <;> omega)), bl_alloc (bl_refl w) _⟩
set_option maxRecDepth 100000 in
set_option maxHeartbeats 1000000 in
theorem isFullHouse_any (k0 k1 k2 k3 k4 : Int) (m n : Nat) (o : Bool) (w : World) :
    Calls Tryz.prog 109 #[shp k0 k1 k2 k3 k4 m n o] w (Fresh (.bool (decide (m = 3 ∧ n = 2))) w) := by
  by_cases h : m = 3
  · have h' : ((m : Int) == 3) = true := by subst h; rfl
    go_enter Tryz.func109, Tryz.ntmps109
    go_wp2_with fail
    go_ret
    exact ⟨ret_bool (by first | (rw [Bool.eq_iff_iff]; done) | (rw [Bool.eq_iff_iff]; simp [h] <;> omega)), bl_alloc (bl_refl w) _⟩
  · have h' : ((m : Int) == 3) = false := by simp <;> omega
    go_enter Tryz.func109, Tryz.ntmps109
    go_wp2_with fail
    go_ret
    exact ⟨ret_bool (by first | (rw [Bool.eq_iff_iff]; done) | (rw [Bool.eq_iff_iff]; simp [h] <;> omega)), bl_alloc (bl_refl w) _⟩
end Go.Proofs.YtlpkaflmhdgmmaaGreatDoor
