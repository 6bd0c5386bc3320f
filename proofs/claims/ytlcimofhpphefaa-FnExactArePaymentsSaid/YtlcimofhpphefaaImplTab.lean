/-
  The program's functions of tables: valid ones, blinds, the first seat, the sum of the stacks.
-/
import Derived.Test.YtlcimofhpphefaaTab
import Derived.Test.YtlcimofhpphefaaSpecTab
import Derived.Deep.RegionWith
namespace Go.Proofs.Ytlcimofhpphefaa
open Go.RowKit
set_option linter.unusedVariables false

set_option maxRecDepth 100000 in
set_option maxHeartbeats 400000 in
theorem isSeatCount_any (x : Int) (w : World) : Calls Try.prog 46 #[.int .i64 x] w (Same (.bool (inB x 2 6)) w) := by
  by_cases h : x < 2
  · have H := Lib.hid (inB_lo x 2 6 h)
    go_enter Try.func46, Try.ntmps46
    go_wp2
    go_ret
    exact ⟨ret_bool (by rw [H.out]), rfl⟩
  · by_cases h2 : 6 < x
    · have H := Lib.hid (inB_hi x 2 6 h2)
      go_enter Try.func46, Try.ntmps46
      go_wp2
      go_ret
      exact ⟨ret_bool (by rw [H.out]; exact decide_eq_false (by omega)), rfl⟩
    · have H := Lib.hid (inB_yes x 2 6 (by omega) (by omega))
      go_enter Try.func46, Try.ntmps46
      go_wp2
      go_ret
      exact ⟨ret_bool (by rw [H.out]), rfl⟩
/-- All numbers of a list lie in a range. -/
def rngT (lo : Int) (xs : List Int) : Bool := decide (∀ i, i < xs.length → lo ≤ nth xs i ∧ nth xs i ≤ 100000)
theorem rngT_iff {lo : Int} {xs : List Int} : rngT lo xs = true ↔ ∀ i, i < xs.length → lo ≤ nth xs i ∧ nth xs i ≤ 100000 := by unfold rngT; exact decide_eq_true_iff
theorem rngT_no {lo : Int} {xs : List Int} (k : Nat) (hk : k < xs.length) (h : ¬ (lo ≤ nth xs k ∧ nth xs k ≤ 100000)) : rngT lo xs = false := by
  unfold rngT; exact decide_eq_false fun hh => h (hh k hk)
def seatB (n t : Int) : Bool := decide (0 ≤ t ∧ t < n)
/-- The blinds, the ante and the limit are those of a valid table. -/
def stakesB (s g a l : Int) : Bool := decide (1 ≤ g ∧ g ≤ 100000 ∧ 0 ≤ s ∧ s ≤ g ∧ 0 ≤ a ∧ a ≤ 100000 ∧ 0 ≤ l ∧ l ≤ 2)
theorem stakes_no {s g a l : Int} (h : ¬ (1 ≤ g ∧ g ≤ 100000 ∧ 0 ≤ s ∧ s ≤ g ∧ 0 ≤ a ∧ a ≤ 100000 ∧ 0 ≤ l ∧ l ≤ 2)) : stakesB s g a l = false := by unfold stakesB; exact decide_eq_false h
theorem tabB_parts {xs : List Int} {b s g a l : Int} : tabB xs b s g a l = (inB xs.length 2 6 && (rngT 1 xs && (seatB xs.length b && stakesB s g a l))) := by
  unfold tabB inB rngT seatB stakesB
  rw [← Bool.decide_and, ← Bool.decide_and, ← Bool.decide_and]
  exact decide_eq_decide.2 ⟨fun h => ⟨⟨by omega, by omega⟩, h.2.2.1, ⟨by omega, by omega⟩, by omega, by omega, by omega, by omega, by omega, by omega, by omega, by omega⟩, fun h => ⟨by omega, by omega, h.2.1, by omega, by omega, by omega, by omega, by omega, by omega, by omega, by omega, by omega, by omega⟩⟩
set_option maxRecDepth 100000 in
set_option maxHeartbeats 400000 in
theorem minT_any (a b : Int) (w : World) :
    Calls Try.prog 76 #[.int .i64 a, .int .i64 b] w (Same (.int .i64 (minT a b)) w) := by
  by_cases h : b < a
  · have H : Hid (minT a b = b) := Lib.hid (minT_lt a b h)
    go_enter Try.func76, Try.ntmps76
    go_wp2_with fail
    go_ret
    exact ⟨ret_int H.out.symm, rfl⟩
  · have H : Hid (minT a b = a) := Lib.hid (minT_ge a b h)
    go_enter Try.func76, Try.ntmps76
    go_wp2_with fail
    go_ret
    exact ⟨ret_int H.out.symm, rfl⟩
end Go.Proofs.Ytlcimofhpphefaa
