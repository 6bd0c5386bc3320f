/-
  Classes of two cards: the program's row, column, isClass, isPair, isSuited; the model's l07Is.
-/
import Derived.Test.YtlpkaflmhdgmmaaClsPure
import Derived.Test.YtlpkaflmhdgmmaaBase
namespace Go.Proofs.Ytlpkaflmhdgmmaa
open Go.RowKit
set_option linter.unusedVariables false

set_option maxHeartbeats 400000 in
theorem isClass_yes (k : Int) (w : World) (h0 : 0 ≤ k) (h1 : k < 169) : Calls Try.prog 33 #[.int .i64 k] w (Same (.bool true) w) := by
  go_enter Try.func33, Try.ntmps33
  go_wp2
  go_ret
  first | exact ⟨rfl, rfl⟩ | exact ⟨ret_bool (decide_eq_true h1), rfl⟩
set_option maxHeartbeats 400000 in
theorem isClass_no (k : Int) (w : World) (h : k < 0 ∨ 169 ≤ k) : Calls Try.prog 33 #[.int .i64 k] w (Same (.bool false) w) := by
  by_cases h0 : 0 ≤ k
  · have h1 : 169 ≤ k := by omega
    clear h
    go_enter Try.func33, Try.ntmps33
    go_wp2
    go_ret
    exact ⟨ret_bool (decide_eq_false (by omega)), rfl⟩
  · have h1 : k < 0 := by omega
    clear h h0
    go_enter Try.func33, Try.ntmps33
    go_wp2
    go_ret
    exact ⟨rfl, rfl⟩
set_option maxHeartbeats 400000 in
theorem row_cls (k : Int) (w : World) (h0 : 0 ≤ k) (h1 : k < 169) : Calls Try.prog 39 #[.int .i64 k] w (Same (.int .i64 (k / 13)) w) := by
  go_enter Try.func39, Try.ntmps39
  go_wp2
  go_ret
  exact ⟨rfl, rfl⟩
set_option maxHeartbeats 400000 in
theorem col_cls (k : Int) (w : World) (h0 : 0 ≤ k) (h1 : k < 169) : Calls Try.prog 40 #[.int .i64 k] w (Same (.int .i64 (k % 13)) w) := by
  go_enter Try.func40, Try.ntmps40
  go_wp2
  go_ret
  exact ⟨rfl, rfl⟩
/-- A class is a pair, a suited one. -/
def pairB (k : Int) : Bool := decide (k / 13 = k % 13)
def suitedB (k : Int) : Bool := decide (k % 13 < k / 13)
set_option maxHeartbeats 400000 in
theorem pair_cls (k : Int) (w : World) (h0 : 0 ≤ k) (h1 : k < 169) : Calls Try.prog 42 #[.int .i64 k] w (Same (.bool (pairB k)) w) := by
  have K1 := Lib.hid (fun W => row_cls k W h0 h1)
  have K2 := Lib.hid (fun W => col_cls k W h0 h1)
  have E : Hid (pairB k = (k / 13 == k % 13)) := Lib.hid (by unfold pairB; rw [Bool.eq_iff_iff]; simp)
  generalize k / 13 = a at *
  generalize k % 13 = b at *
  go_enter Try.func42, Try.ntmps42
  go_wp2_with (first | (go_at_call 39; refine (K1.out _).mono ?_; rintro e w1 ⟨rfl, rfl⟩) | (go_at_call 40; refine (K2.out _).mono ?_; rintro e w2 ⟨rfl, rfl⟩))
  go_ret
  exact ⟨ret_bool E.out.symm, rfl⟩
set_option maxHeartbeats 400000 in
theorem suited_cls (k : Int) (w : World) (h0 : 0 ≤ k) (h1 : k < 169) : Calls Try.prog 43 #[.int .i64 k] w (Same (.bool (suitedB k)) w) := by
  have K1 := Lib.hid (fun W => row_cls k W h0 h1)
  have K2 := Lib.hid (fun W => col_cls k W h0 h1)
  have E : Hid (suitedB k = decide (k % 13 < k / 13)) := Lib.hid rfl
  generalize k / 13 = a at *
  generalize k % 13 = b at *
  go_enter Try.func43, Try.ntmps43
  go_wp2_with (first | (go_at_call 39; refine (K1.out _).mono ?_; rintro e w1 ⟨rfl, rfl⟩) | (go_at_call 40; refine (K2.out _).mono ?_; rintro e w2 ⟨rfl, rfl⟩))
  go_ret
  exact ⟨ret_bool E.out.symm, rfl⟩
end Go.Proofs.Ytlpkaflmhdgmmaa
