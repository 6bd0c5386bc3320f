/-
  Classes of two cards: the program's row, column, isClass, isPair, isSuited; the model's l07Is.
-/
import Derived.Test.YtjmfecjgomkofabDoorClsPure
import Derived.Test.YtjmfecjgomkofabDoorBase
namespace Go.Proofs.YtjmfecjgomkofabDoor
open Go.RowKit
set_option linter.unusedVariables false

set_option maxHeartbeats 400000 in
theorem isClass_yes (k : Int) (w : World) (h0 : 0 ≤ k) (h1 : k < 169) : Calls Tryd.prog 44 #[.int .i64 k] w (Same (.bool true) w) := by
  go_enter Tryd.func44, Tryd.ntmps44
  go_wp2
  go_ret
  first | exact ⟨rfl, rfl⟩ | exact ⟨ret_bool (decide_eq_true h1), rfl⟩
set_option maxHeartbeats 400000 in
theorem isClass_no (k : Int) (w : World) (h : k < 0 ∨ 169 ≤ k) : Calls Tryd.prog 44 #[.int .i64 k] w (Same (.bool false) w) := by
  by_cases h0 : 0 ≤ k
  · have h1 : 169 ≤ k := by omega
    clear h
    go_enter Tryd.func44, Tryd.ntmps44
    go_wp2
    go_ret
    exact ⟨ret_bool (decide_eq_false (by omega)), rfl⟩
  · have h1 : k < 0 := by omega
    clear h h0
    go_enter Tryd.func44, Tryd.ntmps44
    go_wp2
    go_ret
    exact ⟨rfl, rfl⟩
set_option maxHeartbeats 400000 in
theorem row_cls (k : Int) (w : World) (h0 : 0 ≤ k) (h1 : k < 169) : Calls Tryd.prog 84 #[.int .i64 k] w (Same (.int .i64 (k / 13)) w) := by
  go_enter Tryd.func84, Tryd.ntmps84
  go_wp2
  go_ret
  exact ⟨rfl, rfl⟩
set_option maxHeartbeats 400000 in
theorem col_cls (k : Int) (w : World) (h0 : 0 ≤ k) (h1 : k < 169) : Calls Tryd.prog 85 #[.int .i64 k] w (Same (.int .i64 (k % 13)) w) := by
  go_enter Tryd.func85, Tryd.ntmps85
  go_wp2
  go_ret
  exact ⟨rfl, rfl⟩
/-- A class is a pair, a suited one. -/
def pairB (k : Int) : Bool := decide (k / 13 = k % 13)
def suitedB (k : Int) : Bool := decide (k % 13 < k / 13)
set_option maxHeartbeats 400000 in
theorem pair_cls (k : Int) (w : World) (h0 : 0 ≤ k) (h1 : k < 169) : Calls Tryd.prog 53 #[.int .i64 k] w (Same (.bool (pairB k)) w) := by
  have K1 := Lib.hid (fun W => row_cls k W h0 h1)
  have K2 := Lib.hid (fun W => col_cls k W h0 h1)
  have E : Hid (pairB k = (k / 13 == k % 13)) := Lib.hid (by unfold pairB; rw [Bool.eq_iff_iff]; simp)
  generalize k / 13 = a at *
  generalize k % 13 = b at *
  go_enter Tryd.func53, Tryd.ntmps53
  go_wp2_with (first | (go_at_call 84; refine (K1.out _).mono ?_; rintro e w1 ⟨rfl, rfl⟩) | (go_at_call 85; refine (K2.out _).mono ?_; rintro e w2 ⟨rfl, rfl⟩))
  go_ret
  exact ⟨ret_bool E.out.symm, rfl⟩
set_option maxHeartbeats 400000 in
theorem suited_cls (k : Int) (w : World) (h0 : 0 ≤ k) (h1 : k < 169) : Calls Tryd.prog 52 #[.int .i64 k] w (Same (.bool (suitedB k)) w) := by
  have K1 := Lib.hid (fun W => row_cls k W h0 h1)
  have K2 := Lib.hid (fun W => col_cls k W h0 h1)
  have E : Hid (suitedB k = decide (k % 13 < k / 13)) := Lib.hid rfl
  generalize k / 13 = a at *
  generalize k % 13 = b at *
  go_enter Tryd.func52, Tryd.ntmps52
  go_wp2_with (first | (go_at_call 84; refine (K1.out _).mono ?_; rintro e w1 ⟨rfl, rfl⟩) | (go_at_call 85; refine (K2.out _).mono ?_; rintro e w2 ⟨rfl, rfl⟩))
  go_ret
  exact ⟨ret_bool E.out.symm, rfl⟩
set_option maxHeartbeats 400000 in
theorem l07Is_any (k : Int) (w : World) : Calls Tryd.prog 48 #[.int .i64 k] w (Same (.bool (isCls k)) w) := by
  have K : Hid (∀ W, Calls Tryd.prog 81 #[.int .i64 k, .int .i64 0, .int .i64 168] W (Same (.bool (isCls k)) W)) := Lib.hid (fun W => by
    have h := specIn_any k 0 168 W
    have e : inB k 0 168 = isCls k := by unfold inB isCls; rw [decide_eq_decide]; omega
    rw [e] at h
    exact h)
  generalize isCls k = b at *
  go_enter Tryd.func48, Tryd.ntmps48
  go_wp2_with (go_at_call 81; refine (K.out _).mono ?_; rintro e w1 ⟨rfl, rfl⟩)
  go_ret
  exact ⟨rfl, rfl⟩
end Go.Proofs.YtjmfecjgomkofabDoor
