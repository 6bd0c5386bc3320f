/-
  IsSuited: the walks of the program's and of the model's function.
-/
import Derived.Test.YtjmfecjgomkofabDoorCls
namespace Go.Proofs.YtjmfecjgomkofabDoor
open Go.RowKit
set_option linter.unusedVariables false

/-- What IsSuited answers. -/
abbrev isuV (a b : Bool) (c : Int) : Value := .tuple #[.bool a, .bool b, .int .i64 c]
def isuA (k : Int) : Bool := isCls k && suitedB k
def isuB (k : Int) : Bool := isCls k && pairB k
set_option maxHeartbeats 1000000 in
theorem implIsSuited_any (k : Int) (w : World) : Calls Tryd.prog 18 #[.int .i64 k] w (Same (isuV (isuA k) (isuB k) (clsTC k)) w) := by
  by_cases h : 0 ≤ k ∧ k < 169
  · obtain ⟨h0, h1⟩ := h
    have KI := Lib.hid (fun W => isClass_yes k W h0 h1)
    have KS := Lib.hid (fun W => suited_cls k W h0 h1)
    have KP := Lib.hid (fun W => pair_cls k W h0 h1)
    have e1 : isuA k = suitedB k := by unfold isuA; rw [isCls_yes h0 h1]; rfl
    have e2 : isuB k = pairB k := by unfold isuB; rw [isCls_yes h0 h1]; rfl
    have e3 : clsTC k = 0 := by unfold clsTC; rw [isCls_yes h0 h1]; rfl
    rw [e1, e2, e3]
    generalize suitedB k = a at *
    generalize pairB k = b at *
    clear e1 e2 e3
    go_enter Tryd.func18, Tryd.ntmps18
    go_wp2_with (first | (go_at_call 44; refine (KI.out _).mono ?_; rintro e w1 ⟨rfl, rfl⟩) | (go_at_call 52; refine (KS.out _).mono ?_; rintro e w1 ⟨rfl, rfl⟩) | (go_at_call 53; refine (KP.out _).mono ?_; rintro e w1 ⟨rfl, rfl⟩))
    go_ret3
    exact ⟨rfl, rfl⟩
  · have h' : k < 0 ∨ 169 ≤ k := by omega
    have KI := Lib.hid (fun W => isClass_no k W h')
    have e1 : isuA k = false := by unfold isuA; rw [isCls_no h']; rfl
    have e2 : isuB k = false := by unfold isuB; rw [isCls_no h']; rfl
    have e3 : clsTC k = 2 := by unfold clsTC; rw [isCls_no h']; rfl
    rw [e1, e2, e3]
    clear e1 e2 e3 h h'
    go_enter Tryd.func18, Tryd.ntmps18
    go_wp2_with (go_at_call 44; refine (KI.out _).mono ?_; rintro e w1 ⟨rfl, rfl⟩)
    go_ret3
    exact ⟨rfl, rfl⟩
set_option maxHeartbeats 1000000 in
theorem specIsSuited_any (k : Int) (w : World) : Calls Tryd.prog 19 #[.int .i64 k] w (Same (isuV (isuA k) (isuB k) (clsTC k)) w) := by
  have KI := Lib.hid (fun W => l07Is_any k W)
  by_cases h : 0 ≤ k ∧ k < 169
  · obtain ⟨h0, h1⟩ := h
    rw [isCls_yes h0 h1] at KI
    have e1 : Hid (isuA k = decide (k % 13 < k / 13)) := Lib.hid (by unfold isuA; rw [isCls_yes h0 h1]; rfl)
    have e2 : Hid (isuB k = (k / 13 == k % 13)) := Lib.hid (by unfold isuB pairB; rw [isCls_yes h0 h1, Bool.true_and, Bool.eq_iff_iff]; simp)
    have e3 : clsTC k = 0 := by unfold clsTC; rw [isCls_yes h0 h1]; rfl
    rw [e3]
    clear e3
    go_enter Tryd.func19, Tryd.ntmps19
    go_wp2_with (go_at_call 48; refine (KI.out _).mono ?_; rintro e w1 ⟨rfl, rfl⟩)
    go_ret3
    exact ⟨by rw [e1.out, e2.out]; rfl, rfl⟩
  · have h' : k < 0 ∨ 169 ≤ k := by omega
    rw [isCls_no h'] at KI
    have e1 : isuA k = false := by unfold isuA; rw [isCls_no h']; rfl
    have e2 : isuB k = false := by unfold isuB; rw [isCls_no h']; rfl
    have e3 : clsTC k = 2 := by unfold clsTC; rw [isCls_no h']; rfl
    rw [e1, e2, e3]
    clear e1 e2 e3 h h'
    go_enter Tryd.func19, Tryd.ntmps19
    go_wp2_with (go_at_call 48; refine (KI.out _).mono ?_; rintro e w1 ⟨rfl, rfl⟩)
    go_ret3
    exact ⟨rfl, rfl⟩
end Go.Proofs.YtjmfecjgomkofabDoor
