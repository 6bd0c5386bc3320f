/-
  IsDeck, and the other tests of chapter 3: both texts' walks.
-/
import Derived.Test.YtafifipnfhekiaaSetOf
import Derived.Test.YtafifipnfhekiaaSpecAre
import Derived.Test.YtafifipnfhekiaaDeckPure
namespace Go.Proofs.Ytafifipnfhekiaa
open Go.RowKit
set_option linter.unusedVariables false

theorem nth_ix : nth = ix := rfl
set_option maxRecDepth 100000 in
set_option maxHeartbeats 400000 in
theorem implIsDeck_any (A : Option Addr) (c : Nat) (xs : List Int) (w : World) (hr : Rd w A xs) (hn : xs.length ≤ 4000000) :
    Calls Try.prog 21 #[.slice A xs.length c] w (Same (.bool (deckB xs)) w) := by
  have K := Lib.hid (fun (c : Nat) => implAre_any A c xs w hr hn)
  clear hr
  by_cases h : xs.length = 52
  · have H := Lib.hid (deck_at h)
    have h' : ((xs.length : Int) == 52) = true := by simp; omega
    clear h
    go_enter Try.func21, Try.ntmps21
    go_wp2_with (go_at_call 50; refine (K.out _).mono ?_; rintro e w1 ⟨rfl, rfl⟩)
    go_ret
    exact ⟨ret_bool H.out.symm, rfl⟩
  · have H := Lib.hid (deck_no h)
    have h' : ((xs.length : Int) == 52) = false := by simp; omega
    clear h
    go_enter Try.func21, Try.ntmps21
    go_wp2_with fail
    go_ret
    exact ⟨ret_bool H.out.symm, rfl⟩

set_option maxRecDepth 100000 in
set_option maxHeartbeats 400000 in
theorem specIsDeck_any (A : Option Addr) (c : Nat) (xs : List Int) (w : World) (hr : Rd w A xs) (hn : xs.length ≤ 4000000) :
    Calls Try.prog 32 #[.slice A xs.length c] w (Fresh (.bool (deckB xs)) w) := by
  have K := Lib.hid (fun (c : Nat) => specAre_any A c xs w hr hn)
  clear hr
  rcases hc : cardsB xs with _ | _
  · have H := Lib.hid (deck_no' hc)
    rw [hc] at K
    clear hc
    go_enter Try.func32, Try.ntmps32
    go_wp2_with (go_at_call 62; refine (K.out _).mono ?_; rintro e w1 ⟨rfl, hb⟩; have HB := Lib.hid hb; clear hb)
    go_ret
    exact ⟨ret_bool H.out.symm, HB.out⟩
  · rw [hc] at K
    have H : Hid (deckB xs = decide (xs.length = 52)) := Lib.hid (by unfold deckB; rw [hc, Bool.and_true])
    clear hc
    go_enter Try.func32, Try.ntmps32
    go_wp2_with (go_at_call 62; refine (K.out _).mono ?_; rintro e w1 ⟨rfl, hb⟩; have HB := Lib.hid hb; clear hb)
    go_ret
    refine ⟨ret_bool ?_, HB.out⟩
    rw [H.out]
    by_cases h : xs.length = 52 <;> simp [h] <;> omega

/-- A code of chapter 3: no deck; a number out of its range. -/
def codeD (xs : List Int) (ok : Bool) : Int := if deckB xs = true then (if ok = true then 0 else 2) else 1
theorem codeD_no {xs : List Int} (h : deckB xs = false) (ok : Bool) : codeD xs ok = 1 := by unfold codeD; rw [h]; rfl
theorem codeD_yes {xs : List Int} (h : deckB xs = true) : codeD xs true = 0 := by unfold codeD; rw [h]; rfl
theorem codeD_rng {xs : List Int} (h : deckB xs = true) : codeD xs false = 2 := by unfold codeD; rw [h]; rfl

end Go.Proofs.Ytafifipnfhekiaa
