/-
  Lists of counts: how many cards have each key.
-/
import Derived.Test.YtcbfmfkahgfjkaaDoorList
namespace Go.Proofs.YtcbfmfkahgfjkaaDoor
open Go.RowKit
set_option linter.unusedVariables false

/-- How many cards have each key. -/
def cntL (n : Nat) (key : Int → Int) (xs : List Int) : List Int := (List.range n).map (fun j : Nat => (cnt (fun x => key x == (j : Int)) xs : Int))
theorem cntL_length (n : Nat) (key : Int → Int) (xs : List Int) : (cntL n key xs).length = n := by simp [cntL]
theorem cntL_nth (n : Nat) (key : Int → Int) (xs : List Int) (j : Nat) (h : j < n) : nth (cntL n key xs) j = (cnt (fun x => key x == (j : Int)) xs : Int) := by
  rw [nth_eq _ _ (by rw [cntL_length]; exact h)]; simp [cntL]
theorem cnt_congr {p q : Int → Bool} {xs : List Int} (h : ∀ x ∈ xs, p x = q x) : cnt p xs = cnt q xs := by unfold cnt; rw [List.filter_congr h]

end Go.Proofs.YtcbfmfkahgfjkaaDoor
