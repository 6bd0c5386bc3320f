/-
  Variants: which are valid, and how many hands they have. Plain facts.
-/
import Derived.WalkKit
namespace Go.Proofs.YtlpkaflmhdgmmaaGreatDoor
set_option linter.unusedVariables false

def hasCardsB (h l m b : Int) : Bool := decide (1 ≤ h) && decide (h ≤ 7) && decide (0 ≤ b) && decide (b ≤ 5) && decide (0 ≤ l) && decide (l ≤ m) && decide (m ≤ h) && decide (m ≤ 5) && decide (5 - m ≤ b)
def hasValuesB (hi : Bool) (lo : Int) : Bool := if lo = 0 then hi else if lo = 1 then true else if lo = 2 then !hi else if lo = 3 then !hi else false
def isVarB (h l m b : Int) (hi : Bool) (lo : Int) : Bool := hasCardsB h l m b && hasValuesB hi lo
theorem hasCards_iff {h l m b : Int} : hasCardsB h l m b = true ↔ (1 ≤ h ∧ h ≤ 7) ∧ (0 ≤ b ∧ b ≤ 5) ∧ (0 ≤ l ∧ l ≤ m) ∧ (m ≤ h ∧ m ≤ 5) ∧ 5 - m ≤ b := by
  unfold hasCardsB
  simp only [Bool.and_eq_true, decide_eq_true_eq]
  constructor <;> intro h <;> omega
theorem hasCards_no {h l m b : Int} : hasCardsB h l m b = false ↔ ¬ ((1 ≤ h ∧ h ≤ 7) ∧ (0 ≤ b ∧ b ≤ 5) ∧ (0 ≤ l ∧ l ≤ m) ∧ (m ≤ h ∧ m ≤ 5) ∧ 5 - m ≤ b) := by
  rw [← hasCards_iff]; simp
theorem hasValues_iff {hi : Bool} {lo : Int} : hasValuesB hi lo = true ↔ (lo = 0 ∧ hi = true) ∨ lo = 1 ∨ ((lo = 2 ∨ lo = 3) ∧ hi = false) := by
  unfold hasValuesB
  split
  · subst_vars; simp
  · split
    · subst_vars; simp
    · split
      · subst_vars; simp
      · split
        · subst_vars; simp
        · simp; omega
end Go.Proofs.YtlpkaflmhdgmmaaGreatDoor
