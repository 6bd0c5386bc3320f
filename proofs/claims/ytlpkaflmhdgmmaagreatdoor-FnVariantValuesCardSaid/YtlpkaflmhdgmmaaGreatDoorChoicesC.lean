/-
  All choices of at most five out of at most seven indices. Plain facts.
-/
import Derived.Test.YtlpkaflmhdgmmaaGreatDoorIter
import Derived.Test.YtlpkaflmhdgmmaaGreatDoorStepS
namespace Go.Proofs.YtlpkaflmhdgmmaaGreatDoor
set_option linter.unusedVariables false

/-- The choices of s of the indices below n. -/
def idxC (n s : Nat) : List (List Int) := ch s ((List.range n).map (fun i : Nat => (i : Int)))
def idxCOk (n s : Nat) : Bool :=
  (List.range (idxC n s).length).all (fun i => let c := (idxC n s).getD i []; decide (c.length = s) && c.all (fun x => decide (0 ≤ x ∧ x < (n : Int))) && (stepFromS n s c s == (idxC n s)[i + 1]?) && ((idxC n s).idxOf c == i)) &&
  (if s ≤ n then decide ((idxC n s)[0]? = some (upTo s)) else decide ((idxC n s).length = 0)) && decide ((idxC n s).length ≤ 35)
theorem idxC_all : (List.range 8).all (fun n => (List.range 6).all (fun s => idxCOk n s)) = true := by decide +kernel
theorem idxC_ok (n s : Nat) (hn : n ≤ 7) (hs : s ≤ 5) : idxCOk n s = true := by
  have h := List.all_eq_true.1 idxC_all n (List.mem_range.2 (by omega))
  exact List.all_eq_true.1 h s (List.mem_range.2 (by omega))
theorem idxC_facts (n s : Nat) (hn : n ≤ 7) (hs : s ≤ 5) (i : Nat) (hi : i < (idxC n s).length) :
    ((idxC n s).getD i []).length = s ∧ (∀ x ∈ (idxC n s).getD i [], 0 ≤ x ∧ x < (n : Int)) ∧ stepFromS n s ((idxC n s).getD i []) s = (idxC n s)[i + 1]? ∧ (idxC n s).idxOf ((idxC n s).getD i []) = i := by
  have h := idxC_ok n s hn hs
  unfold idxCOk at h
  rw [Bool.and_eq_true, Bool.and_eq_true, List.all_eq_true] at h
  have h1 := h.1.1 i (List.mem_range.2 hi)
  simp only [Bool.and_eq_true, decide_eq_true_eq, List.all_eq_true, beq_iff_eq] at h1
  exact ⟨h1.1.1.1, h1.1.1.2, h1.1.2, h1.2⟩
theorem idxC_first (n s : Nat) (hn : n ≤ 7) (hs : s ≤ n) (h5 : s ≤ 5) : (idxC n s)[0]? = some (upTo s) := by
  have h := idxC_ok n s hn h5
  unfold idxCOk at h
  rw [Bool.and_eq_true, Bool.and_eq_true, if_pos hs, decide_eq_true_eq] at h
  exact h.1.2
theorem idxC_none (n s : Nat) (hn : n ≤ 7) (hs : n < s) (h5 : s ≤ 5) : (idxC n s).length = 0 := by
  have h := idxC_ok n s hn h5
  unfold idxCOk at h
  rw [Bool.and_eq_true, Bool.and_eq_true, if_neg (by omega), decide_eq_true_eq] at h
  exact h.1.2
theorem idxC_le (n s : Nat) (hn : n ≤ 7) (h5 : s ≤ 5) : (idxC n s).length ≤ 35 := by
  have h := idxC_ok n s hn h5
  unfold idxCOk at h
  rw [Bool.and_eq_true, decide_eq_true_eq] at h
  exact h.2
theorem idxC_pos (n s : Nat) (hn : n ≤ 7) (hs : s ≤ n) (h5 : s ≤ 5) : 0 < (idxC n s).length := by
  have := idxC_first n s hn hs h5
  by_cases h : 0 < (idxC n s).length
  · exact h
  · rw [List.getElem?_eq_none (by omega)] at this; cases this
theorem ch_idxC (s : Nat) (xs : List Int) : ch s xs = (idxC xs.length s).map (pickL xs) := by
  unfold idxC
  rw [show pickL xs = List.map (fun i : Int => xs.getD i.toNat 0) from rfl, ← ch_map]
  congr 1
  apply List.ext_getElem
  · simp
  · intro i h1 h2
    simp [List.getD, List.getElem?_eq_getElem h1]
end Go.Proofs.YtlpkaflmhdgmmaaGreatDoor
