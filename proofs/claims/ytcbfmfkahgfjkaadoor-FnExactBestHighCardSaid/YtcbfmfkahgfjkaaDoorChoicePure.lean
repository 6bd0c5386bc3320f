/-
  Plain facts: all choices, head by head. Nothing of the program is imported.
-/
import Derived.Test.YtcbfmfkahgfjkaaDoorChoices
namespace Go.Proofs.YtcbfmfkahgfjkaaDoor
set_option linter.unusedVariables false

/-- The choices that begin with the element at j. -/
def chHead (k : Nat) (xs : List Int) (j : Nat) : List (List Int) := (ch k (xs.drop (j + 1))).map (fun t => xs.getD j 0 :: t)
def cntC (k : Nat) (xs : List Int) (i : Nat) : Nat := ((List.range i).flatMap (chHead k xs)).length
theorem ch_succ (k : Nat) (xs : List Int) : ch (k + 1) xs = (List.range (xs.length - k)).flatMap (chHead k xs) := rfl
theorem cntC_zero (k : Nat) (xs : List Int) : cntC k xs 0 = 0 := rfl
theorem heads_succ (k : Nat) (xs : List Int) (i : Nat) : (List.range (i + 1)).flatMap (chHead k xs) = (List.range i).flatMap (chHead k xs) ++ chHead k xs i := by
  rw [List.range_succ, List.flatMap_append, List.flatMap_cons, List.flatMap_nil, List.append_nil]
theorem cntC_succ (k : Nat) (xs : List Int) (i : Nat) : cntC k xs (i + 1) = cntC k xs i + (ch k (xs.drop (i + 1))).length := by
  unfold cntC
  rw [heads_succ, List.length_append]
  unfold chHead
  rw [List.length_map]
theorem cntC_end (k : Nat) (xs : List Int) : cntC k xs (xs.length - k) = (ch (k + 1) xs).length := rfl
theorem heads_split (k : Nat) (xs : List Int) (i : Nat) : ∀ m, i < m → ∃ tl, (List.range m).flatMap (chHead k xs) = (List.range i).flatMap (chHead k xs) ++ (chHead k xs i ++ tl) := by
  intro m
  induction m with
  | zero => intro h; omega
  | succ m ih =>
    intro h
    rw [heads_succ]
    by_cases e : i = m
    · subst e; exact ⟨[], by rw [List.append_nil]⟩
    · obtain ⟨tl, ht⟩ := ih (by omega)
      exact ⟨tl ++ chHead k xs m, by rw [ht]; simp only [List.append_assoc]⟩
theorem ch_row (k : Nat) (xs : List Int) (i j : Nat) (hi : i < xs.length - k) (hj : j < (ch k (xs.drop (i + 1))).length) : (ch (k + 1) xs).getD (cntC k xs i + j) [] = xs.getD i 0 :: (ch k (xs.drop (i + 1))).getD j [] := by
  obtain ⟨tl, ht⟩ := heads_split k xs i _ hi
  rw [ch_succ, ht]
  unfold cntC
  rw [List.getD_eq_getElem?_getD, List.getElem?_append_right (by omega), Nat.add_sub_cancel_left]
  have hl : j < (chHead k xs i).length := by unfold chHead; rw [List.length_map]; exact hj
  rw [List.getElem?_append_left hl]
  unfold chHead
  rw [List.getElem?_map, List.getElem?_eq_getElem hj, List.getD_eq_getElem?_getD (l := ch k (xs.drop (i + 1))), List.getElem?_eq_getElem hj]
  rfl
theorem cntC_le (k : Nat) (xs : List Int) (i : Nat) (hi : i < xs.length - k) : cntC k xs i + (ch k (xs.drop (i + 1))).length ≤ (ch (k + 1) xs).length := by
  obtain ⟨tl, ht⟩ := heads_split k xs i _ hi
  rw [ch_succ, ht]
  unfold cntC
  rw [List.length_append, List.length_append]
  unfold chHead
  rw [List.length_map]
  omega
def lenOk : Bool := (List.range 6).all fun k => (List.range 9).all fun n => decide ((ch k ((List.range n).map (fun i : Nat => (i : Int)))).length ≤ 70)
theorem len_ok : lenOk = true := by decide +kernel
theorem ch_le (k : Nat) (l : List Int) (hk : k ≤ 5) (hl : l.length ≤ 8) : (ch k l).length ≤ 70 := by
  have e : l = ((List.range l.length).map (fun i : Nat => (i : Int))).map (fun i : Int => l.getD i.toNat 0) := by
    rw [List.map_map]
    exact (range_get l).symm
  have h := len_ok
  unfold lenOk at h
  rw [List.all_eq_true] at h
  have h1 := h k (List.mem_range.2 (by omega))
  rw [List.all_eq_true] at h1
  have h2 := of_decide_eq_true (h1 l.length (List.mem_range.2 (by omega)))
  have e2 := ch_map (fun i : Int => l.getD i.toNat 0) k ((List.range l.length).map (fun i : Nat => (i : Int)))
  rw [← e] at e2
  rw [e2, List.length_map]
  exact h2
theorem ch_rowlen (k : Nat) (l : List Int) (j : Nat) (hj : j < (ch k l).length) : ((ch k l).getD j []).length = k := by
  have hm : (ch k l).getD j [] ∈ ch k l := by
    rw [List.getD_eq_getElem?_getD, List.getElem?_eq_getElem hj]; exact List.getElem_mem hj
  exact (ch_mem k l _ hm).2
end Go.Proofs.YtcbfmfkahgfjkaaDoor
