/-
  Plain facts: all choices of five, by lists and by indices; the best one. Nothing of the program is imported.
-/
import Derived.Test.YtcbfmfkahgfjkaaDoorHighPure
namespace Go.Proofs.YtcbfmfkahgfjkaaDoor
set_option linter.unusedVariables false

/-- All lists of k elements of a list, in its order, those with smaller indices first. -/
def ch : Nat → List Int → List (List Int)
  | 0, _ => [[]]
  | k + 1, l => (List.range (l.length - k)).flatMap fun j => (ch k (l.drop (j + 1))).map (fun t => l.getD j 0 :: t)
theorem ch_map (f : Int → Int) : ∀ (k : Nat) (l : List Int), ch k (l.map f) = (ch k l).map (List.map f)
  | 0, l => by simp [ch]
  | k + 1, l => by
    unfold ch
    rw [List.map_flatMap, List.length_map]
    rw [List.flatMap_def, List.flatMap_def]
    congr 1
    apply List.map_congr_left
    intro j hj
    have hj' : j < l.length := by have := List.mem_range.1 hj; omega
    rw [← List.map_drop, ch_map f k, List.map_map, List.map_map]
    apply List.map_congr_left
    intro t _
    simp only [Function.comp, List.map_cons]
    congr 1
    rw [List.getD_eq_getElem?_getD, List.getD_eq_getElem?_getD, List.getElem?_map, List.getElem?_eq_getElem hj']
    rfl
/-- The choices of five indices. -/
def idx (n : Nat) : List (List Int) := ch 5 ((List.range n).map (fun i : Nat => (i : Int)))
theorem range_get (xs : List Int) : (List.range xs.length).map (fun i : Nat => xs.getD i 0) = xs := by
  apply List.ext_getElem
  · simp
  · intro i h1 h2
    simp at h1
    simp [List.getElem?_eq_getElem h1]
theorem ch_idx (xs : List Int) : ch 5 xs = (idx xs.length).map (List.map (fun i : Int => xs.getD i.toNat 0)) := by
  unfold idx
  rw [← ch_map, List.map_map]
  congr 1
  exact (range_get xs).symm
/-- A choice is made the next one. -/
def bumpN (c : List Int) (i : Nat) : Nat → List Int
  | 0 => c.set i (c.getD i 0 + 1)
  | m + 1 => (bumpN c i m).set (i + 1 + m) ((bumpN c i m).getD (i + m) 0 + 1)
def stepFrom (n : Int) (c : List Int) : Nat → Option (List Int)
  | 0 => none
  | k + 1 => if c.getD k 0 + 5 - (k : Int) = n then stepFrom n c k else some (bumpN c k (4 - k))
/-- What is asked of the choices of indices, for each number of cards. -/
def idxOk (n : Nat) : Bool :=
  (List.range (idx n).length).all (fun i => let c := (idx n).getD i []; decide (c.length = 5) && c.all (fun x => decide (0 ≤ x ∧ x < (n : Int))) && (stepFrom (n : Int) c 5 == (idx n)[i + 1]?)) &&
  decide ((idx n)[0]? = some [0, 1, 2, 3, 4])
theorem idx_ok : idxOk 5 = true ∧ idxOk 6 = true ∧ idxOk 7 = true ∧ idxOk 8 = true := by decide +kernel
theorem idxOk_of (n : Nat) (h5 : 5 ≤ n) (h8 : n ≤ 8) : idxOk n = true := by
  obtain ⟨a, b, c, d⟩ := idx_ok
  have : n = 5 ∨ n = 6 ∨ n = 7 ∨ n = 8 := by omega
  rcases this with rfl | rfl | rfl | rfl
  · exact a
  · exact b
  · exact c
  · exact d
theorem idx_facts (n : Nat) (h5 : 5 ≤ n) (h8 : n ≤ 8) (i : Nat) (hi : i < (idx n).length) :
    ((idx n).getD i []).length = 5 ∧ (∀ x ∈ (idx n).getD i [], 0 ≤ x ∧ x < (n : Int)) ∧ stepFrom (n : Int) ((idx n).getD i []) 5 = (idx n)[i + 1]? := by
  have h := idxOk_of n h5 h8
  unfold idxOk at h
  rw [Bool.and_eq_true, List.all_eq_true] at h
  have h1 := h.1 i (List.mem_range.2 hi)
  simp only [Bool.and_eq_true, decide_eq_true_eq, List.all_eq_true, beq_iff_eq] at h1
  exact ⟨h1.1.1, h1.1.2, h1.2⟩
theorem idx_first (n : Nat) (h5 : 5 ≤ n) (h8 : n ≤ 8) : (idx n)[0]? = some [0, 1, 2, 3, 4] := by
  have h := idxOk_of n h5 h8
  unfold idxOk at h
  rw [Bool.and_eq_true, decide_eq_true_eq] at h
  exact h.2
theorem idx_pos (n : Nat) (h5 : 5 ≤ n) (h8 : n ≤ 8) : 0 < (idx n).length := by
  have := idx_first n h5 h8
  by_cases h : 0 < (idx n).length
  · exact h
  · rw [List.getElem?_eq_none (by omega)] at this; cases this
theorem idx_len : (idx 5).length = 1 ∧ (idx 6).length = 6 ∧ (idx 7).length = 21 ∧ (idx 8).length = 56 := by decide +kernel
theorem idx_le (n : Nat) (h5 : 5 ≤ n) (h8 : n ≤ 8) : (idx n).length ≤ 56 := by
  obtain ⟨a, b, c, d⟩ := idx_len
  have : n = 5 ∨ n = 6 ∨ n = 7 ∨ n = 8 := by omega
  rcases this with rfl | rfl | rfl | rfl <;> omega

def idxNo (n : Nat) : Bool := (List.range (idx n).length).all (fun i => (idx n).idxOf ((idx n).getD i []) == i)
theorem idx_no : idxNo 5 = true ∧ idxNo 6 = true ∧ idxNo 7 = true ∧ idxNo 8 = true := by decide +kernel
theorem idx_nodup (n : Nat) (h5 : 5 ≤ n) (h8 : n ≤ 8) (i : Nat) (hi : i < (idx n).length) : (idx n).idxOf ((idx n).getD i []) = i := by
  obtain ⟨a, b, c, d⟩ := idx_no
  have h : idxNo n = true := by
    have : n = 5 ∨ n = 6 ∨ n = 7 ∨ n = 8 := by omega
    rcases this with rfl | rfl | rfl | rfl
    · exact a
    · exact b
    · exact c
    · exact d
  unfold idxNo at h
  rw [List.all_eq_true] at h
  simpa using h i (List.mem_range.2 hi)
theorem ch_mem : ∀ (k : Nat) (l t : List Int), t ∈ ch k l → t.Sublist l ∧ t.length = k
  | 0, l, t, h => by
    simp [ch] at h
    subst h
    exact ⟨List.nil_sublist l, rfl⟩
  | k + 1, l, t, h => by
    unfold ch at h
    rw [List.mem_flatMap] at h
    obtain ⟨j, hj, ht⟩ := h
    obtain ⟨s, hs, rfl⟩ := List.mem_map.1 ht
    have hj' : j < l.length := by have := List.mem_range.1 hj; omega
    obtain ⟨h1, h2⟩ := ch_mem k _ s hs
    refine ⟨?_, by simp [h2]⟩
    have e : l.drop j = l.getD j 0 :: l.drop (j + 1) := by
      rw [List.drop_eq_getElem_cons hj']
      congr 1
      rw [List.getD_eq_getElem?_getD, List.getElem?_eq_getElem hj']
      rfl
    have : (l.getD j 0 :: s).Sublist (l.drop j) := by rw [e]; exact h1.cons_cons _
    exact this.trans (List.drop_sublist j l)

/-! The best of some lists, by a value: the first one with the greatest. -/
/-- The index of the best of the first k lists, and its value. -/
def bestI (f : List Int → Int) (L : List (List Int)) : Nat → Nat × Int
  | 0 => (0, -1)
  | k + 1 => let v := f (L.getD k []); if (bestI f L k).2 < v then (k, v) else bestI f L k
theorem bestI_yes (f : List Int → Int) (L : List (List Int)) (k : Nat) (h : (bestI f L k).2 < f (L.getD k [])) : bestI f L (k + 1) = (k, f (L.getD k [])) := by rw [bestI]; exact if_pos h
theorem bestI_no (f : List Int → Int) (L : List (List Int)) (k : Nat) (h : ¬ (bestI f L k).2 < f (L.getD k [])) : bestI f L (k + 1) = bestI f L k := by rw [bestI]; exact if_neg h
theorem bestI_lt (f : List Int → Int) (L : List (List Int)) : ∀ k, k ≤ L.length → (bestI f L k).1 ≤ k - 1
  | 0, _ => by simp [bestI]
  | k + 1, h => by
    have ih := bestI_lt f L k (by omega)
    by_cases c : (bestI f L k).2 < f (L.getD k [])
    · rw [bestI_yes f L k c]; simp
    · rw [bestI_no f L k c]; omega
theorem bestI_val (f : List Int → Int) (L : List (List Int)) (hf : ∀ i, i < L.length → 0 ≤ f (L.getD i [])) : ∀ k, 0 < k → k ≤ L.length → (bestI f L k).2 = f (L.getD (bestI f L k).1 []) ∧ ∀ i, i < k → f (L.getD i []) ≤ (bestI f L k).2
  | 0, h, _ => by omega
  | k + 1, _, h => by
    by_cases c : (bestI f L k).2 < f (L.getD k [])
    · rw [bestI_yes f L k c]
      refine ⟨rfl, fun i hi => ?_⟩
      by_cases e : i = k
      · subst e; exact Int.le_refl _
      · by_cases hk : 0 < k
        · have := (bestI_val f L hf k hk (by omega)).2 i (by omega)
          simp only; omega
        · omega
    · rw [bestI_no f L k c]
      by_cases hk : 0 < k
      · obtain ⟨ih1, ih2⟩ := bestI_val f L hf k hk (by omega)
        refine ⟨ih1, fun i hi => ?_⟩
        by_cases e : i = k
        · subst e; omega
        · exact ih2 i (by omega)
      · exfalso
        have : k = 0 := by omega
        subst this
        have h0 := hf 0 (by omega)
        have e : (bestI f L 0).2 = -1 := rfl
        rw [e] at c
        omega
end Go.Proofs.YtcbfmfkahgfjkaaDoor
