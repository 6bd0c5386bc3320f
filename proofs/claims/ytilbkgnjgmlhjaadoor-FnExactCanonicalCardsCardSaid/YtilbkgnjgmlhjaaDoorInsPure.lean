/-
  Plain facts on sorting by insertion. Nothing of the program is imported.
-/
import Derived.Test.YtilbkgnjgmlhjaaDoorBase
namespace Go.Proofs.YtilbkgnjgmlhjaaDoor
set_option linter.unusedVariables false

def rises (xs : List Int) : Prop := xs.Pairwise (fun a b => a ≤ b)
/-- A number put into its place. -/
def insA (x : Int) : List Int → List Int
  | [] => [x]
  | y :: ys => if y ≤ x then y :: insA x ys else x :: y :: ys
theorem insA_perm (x : Int) : ∀ ys, (insA x ys).Perm (x :: ys)
  | [] => by simp [insA]
  | y :: ys => by
    unfold insA
    split
    · exact ((insA_perm x ys).cons y).trans (List.Perm.swap x y ys)
    · exact List.Perm.refl _
theorem insA_rises (x : Int) : ∀ ys, rises ys → rises (insA x ys)
  | [], _ => by simp [insA, rises]
  | y :: ys, h => by
    have h := List.pairwise_cons.1 h
    unfold insA
    split
    · next c =>
      refine List.pairwise_cons.2 ⟨fun z hz => ?_, insA_rises x ys h.2⟩
      rcases List.mem_cons.1 ((insA_perm x ys).mem_iff.1 hz) with rfl | hz
      · omega
      · exact h.1 z hz
    · next c =>
      refine List.pairwise_cons.2 ⟨fun z hz => ?_, List.pairwise_cons.2 h⟩
      rcases List.mem_cons.1 hz with rfl | hz
      · omega
      · have := h.1 z hz; omega
/-- The place: behind those that are not greater. -/
def placeA (x : Int) : List Int → Nat
  | [] => 0
  | y :: ys => if y ≤ x then placeA x ys + 1 else 0
theorem placeA_le (x : Int) : ∀ ys, placeA x ys ≤ ys.length
  | [] => by simp [placeA]
  | y :: ys => by
    unfold placeA
    split
    · have := placeA_le x ys; simp; exact this
    · omega
theorem placeA_before (x : Int) : ∀ (ys : List Int) (j : Nat), j < placeA x ys → (ys.getD j 0) ≤ x
  | [], j, h => by simp [placeA] at h
  | y :: ys, j, h => by
    unfold placeA at h
    split at h
    · next c =>
      rcases j with _ | j
      · simpa using c
      · simpa using placeA_before x ys j (by omega)
    · omega
theorem placeA_at (x : Int) : ∀ (ys : List Int), placeA x ys < ys.length → ¬ (ys.getD (placeA x ys) 0) ≤ x
  | [], h => by simp at h
  | y :: ys, h => by
    unfold placeA at h ⊢
    by_cases c : y ≤ x
    · rw [if_pos c] at h ⊢
      have := placeA_at x ys (by simpa using h)
      simpa using this
    · rw [if_neg c]
      simpa using c
theorem insA_place (x : Int) : ∀ ys, insA x ys = (ys.take (placeA x ys) ++ [x]) ++ ys.drop (placeA x ys)
  | [] => by simp [insA, placeA]
  | y :: ys => by
    unfold insA placeA
    split
    · rw [insA_place x ys]; simp
    · simp
/-- The first i numbers, sorted. -/
def sortM (xs : List Int) : Nat → List Int
  | 0 => []
  | i + 1 => insA (xs.getD i 0) (sortM xs i)
theorem sortM_facts (xs : List Int) : ∀ i, i ≤ xs.length → (sortM xs i).Perm (xs.take i) ∧ rises (sortM xs i)
  | 0, _ => ⟨by simp [sortM], by simp [sortM, rises]⟩
  | i + 1, h => by
    obtain ⟨h1, h2⟩ := sortM_facts xs i (by omega)
    refine ⟨?_, insA_rises _ _ h2⟩
    rw [sortM]
    refine (insA_perm _ _).trans ?_
    have e : xs.take (i + 1) = xs.take i ++ [xs.getD i 0] := by
      rw [List.take_add_one, List.getElem?_eq_getElem (by omega)]
      rw [List.getD_eq_getElem?_getD, List.getElem?_eq_getElem (by omega)]; rfl
    rw [e]
    exact (h1.cons _).trans (List.perm_append_singleton _ _).symm
def sortA (xs : List Int) : List Int := sortM xs xs.length
theorem sortA_facts (xs : List Int) : (sortA xs).Perm xs ∧ rises (sortA xs) := by
  have := sortM_facts xs xs.length (Nat.le_refl _)
  rw [List.take_of_length_le (Nat.le_refl _)] at this
  exact this
theorem rev_desc (xs : List Int) : (sortA xs).reverse.Perm xs ∧ (sortA xs).reverse.Pairwise (fun a b => b ≤ a) := by
  obtain ⟨h1, h2⟩ := sortA_facts xs
  exact ⟨(List.reverse_perm _).trans h1, List.pairwise_reverse.2 h2⟩
end Go.Proofs.YtilbkgnjgmlhjaaDoor
