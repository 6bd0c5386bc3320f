/-
  All hands of a player, in their order. Plain facts.
-/
import Derived.Test.YtlpkaflmhdgmmaaGreatDoorChoicesC
namespace Go.Proofs.YtlpkaflmhdgmmaaGreatDoor
set_option linter.unusedVariables false

theorem flat_len {α β : Type} (f : α → List β) (n : Nat) : ∀ (L : List α), (∀ a ∈ L, (f a).length = n) → (L.flatMap f).length = L.length * n
  | [], _ => by simp
  | a :: L, h => by
    rw [List.flatMap_cons, List.length_append, flat_len f n L (fun b hb => h b (List.mem_cons_of_mem _ hb)), h a (List.mem_cons_self ..), List.length_cons, Nat.succ_mul, Nat.add_comm]
theorem flat_at {α β : Type} (f : α → List β) (n : Nat) (d : β) (e : α) : ∀ (L : List α), (∀ a ∈ L, (f a).length = n) → ∀ (i j : Nat), i < L.length → j < n → (L.flatMap f).getD (i * n + j) d = (f (L.getD i e)).getD j d
  | [], _, _, _, hi, _ => by simp at hi
  | a :: L, h, i, j, hi, hj => by
    have ha := h a (List.mem_cons_self ..)
    rw [List.flatMap_cons]
    cases i with
    | zero =>
      rw [Nat.zero_mul, Nat.zero_add]
      simp [List.getD, List.getElem?_append_left (show j < (f a).length by omega)]
    | succ i =>
      have ih := flat_at f n d e L (fun b hb => h b (List.mem_cons_of_mem _ hb)) i j (by simpa using hi) hj
      rw [Nat.succ_mul]
      have e1 : i * n + n + j = (f a).length + (i * n + j) := by omega
      rw [e1]
      simp [List.getD, List.getElem?_append_right] at ih ⊢
      exact ih
theorem range_split {β : Type} (f : Nat → List β) (i : Nat) : ∀ m, i < m → ∃ tl, (List.range m).flatMap f = (List.range i).flatMap f ++ (f i ++ tl)
  | 0, h => by omega
  | m + 1, h => by
    rw [List.range_succ, List.flatMap_append]
    by_cases e : i = m
    · subst e; exact ⟨[], by simp⟩
    · obtain ⟨tl, ht⟩ := range_split f i m (by omega)
      exact ⟨tl ++ f m, by rw [ht]; simp [List.append_assoc]⟩
theorem range_succ_flat {β : Type} (f : Nat → List β) (k : Nat) : (List.range (k + 1)).flatMap f = (List.range k).flatMap f ++ f k := by
  rw [List.range_succ, List.flatMap_append]; simp

/-- The hands with o hole cards. -/
def hRow (hc bs : List Int) (o : Nat) : List (List Int) := (idxC hc.length o).flatMap fun c1 => (idxC bs.length (5 - o)).map fun c2 => pickL hc c1 ++ pickL bs c2
/-- .. with l, .., l + k - 1 hole cards. -/
def hRows (hc bs : List Int) (l k : Nat) : List (List Int) := (List.range k).flatMap fun j => hRow hc bs (l + j)
theorem hRow_len (hc bs : List Int) (o : Nat) : (hRow hc bs o).length = (idxC hc.length o).length * (idxC bs.length (5 - o)).length :=
  flat_len _ _ _ (fun a _ => by simp)
theorem hRow_at (hc bs : List Int) (o i j : Nat) (hi : i < (idxC hc.length o).length) (hj : j < (idxC bs.length (5 - o)).length) :
    (hRow hc bs o).getD (i * (idxC bs.length (5 - o)).length + j) [] = pickL hc ((idxC hc.length o).getD i []) ++ pickL bs ((idxC bs.length (5 - o)).getD j []) := by
  unfold hRow
  rw [flat_at _ (idxC bs.length (5 - o)).length [] [] _ (fun a _ => by simp) i j hi hj]
  simp [List.getD, List.getElem?_eq_getElem hj]
theorem hRows_zero (hc bs : List Int) (l : Nat) : hRows hc bs l 0 = [] := rfl
theorem hRows_succ (hc bs : List Int) (l k : Nat) : (hRows hc bs l (k + 1)).length = (hRows hc bs l k).length + (hRow hc bs (l + k)).length := by
  unfold hRows
  rw [range_succ_flat, List.length_append]
theorem hRows_at (hc bs : List Int) (l k M t : Nat) (hk : k < M) (ht : t < (hRow hc bs (l + k)).length) : (hRows hc bs l M).getD ((hRows hc bs l k).length + t) [] = (hRow hc bs (l + k)).getD t [] ∧ (hRows hc bs l k).length + t < (hRows hc bs l M).length := by
  obtain ⟨tl, h⟩ := range_split (fun j => hRow hc bs (l + j)) k M hk
  unfold hRows
  rw [h]
  refine ⟨?_, by simp only [List.length_append]; omega⟩
  simp [List.getD, List.getElem?_append_right, List.getElem?_append_left, ht]
/-- The number of the hand at a place. -/
def hNo (hc bs : List Int) (l k i j : Nat) : Nat := (hRows hc bs l k).length + (i * (idxC bs.length (5 - (l + k))).length + j)
theorem mul_lt {i n j m : Nat} (hi : i < n) (hj : j < m) : i * m + j < n * m := by
  have : (i + 1) * m ≤ n * m := Nat.mul_le_mul_right m hi
  rw [Nat.succ_mul] at this
  omega
theorem hNo_at (hc bs : List Int) (l k M i j : Nat) (hk : k < M) (hi : i < (idxC hc.length (l + k)).length) (hj : j < (idxC bs.length (5 - (l + k))).length) :
    (hRows hc bs l M).getD (hNo hc bs l k i j) [] = pickL hc ((idxC hc.length (l + k)).getD i []) ++ pickL bs ((idxC bs.length (5 - (l + k))).getD j []) ∧ hNo hc bs l k i j < (hRows hc bs l M).length := by
  have ht : i * (idxC bs.length (5 - (l + k))).length + j < (hRow hc bs (l + k)).length := by rw [hRow_len]; exact mul_lt hi hj
  obtain ⟨h1, h2⟩ := hRows_at hc bs l k M _ hk ht
  unfold hNo
  exact ⟨h1.trans (hRow_at hc bs (l + k) i j hi hj), h2⟩
theorem hNo_start (hc bs : List Int) (l k : Nat) : hNo hc bs l k 0 0 = (hRows hc bs l k).length := by unfold hNo; omega
theorem hNo_next (hc bs : List Int) (l k i j : Nat) : hNo hc bs l k i (j + 1) = hNo hc bs l k i j + 1 := by unfold hNo; omega
theorem hNo_row (hc bs : List Int) (l k i : Nat) : hNo hc bs l k (i + 1) 0 = hNo hc bs l k i (idxC bs.length (5 - (l + k))).length := by unfold hNo; rw [Nat.succ_mul]; omega
theorem hNo_end (hc bs : List Int) (l k : Nat) : hNo hc bs l k (idxC hc.length (l + k)).length 0 = (hRows hc bs l (k + 1)).length := by unfold hNo; rw [hRows_succ, hRow_len]; omega
theorem hRow_five (hc bs : List Int) (o : Nat) (hh : hc.length ≤ 7) (hb : bs.length ≤ 7) (ho : o ≤ 5) : ∀ x ∈ hRow hc bs o, x.length = 5 := fun x hx => by
  unfold hRow at hx
  obtain ⟨c1, h1, h2⟩ := List.mem_flatMap.1 hx
  obtain ⟨c2, h3, rfl⟩ := List.mem_map.1 h2
  obtain ⟨i, hi, e1⟩ := List.getElem_of_mem h1
  obtain ⟨j, hj, e2⟩ := List.getElem_of_mem h3
  have f1 := (idxC_facts hc.length o hh ho i hi).1
  have f2 := (idxC_facts bs.length (5 - o) hb (by omega) j hj).1
  rw [List.getD_eq_getElem?_getD, List.getElem?_eq_getElem hi, Option.getD_some, e1] at f1
  rw [List.getD_eq_getElem?_getD, List.getElem?_eq_getElem hj, Option.getD_some, e2] at f2
  rw [List.length_append, pickL_len, pickL_len]
  omega
end Go.Proofs.YtlpkaflmhdgmmaaGreatDoor
