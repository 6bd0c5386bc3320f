/-
  Plain facts on pairs of cards and the combinations of a class.
-/
import Derived.Test.YtjmfecjgomkofabDoorClsPure
import Derived.Test.YtjmfecjgomkofabDoorSpecH
namespace Go.Proofs.YtjmfecjgomkofabDoor

/-! Pairs and combinations -/

/-- All pairs of a list, in order. -/
def pairsOf : List Int → List (Int × Int)
  | [] => []
  | x :: r => r.map (fun y => (x, y)) ++ pairsOf r
theorem pairs_filter (p : Int → Bool) : ∀ l : List Int, pairsOf (l.filter p) = (pairsOf l).filter (fun q => p q.1 && p q.2)
  | [] => rfl
  | x :: r => by
    have ih := pairs_filter p r
    by_cases h : p x = true
    · rw [List.filter_cons_of_pos h, pairsOf, pairsOf, List.filter_append, ih, List.filter_map]
      congr 2
      apply List.filter_congr
      intro y _
      simp [h]
    · have h' : p x = false := by simpa using h
      rw [List.filter_cons_of_neg h, pairsOf, List.filter_append, ih, List.filter_map]
      have : List.filter ((fun q : Int × Int => p q.1 && p q.2) ∘ fun y => (x, y)) r = [] := by
        rw [List.filter_eq_nil_iff]
        intro y _
        simp [h']
      rw [this]; rfl
theorem pairs_mem : ∀ (l : List Int) (q : Int × Int), q ∈ pairsOf l → q.1 ∈ l ∧ q.2 ∈ l
  | [], q, h => by cases h
  | x :: r, q, h => by
    rw [pairsOf, List.mem_append] at h
    rcases h with h | h
    · obtain ⟨y, hy, rfl⟩ := List.mem_map.1 h
      exact ⟨by simp, by simp [hy]⟩
    · have := pairs_mem r q h
      exact ⟨by simp [this.1], by simp [this.2]⟩
theorem pairs_len : ∀ l : List Int, (pairsOf l).length ≤ l.length * l.length
  | [] => by simp [pairsOf]
  | x :: r => by
    have ih := pairs_len r
    rw [pairsOf, List.length_append, List.length_map, List.length_cons]
    have : (r.length + 1) * (r.length + 1) = r.length * r.length + 2 * r.length + 1 := by
      rw [Nat.add_mul, Nat.mul_add]; omega
    omega
/-- The pairs of a class. -/
def ofCls (k : Int) (l : List (Int × Int)) : List (Int × Int) := l.filter (fun q => clsI q.1 q.2 == k)
theorem ofCls_snoc_yes {k : Int} {l : List (Int × Int)} {q : Int × Int} (h : clsI q.1 q.2 = k) : ofCls k (l ++ [q]) = ofCls k l ++ [q] := by
  unfold ofCls; rw [List.filter_append]; simp [h]
theorem ofCls_snoc_no {k : Int} {l : List (Int × Int)} {q : Int × Int} (h : clsI q.1 q.2 ≠ k) : ofCls k (l ++ [q]) = ofCls k l := by
  unfold ofCls; rw [List.filter_append]; simp [h]
theorem ofCls_len (k : Int) (l : List (Int × Int)) : (ofCls k l).length ≤ l.length := List.length_filter_le _ _
/-- All cards. -/
def all52 : List Int := (List.range 52).map (fun n : Nat => (n : Int))
/-- Two cards as a list. -/
def two (q : Int × Int) : List Int := [q.1, q.2]
/-- The combinations of a class none of whose cards is in a list. -/
def combosP (k : Int) (dead : List Int) : List (Int × Int) := ofCls k ((pairsOf all52).filter (fun q => !hasB dead q.1 && !hasB dead q.2))
def combosN (k : Int) (dead : List Int) : List (List Int) := (combosP k dead).map two
theorem combos_others (k : Int) (dead : List Int) (ho : othersN 52 dead = all52.filter (fun x => !hasB dead x)) : ofCls k (pairsOf (othersN 52 dead)) = combosP k dead := by
  rw [ho, pairs_filter]; rfl
theorem combosP_dead (k : Int) (dead : List Int) : combosP k dead = (ofCls k (pairsOf all52)).filter (fun q => !hasB dead q.1 && !hasB dead q.2) := by
  unfold combosP ofCls
  rw [List.filter_filter, List.filter_filter]
  apply List.filter_congr
  intro q _
  exact Bool.and_comm _ _
end Go.Proofs.YtjmfecjgomkofabDoor
