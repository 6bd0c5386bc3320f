/-
  How many combinations each class has; each two cards are a combination of their class.
-/
import Derived.Test.YtjmfecjgomkofabDoorComboPure
namespace Go.Proofs.YtjmfecjgomkofabDoor
set_option linter.unusedVariables false

/-- The class of two cards, over natural numbers. -/
def clsN (x y : Nat) : Nat := if Nat.beq (x % 4) (y % 4) || Nat.beq (x / 4) (y / 4) then 13 * (Nat.max (x / 4) (y / 4)) + Nat.min (x / 4) (y / 4) else 13 * (Nat.min (x / 4) (y / 4)) + Nat.max (x / 4) (y / 4)
theorem clsI_nat (x y : Nat) : clsI (x : Int) (y : Int) = (clsN x y : Int) := by
  unfold clsI clsN hiR loR
  have e1 : ((x : Int) % 4 = (y : Int) % 4 ∨ (x : Int) / 4 = (y : Int) / 4) ↔ (Nat.beq (x % 4) (y % 4) || Nat.beq (x / 4) (y / 4)) = true := by
    rw [Bool.or_eq_true, Nat.beq_eq, Nat.beq_eq]; omega
  by_cases h : ((x : Int) % 4 = (y : Int) % 4 ∨ (x : Int) / 4 = (y : Int) / 4)
  · rw [if_pos h, if_pos (e1.1 h)]
    by_cases g : (x : Int) / 4 ≤ (y : Int) / 4
    · rw [if_pos g, if_pos g, show Nat.max (x / 4) (y / 4) = y / 4 from Nat.max_eq_right (by omega), show Nat.min (x / 4) (y / 4) = x / 4 from Nat.min_eq_left (by omega)]; omega
    · rw [if_neg g, if_neg g, show Nat.max (x / 4) (y / 4) = x / 4 from Nat.max_eq_left (by omega), show Nat.min (x / 4) (y / 4) = y / 4 from Nat.min_eq_right (by omega)]; omega
  · rw [if_neg h, if_neg (fun q => h (e1.2 q))]
    by_cases g : (x : Int) / 4 ≤ (y : Int) / 4
    · rw [if_pos g, if_pos g, show Nat.max (x / 4) (y / 4) = y / 4 from Nat.max_eq_right (by omega), show Nat.min (x / 4) (y / 4) = x / 4 from Nat.min_eq_left (by omega)]; omega
    · rw [if_neg g, if_neg g, show Nat.max (x / 4) (y / 4) = x / 4 from Nat.max_eq_left (by omega), show Nat.min (x / 4) (y / 4) = y / 4 from Nat.min_eq_right (by omega)]; omega
/-- The classes of all pairs, counted row by row. -/
def rowN (k x : Nat) : Nat := (List.range (51 - x)).countP (fun i => Nat.beq (clsN x (x + 1 + i)) k)
def cntN (k : Nat) : Nat := ((List.range 52).map (rowN k)).sum
def wantN (k : Nat) : Nat := if k / 13 = k % 13 then 6 else if k % 13 < k / 13 then 4 else 12
theorem cnt_all : ∀ k : Fin 169, cntN k.val = wantN k.val := by decide +kernel
theorem pairs_from : ∀ (m x : Nat), (pairsOf ((List.range' x m).map (fun n : Nat => (n : Int)))).length = (pairsOf ((List.range' x m).map (fun n : Nat => (n : Int)))).length := fun _ _ => rfl
theorem countP_pairs (k : Nat) : ∀ (m x : Nat), x + m = 52 → (ofCls (k : Int) (pairsOf ((List.range' x m).map (fun n : Nat => (n : Int))))).length = ((List.range' x m).map (rowN k)).sum
  | 0, x, _ => rfl
  | m + 1, x, h => by
    rw [List.range'_succ, List.map_cons, pairsOf, List.map_cons, List.sum_cons, ← countP_pairs k m (x + 1) (by omega)]
    unfold ofCls
    rw [List.filter_append, List.length_append]
    congr 1
    rw [← List.countP_eq_length_filter, List.countP_map, List.countP_map]
    unfold rowN
    have e : List.range' (x + 1) m = (List.range (51 - x)).map (fun i => x + 1 + i) := by
      have hm : m = 51 - x := by omega
      subst hm
      rw [List.range_eq_range', List.map_add_range']
      
    rw [e, List.countP_map]
    apply List.countP_congr
    intro i _
    simp only [Function.comp]
    rw [clsI_nat]
    constructor
    · intro q
      rw [beq_iff_eq] at q
      rw [Nat.beq_eq]; omega
    · intro q
      rw [beq_iff_eq]
      rw [Nat.beq_eq] at q
      omega
theorem all52_range : all52 = (List.range' 0 52).map (fun n : Nat => (n : Int)) := by decide
/-- How many combinations a class has. -/
theorem cls_count (k : Int) (h0 : 0 ≤ k) (h1 : k < 169) : (ofCls k (pairsOf all52)).length = wantN k.toNat := by
  obtain ⟨n, rfl⟩ := Int.eq_ofNat_of_zero_le h0
  rw [all52_range, countP_pairs n 52 0 rfl]
  have := cnt_all ⟨n, by omega⟩
  unfold cntN at this
  rw [List.range_eq_range'] at this
  exact this
theorem pairs_has : ∀ (l : List Int), l.Pairwise (· < ·) → ∀ x y, x ∈ l → y ∈ l → x < y → (x, y) ∈ pairsOf l
  | [], _, x, y, h, _, _ => by cases h
  | z :: r, hp, x, y, hx, hy, hlt => by
    have hp' := List.pairwise_cons.1 hp
    rw [pairsOf, List.mem_append]
    rcases List.mem_cons.1 hx with rfl | hx2
    · left
      rcases List.mem_cons.1 hy with rfl | hy2
      · omega
      · exact List.mem_map.2 ⟨y, hy2, rfl⟩
    · right
      rcases List.mem_cons.1 hy with rfl | hy2
      · have := hp'.1 x hx2; omega
      · exact pairs_has r hp'.2 x y hx2 hy2 hlt
theorem all52_rises : all52.Pairwise (· < ·) := by decide
theorem all52_mem (x : Int) : x ∈ all52 ↔ 0 ≤ x ∧ x < 52 := by
  unfold all52
  constructor
  · intro h
    obtain ⟨i, hi, rfl⟩ := List.mem_map.1 h
    have := List.mem_range.1 hi
    omega
  · intro h
    exact List.mem_map.2 ⟨x.toNat, List.mem_range.2 (by omega), by omega⟩
/-- Two cards, the smaller first, are a combination of their class. -/
theorem combo_mem (x y : Int) (hx : 0 ≤ x) (hy : y < 52) (h : x < y) : (x, y) ∈ ofCls (clsI x y) (pairsOf all52) := by
  unfold ofCls
  refine List.mem_filter.2 ⟨pairs_has _ all52_rises x y ((all52_mem x).2 ⟨hx, by omega⟩) ((all52_mem y).2 ⟨by omega, hy⟩) h, by simp⟩
end Go.Proofs.YtjmfecjgomkofabDoor
