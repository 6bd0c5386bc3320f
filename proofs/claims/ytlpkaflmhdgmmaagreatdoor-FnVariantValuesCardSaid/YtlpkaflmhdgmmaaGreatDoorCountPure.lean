/-
  How many choices there are, and how many hands a variant has. Plain facts.
-/
import Derived.Test.YtlpkaflmhdgmmaaGreatDoorVarPure
namespace Go.Proofs.YtlpkaflmhdgmmaaGreatDoor
set_option linter.unusedVariables false

/-- The number of choices of k out of n, as both compute it. -/
def chq (n : Nat) : Nat → Int
  | 0 => 1
  | k + 1 => (chq n k * ((n : Int) - (k : Int))).tdiv ((k : Int) + 1)
def chqOk : Bool := (List.range 8).all fun n => (List.range 6).all fun k => decide (0 ≤ chq n k ∧ chq n k ≤ 35) && decide (-245 ≤ chq n k * ((n : Int) - (k : Int)) ∧ chq n k * ((n : Int) - (k : Int)) ≤ 245) && (decide (k ≤ n) || decide (chq n k = 0))
theorem chq_ok : chqOk = true := by decide +kernel
theorem chq_facts (n k : Nat) (hn : n ≤ 7) (hk : k ≤ 5) : (0 ≤ chq n k ∧ chq n k ≤ 35) ∧ (-245 ≤ chq n k * ((n : Int) - (k : Int)) ∧ chq n k * ((n : Int) - (k : Int)) ≤ 245) ∧ (n < k → chq n k = 0) := by
  have h := chq_ok
  unfold chqOk at h
  have h1 := List.all_eq_true.1 h n (List.mem_range.2 (by omega))
  have h2 := List.all_eq_true.1 h1 k (List.mem_range.2 (by omega))
  simp only [Bool.and_eq_true, Bool.or_eq_true, decide_eq_true_eq] at h2
  exact ⟨h2.1.1, h2.1.2, fun h => h2.2.resolve_left (by omega)⟩
/-- The hands with l, .., l + j - 1 cards of h, and the others of b. -/
def sumH (h b l : Nat) : Nat → Int
  | 0 => 0
  | j + 1 => sumH h b l j + chq h (l + j) * chq b (5 - (l + j))
theorem prodQ_bd {u v : Int} (h1 : 0 ≤ u ∧ u ≤ 35) (h2 : 0 ≤ v ∧ v ≤ 35) : 0 ≤ u * v ∧ u * v ≤ 1225 :=
  ⟨Int.mul_nonneg h1.1 h2.1, Int.le_trans (Int.mul_le_mul h1.2 h2.2 h2.1 (by omega)) (by decide)⟩
theorem sumH_bd (h b l : Nat) (hh : h ≤ 7) (hb : b ≤ 7) : ∀ j, l + j ≤ 6 → 0 ≤ sumH h b l j ∧ sumH h b l j ≤ 1225 * (j : Int)
  | 0, _ => by unfold sumH; omega
  | j + 1, hj => by
    have ih := sumH_bd h b l hh hb j (by omega)
    have p := prodQ_bd (chq_facts h (l + j) hh (by omega)).1 (chq_facts b (5 - (l + j)) hb (by omega)).1
    unfold sumH
    push_cast
    omega
/-- How many hands. -/
def cntH (h l m b : Int) : Int := sumH h.toNat b.toNat l.toNat (m + 1 - l).toNat
def chR (h l m b : Int) (hi : Bool) (lo : Int) : Int := if isVarB h l m b hi lo = true then cntH h l m b else 0
def varC (h l m b : Int) (hi : Bool) (lo : Int) : Int := if isVarB h l m b hi lo = true then 0 else 1
end Go.Proofs.YtlpkaflmhdgmmaaGreatDoor
