/-
  Sets of classes as arrays of 169 marks: what lies in a block.
-/
import Derived.Test.YtlpkaflmhdgmmaaRngPure
import Derived.Test.YtlpkaflmhdgmmaaBase
namespace Go.Proofs.Ytlpkaflmhdgmmaa
open Go.RowKit
set_option linter.unusedVariables false

/-- The marks of a set of classes. -/
def setL (p : Int → Bool) : List Value := (List.range 169).map (fun i : Nat => Value.bool (p (i : Int)))
theorem setL_len (p : Int → Bool) : (setL p).length = 169 := by simp [setL]
theorem setL_get (p : Int → Bool) (i : Nat) (h : i < 169) : (setL p)[i]? = some (.bool (p (i : Int))) := by simp [setL, h]
theorem setL_one (p : Int → Bool) : ∀ v ∈ setL p, v.oneCell' = true := fun v hv => by
  unfold setL at hv; obtain ⟨z, _, rfl⟩ := List.mem_map.1 hv; rfl
theorem setL_congr {p q : Int → Bool} (h : ∀ i : Nat, i < 169 → p (i : Int) = q (i : Int)) : setL p = setL q := by
  unfold setL
  apply List.map_congr_left
  intro i hi
  rw [h i (List.mem_range.1 hi)]
theorem setL_none : setL (fun _ => false) = List.replicate 169 (Value.bool false) := by
  rw [List.eq_replicate_iff]
  exact ⟨setL_len _, fun b hb => by simp [setL] at hb; exact hb.2.symm⟩
/-- The set with one mark changed. -/
def putP (p : Int → Bool) (x : Int) (b : Bool) : Int → Bool := fun c => if c = x then b else p c
theorem setL_set (p : Int → Bool) (i : Nat) (b : Bool) (h : i < 169) : (setL p).set i (.bool b) = setL (putP p (i : Int) b) := by
  apply List.ext_getElem?
  intro j
  rw [List.getElem?_set, setL_len]
  by_cases hj : j < 169
  · rw [setL_get _ j hj, setL_get _ j hj]
    unfold putP
    by_cases e : i = j
    · subst e; simp [h]
    · have : ¬ (j : Int) = (i : Int) := by omega
      rw [if_neg e, if_neg this]
  · have a : (setL p)[j]? = none := by rw [List.getElem?_eq_none]; rw [setL_len]; omega
    have b' : (setL (putP p (i : Int) b))[j]? = none := by rw [List.getElem?_eq_none]; rw [setL_len]; omega
    rw [a, b', if_neg (by omega)]
theorem putP_take (xs : List Int) (k : Nat) (hk : k < xs.length) : putP (hasB (xs.take k)) (nth xs k) true = hasB (xs.take (k + 1)) := by
  funext c
  rw [take_nth xs k hk]
  unfold putP hasB
  by_cases e : c = nth xs k
  · simp [e]
  · rw [if_neg e]; simp [e]
/-- The first n marks are those of one set, the others those of no class. -/
def uptoP (p : Int → Bool) (n : Nat) : Int → Bool := fun c => decide (c < (n : Int)) && p c
theorem uptoP_zero (p : Int → Bool) : setL (uptoP p 0) = setL (fun _ => false) := setL_congr (fun i _ => by
  unfold uptoP
  have : ¬ (i : Int) < ((0 : Nat) : Int) := by omega
  rw [decide_eq_false this]; rfl)
theorem uptoP_all (p : Int → Bool) : setL (uptoP p 169) = setL p := setL_congr (fun i h => by
  unfold uptoP
  have : (i : Int) < ((169 : Nat) : Int) := by omega
  rw [decide_eq_true this]; rfl)
theorem uptoP_put (p : Int → Bool) (n : Nat) : putP (uptoP p n) (n : Int) (p (n : Int)) = uptoP p (n + 1) := by
  funext c
  unfold putP uptoP
  by_cases e : c = (n : Int)
  · subst e
    have : (n : Int) < ((n + 1 : Nat) : Int) := by omega
    rw [if_pos rfl, decide_eq_true this]; rfl
  · rw [if_neg e]
    by_cases h : c < (n : Int)
    · have h2 : c < ((n + 1 : Nat) : Int) := by omega
      rw [decide_eq_true h, decide_eq_true h2]
    · have h2 : ¬ c < ((n + 1 : Nat) : Int) := by omega
      rw [decide_eq_false h, decide_eq_false h2]
theorem uptoP_at (p : Int → Bool) (n : Nat) : uptoP p n (n : Int) = false := by
  unfold uptoP
  have : ¬ (n : Int) < (n : Int) := by omega
  rw [decide_eq_false this]; rfl
/-- A set of classes as a value. -/
abbrev setVal (p : Int → Bool) : Value := .agg (setL p).toArray
theorem uSet : Try.prog.underlying 50 = some (.array 169 4) := by kernel_rfl
theorem iSet : (Try.prog.info? 50).map (·.size) = some 169 := by kernel_rfl
end Go.Proofs.Ytlpkaflmhdgmmaa
