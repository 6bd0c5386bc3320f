/-
  Plain facts on the classes of two cards: their numbers, their texts. Nothing of the program is imported.
-/
import Derived.Test.YtlpkaflmhdgmmaaTextPure
namespace Go.Proofs.Ytlpkaflmhdgmmaa

/-- The greater and the smaller rank of two cards. -/
def hiR (x y : Int) : Int := if x / 4 ≤ y / 4 then y / 4 else x / 4
def loR (x y : Int) : Int := if x / 4 ≤ y / 4 then x / 4 else y / 4
/-- The class of two cards. -/
def clsI (x y : Int) : Int := if x % 4 = y % 4 ∨ x / 4 = y / 4 then 13 * hiR x y + loR x y else 13 * loR x y + hiR x y
theorem hi_lo (x y : Int) (hx : 0 ≤ x) (hx' : x < 52) (hy : 0 ≤ y) (hy' : y < 52) : 0 ≤ loR x y ∧ loR x y ≤ hiR x y ∧ hiR x y ≤ 12 := by
  unfold loR hiR; split <;> omega
theorem cls_bd (x y : Int) (hx : 0 ≤ x) (hx' : x < 52) (hy : 0 ≤ y) (hy' : y < 52) : 0 ≤ clsI x y ∧ clsI x y < 169 := by
  have h := hi_lo x y hx hx' hy hy'
  unfold clsI; split <;> omega
/-- The class has the same number whichever card stands first. -/
theorem cls_comm (x y : Int) : clsI x y = clsI y x := by
  unfold clsI hiR loR
  by_cases h : x / 4 ≤ y / 4 <;> by_cases h' : y / 4 ≤ x / 4 <;> by_cases e : x % 4 = y % 4 <;> by_cases e' : x / 4 = y / 4 <;>
    simp [h, h', e, e', eq_comm] <;> omega

/-- The character of a rank. -/
def rkC (r : Int) : UInt8 := rankCh r.toNat
/-- A class's text. -/
def clsT (k : Int) : List UInt8 :=
  if k / 13 = k % 13 then [rkC (k / 13), rkC (k / 13)] else if k % 13 < k / 13 then [rkC (k / 13), rkC (k % 13), 115] else [rkC (k % 13), rkC (k / 13), 111]
/-- What ClassText answers. -/
def isCls (k : Int) : Bool := decide (0 ≤ k ∧ k < 169)
theorem isCls_yes {k : Int} (h0 : 0 ≤ k) (h1 : k < 169) : isCls k = true := decide_eq_true ⟨h0, h1⟩
theorem isCls_no {k : Int} (h : k < 0 ∨ 169 ≤ k) : isCls k = false := decide_eq_false (by omega)
theorem isCls_iff (k : Int) : isCls k = true ↔ 0 ≤ k ∧ k < 169 := by unfold isCls; simp
def clsTR (k : Int) : List UInt8 := if isCls k = true then clsT k else []
def clsTC (k : Int) : Int := if isCls k = true then 0 else 2
/-- The class with a text, or -1. -/
def readK (s : List UInt8) : Int := match (List.range 169).find? (fun k : Nat => clsT (k : Int) == s) with | some k => (k : Int) | none => -1
theorem readK_at {s : List UInt8} {k : Nat} (hk : k < 169) (h : clsT (k : Int) = s) (hn : ∀ j : Nat, j < k → clsT (j : Int) ≠ s) : readK s = (k : Int) := by
  unfold readK
  have : (List.range 169).find? (fun k : Nat => clsT (k : Int) == s) = some k := by
    rw [List.find?_range_eq_some]
    refine ⟨by simp [h], by simpa using hk, fun j hj => ?_⟩
    simp only [Bool.not_eq_eq_eq_not, Bool.not_true, beq_eq_false_iff_ne]
    exact hn j hj
  rw [this]
theorem readK_no {s : List UInt8} (hn : ∀ j : Nat, j < 169 → clsT (j : Int) ≠ s) : readK s = -1 := by
  unfold readK
  have : (List.range 169).find? (fun k : Nat => clsT (k : Int) == s) = none := by
    rw [List.find?_eq_none]
    intro j hj
    simp only [beq_iff_eq]
    exact hn j (by simpa using hj)
  rw [this]
theorem readK_bd (s : List UInt8) : readK s = -1 ∨ (0 ≤ readK s ∧ readK s < 169 ∧ clsT (readK s) = s) := by
  unfold readK
  cases h : (List.range 169).find? (fun k : Nat => clsT (k : Int) == s) with
  | none => exact .inl rfl
  | some k =>
    have h1 := List.find?_some h
    have h2 := List.mem_of_find?_eq_some h
    simp only [beq_iff_eq] at h1
    simp only [List.mem_range] at h2
    have h3 : (0 : Int) ≤ (k : Int) ∧ (k : Int) < 169 := by omega
    exact .inr ⟨h3.1, h3.2, h1⟩
theorem read_all : ∀ k : Fin 169, readK (clsT (k.val : Int)) = (k.val : Int) := by decide +kernel
theorem read_text (k : Int) (h0 : 0 ≤ k) (h1 : k < 169) : readK (clsT k) = k := by
  have := read_all ⟨k.toNat, by omega⟩
  have e : ((k.toNat : Nat) : Int) = k := by omega
  simp only [e] at this
  exact this
def readR (s : List UInt8) : Int := if readK s = -1 then 0 else readK s
def readC (s : List UInt8) : Int := if readK s = -1 then 6 else 0

end Go.Proofs.Ytlpkaflmhdgmmaa
