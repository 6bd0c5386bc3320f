/-
  Plain facts on cards that are read from a text. Nothing of the program is imported.
-/
import Derived.Test.YtlpkaflmhdgmmaaTextPure
import Derived.Lib.Bytealg
namespace Go.Proofs.Ytlpkaflmhdgmmaa

theorem idx_none : ∀ (l : List UInt8) (c : UInt8), (∀ i (h : i < l.length), l[i] ≠ c) → Lib.indexByte l c = -1
  | [], _, _ => rfl
  | b :: l, c, h => by
    have h0 : b ≠ c := h 0 (by simp)
    have ih := idx_none l c (fun i hi => h (i + 1) (by simp; omega))
    unfold Lib.indexByte
    rw [if_neg (by simpa using h0), ih]; rfl
theorem idx_at : ∀ (l : List UInt8) (c : UInt8) (k : Nat) (hk : k < l.length), l[k] = c → (∀ i (h : i < l.length), i < k → l[i] ≠ c) → Lib.indexByte l c = (k : Int)
  | [], _, _, hk, _, _ => by simp at hk
  | b :: l, c, 0, _, e, _ => by
    have e' : b = c := e
    unfold Lib.indexByte
    rw [if_pos (by simpa using e')]; rfl
  | b :: l, c, k + 1, hk, e, h => by
    have h0 : b ≠ c := h 0 (by simp) (by omega)
    have ih := idx_at l c k (by simp at hk; omega) e (fun i hi hik => h (i + 1) (by simp; omega) (by omega))
    unfold Lib.indexByte
    rw [if_neg (by simpa using h0), ih]
    have : ((k : Int) == -1) = false := by simp
    rw [this]
    simp
theorem idx_bd : ∀ (l : List UInt8) (c : UInt8), -1 ≤ Lib.indexByte l c ∧ Lib.indexByte l c < l.length
  | [], _ => by unfold Lib.indexByte; simp
  | b :: l, c => by
    have ih := idx_bd l c
    unfold Lib.indexByte
    simp only [List.length_cons]
    split
    · omega
    · split <;> omega

/-- The j-th rank, suit and card of a text; below 0: there is none. -/
def rAt (l : List UInt8) (j : Nat) : Int := Lib.indexByte rankL (l.getD (2 * j) 0)
def sAt (l : List UInt8) (j : Nat) : Int := Lib.indexByte suitL (l.getD (2 * j + 1) 0)
def cAt (l : List UInt8) (j : Nat) : Int := 4 * rAt l j + sAt l j
def okAt (l : List UInt8) (j : Nat) : Bool := decide (0 ≤ rAt l j ∧ 0 ≤ sAt l j)
theorem rAt_bd (l : List UInt8) (j : Nat) : -1 ≤ rAt l j ∧ rAt l j ≤ 12 := by
  have := idx_bd rankL (l.getD (2 * j) 0)
  have e : rankL.length = 13 := rfl
  unfold rAt; omega
theorem sAt_bd (l : List UInt8) (j : Nat) : -1 ≤ sAt l j ∧ sAt l j ≤ 3 := by
  have := idx_bd suitL (l.getD (2 * j + 1) 0)
  have e : suitL.length = 4 := rfl
  unfold sAt; omega
/-- The first k cards of a text. -/
def prs (l : List UInt8) (k : Nat) : List Int := (List.range k).map (cAt l)
theorem prs_length (l : List UInt8) (k : Nat) : (prs l k).length = k := by simp [prs]
theorem prs_snoc (l : List UInt8) (k : Nat) : prs l (k + 1) = prs l k ++ [cAt l k] := by simp [prs, List.range_succ]
/-- The text is that of cards. -/
def goodB (l : List UInt8) : Bool := decide (l.length % 2 = 0 ∧ (∀ j, j < l.length / 2 → okAt l j = true) ∧ cardsB (prs l (l.length / 2)) = true)
theorem goodB_iff (l : List UInt8) : goodB l = true ↔ l.length % 2 = 0 ∧ (∀ j, j < l.length / 2 → okAt l j = true) ∧ cardsB (prs l (l.length / 2)) = true := by unfold goodB; simp only [decide_eq_true_eq]
theorem good_no {l : List UInt8} (h : ¬ (l.length % 2 = 0 ∧ (∀ j, j < l.length / 2 → okAt l j = true) ∧ cardsB (prs l (l.length / 2)) = true)) : goodB l = false := by unfold goodB; exact decide_eq_false h
/-- What ReadCards answers. -/
def readL (l : List UInt8) : List Int := if goodB l = true then prs l (l.length / 2) else []
def codeS (l : List UInt8) : Int := if goodB l = true then 0 else 6
theorem readL_yes {l : List UInt8} (h : goodB l = true) : readL l = prs l (l.length / 2) := by unfold readL; rw [if_pos h]
theorem codeS_yes {l : List UInt8} (h : goodB l = true) : codeS l = 0 := by unfold codeS; rw [if_pos h]
theorem readL_no {l : List UInt8} (h : goodB l = false) : readL l = [] := by unfold readL; rw [h]; rfl
theorem codeS_no {l : List UInt8} (h : goodB l = false) : codeS l = 6 := by unfold codeS; rw [h]; rfl

/-- The set has as many bits as the list has cards. -/
theorem mask_count (xs : List Int) (h : cardsB xs = true) : pop 64 (maskOf xs) = xs.length := by
  have k := pop_mask (2 ^ 52 - 1) xs h xs.length (Nat.le_refl _)
  rw [List.take_of_length_le (Nat.le_refl _)] at k
  have hm := mask_lt xs h
  have e : maskOf xs &&& (2 ^ 52 - 1) = maskOf xs := by rw [Nat.and_two_pow_sub_one_eq_mod]; exact Nat.mod_eq_of_lt hm
  rw [e] at k
  have hc : cnt (fun x => (2 ^ 52 - 1).testBit x.toNat) xs = xs.length := by
    unfold cnt
    rw [List.filter_eq_self.2 (fun x hx => by
      have := (cards_iff xs).1 h |>.1 x hx
      rw [Nat.testBit_two_pow_sub_one]
      simp; omega)]
  rw [hc] at k
  exact k
/-- There are 52 cards. -/
theorem cards_len (xs : List Int) (h : cardsB xs = true) : xs.length ≤ 52 := by
  have k := mask_count xs h
  have hm := mask_lt xs h
  have s := pop_split 52 12 (maskOf xs)
  have z : maskOf xs / 2 ^ 52 = 0 := Nat.div_eq_of_lt hm
  rw [z, pop_zero] at s
  have b := pop_le 52 (maskOf xs % 2 ^ 52)
  have e64 : 52 + 12 = 64 := rfl
  rw [e64] at s
  omega
end Go.Proofs.Ytlpkaflmhdgmmaa
