/-
  Plain facts: cards are recovered from their text; cards and the other cards are all cards. Nothing of the program is imported.
-/
import Derived.Test.YtoidchkgibngiaaDoorCardRead
namespace Go.Proofs.YtoidchkgibngiaaDoor

theorem rank_found : ∀ r : Fin 13, Lib.indexByte rankL (rankCh r.val) = (r.val : Int) := by decide +kernel
theorem suit_found : ∀ s : Fin 4, Lib.indexByte suitL (suitCh s.val) = (s.val : Int) := by decide +kernel
theorem textT_get : ∀ (xs : List Int) (j : Nat) (h : j < xs.length), (textT xs).getD (2 * j) 0 = rankCh ((xs[j]).toNat / 4) ∧ (textT xs).getD (2 * j + 1) 0 = suitCh ((xs[j]).toNat % 4)
  | [], j, h => by simp at h
  | x :: xs, 0, _ => ⟨rfl, rfl⟩
  | x :: xs, j + 1, h => by
    have ih := textT_get xs j (by simp at h; omega)
    have e1 : 2 * (j + 1) = 2 * j + 2 := by omega
    rw [e1]
    exact ih
theorem cAt_text (xs : List Int) (j : Nat) (h : j < xs.length) (hb : 0 ≤ xs[j] ∧ xs[j] < 52) : rAt (textT xs) j = xs[j] / 4 ∧ sAt (textT xs) j = xs[j] % 4 := by
  obtain ⟨g1, g2⟩ := textT_get xs j h
  unfold rAt sAt
  rw [g1, g2]
  have r := rank_found ⟨(xs[j]).toNat / 4, by omega⟩
  have s := suit_found ⟨(xs[j]).toNat % 4, by omega⟩
  simp only at r s
  rw [r, s]
  omega
theorem prs_text (xs : List Int) (h : ∀ x ∈ xs, 0 ≤ x ∧ x < 52) : prs (textT xs) xs.length = xs := by
  apply List.ext_getElem
  · rw [prs_length]
  · intro i h1 h2
    have hb := h xs[i] (List.getElem_mem h2)
    obtain ⟨a, b⟩ := cAt_text xs i h2 hb
    simp only [prs, List.getElem_map, List.getElem_range]
    unfold cAt
    rw [a, b]
    omega
/-- Cards are recovered from their text. -/
theorem read_text (xs : List Int) (h : cardsB xs = true) : readL (textT xs) = xs ∧ codeS (textT xs) = 0 := by
  have hb := (cards_iff xs).1 h |>.1
  have hl : (textT xs).length / 2 = xs.length := by rw [textT_length]; omega
  have hg : goodB (textT xs) = true := by
    rw [good_iff, hl]
    refine ⟨by rw [textT_length]; omega, fun j hj => ?_, by rw [prs_text xs hb]; exact h⟩
    obtain ⟨a, b⟩ := cAt_text xs j hj (hb _ (List.getElem_mem hj))
    have := hb _ (List.getElem_mem hj)
    unfold okAt
    rw [a, b]
    simp only [decide_eq_true_eq]
    omega
  rw [readL_yes hg, codeS_yes hg, hl, prs_text xs hb]
  exact ⟨rfl, rfl⟩
theorem pop_compl : ∀ (n x : Nat), x < 2 ^ n → pop n x + pop n (2 ^ n - 1 - x) = n
  | 0, _, _ => rfl
  | n + 1, x, h => by
    have e : 2 ^ (n + 1) = 2 * 2 ^ n := by rw [Nat.pow_succ]; omega
    have ih := pop_compl n (x / 2) (by omega)
    unfold pop
    have e1 : (2 ^ (n + 1) - 1 - x) / 2 = 2 ^ n - 1 - x / 2 := by omega
    have e2 : (2 ^ (n + 1) - 1 - x) % 2 = 1 - x % 2 := by omega
    rw [e1, e2]
    omega
theorem pop_small (x : Nat) (h : x < 2 ^ 52) : pop 64 x = pop 52 x := by
  have s := pop_split 52 12 x
  have z : x / 2 ^ 52 = 0 := Nat.div_eq_of_lt h
  have e64 : 52 + 12 = 64 := rfl
  rw [z, pop_zero, Nat.mod_eq_of_lt h, e64, Nat.add_zero] at s
  exact s
theorem pop_cards (xs : List Int) (h : cardsB xs = true) : pop 64 (maskOf xs) = xs.length := mask_count xs h
end Go.Proofs.YtoidchkgibngiaaDoor
