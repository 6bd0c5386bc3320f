/-
  The hands of a player are five cards each, and there is one at least.
-/
import Derived.Test.YtlpkaflmhdgmmaaGreatDoorHandsPure
import Derived.Test.YtlpkaflmhdgmmaaGreatDoorSpecHigh6
namespace Go.Proofs.YtlpkaflmhdgmmaaGreatDoor
open Go.RowKit
set_option linter.unusedVariables false

theorem hRows_pos (hs bs : List Int) (l m : Nat) (hh : hs.length ≤ 7) (hb : bs.length ≤ 7) (hlm : l ≤ m) (hm : m ≤ 5) (h1 : m ≤ hs.length) (h2 : 5 - m ≤ bs.length) : 0 < (hRows hs bs l (m + 1 - l)).length := by
  obtain ⟨k, e, hk⟩ : ∃ k, m + 1 - l = k + 1 ∧ l + k = m := ⟨m - l, by omega, by omega⟩
  rw [e, hRows_succ, hRow_len, hk]
  have a := idxC_pos hs.length m hh h1 hm
  have b := idxC_pos bs.length (5 - m) hb h2 (by omega)
  have := Nat.mul_pos a b
  omega
theorem pickL_mem {n s : Nat} {xs c : List Int} (hn : xs.length = n) (h : c ∈ idxC n s) : pickL xs c ∈ ch s xs := by
  subst hn
  rw [ch_idxC]
  exact List.mem_map.2 ⟨c, h, rfl⟩
theorem hRow_cards (hs bs : List Int) (o : Nat) (ho : o ≤ 5) (hc : cardsB (hs ++ bs) = true) : ∀ x ∈ hRow hs bs o, cardsB x = true ∧ x.length = 5 := fun x hx => by
  unfold hRow at hx
  obtain ⟨c1, h1, hx⟩ := List.mem_flatMap.1 hx
  obtain ⟨c2, h2, rfl⟩ := List.mem_map.1 hx
  obtain ⟨s1, l1⟩ := ch_mem o hs _ (pickL_mem rfl h1)
  obtain ⟨s2, l2⟩ := ch_mem (5 - o) bs _ (pickL_mem rfl h2)
  have hsub := s1.append s2
  have hcc := (cards_iff _).1 hc
  refine ⟨(cards_iff _).2 ⟨fun x hx => hcc.1 x (hsub.subset hx), hcc.2.sublist hsub⟩, ?_⟩
  rw [List.length_append, l1, l2]
  omega
theorem hRows_cards (hs bs : List Int) (l M : Nat) (hM : l + M ≤ 6) (hc : cardsB (hs ++ bs) = true) : ∀ x ∈ hRows hs bs l M, cardsB x = true ∧ x.length = 5 := fun x hx => by
  unfold hRows at hx
  obtain ⟨j, hj, hx⟩ := List.mem_flatMap.1 hx
  have := List.mem_range.1 hj
  exact hRow_cards hs bs _ (by omega) hc x hx
theorem hRows_cards_at (hs bs : List Int) (l M : Nat) (hM : l + M ≤ 6) (hc : cardsB (hs ++ bs) = true) (i : Nat) (hi : i < (hRows hs bs l M).length) : cardsB ((hRows hs bs l M).getD i []) = true ∧ ((hRows hs bs l M).getD i []).length = 5 := by
  refine hRows_cards hs bs l M hM hc _ ?_
  rw [List.getD_eq_getElem?_getD, List.getElem?_eq_getElem hi]
  exact List.getElem_mem hi

/-- The greatest of the first n values, as the program seeks it. -/
def maxJ (a b : Int) : Int := if a < b then b else a
def mxV (V : Nat → Int) : Nat → Int
  | 0 => -9223372036854775808
  | n + 1 => maxJ (mxV V n) (V n)
theorem mx_top (V : Nat → Int) : ∀ n, 0 < n → (∀ k, k < n → 0 ≤ V k) → mxV V n = topV V n
  | n + 1, _, h => by
    rcases Nat.eq_zero_or_pos n with e | hn
    · subst e
      have := h 0 (by omega)
      rw [mxV, topV, mxV, topV, maxJ, if_pos (by omega), if_pos (by omega)]
    · rw [mxV, topV, mx_top V n hn (fun k hk => h k (by omega)), maxJ]
theorem mx_bd (V : Nat → Int) : ∀ n, (∀ k, k < n → 0 ≤ V k ∧ V k ≤ 4000000) → -9223372036854775808 ≤ mxV V n ∧ mxV V n ≤ 4000000
  | 0, _ => by rw [mxV]; omega
  | n + 1, h => by
    have := mx_bd V n (fun k hk => h k (by omega))
    have := h n (by omega)
    rw [mxV, maxJ]
    split <;> omega
end Go.Proofs.YtlpkaflmhdgmmaaGreatDoor
