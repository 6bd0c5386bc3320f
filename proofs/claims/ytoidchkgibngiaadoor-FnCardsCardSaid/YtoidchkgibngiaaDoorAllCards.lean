/-
  Plain facts: cards and the other cards are all cards.
-/
import Derived.Test.YtoidchkgibngiaaDoorOtherCards
import Derived.Test.YtoidchkgibngiaaDoorCardMath
namespace Go.Proofs.YtoidchkgibngiaaDoor

theorem restM_sub (m : Nat) (h : m < 2 ^ 52) : restM m = 2 ^ 52 - 1 - m := by
  have e : 2 ^ 52 - 1 - m = 2 ^ 52 - (m + 1) := by omega
  apply Nat.eq_of_testBit_eq
  intro i
  rw [restM_bit m i (by omega), e, Nat.testBit_two_pow_sub_succ h]
theorem others_len (xs : List Int) (h : cardsB xs = true) : xs.length + (othersN 52 xs).length = 52 := by
  have hm := mask_lt xs h
  have hl := restM_sub (maskOf xs) hm
  rw [← rest_others xs h]
  unfold bitsI
  rw [List.length_map, bitsFrom_length, hl, pop_small _ (by omega), ← pop_cards xs h, pop_small _ hm]
  exact pop_compl 52 (maskOf xs) hm
theorem all_cards (xs : List Int) (h : cardsB xs = true) : cardsB (xs ++ othersN 52 xs) = true := by
  have hc := (cards_iff xs).1 h
  rw [cards_iff]
  refine ⟨fun x hx => ?_, ?_⟩
  · rcases List.mem_append.1 hx with hx | hx
    · exact hc.1 x hx
    · have := othersN_rng 52 xs x hx; omega
  · rw [List.nodup_append]
    refine ⟨hc.2, ?_, fun a ha b hb e => ?_⟩
    · unfold othersN
      apply List.Pairwise.filter
      rw [List.pairwise_map]
      exact (List.nodup_range (n := 52)).imp (fun h e => h (by omega))
    · subst e
      have := (List.mem_filter.1 hb).2
      unfold hasB at this
      simp at this
      exact this ha
end Go.Proofs.YtoidchkgibngiaaDoor
