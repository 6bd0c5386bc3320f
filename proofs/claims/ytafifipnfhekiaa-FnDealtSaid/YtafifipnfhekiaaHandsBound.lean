/-
  How many hands are dealt, and of how many cards.
-/
import Derived.Test.YtafifipnfhekiaaDealImpl
namespace Go.Proofs.Ytafifipnfhekiaa
open Go.RowKit

theorem hands_bound (xs : List Int) (h c : Int) : handsN xs h c ≤ 10 ∧ handsN xs h c * c.toNat ≤ 52 ∧ (0 < handsN xs h c → c.toNat ≤ 52) := by
  unfold handsN
  split
  · next hk =>
    rw [Bool.and_eq_true] at hk
    obtain ⟨_, hk⟩ := hk
    unfold okDeal inB at hk
    simp only [Bool.and_eq_true, decide_eq_true_eq] at hk
    obtain ⟨⟨h1, h2⟩, h3, h4⟩ := hk
    have hm := deal_bound h c h1 h3 h4
    refine ⟨by omega, hm, fun h0 => Nat.le_trans (Nat.le_mul_of_pos_left c.toNat h0) hm⟩
  · exact ⟨by omega, by simp, fun h0 => by omega⟩
end Go.Proofs.Ytafifipnfhekiaa
