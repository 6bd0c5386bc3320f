/-
 The program and the model: settled rounds, the winner by folds.
-/
import Derived.Test.YtnllndcajdofjaaQaBetFG
import Derived.Test.YtnllndcajdofjaaQaSpecBetF
namespace Go.Proofs.Ytnllndcajdofjaa
open Go.RowKit
set_option linter.unusedVariables false

theorem live_pos (b : Bt) (i : Nat) (hf : nthB b.fo i = false) : ∀ k,i < k → 1 ≤ (liveL b k).length
 | 0,h=>by omega
 | k + 1,h=>by
  unfold liveL
  by_cases q : nthB b.fo k = true
  ·rw [if_pos q]
   refine live_pos b i hf k ?_
   by_cases e : i = k
   ·subst e;rw [hf] at q;cases q
   ·omega
  ·rw [if_neg q];simp
end Go.Proofs.Ytnllndcajdofjaa
