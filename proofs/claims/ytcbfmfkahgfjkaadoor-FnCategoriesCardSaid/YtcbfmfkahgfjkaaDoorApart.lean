/-
  Rows of the call's own in different blocks.
-/
import Derived.Test.YtcbfmfkahgfjkaaDoorOthers
namespace Go.Proofs.YtcbfmfkahgfjkaaDoor
open Go.RowKit
set_option linter.unusedVariables false

/-- Two rows lie in different blocks. -/
def Apart (v u : Value) : Prop := ∀ k, v.ownBlock = some k → u.ownBlock ≠ some k
theorem Apart.symm {v u : Value} (h : Apart v u) : Apart u v := fun k hk hv => h k hv hk
theorem Apart.ne {v u : Value} (h : Apart v u) : v.ownBlock = none ∨ v.ownBlock ≠ u.ownBlock := by
  rcases hv : v.ownBlock with _ | k
  · exact .inl rfl
  · exact .inr (fun e => h k hv e.symm)
theorem apart_new {W1 W2 : World} {lo1 lo2 : Nat} {v u : Value} {xs ys : List Int} (h1 : Own W1 lo1 v xs) (h2 : Own W2 lo2 u ys) (h : W1.heap.size ≤ lo2) : Apart v u := fun k hk hu => by
  have k1 := World.ownsRow.lt h1 k hk
  have k2 := World.ownsRow.lt h2 k hu
  omega
/-- What becomes of a row's place when it is appended to. -/
theorem Apart.app {v v' u : Value} {W : World} {lo : Nat} {ys : List Int} (h : Apart v u) (hv : v'.ownBlock = v.ownBlock ∨ v'.ownBlock = some W.heap.size) (hu : Own W lo u ys) : Apart v' u := fun k hk hku => by
  rcases hv with e | e
  · exact h k (by rw [← e]; exact hk) hku
  · have := World.ownsRow.lt hu k hku
    rw [e] at hk
    injection hk with hk
    omega
end Go.Proofs.YtcbfmfkahgfjkaaDoor
