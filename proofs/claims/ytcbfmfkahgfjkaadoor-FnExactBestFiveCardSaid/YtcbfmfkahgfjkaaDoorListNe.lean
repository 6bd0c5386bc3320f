/-
  Rows of the call's own that lie apart: what is kept when one of them is written.
-/
import Derived.Test.YtcbfmfkahgfjkaaDoorListLaw
namespace Go.Proofs.YtcbfmfkahgfjkaaDoor
open Go.RowKit
set_option linter.unusedVariables false

/-- A row that lay there before another was made is not that one. -/
theorem own_ne {W1 W2 : World} {lo1 lo2 n m c d : Nat} {A B : Option Addr} {xs ys : List Int} (h1 : Own W1 lo1 (.slice A n c) xs) (h2 : Own W2 lo2 (.slice B m d) ys) (h : W1.heap.size ≤ lo2) :
    (Value.slice A n c).ownBlock = none ∨ (Value.slice A n c).ownBlock ≠ (Value.slice B m d).ownBlock := by
  rcases A with _ | a
  · exact .inl rfl
  · right
    intro e
    have k1 := World.ownsRow.lt h1 a.block rfl
    have k2 := World.ownsRow.lt h2 a.block e.symm
    omega
theorem own_ne' {W1 W2 : World} {lo1 lo2 n m c d : Nat} {A B : Option Addr} {xs ys : List Int} (h1 : Own W1 lo1 (.slice A n c) xs) (h2 : Own W2 lo2 (.slice B m d) ys) (h : W2.heap.size ≤ lo1) :
    (Value.slice A n c).ownBlock = none ∨ (Value.slice A n c).ownBlock ≠ (Value.slice B m d).ownBlock := by
  rcases A with _ | a
  · exact .inl rfl
  · right
    intro e
    have k1 := World.ownsRow.lt h1 a.block rfl
    have k2 := World.ownsRow.lt h2 a.block e.symm
    omega
/-- What has been written into a row of the call's own counts for nothing. -/
theorem bl_mark {a w w' : World} {lo n c : Nat} {A : Option Addr} {xs : List Int} (hb : Below a.heap.size a w) (hg : w.grownBy w' (Value.slice A n c).ownBlock) (h : Own w lo (.slice A n c) xs) (hl : a.heap.size ≤ lo) : Below a.heap.size a w' :=
  hb.grown hg hb.size (fun j hj => Nat.le_trans hl (World.ownsRow.lt h j hj).1)
theorem sz_le {w w' : World} (h : Below w.heap.size w w') : w.heap.size ≤ w'.heap.size := h.size

end Go.Proofs.YtcbfmfkahgfjkaaDoor
