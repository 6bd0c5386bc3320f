/-
 Put together: Choices, StepImpl, Range, IterImpl, ChAt
-/
import Derived.Test.YtnllndcajdofjaaQaAnySG
import Derived.RangeFuncNested
import Derived.RangeFuncBound
import Derived.RangeFuncCalls
import Derived.RangeFuncLeaves
import Derived.Shelf.Abstract
import Derived.Shelf.RegionOpen
import Derived.OwnWalkIn
import Derived.TacticsInMore
import Derived.LoopNIn
import Derived.LoopIn

/-! Plain facts: all choices of five, by lists and by indices; the best one. Nothing of the program is imported. -/
namespace Go.Proofs.Ytnllndcajdofjaa
set_option linter.unusedVariables false

/-! The best of some lists, by a value: the first one with the greatest. -/
end Go.Proofs.Ytnllndcajdofjaa

/-! The next choice of indices; the elements at the indices of a choice. -/
namespace Go.Proofs.Ytnllndcajdofjaa
open Go.RowKit
set_option linter.unusedVariables false

/-! The elements at a choice. -/
end Go.Proofs.Ytnllndcajdofjaa

/-! A range over a function whose iterator keeps memory of its own: the caller's walk, for loops that run to their end. -/
namespace Go.Proofs.Ytnllndcajdofjaa
open Go.RowKit
set_option linter.unusedVariables false

variable {F : Fence} {n : Nat} {P : Program}

/-- How a body that never leaves ends. -/
def endsIn (R : World → Prop) : Exit → Go.Act → World → Prop
 | .normal,_,W=>R W
 | _,_,_=>False
theorem putObj_below {n0 : Nat} (W : World) (l : Nat) (o : Obj) (hl : n0 ≤ l) (hlt : l < W.heap.size) : Below n0 W (W.putObj l o) :=
 (Below.refl n0 W).grown (grownBy_putObj' W l o) (by omega) (fun k e=>by cases e;exact hl)

end Go.Proofs.Ytnllndcajdofjaa

/-! The program's iterator over all choices of five indices. -/
namespace Go.Proofs.Ytnllndcajdofjaa
open Go.RowKit
set_option linter.unusedVariables false
attribute [local go_sem] Oper.semAt_some

end Go.Proofs.Ytnllndcajdofjaa

/-! The chosen lists,by their numbers. -/
namespace Go.Proofs.Ytnllndcajdofjaa
open Go.RowKit
set_option linter.unusedVariables false

end Go.Proofs.Ytnllndcajdofjaa
