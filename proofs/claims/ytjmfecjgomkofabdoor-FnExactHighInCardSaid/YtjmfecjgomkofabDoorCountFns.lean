/-
  CountHands: the program's walks and the model's.
-/
import Derived.Test.YtjmfecjgomkofabDoorVarFns
import Derived.Test.YtjmfecjgomkofabDoorCountPure
import Derived.Test.YtjmfecjgomkofabDoorBase
namespace Go.Proofs.YtjmfecjgomkofabDoor
open Go.RowKit
set_option linter.unusedVariables false

theorem isVar_cards {h l m b : Int} {hi : Bool} {lo : Int} (hv : isVarB h l m b hi lo = true) : hasCardsB h l m b = true := by unfold isVarB at hv; exact ((Bool.and_eq_true _ _).mp hv).1
end Go.Proofs.YtjmfecjgomkofabDoor
