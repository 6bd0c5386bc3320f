/-
  The program's methods of a round: they only read.
-/
import Derived.Test.YtlcimofhpphefaaBetA
namespace Go.Proofs.Ytlcimofhpphefaa
open Go.RowKit
set_option linter.unusedVariables false

end Go.Proofs.Ytlcimofhpphefaa
