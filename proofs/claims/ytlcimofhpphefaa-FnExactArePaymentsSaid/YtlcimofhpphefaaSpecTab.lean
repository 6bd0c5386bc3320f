/-
  The model's functions of tables: valid ones, blinds, the first seat, the seats in their order, the sum of the stacks.
-/
import Derived.Test.YtlcimofhpphefaaTab
import Derived.Test.YtlcimofhpphefaaSpecH
import Derived.Test.YtlcimofhpphefaaBase
namespace Go.Proofs.Ytlcimofhpphefaa
open Go.RowKit
set_option linter.unusedVariables false

/-- Three numbers as a result. -/
abbrev tripV (x y z : Int) : Value := .tuple #[.int .i64 x, .int .i64 y, .int .i64 z]
end Go.Proofs.Ytlcimofhpphefaa
