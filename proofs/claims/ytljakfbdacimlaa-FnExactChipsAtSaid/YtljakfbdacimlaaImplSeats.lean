/-
  The program's blinds and first seats.
-/
import Derived.Test.YtljakfbdacimlaaImplTab
import Derived.Test.YtljakfbdacimlaaStoreB
import Derived.Test.YtljakfbdacimlaaAnyR
namespace Go.Proofs.Ytljakfbdacimlaa
open Go.RowKit
set_option linter.unusedVariables false

end Go.Proofs.Ytljakfbdacimlaa
