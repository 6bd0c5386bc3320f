/-
  append(nil row, list...): a copy of the call's own.
-/
import Derived.Test.YtlpkaflmhdgmmaaRows2
namespace Go.Proofs.Ytlpkaflmhdgmmaa
open Go.RowKit
set_option linter.unusedVariables false

end Go.Proofs.Ytlpkaflmhdgmmaa
