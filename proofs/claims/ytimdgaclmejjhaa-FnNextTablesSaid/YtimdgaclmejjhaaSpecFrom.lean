/-
  The model's seats in their order.
-/
import Derived.Test.YtimdgaclmejjhaaSpecTab
import Derived.Test.YtimdgaclmejjhaaSpecH
import Derived.Test.YtimdgaclmejjhaaBase
namespace Go.Proofs.Ytimdgaclmejjhaa
open Go.RowKit
set_option linter.unusedVariables false

end Go.Proofs.Ytimdgaclmejjhaa
