/-
  The walks of Unhex.
-/
import Derived.Test.YtemgbffdllhhfaaDoorHex
import Derived.Test.YtemgbffdllhhfaaDoorUnhexB
namespace Go.Proofs.YtemgbffdllhhfaaDoor
open Go.RowKit
set_option linter.unusedVariables false

end Go.Proofs.YtemgbffdllhhfaaDoor
