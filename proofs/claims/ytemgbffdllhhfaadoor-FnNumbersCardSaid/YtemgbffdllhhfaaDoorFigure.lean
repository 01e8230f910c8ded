/-
  The walk of spec.l01Figure.
-/
import Derived.Test.YtemgbffdllhhfaaDoorInfo
import Derived.Test.YtemgbffdllhhfaaDoorHexB
namespace Go.Proofs.YtemgbffdllhhfaaDoor
open Go.RowKit
set_option linter.unusedVariables false

end Go.Proofs.YtemgbffdllhhfaaDoor
