/-
  The walk of spec.l01Figure.
-/
import Derived.Test.YtmddkfedmjdagaaInfo
import Derived.Test.YtmddkfedmjdagaaHexB
namespace Go.Proofs.Ytmddkfedmjdagaa
open Go.RowKit
set_option linter.unusedVariables false

end Go.Proofs.Ytmddkfedmjdagaa
