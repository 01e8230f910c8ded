/-
  The walk of the specification's Div.
-/
import Derived.Test.YtepfjeamiokgnaaDivF
namespace Go.Proofs.Ytepfjeamiokgnaa
open Go.RowKit
set_option linter.unusedVariables false

end Go.Proofs.Ytepfjeamiokgnaa
