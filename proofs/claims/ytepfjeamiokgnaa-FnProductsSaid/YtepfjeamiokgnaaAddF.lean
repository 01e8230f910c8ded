/-
  The walk of the specification's Add at finite numbers.
-/
import Derived.Test.YtepfjeamiokgnaaAdd
import Derived.Deep.CutRange
namespace Go.Proofs.Ytepfjeamiokgnaa
open Go.RowKit
set_option linter.unusedVariables false

end Go.Proofs.Ytepfjeamiokgnaa
