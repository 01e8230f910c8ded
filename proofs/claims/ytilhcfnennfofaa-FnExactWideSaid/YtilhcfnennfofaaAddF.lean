/-
  The walk of the specification's Add at finite numbers.
-/
import Derived.Test.YtilhcfnennfofaaAdd
import Derived.Deep.CutRange
namespace Go.Proofs.Ytilhcfnennfofaa
open Go.RowKit
set_option linter.unusedVariables false

end Go.Proofs.Ytilhcfnennfofaa
