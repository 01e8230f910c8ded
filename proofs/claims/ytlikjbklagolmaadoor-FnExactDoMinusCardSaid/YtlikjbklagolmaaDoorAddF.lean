/-
  The walk of the specification's Add at finite numbers.
-/
import Derived.Test.YtlikjbklagolmaaDoorAdd
import Derived.Deep.CutRange
namespace Go.Proofs.YtlikjbklagolmaaDoor
open Go.RowKit
set_option linter.unusedVariables false

end Go.Proofs.YtlikjbklagolmaaDoor
