/-
  The walk of spec.l01Figure.
-/
import Derived.Test.YtfbdhafbpcpjlaaGreatDoorBaseA
namespace Go.Proofs.YtfbdhafbpcpjlaaGreatDoor
open Go.RowKit
set_option linter.unusedVariables false

end Go.Proofs.YtfbdhafbpcpjlaaGreatDoor
