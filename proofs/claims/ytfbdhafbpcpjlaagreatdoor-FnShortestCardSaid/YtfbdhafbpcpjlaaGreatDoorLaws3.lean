/-
  The walks of the laws' own helpers over numbers in bits.
-/
import Derived.Test.YtfbdhafbpcpjlaaGreatDoorBitsA
import Derived.Deep.QuietTactic
import Derived.BigQuiet
import Derived.Lib.QuietBelow
import Derived.Lib.ConvBytes
namespace Go.Proofs.YtfbdhafbpcpjlaaGreatDoor
open Go.RowKit
set_option linter.unusedVariables false

end Go.Proofs.YtfbdhafbpcpjlaaGreatDoor
