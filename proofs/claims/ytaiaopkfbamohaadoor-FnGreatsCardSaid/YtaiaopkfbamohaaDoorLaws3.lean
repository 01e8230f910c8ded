/-
  The walks of the laws' own helpers over numbers in bits.
-/
import Derived.Test.YtaiaopkfbamohaaDoorInts
import Derived.Test.YtaiaopkfbamohaaDoorOrder
import Derived.Deep.QuietTactic
import Derived.BigQuiet
import Derived.Lib.QuietBelow
import Derived.Lib.ConvBytes
namespace Go.Proofs.YtaiaopkfbamohaaDoor
open Go.RowKit
set_option linter.unusedVariables false

end Go.Proofs.YtaiaopkfbamohaaDoor
