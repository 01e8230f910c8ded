/-
  The law's own helpers over states: copied, held against each other, marked.
-/
import Derived.Test.YtbgdapdenbldmaaSta16J
namespace Go.Proofs.Ytbgdapdenbldmaa
open Go.RowKit Go.Sort
set_option linter.unusedVariables false

end Go.Proofs.Ytbgdapdenbldmaa
