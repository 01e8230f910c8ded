/-
  The specification's ValueOk, IsTrue.
-/
import Derived.Test.YtlikjbklagolmaaDoorVal17B
namespace Go.Proofs.YtlikjbklagolmaaDoor
open Go.RowKit Go.Sort
set_option linter.unusedVariables false

end Go.Proofs.YtlikjbklagolmaaDoor
