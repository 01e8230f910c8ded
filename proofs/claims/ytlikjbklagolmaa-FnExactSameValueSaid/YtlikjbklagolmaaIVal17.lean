/-
  The program's own ValueOk and SameValue, together.
-/
import Derived.Test.YtlikjbklagolmaaIVal17V
import Derived.Test.YtlikjbklagolmaaIVal17E
namespace Go.Proofs.Ytlikjbklagolmaa
end Go.Proofs.Ytlikjbklagolmaa
