/-
  All contracts of chapter 5, the program's own and the specification's.
-/
import Derived.Test.YtepfjeamiokgnaaIMulA
import Derived.Test.YtepfjeamiokgnaaMulA
import Derived.Test.YtepfjeamiokgnaaDivA
import Derived.Test.YtepfjeamiokgnaaRemA
import Derived.Test.YtepfjeamiokgnaaSqrtA
namespace Go.Proofs.Ytepfjeamiokgnaa
end Go.Proofs.Ytepfjeamiokgnaa
