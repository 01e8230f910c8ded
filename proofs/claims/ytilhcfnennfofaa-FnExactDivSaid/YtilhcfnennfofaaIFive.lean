/-
  All contracts of chapter 5, the program's own and the specification's.
-/
import Derived.Test.YtilhcfnennfofaaIMulA
import Derived.Test.YtilhcfnennfofaaMulA
import Derived.Test.YtilhcfnennfofaaDivA
import Derived.Test.YtilhcfnennfofaaRemA
import Derived.Test.YtilhcfnennfofaaSqrtA
namespace Go.Proofs.Ytilhcfnennfofaa
end Go.Proofs.Ytilhcfnennfofaa
