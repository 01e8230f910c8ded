/-
  Decimal of every int: the specification's and the program's.
-/
import Derived.Test.YtemgbffdllhhfaaDoorDecN
import Derived.Test.YtemgbffdllhhfaaDoorRDecB
import Derived.Test.YtemgbffdllhhfaaDoorTab
import Derived.Test.YtemgbffdllhhfaaDoorShelf
namespace Go.Proofs.YtemgbffdllhhfaaDoor
open Go.RowKit
set_option linter.unusedVariables false

set_option maxHeartbeats 400000 in
set_option maxRecDepth 100000 in
theorem implDecimal_any (n : Int) (w : World) (h0 : -9223372036854775808 ≤ n) (h1 : n ≤ 9223372036854775807) (htab : Lib.TabIs Tryd.prog w "internal/strconv.uint64pow10" .u64 Lib.pow10Tab) :
    Calls Tryd.prog 9 #[.int .i64 n] w fun e w' => e = .returned (.string ⟨(Lib.itoa n).toArray⟩) ∧ Below w.heap.size w w' := by
  have c := Tryd.strconv_Itoa n h0 h1 w htab
  clear htab
  go_enter Tryd.func9, Tryd.ntmps9
  go_wp2_with (go_at_call 17; refine c.mono ?_; rintro e w' ⟨rfl, hb⟩)
  go_ret
  exact ⟨rfl, below_grown hb⟩

end Go.Proofs.YtemgbffdllhhfaaDoor
