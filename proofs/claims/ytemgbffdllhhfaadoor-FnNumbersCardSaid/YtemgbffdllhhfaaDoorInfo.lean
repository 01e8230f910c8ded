/-
  What the program's table says of bytes and of texts.
-/
import Derived.Test.YtemgbffdllhhfaaDoorRows
import Derived.Test.YtemgbffdllhhfaaDoorBase
namespace Go.Proofs.YtemgbffdllhhfaaDoor
open Go.RowKit

theorem Tryd.infoByte : (Tryd.prog.info? 5).map (fun i => (i.zero, i.size, i.bytes)) = some (some (.int .u8 0), 1, 1) := by kernel_rfl

theorem Tryd.infoText : (Tryd.prog.info? 9).map (fun i => (i.zero, i.size, i.bytes)) = some (some (.string ⟨#[]⟩), 1, 16) := by kernel_rfl

end Go.Proofs.YtemgbffdllhhfaaDoor
