/-
  What the program's table says of bytes and of texts.
-/
import Derived.Test.YtojmmmfboahkgaaDoorRows
import Derived.Test.YtojmmmfboahkgaaDoorBase
namespace Go.Proofs.YtojmmmfboahkgaaDoor
open Go.RowKit

theorem Tryd.infoByte : (Tryd.prog.info? 5).map (fun i => (i.zero, i.size, i.bytes)) = some (some (.int .u8 0), 1, 1) := by kernel_rfl

theorem Tryd.infoText : (Tryd.prog.info? 9).map (fun i => (i.zero, i.size, i.bytes)) = some (some (.string ⟨#[]⟩), 1, 16) := by kernel_rfl

theorem Tryd.infoInt : (Tryd.prog.info? 3).map (fun i => (i.zero, i.size, i.bytes)) = some (some (.int .i64 0), 1, 8) := by kernel_rfl

end Go.Proofs.YtojmmmfboahkgaaDoor
