/-
  The walk of spec.Decimal.
-/
import Derived.Test.YtmddkfedmjdagaaFigure
import Derived.Test.YtmddkfedmjdagaaStep
import Derived.Test.YtmddkfedmjdagaaDecB
namespace Go.Proofs.Ytmddkfedmjdagaa
open Go.RowKit
set_option linter.unusedVariables false

theorem conv_new {P : Program} (w : World) {e src dst : TypeId} (y : Int) (hs : P.underlying src = some (.slice e)) (he : P.underlying e = some (.int .u8)) (hd : P.underlying dst = some .string) :
    (convert src dst (.slice (some ⟨w.heap.size, 0, none⟩) 1 1)).run P (w.alloc (.cells #[.int .u8 y] e)) = .ok (.string (strOfNums [y])) (w.alloc (.cells #[.int .u8 y] e)) := by
  refine run_convert_bytes_arg _ src e hs he w.heap.size 0 1 1 [y] rfl (fun i hi => ?_) dst hd
  obtain rfl : i = 0 := by omega
  exact cells_new w [.int .u8 y] e 0 _ rfl

end Go.Proofs.Ytmddkfedmjdagaa
