/-
  What a call leaves of blocks that were there.
-/
import Derived.Test.YtfocaoliadbhcaaDoorBase
namespace Go.Proofs.YtfocaoliadbhcaaDoor
open Go.RowKit

theorem kept_block {w w' : World} {g : Nat} {o : Obj} (h : Below w.heap.size w w') (ho : w.heap[g]? = some o) : w'.heap[g]? = some o := by
  have hg : g < w.heap.size := by
    rcases Nat.lt_or_ge g w.heap.size with h' | h'
    · exact h'
    · rw [Array.getElem?_eq_none h'] at ho; cases ho
  rw [h.block g hg]; exact ho

end Go.Proofs.YtfocaoliadbhcaaDoor
