/-
  The law's own helpers over states: marked, and looked for their marks.
-/
import Derived.Test.YtbgdapdenbldmaaSta16T
namespace Go.Proofs.Ytbgdapdenbldmaa
open Go.RowKit Go.Sort
set_option linter.unusedVariables false

theorem grown_more {w w' : World} (h : Below w.heap.size w w') (row : Option Nat) : w.grownBy w' row := ⟨h.os, h.tape, h.output, h.size, fun k hk _ => h.block k hk⟩

end Go.Proofs.Ytbgdapdenbldmaa
