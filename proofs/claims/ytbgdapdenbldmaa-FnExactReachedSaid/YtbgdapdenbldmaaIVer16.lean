/-
  The program's own Verify.
-/
import Derived.Test.YtbgdapdenbldmaaIVer16T
import Derived.Test.YtbgdapdenbldmaaVer16V
import Derived.Test.YtbgdapdenbldmaaIImg13
namespace Go.Proofs.Ytbgdapdenbldmaa
open Go.RowKit Go.Sort
set_option linter.unusedVariables false

theorem bad_let {p : PImg} {f : PFun} {r : RunP} (I : RunInv p f r) (h : r.bad = true ∨ r.todo = []) : r.bad = !letB p f := by
  cases hb : r.bad with
  | true => rw [letB_no (bad_no I hb)]; rfl
  | false =>
    rcases h with h | h
    · rw [hb] at h; cases h
    · rw [letB_yes (end_best I hb h).sound]; rfl

end Go.Proofs.Ytbgdapdenbldmaa
