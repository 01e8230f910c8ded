/-
  The specification's CodeSize.
-/
import Derived.Test.YtojmmmfboahkgaaDoorImg13F
namespace Go.Proofs.YtojmmmfboahkgaaDoor
open Go.RowKit Go.Sort
set_option linter.unusedVariables false

theorem sum_take (l : List PFun) (k : Nat) (q : PFun) (h : l[k]? = some q) : ((l.take (k + 1)).map (fun f => f.code.length)).sum = ((l.take k).map (fun f => f.code.length)).sum + q.code.length := by
  rw [List.take_add_one, h]
  simp
theorem fun_few {q : PFun} (h : funOk q = true) : q.code.length ≤ 300 := by
  unfold funOk at h
  simp only [Bool.and_eq_true] at h
  have := h.2.2.2.1
  unfold inB at this
  simp only [Bool.and_eq_true, decide_eq_true_eq] at this
  omega
theorem img_few {p : PImg} (h : imgOk p = true) : p.funcs.length ≤ 16 ∧ ∀ q ∈ p.funcs, q.code.length ≤ 300 := by
  unfold imgOk at h
  simp only [Bool.and_eq_true] at h
  have h1 := h.1
  have h2 := h.2.2.2.1
  unfold inB at h1
  simp only [Bool.and_eq_true, decide_eq_true_eq] at h1
  rw [List.all_eq_true] at h2
  exact ⟨by omega, fun q hq => fun_few (h2 q hq)⟩

end Go.Proofs.YtojmmmfboahkgaaDoor
