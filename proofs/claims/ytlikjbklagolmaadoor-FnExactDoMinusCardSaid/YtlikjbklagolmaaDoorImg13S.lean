/-
  The law's own helpers that count how much came in: rows of an image, functions, constants, an image.
-/
import Derived.Test.YtlikjbklagolmaaDoorRows
import Derived.Test.YtlikjbklagolmaaDoorImg13B
import Derived.Test.YtlikjbklagolmaaDoorInfo
namespace Go.Proofs.YtlikjbklagolmaaDoor
open Go.RowKit
set_option linter.unusedVariables false

/-- what is left of a count: too little, or all that was counted is few -/
def LeftFew (r left n : Int) : Prop := r = -1 ∨ (0 ≤ r ∧ r ≤ left ∧ n ≤ left)
def funFew (p : PFun) (left : Int) : Prop := (p.caps.length : Int) ≤ left ∧ (p.code.length : Int) ≤ left ∧ (p.hnds.length : Int) ≤ left
def imgFew (p : PImg) (left : Int) : Prop := (p.funcs.length : Int) ≤ left ∧ (∀ q ∈ p.funcs, funFew q left) ∧ (p.consts.length : Int) ≤ left ∧ ∀ q ∈ p.consts, (q.text.size : Int) ≤ left

theorem funFew.mono {p : PFun} {a b : Int} (h : funFew p a) (hab : a ≤ b) : funFew p b := ⟨Int.le_trans h.1 hab, Int.le_trans h.2.1 hab, Int.le_trans h.2.2 hab⟩

end Go.Proofs.YtlikjbklagolmaaDoor
