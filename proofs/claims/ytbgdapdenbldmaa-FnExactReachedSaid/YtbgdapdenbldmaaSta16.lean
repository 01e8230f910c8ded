/-
  States of the verifier: as arguments, counted, copied, held against each other; what is joined (pure).
-/
import Derived.Test.YtbgdapdenbldmaaIntS16
import Derived.Test.YtbgdapdenbldmaaImg13U
namespace Go.Proofs.Ytbgdapdenbldmaa
open Go.RowKit Go.ChangeShapes Go.WideShapes
set_option linter.unusedVariables false

structure PSta where
  acc : Int
  regs : List Int

structure staW (p : PSta) : Prop where
  acc : I64 p.acc
  regs : ∀ x ∈ p.regs, I64 x

theorem Try.cellsIntS16 : Try.prog.cellsOf 35 = 1 := by kernel_rfl

theorem two_cells_of {w : World} {g : Nat} {a b : Value} {t : TypeId} {r : Nat × Nat} (h : w.heap[g]? = some (.cells #[a, b] t r)) : w.cell? ⟨g, 0, none⟩ = some a ∧ w.cell? ⟨g, 1, none⟩ = some b := by
  refine ⟨?_, ?_⟩ <;> (rw [cell_of_row _ _ _ _ _ _ h]; rfl)

/-- the places of two rows, joined -/
def joinAt (l m : List Int) (i : Nat) : Int := match l[i]?, m[i]? with
  | some x, some y => if x = y then x else 0
  | _, _ => 0
def joinL (l m : List Int) : List Int := (List.range (max l.length m.length)).map (joinAt l m)
def joinS (a b : PSta) : PSta := ⟨if a.acc = b.acc then a.acc else 0, joinL a.regs b.regs⟩

end Go.Proofs.Ytbgdapdenbldmaa
