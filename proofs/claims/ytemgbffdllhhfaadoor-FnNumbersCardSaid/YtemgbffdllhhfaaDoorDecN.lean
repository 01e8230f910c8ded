/-
  The walk of spec.Decimal at numbers below 0; of every int.
-/
import Derived.Test.YtemgbffdllhhfaaDoorDec
namespace Go.Proofs.YtemgbffdllhhfaaDoor
open Go.RowKit
set_option linter.unusedVariables false

theorem neg_mod (m : Nat) : (-(m : Int)).tmod 10 = -((m % 10 : Nat) : Int) := by
  rw [Int.neg_tmod]; rfl
theorem neg_div (m : Nat) : (-(m : Int)).tdiv 10 = -((m / 10 : Nat) : Int) := by
  rw [Int.neg_tdiv]; rfl

end Go.Proofs.YtemgbffdllhhfaaDoor
