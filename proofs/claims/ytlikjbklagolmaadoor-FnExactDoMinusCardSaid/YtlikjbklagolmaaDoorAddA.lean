/-
  The walks of the specification's Add and Sub.
-/
import Derived.Test.YtlikjbklagolmaaDoorAddF
namespace Go.Proofs.YtlikjbklagolmaaDoor
open Go.RowKit
set_option linter.unusedVariables false

/-- the difference -/
def subN (a b : Nat) : Nat := addN a (negN b)

theorem negN_lt {x : Nat} (h : x < 18446744073709551616) : negN x < 18446744073709551616 := by
  unfold negN
  split
  · decide
  · split <;> omega

end Go.Proofs.YtlikjbklagolmaaDoor
