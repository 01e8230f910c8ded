/-
  The walks of the specification's Truthy, Equal and Less, and of what they ask.
-/
import Derived.Test.YtfocaoliadbhcaaDoorBits
namespace Go.Proofs.YtfocaoliadbhcaaDoor
open Go.RowKit
set_option linter.unusedVariables false

theorem Tryd.partsKind (k : Int) (b : Bool) (m e : Int) (w : World) : Sem.run Tryd.prog (Instr.field 36 (.agg #[.int .i64 k, .bool b, .int .u64 m, .int .i64 e]) 0) w = .ok (.int .i64 k) w := by kernel_rfl

theorem Tryd.partsBelow (k : Int) (b : Bool) (m e : Int) (w : World) : Sem.run Tryd.prog (Instr.field 36 (.agg #[.int .i64 k, .bool b, .int .u64 m, .int .i64 e]) 1) w = .ok (.bool b) w := by kernel_rfl

/-- numbers that are no NaN, in their order -/
def keyN (x : Nat) : Int := if 9223372036854775808 ≤ x then -((x : Int) - 9223372036854775808) else x

/-- Truthy, Equal and Less, told by the bits -/
def truthyN (x : Nat) : Bool := decide (kindN x ≠ 1 ∧ kindN x ≠ 3)
def equalN (a b : Nat) : Bool := decide (kindN a ≠ 1 ∧ kindN b ≠ 1 ∧ keyN a = keyN b)
def lessN (a b : Nat) : Bool := decide (kindN a ≠ 1 ∧ kindN b ≠ 1 ∧ keyN a < keyN b)

end Go.Proofs.YtfocaoliadbhcaaDoor
