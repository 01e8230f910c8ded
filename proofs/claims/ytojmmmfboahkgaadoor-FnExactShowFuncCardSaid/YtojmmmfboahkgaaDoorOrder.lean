/-
  The walks of the specification's Truthy, Equal and Less, and of what they ask.
-/
import Derived.Test.YtojmmmfboahkgaaDoorBits
namespace Go.Proofs.YtojmmmfboahkgaaDoor
open Go.RowKit
set_option linter.unusedVariables false

theorem Tryd.partsKind (k : Int) (b : Bool) (m e : Int) (w : World) : Sem.run Tryd.prog (Instr.field 112 (.agg #[.int .i64 k, .bool b, .int .u64 m, .int .i64 e]) 0) w = .ok (.int .i64 k) w := by kernel_rfl

theorem Tryd.partsBelow (k : Int) (b : Bool) (m e : Int) (w : World) : Sem.run Tryd.prog (Instr.field 112 (.agg #[.int .i64 k, .bool b, .int .u64 m, .int .i64 e]) 1) w = .ok (.bool b) w := by kernel_rfl

/-- numbers that are no NaN, in their order -/
def keyN (x : Nat) : Int := if 9223372036854775808 ≤ x then -((x : Int) - 9223372036854775808) else x

/-- Truthy, Equal and Less, told by the bits -/
def truthyN (x : Nat) : Bool := decide (kindN x ≠ 1 ∧ kindN x ≠ 3)
def equalN (a b : Nat) : Bool := decide (kindN a ≠ 1 ∧ kindN b ≠ 1 ∧ keyN a = keyN b)
def lessN (a b : Nat) : Bool := decide (kindN a ≠ 1 ∧ kindN b ≠ 1 ∧ keyN a < keyN b)

set_option maxHeartbeats 400000 in
set_option maxRecDepth 100000 in
theorem l03Nan_any (x : Nat) (w : World) (hx : x < 18446744073709551616) :
    Calls Tryd.prog 45 #[.int .u64 x] w fun e w' => e = .returned (.bool (decide (kindN x = 1))) ∧ Below w.heap.size w w' := by
  have HX : Hid (Unit → x < 18446744073709551616) := fun _ => hx
  have HK := kindN_cases x
  obtain ⟨k, hk⟩ : ∃ k, kindN x = k := ⟨_, rfl⟩
  have HB : Hid (Unit → partsV x = .agg #[.int .i64 k, .bool (belowN x), .int .u64 (mantN x), .int .i64 (expN x)]) := fun _ => by unfold partsV; rw [hk]
  have HT : Hid (Unit → kindN x = k) := fun _ => hk
  rw [hk] at HK
  clear hk hx
  rcases HK with rfl | rfl | rfl | rfl
  all_goals
    go_enter Tryd.func45, Tryd.ntmps45
    go_wp2_with (go_at_call 60; refine (specParts_any x _ (HX.out ())).mono ?_; rintro e w' ⟨rfl, hb⟩; rw [HB.out ()])
    simp only [Tryd.partsKind]
    go_wp2
    go_ret
    exact ⟨by rw [HT.out ()]; rfl, hb⟩

theorem l03Nan_is (x : Nat) (w : World) (hx : Hid (Unit → x < 18446744073709551616)) (hk : kindN x = 1) :
    Calls Tryd.prog 45 #[.int .u64 x] w fun e w' => e = .returned (.bool true) ∧ Below w.heap.size w w' :=
  (l03Nan_any x w (hx.out ())).mono (by rintro e w' ⟨rfl, hb⟩; exact ⟨by rw [hk]; rfl, hb⟩)

theorem l03Nan_no (x : Nat) (w : World) (hx : Hid (Unit → x < 18446744073709551616)) (hk : ¬kindN x = 1) :
    Calls Tryd.prog 45 #[.int .u64 x] w fun e w' => e = .returned (.bool false) ∧ Below w.heap.size w w' :=
  (l03Nan_any x w (hx.out ())).mono (by rintro e w' ⟨rfl, hb⟩; exact ⟨by rw [decide_eq_false hk], hb⟩)

end Go.Proofs.YtojmmmfboahkgaaDoor
