/-
  The walk of spec.l01Figure.
-/
import Derived.Test.YtojmmmfboahkgaaDoorInfo
import Derived.Test.YtojmmmfboahkgaaDoorHexB
namespace Go.Proofs.YtojmmmfboahkgaaDoor
open Go.RowKit
set_option linter.unusedVariables false

set_option maxHeartbeats 400000 in
set_option maxRecDepth 100000 in
theorem l01Figure_any (x : Nat) (w : World) (h : x < 16) :
    Calls Tryd.prog 28 #[.int .i64 x] w fun e w' => e = .returned (.int .u8 (fig x)) ∧ w = w' := by
  by_cases h10 : x < 10
  · have E : Hid (fig x = 48 + x) := if_pos h10
    go_enter Tryd.func28, Tryd.ntmps28
    go_wp2
    go_ret
    exact ⟨by rw [E.out]; rfl, rfl⟩
  · have E : Hid (fig x = 87 + x) := if_neg h10
    go_enter Tryd.func28, Tryd.ntmps28
    go_wp2
    go_ret
    exact ⟨ret_int (by rw [E.out]; omega), rfl⟩

theorem l01Figure_int (x : Int) (w : World) (h0 : 0 ≤ x) (h : x < 16) :
    Calls Tryd.prog 28 #[.int .i64 x] w fun e w' => e = .returned (.int .u8 (fig x.toNat)) ∧ w = w' := by
  obtain ⟨N, rfl⟩ : ∃ N : Nat, x = N := ⟨x.toNat, by omega⟩
  exact l01Figure_any N w (by omega)

end Go.Proofs.YtojmmmfboahkgaaDoor
