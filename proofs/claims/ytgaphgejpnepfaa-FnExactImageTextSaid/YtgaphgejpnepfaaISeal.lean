/-
  The walks of the program's own Sealed and of a sum in bytes.
-/
import Derived.Test.YtgaphgejpnepfaaISums
namespace Go.Proofs.Ytgaphgejpnepfaa
open Go.RowKit
set_option linter.unusedVariables false

set_option maxHeartbeats 400000 in
set_option maxRecDepth 100000 in
theorem iInBytes (x : Nat) (w : World) (hx : x < 4294967296) :
    Calls Try.prog 104 #[.int .u32 x] w fun e w' => e = .returned (.string (strOfNums (fourB x))) ∧ Below w.heap.size w w' := by
  have hx' : (x : Int) < 4294967296 := by omega
  have hcv := four_conv w
  clear hx
  go_enter Try.func104, Try.ntmps104
  go_wp2
  go_ret
  exact ⟨by simp only [fourB, Int.natCast_ediv, Int.natCast_emod]; rfl, (Below.refl _ _).alloc (Nat.le_refl _) _⟩

set_option maxHeartbeats 400000 in
set_option maxRecDepth 100000 in
theorem iSealed_in (t : ByteArray) (w : World) (ht : t.size ≤ 12000) :
    Calls Try.prog 48 #[.string t] w fun e w' => e = .returned (.tuple #[.string (sealedS t), .bool true]) ∧ Below w.heap.size w w' := by
  have hz : (strOfNums (fourB (sumL 4294967295 t.data.toList))).size = 4 := by rw [strOfNums_size]; rfl
  go_enter Try.func48, Try.ntmps48
  go_wp2_with (first | (go_at_call 103; refine (iSumOf_any t _ (by omega)).mono ?_; rintro e w' ⟨rfl, rfl⟩) | (go_at_call 104; refine (iInBytes _ _ (sumL_lt _ (by decide))).mono ?_; rintro e w' ⟨rfl, hb⟩))
  go_ret2
  exact ⟨rfl, hb⟩

set_option maxHeartbeats 400000 in
set_option maxRecDepth 100000 in
theorem iSealed_out (t : ByteArray) (w : World) (ht : 12000 < t.size) :
    Calls Try.prog 48 #[.string t] w fun e w' => e = .returned (.tuple #[.string ⟨#[]⟩, .bool false]) ∧ Below w.heap.size w w' := by
  go_enter Try.func48, Try.ntmps48
  go_wp2
  go_ret2
  exact ⟨rfl, Below.refl _ _⟩

end Go.Proofs.Ytgaphgejpnepfaa
