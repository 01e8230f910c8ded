/-
  The walks of ShortText: the length in bytes of seven bits each, and the text behind it.
-/
import Derived.Test.YtgaphgejpnepfaaVar
namespace Go.Proofs.Ytgaphgejpnepfaa
open Go.RowKit

theorem varS_size (n : Nat) : (strOfNums (varB n)).size ≤ n + 1 := by rw [strOfNums_size]; exact varB_le n

set_option maxHeartbeats 400000 in
set_option maxRecDepth 100000 in
theorem implShortText_in (s : ByteArray) (w : World) (h : s.size ≤ 12000) :
    Calls Try.prog 110 #[.string s] w fun e w' => e = .returned (.tuple #[.string (strOfNums (varB s.size) ++ s), .bool true]) ∧ Below w.heap.size w w' := by
  have hz := varS_size s.size
  go_enter Try.func110, Try.ntmps110
  go_wp2_with (go_at_call 170; refine (implVarText_in s.size _ (by omega)).mono ?_; rintro e w' ⟨rfl, hb⟩)
  go_ret2
  exact ⟨rfl, by assumption⟩

set_option maxHeartbeats 400000 in
set_option maxRecDepth 100000 in
theorem implShortText_out (s : ByteArray) (w : World) (h : 12000 < s.size) :
    Calls Try.prog 110 #[.string s] w fun e w' => e = .returned (.tuple #[.string ⟨#[]⟩, .bool false]) ∧ w = w' := by
  go_enter Try.func110, Try.ntmps110
  go_wp2
  go_ret2
  exact ⟨rfl, rfl⟩

end Go.Proofs.Ytgaphgejpnepfaa
