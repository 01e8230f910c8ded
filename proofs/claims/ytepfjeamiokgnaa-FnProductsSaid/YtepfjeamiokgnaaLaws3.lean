/-
  The walks of the laws' own helpers over numbers in bits.
-/
import Derived.Test.YtepfjeamiokgnaaInts
import Derived.Test.YtepfjeamiokgnaaOrder
import Derived.Deep.QuietTactic
import Derived.BigQuiet
import Derived.Lib.QuietBelow
import Derived.Lib.ConvBytes
namespace Go.Proofs.Ytepfjeamiokgnaa
open Go.RowKit
set_option linter.unusedVariables false

set_option maxHeartbeats 400000 in
set_option maxRecDepth 100000 in
theorem nan_any (x : Nat) (w : World) (hx : x < 18446744073709551616) :
    Calls Try.prog 11 #[.int .u64 x] w fun e w' => e = .returned (.bool (decide (kindN x = 1))) ∧ Below w.heap.size w w' := by
  have HX : Hid (Unit → x < 18446744073709551616) := fun _ => hx
  have HK := kindN_cases x
  obtain ⟨k, hk⟩ : ∃ k, kindN x = k := ⟨_, rfl⟩
  have HB : Hid (Unit → partsV x = .agg #[.int .i64 k, .bool (belowN x), .int .u64 (mantN x), .int .i64 (expN x)]) := fun _ => by unfold partsV; rw [hk]
  have HT : Hid (Unit → kindN x = k) := fun _ => hk
  rw [hk] at HK
  clear hk hx
  rcases HK with rfl | rfl | rfl | rfl
  all_goals
    go_enter Try.func11, Try.ntmps11
    go_wp2_with (go_at_call 12; refine (specParts_any x _ (HX.out ())).mono ?_; rintro e w' ⟨rfl, hb⟩; rw [HB.out ()])
    simp only [Try.partsKind]
    go_wp2
    go_ret
    exact ⟨by rw [HT.out ()]; rfl, hb⟩

theorem nan_yes (x : Nat) (w : World) (hx : Hid (Unit → x < 18446744073709551616)) (hk : Hid (Unit → kindN x = 1)) :
    Calls Try.prog 11 #[.int .u64 x] w fun e w' => e = .returned (.bool true) ∧ Below w.heap.size w w' :=
  (nan_any x w (hx.out ())).mono (by rintro e w' ⟨rfl, hb⟩; exact ⟨by rw [hk.out ()]; rfl, hb⟩)

theorem nan_no (x : Nat) (w : World) (hx : Hid (Unit → x < 18446744073709551616)) (hk : Hid (Unit → kindN x ≠ 1)) :
    Calls Try.prog 11 #[.int .u64 x] w fun e w' => e = .returned (.bool false) ∧ Below w.heap.size w w' :=
  (nan_any x w (hx.out ())).mono (by rintro e w' ⟨rfl, hb⟩; exact ⟨by rw [decide_eq_false (hk.out ())], hb⟩)

set_option maxHeartbeats 400000 in
set_option maxRecDepth 100000 in
theorem whole_any (n : Int) (w : World) (h0 : -9223372036854775808 ≤ n) (h1 : n ≤ 9223372036854775807) :
    Calls Try.prog 13 #[.int .i64 n] w fun e w' => e = .returned (.int .u64 (fromIntN n : Nat)) ∧ w = w' := by
  go_enter Try.func13, Try.ntmps13
  go_wp2_with (go_at_call 34; refine (specFromInt_any n _ h0 h1).mono ?_; rintro e w' ⟨rfl, rfl⟩)
  go_ret
  exact ⟨rfl, rfl⟩

end Go.Proofs.Ytepfjeamiokgnaa
