/-
  The walks of the program's own numbers: kinds, parts, signs.
-/
import Derived.Test.YtcabanghegddhaaGreatDoorNumA
import Derived.Test.YtcabanghegddhaaGreatDoorBitsA
import Derived.Laws.BitsAllLaws
namespace Go.Proofs.YtcabanghegddhaaGreatDoor
open Go.RowKit
set_option linter.unusedVariables false

theorem partsV_nan {x : Nat} (h : kindN x = 1) : partsV x = .agg #[.int .i64 1, .bool false, .int .u64 0, .int .i64 0] := by simp [partsV, mantN, expN, belowN, h]
theorem partsV_two {x k : Nat} (h : kindN x = k) (h1 : k ≠ 1) (h4 : k ≠ 4) : partsV x = .agg #[.int .i64 k, .bool (decide (9223372036854775808 ≤ x)), .int .u64 0, .int .i64 0] := by simp [partsV, mantN, expN, belowN, h, h1, h4]
theorem partsV_four {x : Nat} (h : kindN x = 4) : partsV x = .agg #[.int .i64 4, .bool (decide (9223372036854775808 ≤ x)), .int .u64 (mantN x : Nat), .int .i64 (expN x)] := by simp [partsV, belowN, h]

theorem or_top {x : Nat} (h : x < 9223372036854775808) : x ||| 9223372036854775808 = x + 9223372036854775808 := by
  have := Nat.two_pow_add_eq_or_of_lt (i := 63) (b := x) (by simpa using h) 1
  simp at this
  rw [Nat.or_comm, Nat.add_comm, ← this]

set_option maxHeartbeats 400000 in
set_option maxRecDepth 100000 in
theorem iSigned (x : Nat) (b : Bool) (w : World) (hx : x ≤ 9218868437227405312) :
    Calls Tryz.prog 127 #[.int .u64 x, .bool b] w fun e w' => e = .returned (.int .u64 (signN b x : Nat)) ∧ w = w' := by
  cases b
  · go_enter Tryz.func127, Tryz.ntmps127
    go_wp2
    go_ret
    exact ⟨rfl, rfl⟩
  · have HS : Hid (Unit → signN true x = x + 9223372036854775808) := fun _ => by simp [signN]
    have ho : bits .or .u64 (x : Int) 9223372036854775808 = ((x + 9223372036854775808 : Nat) : Int) := by rw [← or_top (x := x) (by omega)]; exact u64_or_nat x 9223372036854775808 (by omega) (by decide)
    clear hx
    go_enter Tryz.func127, Tryz.ntmps127
    go_wp2
    go_ret
    exact ⟨by rw [HS.out ()]; rfl, rfl⟩

end Go.Proofs.YtcabanghegddhaaGreatDoor
