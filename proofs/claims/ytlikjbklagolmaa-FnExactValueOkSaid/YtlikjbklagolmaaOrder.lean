/-
  The walks of the specification's Truthy, Equal and Less, and of what they ask.
-/
import Derived.Test.YtlikjbklagolmaaBits
namespace Go.Proofs.Ytlikjbklagolmaa
open Go.RowKit
set_option linter.unusedVariables false

theorem Try.partsKind (k : Int) (b : Bool) (m e : Int) (w : World) : Sem.run Try.prog (Instr.field 52 (.agg #[.int .i64 k, .bool b, .int .u64 m, .int .i64 e]) 0) w = .ok (.int .i64 k) w := by kernel_rfl

theorem Try.partsBelow (k : Int) (b : Bool) (m e : Int) (w : World) : Sem.run Try.prog (Instr.field 52 (.agg #[.int .i64 k, .bool b, .int .u64 m, .int .i64 e]) 1) w = .ok (.bool b) w := by kernel_rfl

/-- numbers that are no NaN, in their order -/
def keyN (x : Nat) : Int := if 9223372036854775808 ≤ x then -((x : Int) - 9223372036854775808) else x

/-- Truthy, Equal and Less, told by the bits -/
def truthyN (x : Nat) : Bool := decide (kindN x ≠ 1 ∧ kindN x ≠ 3)
def equalN (a b : Nat) : Bool := decide (kindN a ≠ 1 ∧ kindN b ≠ 1 ∧ keyN a = keyN b)
def lessN (a b : Nat) : Bool := decide (kindN a ≠ 1 ∧ kindN b ≠ 1 ∧ keyN a < keyN b)

set_option maxHeartbeats 400000 in
set_option maxRecDepth 100000 in
theorem l03Nan_any (x : Nat) (w : World) (hx : x < 18446744073709551616) :
    Calls Try.prog 15 #[.int .u64 x] w fun e w' => e = .returned (.bool (decide (kindN x = 1))) ∧ Below w.heap.size w w' := by
  have HX : Hid (Unit → x < 18446744073709551616) := fun _ => hx
  have HK := kindN_cases x
  obtain ⟨k, hk⟩ : ∃ k, kindN x = k := ⟨_, rfl⟩
  have HB : Hid (Unit → partsV x = .agg #[.int .i64 k, .bool (belowN x), .int .u64 (mantN x), .int .i64 (expN x)]) := fun _ => by unfold partsV; rw [hk]
  have HT : Hid (Unit → kindN x = k) := fun _ => hk
  rw [hk] at HK
  clear hk hx
  rcases HK with rfl | rfl | rfl | rfl
  all_goals
    go_enter Try.func15, Try.ntmps15
    go_wp2_with (go_at_call 19; refine (specParts_any x _ (HX.out ())).mono ?_; rintro e w' ⟨rfl, hb⟩; rw [HB.out ()])
    simp only [Try.partsKind]
    go_wp2
    go_ret
    exact ⟨by rw [HT.out ()]; rfl, hb⟩

set_option maxHeartbeats 400000 in
set_option maxRecDepth 100000 in
theorem l03Key_any (x : Nat) (w : World) (hx : x < 18446744073709551616) :
    Calls Try.prog 16 #[.int .u64 x] w fun e w' => e = .returned (.int .i64 (keyN x)) ∧ w = w' := by
  have HX : Hid (Unit → x < 18446744073709551616) := fun _ => hx
  have hx' : (x : Int) < 18446744073709551616 := by omega
  clear hx
  by_cases h : (9223372036854775808 : Int) ≤ x
  · go_enter Try.func16, Try.ntmps16
    go_wp2_with (go_at_call 20; refine (l03Pow_63 _).mono ?_; rintro e w' ⟨rfl, rfl⟩)
    go_ret
    exact ⟨ret_int (by unfold keyN; rw [if_pos (by omega)]), rfl⟩
  · have h' : decide ((9223372036854775808 : Int) ≤ x) = false := by simp; omega
    go_enter Try.func16, Try.ntmps16
    go_wp2_with (go_at_call 20; refine (l03Pow_63 _).mono ?_; rintro e w' ⟨rfl, rfl⟩)
    go_ret
    exact ⟨ret_int (by unfold keyN; rw [if_neg (by omega)]), rfl⟩

theorem l03Nan_is (x : Nat) (w : World) (hx : Hid (Unit → x < 18446744073709551616)) (hk : kindN x = 1) :
    Calls Try.prog 15 #[.int .u64 x] w fun e w' => e = .returned (.bool true) ∧ Below w.heap.size w w' :=
  (l03Nan_any x w (hx.out ())).mono (by rintro e w' ⟨rfl, hb⟩; exact ⟨by rw [hk]; rfl, hb⟩)

theorem l03Nan_no (x : Nat) (w : World) (hx : Hid (Unit → x < 18446744073709551616)) (hk : ¬kindN x = 1) :
    Calls Try.prog 15 #[.int .u64 x] w fun e w' => e = .returned (.bool false) ∧ Below w.heap.size w w' :=
  (l03Nan_any x w (hx.out ())).mono (by rintro e w' ⟨rfl, hb⟩; exact ⟨by rw [decide_eq_false hk], hb⟩)

set_option maxHeartbeats 1000000 in
set_option maxRecDepth 100000 in
theorem specEqual_any (a b : Nat) (w : World) (ha : a < 18446744073709551616) (hb : b < 18446744073709551616) :
    Calls Try.prog 12 #[.int .u64 a, .int .u64 b] w fun e w' => e = .returned (.bool (equalN a b)) ∧ Below w.heap.size w w' := by
  have HA : Hid (Unit → a < 18446744073709551616) := fun _ => ha
  have HB : Hid (Unit → b < 18446744073709551616) := fun _ => hb
  clear ha hb
  go_enter Try.func12, Try.ntmps12
  go_wp2_with fail
  by_cases ka : kindN a = 1
  · refine (l03Nan_is a _ HA ka).mono ?_
    rintro e w1 ⟨rfl, hb1⟩
    go_wp2_with fail
    go_ret
    exact ⟨by simp [equalN, ka], hb1⟩
  · refine (l03Nan_no a _ HA ka).mono ?_
    rintro e w1 ⟨rfl, hb1⟩
    go_wp2_with fail
    by_cases kb : kindN b = 1
    · refine (l03Nan_is b _ HB kb).mono ?_
      rintro e w2 ⟨rfl, hb2⟩
      go_wp2_with fail
      go_ret
      exact ⟨by simp [equalN, kb], chain hb1 hb2⟩
    · refine (l03Nan_no b _ HB kb).mono ?_
      rintro e w2 ⟨rfl, hb2⟩
      go_wp2_with fail
      refine (l03Key_any a _ (HA.out ())).mono ?_
      rintro e w3 ⟨rfl, rfl⟩
      go_wp2_with fail
      refine (l03Key_any b _ (HB.out ())).mono ?_
      rintro e w4 ⟨rfl, rfl⟩
      go_wp2_with fail
      go_ret
      exact ⟨by simp only [equalN, ka, kb, not_false_eq_true, ne_eq, true_and]; rfl, chain hb1 hb2⟩

end Go.Proofs.Ytlikjbklagolmaa
