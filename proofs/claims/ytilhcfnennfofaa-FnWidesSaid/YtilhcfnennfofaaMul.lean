/-
  The walks of the specification's Wide and Mul.
-/
import Derived.Test.YtilhcfnennfofaaMulB
import Derived.Test.YtilhcfnennfofaaAdd
namespace Go.Proofs.Ytilhcfnennfofaa
open Go.RowKit
set_option linter.unusedVariables false

/-- the halves of a product, out of the products of the halves -/
theorem wide_of {a b a1 a0 b1 b0 p00 p10 p01 p11 : Nat} (ha : a = a1 * 4294967296 + a0) (hb : b = b1 * 4294967296 + b0) (h0 : a0 * b0 = p00) (h1 : a1 * b0 = p10) (h2 : a0 * b1 = p01) (h3 : a1 * b1 = p11) :
    a * b = p11 * 18446744073709551616 + (p10 + p01) * 4294967296 + p00 := by
  subst ha hb h0 h1 h2 h3
  have x1 : a1 * 4294967296 * (b1 * 4294967296) = a1 * b1 * (4294967296 * 4294967296) := Nat.mul_mul_mul_comm _ _ _ _
  have x2 : a1 * 4294967296 * b0 = a1 * b0 * 4294967296 := Nat.mul_right_comm _ _ _
  have x3 : a0 * (b1 * 4294967296) = a0 * b1 * 4294967296 := (Nat.mul_assoc _ _ _).symm
  rw [Nat.add_mul, Nat.mul_add, Nat.mul_add, x1, x2, x3]
  omega

theorem mul_le32 {x y p : Nat} (hx : x < 4294967296) (hy : y < 4294967296) (h : x * y = p) : p ≤ 18446744065119617025 := by
  have : x * y ≤ 4294967295 * 4294967295 := Nat.mul_le_mul (by omega) (by omega)
  omega

set_option maxHeartbeats 1000000 in
set_option maxRecDepth 100000 in
theorem specWide_any (a b : Nat) (w : World) (ha : a < 18446744073709551616) (hb : b < 18446744073709551616) :
    Calls Try.prog 12 #[.int .u64 a, .int .u64 b] w fun e w' => e = .returned (.tuple #[.int .u64 (a * b / 18446744073709551616 : Nat), .int .u64 (a * b % 18446744073709551616 : Nat)]) ∧ w = w' := by
  obtain ⟨a1, ha1⟩ : ∃ q, a / 4294967296 = q := ⟨_, rfl⟩
  obtain ⟨a0, ha0⟩ : ∃ q, a % 4294967296 = q := ⟨_, rfl⟩
  obtain ⟨b1, hb1⟩ : ∃ q, b / 4294967296 = q := ⟨_, rfl⟩
  obtain ⟨b0, hb0⟩ : ∃ q, b % 4294967296 = q := ⟨_, rfl⟩
  obtain ⟨p00, h0⟩ : ∃ q, a0 * b0 = q := ⟨_, rfl⟩
  obtain ⟨p10, h1⟩ : ∃ q, a1 * b0 = q := ⟨_, rfl⟩
  obtain ⟨p01, h2⟩ : ∃ q, a0 * b1 = q := ⟨_, rfl⟩
  obtain ⟨p11, h3⟩ : ∃ q, a1 * b1 = q := ⟨_, rfl⟩
  have hw := wide_of (a := a) (b := b) (by omega) (by omega) h0 h1 h2 h3
  have l0 := mul_le32 (by omega) (by omega) h0
  have l1 := mul_le32 (by omega) (by omega) h1
  have l2 := mul_le32 (by omega) (by omega) h2
  have l3 := mul_le32 (by omega) (by omega) h3
  obtain ⟨mid, hm⟩ : ∃ q, p10 + p00 / 4294967296 = q := ⟨_, rfl⟩
  obtain ⟨oth, ho⟩ : ∃ q, p01 + mid % 4294967296 = q := ⟨_, rfl⟩
  have hH : a * b / 18446744073709551616 = p11 + mid / 4294967296 + oth / 4294967296 := by omega
  have hL : a * b % 18446744073709551616 = oth % 4294967296 * 4294967296 + p00 % 4294967296 := by omega
  have hO : oth < 18446744073709551616 := by omega
  rw [hH, hL]
  have z1 : (a1 : Int) < 4294967296 := by omega
  have z2 : (b1 : Int) < 4294967296 := by omega
  have z3 : (a0 : Int) < 4294967296 := by omega
  have z4 : (b0 : Int) < 4294967296 := by omega
  have A1 : (a : Int) / 4294967296 = a1 := by omega
  have A0 : (a : Int) % 4294967296 = a0 := by omega
  have B1 : (b : Int) / 4294967296 = b1 := by omega
  have B0 : (b : Int) % 4294967296 = b0 := by omega
  have P0 : (a0 : Int) * b0 = p00 := by rw [← h0]; simp
  have P1 : (a1 : Int) * b0 = p10 := by rw [← h1]; simp
  have P2 : (a0 : Int) * b1 = p01 := by rw [← h2]; simp
  have P3 : (a1 : Int) * b1 = p11 := by rw [← h3]; simp
  have M1 : (p10 : Int) + p00 / 4294967296 = mid := by omega
  have M2 : (p01 : Int) + mid % 4294967296 = oth := by omega
  have L0 : (p00 : Int) ≤ 18446744065119617025 := by omega
  have L1 : (p10 : Int) ≤ 18446744065119617025 := by omega
  have L2 : (p01 : Int) ≤ 18446744065119617025 := by omega
  have L3 : (p11 : Int) + (mid : Int) / 4294967296 + (oth : Int) / 4294967296 < 18446744073709551616 := by
    have : a * b < 18446744073709551616 * 18446744073709551616 := Nat.mul_lt_mul'' ha hb
    omega
  have L4 : (mid : Int) < 18446744073709551616 := by omega
  have L5 : (oth : Int) < 18446744073709551616 := by omega
  have HW : Hid (Unit → IntKind.u64.wrap ((oth : Int) * 4294967296) = (oth : Int) % 4294967296 * 4294967296) := fun _ => by
    show (oth : Int) * 4294967296 % 18446744073709551616 = _
    omega
  have HW := HW.out ()
  clear hw l0 l1 l2 l3 hH hL hO ha1 ha0 hb1 hb0 h0 h1 h2 h3 hm ho ha hb
  go_enter Try.func12, Try.ntmps12
  go_wp2
  go_ret2
  exact ⟨rfl, rfl⟩

theorem sign_zero (s : Bool) (w : World) : Calls Try.prog 25 #[.int .u64 0, .bool s] w fun e w' => e = .returned (.int .u64 (signN s 0 : Nat)) ∧ w = w' := l03Sign_int 0 s w (by omega) (by omega)

theorem sign_inf (s : Bool) (w : World) : Calls Try.prog 25 #[.int .u64 9218868437227405312, .bool s] w fun e w' => e = .returned (.int .u64 (signN s 9218868437227405312 : Nat)) ∧ w = w' := l03Sign_int 9218868437227405312 s w (by omega) (by omega)

theorem lost_bits {P k H L : Nat} {l : Bool} (h : LostAt P k (H * 18446744073709551616 + L) l) : LostAt P (k + 1) (H / 2 * 18446744073709551616 + (L / 2 + H % 2 * 9223372036854775808)) (l || decide (L % 2 = 1)) := by
  have := lost_step h
  have e1 : (H * 18446744073709551616 + L) / 2 = H / 2 * 18446744073709551616 + (L / 2 + H % 2 * 9223372036854775808) := by omega
  have e2 : (H * 18446744073709551616 + L) % 2 = L % 2 := by omega
  rw [e1, e2] at this
  exact this

theorem lost_room {P k H L : Nat} {l : Bool} (h : LostAt P k (H * 18446744073709551616 + L) l) (hH : 0 < H) (hP : P < 81129638414606681695789005144064) : k ≤ 41 := by
  have h1 := h.1
  have h2 := Nat.div_mul_le_self P (2 ^ k)
  rw [← h1] at h2
  rcases Nat.lt_or_ge 41 k with hk | hk
  · have h3 : 2 ^ 42 ≤ 2 ^ k := Nat.pow_le_pow_right (by decide) hk
    have h4 : 18446744073709551616 * 2 ^ 42 ≤ (H * 18446744073709551616 + L) * 2 ^ k := Nat.mul_le_mul (by omega) h3
    have e : (18446744073709551616 : Nat) * 2 ^ 42 = 81129638414606681695789005144064 := by decide
    omega
  · exact hk

end Go.Proofs.Ytilhcfnennfofaa
