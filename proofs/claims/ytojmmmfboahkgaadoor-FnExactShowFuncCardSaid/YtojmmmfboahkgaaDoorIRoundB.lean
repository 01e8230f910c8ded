/-
  The nearest number, over no program, worked out by the highest bit: a whole number of 64 bits, and what is dropped of it held against one half.
-/
import Derived.Test.YtojmmmfboahkgaaDoorBitsB
namespace Go.Proofs.YtojmmmfboahkgaaDoor

theorem roundN_nil (e : Int) (st : Bool) : roundN 0 e st = 0 := by simp [roundN]

theorem rne_ge (m k : Nat) (st : Bool) : m / 2 ^ k ≤ rne m k st := by unfold rne; split <;> omega
theorem rne_le (m k : Nat) (st : Bool) : rne m k st ≤ m / 2 ^ k + 1 := by unfold rne; split <;> omega

theorem roundN_inf64 {M : Nat} {E : Int} (st : Bool) (h1 : 9223372036854775808 ≤ M) (h2 : M < 18446744073709551616) (hE : 961 ≤ E) :
    roundN M E st = 9218868437227405312 := by
  rw [roundN_at (k := 11) st (by omega) (by omega) (by simpa using h2) (.inr (by simpa using h1))]
  have h : M / 2 ^ 11 ≤ rne M 11 st := rne_ge M 11 st
  have : (2 : Nat) ^ 11 = 2048 := rfl
  rw [this] at h
  simp only [Int.cast_ofNat_Int] at *
  omega

theorem roundN_mid64 {M d : Nat} {E : Int} (st : Bool) (h1 : 9223372036854775808 ≤ M) (h2 : M < 18446744073709551616) (hd1 : 11 ≤ d) (h0 : -1074 ≤ E + d) (hE : E + d = -1074 ∨ d = 11) (h4 : E + d ≤ 971) :
    roundN M E st = (E + d + 1074).toNat * 4503599627370496 + rne M d st := by
  have hp : (2 : Nat) ^ 64 ≤ 2 ^ (53 + d) := Nat.pow_le_pow_right (by decide) (by omega)
  have hq : (2 : Nat) ^ 11 ≤ 2 ^ d := Nat.pow_le_pow_right (by decide) hd1
  have h64 : (2 : Nat) ^ 64 = 18446744073709551616 := rfl
  have h11 : (2 : Nat) ^ 11 = 2048 := rfl
  rw [h64] at hp
  rw [h11] at hq
  rw [roundN_at (k := d) st (by omega) h0 (by omega) (by rcases hE with h | h; exact .inl h; exact .inr (by subst h; simpa using h1))]
  have hr := rne_le M d st
  have hm : M / 2 ^ d ≤ M / 2048 := Nat.div_le_div_left hq (by decide)
  omega

/-- what is dropped, brought to the top of 64 bits -/
theorem drop_top {M d : Nat} (hd : d ≤ 64) : M * 2 ^ (64 - d) % 18446744073709551616 = M % 2 ^ d * 2 ^ (64 - d) := by
  have e : (18446744073709551616 : Nat) = 2 ^ d * 2 ^ (64 - d) := by rw [← Nat.pow_add, Nat.add_sub_of_le hd]
  rw [e, Nat.mul_mod_mul_right]
theorem drop_gt {r d : Nat} (hd : d ≤ 64) : 9223372036854775808 < r * 2 ^ (64 - d) ↔ 2 ^ d < 2 * r := by
  have e : 2 * 9223372036854775808 = 2 ^ d * 2 ^ (64 - d) := by rw [← Nat.pow_add, Nat.add_sub_of_le hd]
  have hp : 0 < 2 ^ (64 - d) := Nat.two_pow_pos _
  have h : 2 ^ d * 2 ^ (64 - d) < 2 * r * 2 ^ (64 - d) ↔ 2 ^ d < 2 * r := Nat.mul_lt_mul_right hp
  rw [← h, ← e, Nat.mul_assoc]
  omega
theorem drop_eq {r d : Nat} (hd : d ≤ 64) : r * 2 ^ (64 - d) = 9223372036854775808 ↔ 2 * r = 2 ^ d := by
  have e : 2 * 9223372036854775808 = 2 ^ d * 2 ^ (64 - d) := by rw [← Nat.pow_add, Nat.add_sub_of_le hd]
  have hp : 0 < 2 ^ (64 - d) := Nat.two_pow_pos _
  have h : 2 * r * 2 ^ (64 - d) = 2 ^ d * 2 ^ (64 - d) ↔ 2 * r = 2 ^ d := Nat.mul_right_cancel_iff hp
  rw [← h, ← e, Nat.mul_assoc]
  omega

/-- one more where what is dropped is more than a half, or is one half and there is more, or the last place is odd -/
theorem rne_drop {M d S : Nat} (st : Bool) (hd : d ≤ 64) (hS : S % 2 = M / 2 ^ d % 2) :
    rne M d st = M / 2 ^ d + (if 9223372036854775808 < M * 2 ^ (64 - d) % 18446744073709551616 ∨ (M * 2 ^ (64 - d) % 18446744073709551616 = 9223372036854775808 ∧ (st = true ∨ S % 2 = 1)) then 1 else 0) := by
  rw [drop_top hd, hS]
  simp only [drop_gt hd, drop_eq hd]
  unfold rne
  split <;> rfl

/-- a whole number that is brought to 64 bits -/
theorem len_top {m l : Nat} (h1 : 2 ^ (l - 1) ≤ m) (h2 : m < 2 ^ l) (hl : 1 ≤ l) (hl2 : l ≤ 64) : 9223372036854775808 ≤ m * 2 ^ (64 - l) ∧ m * 2 ^ (64 - l) < 18446744073709551616 := by
  have e1 : 2 ^ (l - 1) * 2 ^ (64 - l) = 9223372036854775808 := by rw [← Nat.pow_add, (by omega : l - 1 + (64 - l) = 63)]
  have e2 : 2 ^ l * 2 ^ (64 - l) = 18446744073709551616 := by rw [← Nat.pow_add, (by omega : l + (64 - l) = 64)]
  rw [← e1, ← e2]
  exact ⟨Nat.mul_le_mul_right _ h1, Nat.mul_lt_mul_of_pos_right h2 (Nat.two_pow_pos _)⟩

/-- kinds, by the bits without the sign -/
theorem kind_nan {x : Nat} (h : 9218868437227405312 < x % 9223372036854775808) : kindN x = 1 := by
  unfold kindN expBits fracBits
  rw [if_pos (by omega), if_neg (by omega)]
theorem kind_inf {x : Nat} (h : x % 9223372036854775808 = 9218868437227405312) : kindN x = 2 := by
  unfold kindN expBits fracBits
  rw [if_pos (by omega), if_pos (by omega)]
theorem kind_zero {x : Nat} (h : x % 9223372036854775808 = 0) : kindN x = 3 := by
  unfold kindN expBits fracBits
  rw [if_neg (by omega), if_pos (by omega)]
theorem kind_fin {x : Nat} (h : x % 9223372036854775808 < 9218868437227405312) (h0 : x % 9223372036854775808 ≠ 0) : kindN x = 4 := by
  unfold kindN expBits fracBits
  rw [if_neg (by omega), if_neg (by omega)]

end Go.Proofs.YtojmmmfboahkgaaDoor
