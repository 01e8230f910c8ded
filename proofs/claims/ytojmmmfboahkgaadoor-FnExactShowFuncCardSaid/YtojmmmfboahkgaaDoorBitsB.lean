/-
  Numbers in 64 bits, over no program: what the bits stand for, and the nearest number to a whole number times a power of 2.
-/
import Derived.WalkKit
namespace Go.Proofs.YtojmmmfboahkgaaDoor

/-- m / 2^k to the nearest whole number; of two that are as near the even one, or, with st, the upper one -/
def rne (m k : Nat) (st : Bool) : Nat := if 2 ^ k < 2 * (m % 2 ^ k) ∨ (2 * (m % 2 ^ k) = 2 ^ k ∧ (st = true ∨ m / 2 ^ k % 2 = 1)) then m / 2 ^ k + 1 else m / 2 ^ k

/-- the bits (without the sign) of the number that is nearest to m times 2^e -/
def roundN (m : Nat) (e : Int) (st : Bool) : Nat :=
  if m = 0 then 0 else
  if max (e + m.log2 - 52) (-1074) ≤ e then min (m * 2 ^ (e - max (e + m.log2 - 52) (-1074)).toNat + (max (e + m.log2 - 52) (-1074) + 1074).toNat * 4503599627370496) 9218868437227405312
  else min (rne m (max (e + m.log2 - 52) (-1074) - e).toNat st + (max (e + m.log2 - 52) (-1074) + 1074).toNat * 4503599627370496) 9218868437227405312

theorem rne_zero (m : Nat) (st : Bool) : rne m 0 st = m := by
  unfold rne
  simp [Nat.mod_one]

theorem rne_double (m k : Nat) (st : Bool) : rne (2 * m) (k + 1) st = rne m k st := by
  unfold rne
  have h1 : 2 * m / 2 ^ (k + 1) = m / 2 ^ k := by rw [Nat.pow_succ, Nat.mul_comm (2 ^ k) 2, Nat.mul_div_mul_left _ _ (by decide : 0 < 2)]
  have h2 : 2 * m % 2 ^ (k + 1) = 2 * (m % 2 ^ k) := by rw [Nat.pow_succ, Nat.mul_comm (2 ^ k) 2, Nat.mul_mod_mul_left]
  rw [h1, h2, Nat.pow_succ]
  have h3 : (2 ^ k * 2 < 2 * (2 * (m % 2 ^ k))) ↔ (2 ^ k < 2 * (m % 2 ^ k)) := by omega
  have h4 : (2 * (2 * (m % 2 ^ k)) = 2 ^ k * 2) ↔ (2 * (m % 2 ^ k) = 2 ^ k) := by omega
  simp only [h3, h4]

theorem rne_small {m k : Nat} (st : Bool) (h : 2 * m < 2 ^ k) : rne m k st = 0 := by
  have hm : m < 2 ^ k := by omega
  unfold rne
  rw [Nat.mod_eq_of_lt hm, Nat.div_eq_of_lt hm, if_neg (by omega)]

theorem log2_of {m k : Nat} (h1 : 2 ^ k ≤ m) (h2 : m < 2 ^ (k + 1)) : m.log2 = k := by
  have hm : m ≠ 0 := by have := Nat.two_pow_pos k; omega
  have a := (Nat.le_log2 hm).2 h1
  have b := (Nat.log2_lt hm).2 h2
  omega

/-- where m times 2^e has its last place at 2^(e + k) -/
theorem roundN_at {m k : Nat} {e : Int} (st : Bool) (hm : m ≠ 0) (h0 : -1074 ≤ e + k) (h1 : m < 2 ^ (53 + k)) (h2 : e + k = -1074 ∨ 2 ^ (52 + k) ≤ m) :
    roundN m e st = min (rne m k st + (e + k + 1074).toNat * 4503599627370496) 9218868437227405312 := by
  have hl : m.log2 < 53 + k := (Nat.log2_lt hm).2 h1
  have ht : max (e + m.log2 - 52) (-1074) = e + k := by
    rcases h2 with h2 | h2
    · omega
    · have := (Nat.le_log2 hm).2 h2
      omega
  unfold roundN
  rw [if_neg hm, ht]
  by_cases hk : k = 0
  · subst hk
    simp [rne_zero]
  · rw [if_neg (by omega)]
    have e1 : (e + (k : Int) - e).toNat = k := by omega
    rw [e1]

theorem roundN_double (m : Nat) (e : Int) (st : Bool) : roundN (2 * m) (e - 1) st = roundN m e st := by
  by_cases hm : m = 0
  · subst hm; simp [roundN]
  have hl : (2 * m).log2 = m.log2 + 1 := by
    refine log2_of ?_ ?_
    · have := Nat.log2_self_le hm
      rw [Nat.pow_succ]; omega
    · have := Nat.lt_log2_self (n := m)
      rw [Nat.pow_succ]; omega
  unfold roundN
  rw [if_neg hm, if_neg (by omega), hl]
  have ht : e - 1 + ((m.log2 + 1 : Nat) : Int) - 52 = e + m.log2 - 52 := by omega
  rw [ht]
  generalize max (e + (m.log2 : Int) - 52) (-1074) = t
  by_cases h1 : t ≤ e - 1
  · rw [if_pos h1, if_pos (by omega)]
    have e1 : (e - t).toNat = (e - 1 - t).toNat + 1 := by omega
    rw [e1, Nat.pow_succ, Nat.mul_comm 2 m, Nat.mul_assoc, Nat.mul_comm 2 (2 ^ _)]
  · rw [if_neg h1]
    by_cases h2 : t ≤ e
    · have : t = e := by omega
      subst this
      have e1 : (t - (t - 1)).toNat = 0 + 1 := by omega
      rw [if_pos (by omega), e1, rne_double, rne_zero]
      simp
    · rw [if_neg h2]
      have e1 : (t - (e - 1)).toNat = (t - e).toNat + 1 := by omega
      rw [e1, rne_double]

theorem roundN_times (j m : Nat) (e : Int) (st : Bool) : roundN (m * 2 ^ j) (e - j) st = roundN m e st := by
  induction j with
  | zero => simp
  | succ j ih =>
    rw [← ih, ← roundN_double (m * 2 ^ j)]
    congr 1
    · rw [Nat.pow_succ, ← Nat.mul_assoc]; omega
    · omega

/-- far below the least number it is 0 -/
theorem roundN_tiny {m : Nat} {e : Int} (st : Bool) (hm : m < 18446744073709551616) (he : e ≤ -1139) : roundN m e st = 0 := by
  by_cases h0 : m = 0
  · subst h0; simp [roundN]
  have hk : e + ((-1074 - e).toNat : Nat) = -1074 := by omega
  have hp : (2 : Nat) ^ 65 ≤ 2 ^ (-1074 - e).toNat := Nat.pow_le_pow_right (by decide) (by omega)
  rw [roundN_at (k := (-1074 - e).toNat) st h0 (by omega) (by rw [Nat.pow_add]; omega) (.inl hk), rne_small st (by omega), hk]
  simp

/-- far above the greatest it is infinite -/
theorem roundN_huge {m : Nat} {e : Int} (st : Bool) (h0 : m ≠ 0) (he : 1100 ≤ e) : roundN m e st = 9218868437227405312 := by
  unfold roundN
  rw [if_neg h0]
  have h1 : 1048 ≤ max (e + m.log2 - 52) (-1074) := by omega
  have h2 : 2122 * 4503599627370496 ≤ (max (e + (m.log2 : Int) - 52) (-1074) + 1074).toNat * 4503599627370496 := Nat.mul_le_mul_right _ (by omega)
  split <;> omega

/-- the sign -/
def signN (below : Bool) (x : Nat) : Nat := if below then x + 9223372036854775808 else x

theorem roundN_le (m : Nat) (e : Int) (st : Bool) : roundN m e st ≤ 9218868437227405312 := by
  unfold roundN
  split
  · omega
  · split <;> omega

/-- the nearest number by the bit next to the last and whether anything lies behind it -/
theorem rne_succ (m j : Nat) (st : Bool) : rne m (j + 1) st = m / 2 ^ (j + 1) + (if m / 2 ^ j % 2 = 1 ∧ ((st = true ∨ m % 2 ^ j ≠ 0) ∨ m / 2 ^ (j + 1) % 2 = 1) then 1 else 0) := by
  unfold rne
  have hr : m % 2 ^ (j + 1) = m % 2 ^ j + 2 ^ j * (m / 2 ^ j % 2) := by rw [Nat.pow_succ, Nat.mod_mul]
  have hlt : m % 2 ^ j < 2 ^ j := Nat.mod_lt _ (Nat.two_pow_pos j)
  rw [hr, Nat.pow_succ]
  rcases Nat.mod_two_eq_zero_or_one (m / 2 ^ j) with hb | hb
  · rw [hb, if_neg (by omega), if_neg (by omega)]; simp
  · rw [hb, Nat.mul_one]
    by_cases hz : m % 2 ^ j = 0
    · rw [hz]
      by_cases hc : st = true ∨ m / (2 ^ j * 2) % 2 = 1
      · rw [if_pos (.inr ⟨by omega, hc⟩), if_pos ⟨rfl, by rcases hc with h | h; exact .inl (.inl h); exact .inr h⟩]
      · rw [if_neg, if_neg]
        · simp
        · rintro ⟨-, (h | h) | h⟩
          · exact hc (.inl h)
          · exact h rfl
          · exact hc (.inr h)
        · rintro (h | ⟨-, h⟩)
          · omega
          · exact hc h
    · rw [if_pos (.inl (by omega)), if_pos ⟨rfl, .inl (.inr hz)⟩]

/-- the 11 bits behind the sign, the 52 others, and what they stand for -/
def expBits (x : Nat) : Nat := x / 4503599627370496 % 2048
def fracBits (x : Nat) : Nat := x % 4503599627370496
def kindN (x : Nat) : Nat := if expBits x = 2047 then (if fracBits x = 0 then 2 else 1) else if expBits x = 0 ∧ fracBits x = 0 then 3 else 4
def belowN (x : Nat) : Bool := decide (9223372036854775808 ≤ x ∧ kindN x ≠ 1)
def mantN (x : Nat) : Nat := if kindN x = 4 then (if expBits x = 0 then fracBits x else fracBits x + 4503599627370496) else 0
def expN (x : Nat) : Int := if kindN x = 4 then (if expBits x = 0 then -1074 else (expBits x : Int) - 1075) else 0

theorem mantN_lt (x : Nat) : mantN x < 9007199254740992 := by
  unfold mantN fracBits
  split
  · split <;> omega
  · omega
theorem expN_ge (x : Nat) : -1074 ≤ expN x := by
  unfold expN
  split
  · split <;> omega
  · omega
theorem expN_le (x : Nat) : expN x ≤ 971 := by
  unfold expN
  split
  · next h =>
    have : expBits x ≠ 2047 := fun e => by rw [kindN, if_pos e] at h; split at h <;> omega
    have : expBits x < 2048 := Nat.mod_lt _ (by decide)
    split <;> omega
  · omega
theorem kindN_cases (x : Nat) : kindN x = 1 ∨ kindN x = 2 ∨ kindN x = 3 ∨ kindN x = 4 := by
  unfold kindN
  split
  · split <;> omega
  · split <;> omega
theorem mantN_pos {x : Nat} (h : kindN x = 4) : mantN x ≠ 0 := by
  unfold mantN
  rw [if_pos h]
  split
  · next he =>
    intro hf
    rw [kindN, if_neg (by omega), if_pos ⟨he, hf⟩] at h
    omega
  · omega
theorem mantN_norm {x : Nat} (h : kindN x = 4) : expN x = -1074 ∨ 4503599627370496 ≤ mantN x := by
  unfold mantN expN
  rw [if_pos h, if_pos h]
  split
  · exact .inl rfl
  · exact .inr (by omega)

theorem top_bit {x : Nat} (hx : x < 18446744073709551616) : ((x : Int) / 9223372036854775808 == 1) = decide (9223372036854775808 ≤ x) := by
  rw [Bool.eq_iff_iff]
  simp only [beq_iff_eq, decide_eq_true_eq]
  omega
theorem belowN_of {x : Nat} (h : kindN x ≠ 1) : belowN x = decide (9223372036854775808 ≤ x) := by unfold belowN; simp [h]

/-- the bits of a finite number, out of its parts -/
theorem bits_parts {x : Nat} (h : kindN x = 4) (hx : x < 18446744073709551616) : signN (belowN x) (mantN x + (expN x + 1074).toNat * 4503599627370496) = x ∧ mantN x + (expN x + 1074).toNat * 4503599627370496 < 9218868437227405312 := by
  have he : expBits x ≠ 2047 := fun e => by rw [kindN, if_pos e] at h; split at h <;> omega
  have hb : belowN x = decide (9223372036854775808 ≤ x) := by unfold belowN; simp [h]
  have hm : mantN x + (expN x + 1074).toNat * 4503599627370496 = fracBits x + expBits x * 4503599627370496 := by
    unfold mantN expN
    rw [if_pos h, if_pos h]
    split
    · next e => rw [e]; rfl
    · next e =>
      have : ((expBits x : Int) - 1075 + 1074).toNat = expBits x - 1 := by omega
      rw [this]
      omega
  rw [hm, hb]
  unfold signN expBits fracBits at *
  constructor
  · by_cases hs : 9223372036854775808 ≤ x
    · simp only [hs, decide_true, if_true]; omega
    · simp only [hs, decide_false, Bool.false_eq_true, if_false]; omega
  · omega

/-- the parts make the number again -/
theorem round_parts {x : Nat} (st : Bool) (h : kindN x = 4) (hx : x < 18446744073709551616) : signN (belowN x) (roundN (mantN x) (expN x) st) = x := by
  have b := bits_parts h hx
  have hr : roundN (mantN x) (expN x) st = mantN x + (expN x + 1074).toNat * 4503599627370496 := by
    rw [roundN_at (k := 0) st (mantN_pos h) (by have := expN_ge x; omega) (by have := mantN_lt x; omega) (by have := mantN_norm h; omega), rne_zero]
    simp only [Int.natCast_zero, Int.add_zero]
    omega
  rw [hr]; exact b.1

end Go.Proofs.YtojmmmfboahkgaaDoor
