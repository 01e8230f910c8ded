/-
  Several texts in one: BitsB, RoundC, MulB, QuoB, QuoL, DivB, RoundB, WordB, GuessB, IRoundB, AddB, NearW.
-/
import Derived.WalkKit
namespace Go.Proofs.YtcabanghegddhaaGreatDoor

/-- m / 2^k to the nearest whole number; of two that are as near the even one, or, with st, the upper one -/
def rne (m k : Nat) (st : Bool) : Nat := if 2 ^ k < 2 * (m % 2 ^ k) ∨ (2 * (m % 2 ^ k) = 2 ^ k ∧ (st = true ∨ m / 2 ^ k % 2 = 1)) then m / 2 ^ k + 1 else m / 2 ^ k

/-- the bits (without the sign) of the number that is nearest to m times 2^e -/
def roundN (m : Nat) (e : Int) (st : Bool) : Nat :=
  if m = 0 then 0 else
  if max (e + m.log2 - 52) (-1074) ≤ e then min (m * 2 ^ (e - max (e + m.log2 - 52) (-1074)).toNat + (max (e + m.log2 - 52) (-1074) + 1074).toNat * 4503599627370496) 9218868437227405312
  else min (rne m (max (e + m.log2 - 52) (-1074) - e).toNat st + (max (e + m.log2 - 52) (-1074) + 1074).toNat * 4503599627370496) 9218868437227405312

theorem rne_zero (m : Nat) (st : Bool) : rne m 0 st = m := by
  unfold rne
  simp [Nat.mod_one]

theorem rne_double (m k : Nat) (st : Bool) : rne (2 * m) (k + 1) st = rne m k st := by
  unfold rne
  have h1 : 2 * m / 2 ^ (k + 1) = m / 2 ^ k := by rw [Nat.pow_succ, Nat.mul_comm (2 ^ k) 2, Nat.mul_div_mul_left _ _ (by decide : 0 < 2)]
  have h2 : 2 * m % 2 ^ (k + 1) = 2 * (m % 2 ^ k) := by rw [Nat.pow_succ, Nat.mul_comm (2 ^ k) 2, Nat.mul_mod_mul_left]
  rw [h1, h2, Nat.pow_succ]
  have h3 : (2 ^ k * 2 < 2 * (2 * (m % 2 ^ k))) ↔ (2 ^ k < 2 * (m % 2 ^ k)) := by omega
  have h4 : (2 * (2 * (m % 2 ^ k)) = 2 ^ k * 2) ↔ (2 * (m % 2 ^ k) = 2 ^ k) := by omega
  simp only [h3, h4]

theorem rne_small {m k : Nat} (st : Bool) (h : 2 * m < 2 ^ k) : rne m k st = 0 := by
  have hm : m < 2 ^ k := by omega
  unfold rne
  rw [Nat.mod_eq_of_lt hm, Nat.div_eq_of_lt hm, if_neg (by omega)]

theorem log2_of {m k : Nat} (h1 : 2 ^ k ≤ m) (h2 : m < 2 ^ (k + 1)) : m.log2 = k := by
  have hm : m ≠ 0 := by have := Nat.two_pow_pos k; omega
  have a := (Nat.le_log2 hm).2 h1
  have b := (Nat.log2_lt hm).2 h2
  omega

/-- where m times 2^e has its last place at 2^(e + k) -/
theorem roundN_at {m k : Nat} {e : Int} (st : Bool) (hm : m ≠ 0) (h0 : -1074 ≤ e + k) (h1 : m < 2 ^ (53 + k)) (h2 : e + k = -1074 ∨ 2 ^ (52 + k) ≤ m) :
    roundN m e st = min (rne m k st + (e + k + 1074).toNat * 4503599627370496) 9218868437227405312 := by
  have hl : m.log2 < 53 + k := (Nat.log2_lt hm).2 h1
  have ht : max (e + m.log2 - 52) (-1074) = e + k := by
    rcases h2 with h2 | h2
    · omega
    · have := (Nat.le_log2 hm).2 h2
      omega
  unfold roundN
  rw [if_neg hm, ht]
  by_cases hk : k = 0
  · subst hk
    simp [rne_zero]
  · rw [if_neg (by omega)]
    have e1 : (e + (k : Int) - e).toNat = k := by omega
    rw [e1]

theorem roundN_double (m : Nat) (e : Int) (st : Bool) : roundN (2 * m) (e - 1) st = roundN m e st := by
  by_cases hm : m = 0
  · subst hm; simp [roundN]
  have hl : (2 * m).log2 = m.log2 + 1 := by
    refine log2_of ?_ ?_
    · have := Nat.log2_self_le hm
      rw [Nat.pow_succ]; omega
    · have := Nat.lt_log2_self (n := m)
      rw [Nat.pow_succ]; omega
  unfold roundN
  rw [if_neg hm, if_neg (by omega), hl]
  have ht : e - 1 + ((m.log2 + 1 : Nat) : Int) - 52 = e + m.log2 - 52 := by omega
  rw [ht]
  generalize max (e + (m.log2 : Int) - 52) (-1074) = t
  by_cases h1 : t ≤ e - 1
  · rw [if_pos h1, if_pos (by omega)]
    have e1 : (e - t).toNat = (e - 1 - t).toNat + 1 := by omega
    rw [e1, Nat.pow_succ, Nat.mul_comm 2 m, Nat.mul_assoc, Nat.mul_comm 2 (2 ^ _)]
  · rw [if_neg h1]
    by_cases h2 : t ≤ e
    · have : t = e := by omega
      subst this
      have e1 : (t - (t - 1)).toNat = 0 + 1 := by omega
      rw [if_pos (by omega), e1, rne_double, rne_zero]
      simp
    · rw [if_neg h2]
      have e1 : (t - (e - 1)).toNat = (t - e).toNat + 1 := by omega
      rw [e1, rne_double]

theorem roundN_times (j m : Nat) (e : Int) (st : Bool) : roundN (m * 2 ^ j) (e - j) st = roundN m e st := by
  induction j with
  | zero => simp
  | succ j ih =>
    rw [← ih, ← roundN_double (m * 2 ^ j)]
    congr 1
    · rw [Nat.pow_succ, ← Nat.mul_assoc]; omega
    · omega

/-- far below the least number it is 0 -/
theorem roundN_tiny {m : Nat} {e : Int} (st : Bool) (hm : m < 18446744073709551616) (he : e ≤ -1139) : roundN m e st = 0 := by
  by_cases h0 : m = 0
  · subst h0; simp [roundN]
  have hk : e + ((-1074 - e).toNat : Nat) = -1074 := by omega
  have hp : (2 : Nat) ^ 65 ≤ 2 ^ (-1074 - e).toNat := Nat.pow_le_pow_right (by decide) (by omega)
  rw [roundN_at (k := (-1074 - e).toNat) st h0 (by omega) (by rw [Nat.pow_add]; omega) (.inl hk), rne_small st (by omega), hk]
  simp

/-- far above the greatest it is infinite -/
theorem roundN_huge {m : Nat} {e : Int} (st : Bool) (h0 : m ≠ 0) (he : 1100 ≤ e) : roundN m e st = 9218868437227405312 := by
  unfold roundN
  rw [if_neg h0]
  have h1 : 1048 ≤ max (e + m.log2 - 52) (-1074) := by omega
  have h2 : 2122 * 4503599627370496 ≤ (max (e + (m.log2 : Int) - 52) (-1074) + 1074).toNat * 4503599627370496 := Nat.mul_le_mul_right _ (by omega)
  split <;> omega

/-- the sign -/
def signN (below : Bool) (x : Nat) : Nat := if below then x + 9223372036854775808 else x

theorem roundN_le (m : Nat) (e : Int) (st : Bool) : roundN m e st ≤ 9218868437227405312 := by
  unfold roundN
  split
  · omega
  · split <;> omega

/-- the nearest number by the bit next to the last and whether anything lies behind it -/
theorem rne_succ (m j : Nat) (st : Bool) : rne m (j + 1) st = m / 2 ^ (j + 1) + (if m / 2 ^ j % 2 = 1 ∧ ((st = true ∨ m % 2 ^ j ≠ 0) ∨ m / 2 ^ (j + 1) % 2 = 1) then 1 else 0) := by
  unfold rne
  have hr : m % 2 ^ (j + 1) = m % 2 ^ j + 2 ^ j * (m / 2 ^ j % 2) := by rw [Nat.pow_succ, Nat.mod_mul]
  have hlt : m % 2 ^ j < 2 ^ j := Nat.mod_lt _ (Nat.two_pow_pos j)
  rw [hr, Nat.pow_succ]
  rcases Nat.mod_two_eq_zero_or_one (m / 2 ^ j) with hb | hb
  · rw [hb, if_neg (by omega), if_neg (by omega)]; simp
  · rw [hb, Nat.mul_one]
    by_cases hz : m % 2 ^ j = 0
    · rw [hz]
      by_cases hc : st = true ∨ m / (2 ^ j * 2) % 2 = 1
      · rw [if_pos (.inr ⟨by omega, hc⟩), if_pos ⟨rfl, by rcases hc with h | h; exact .inl (.inl h); exact .inr h⟩]
      · rw [if_neg, if_neg]
        · simp
        · rintro ⟨-, (h | h) | h⟩
          · exact hc (.inl h)
          · exact h rfl
          · exact hc (.inr h)
        · rintro (h | ⟨-, h⟩)
          · omega
          · exact hc h
    · rw [if_pos (.inl (by omega)), if_pos ⟨rfl, .inl (.inr hz)⟩]

/-- the 11 bits behind the sign, the 52 others, and what they stand for -/
def expBits (x : Nat) : Nat := x / 4503599627370496 % 2048
def fracBits (x : Nat) : Nat := x % 4503599627370496
def kindN (x : Nat) : Nat := if expBits x = 2047 then (if fracBits x = 0 then 2 else 1) else if expBits x = 0 ∧ fracBits x = 0 then 3 else 4
def belowN (x : Nat) : Bool := decide (9223372036854775808 ≤ x ∧ kindN x ≠ 1)
def mantN (x : Nat) : Nat := if kindN x = 4 then (if expBits x = 0 then fracBits x else fracBits x + 4503599627370496) else 0
def expN (x : Nat) : Int := if kindN x = 4 then (if expBits x = 0 then -1074 else (expBits x : Int) - 1075) else 0

theorem mantN_lt (x : Nat) : mantN x < 9007199254740992 := by
  unfold mantN fracBits
  split
  · split <;> omega
  · omega
theorem expN_ge (x : Nat) : -1074 ≤ expN x := by
  unfold expN
  split
  · split <;> omega
  · omega
theorem expN_le (x : Nat) : expN x ≤ 971 := by
  unfold expN
  split
  · next h =>
    have : expBits x ≠ 2047 := fun e => by rw [kindN, if_pos e] at h; split at h <;> omega
    have : expBits x < 2048 := Nat.mod_lt _ (by decide)
    split <;> omega
  · omega
theorem kindN_cases (x : Nat) : kindN x = 1 ∨ kindN x = 2 ∨ kindN x = 3 ∨ kindN x = 4 := by
  unfold kindN
  split
  · split <;> omega
  · split <;> omega
theorem mantN_pos {x : Nat} (h : kindN x = 4) : mantN x ≠ 0 := by
  unfold mantN
  rw [if_pos h]
  split
  · next he =>
    intro hf
    rw [kindN, if_neg (by omega), if_pos ⟨he, hf⟩] at h
    omega
  · omega
theorem mantN_norm {x : Nat} (h : kindN x = 4) : expN x = -1074 ∨ 4503599627370496 ≤ mantN x := by
  unfold mantN expN
  rw [if_pos h, if_pos h]
  split
  · exact .inl rfl
  · exact .inr (by omega)

theorem top_bit {x : Nat} (hx : x < 18446744073709551616) : ((x : Int) / 9223372036854775808 == 1) = decide (9223372036854775808 ≤ x) := by
  rw [Bool.eq_iff_iff]
  simp only [beq_iff_eq, decide_eq_true_eq]
  omega
theorem belowN_of {x : Nat} (h : kindN x ≠ 1) : belowN x = decide (9223372036854775808 ≤ x) := by unfold belowN; simp [h]

/-- the bits of a finite number, out of its parts -/
theorem bits_parts {x : Nat} (h : kindN x = 4) (hx : x < 18446744073709551616) : signN (belowN x) (mantN x + (expN x + 1074).toNat * 4503599627370496) = x ∧ mantN x + (expN x + 1074).toNat * 4503599627370496 < 9218868437227405312 := by
  have he : expBits x ≠ 2047 := fun e => by rw [kindN, if_pos e] at h; split at h <;> omega
  have hb : belowN x = decide (9223372036854775808 ≤ x) := by unfold belowN; simp [h]
  have hm : mantN x + (expN x + 1074).toNat * 4503599627370496 = fracBits x + expBits x * 4503599627370496 := by
    unfold mantN expN
    rw [if_pos h, if_pos h]
    split
    · next e => rw [e]; rfl
    · next e =>
      have : ((expBits x : Int) - 1075 + 1074).toNat = expBits x - 1 := by omega
      rw [this]
      omega
  rw [hm, hb]
  unfold signN expBits fracBits at *
  constructor
  · by_cases hs : 9223372036854775808 ≤ x
    · simp only [hs, decide_true, if_true]; omega
    · simp only [hs, decide_false, Bool.false_eq_true, if_false]; omega
  · omega

/-- the parts make the number again -/
theorem round_parts {x : Nat} (st : Bool) (h : kindN x = 4) (hx : x < 18446744073709551616) : signN (belowN x) (roundN (mantN x) (expN x) st) = x := by
  have b := bits_parts h hx
  have hr : roundN (mantN x) (expN x) st = mantN x + (expN x + 1074).toNat * 4503599627370496 := by
    rw [roundN_at (k := 0) st (mantN_pos h) (by have := expN_ge x; omega) (by have := mantN_lt x; omega) (by have := mantN_norm h; omega), rne_zero]
    simp only [Int.natCast_zero, Int.add_zero]
    omega
  rw [hr]; exact b.1

end Go.Proofs.YtcabanghegddhaaGreatDoor

namespace Go.Proofs.YtcabanghegddhaaGreatDoor

theorem rne_sticky {M k d low : Nat} (hk : k ≠ 0) (hl : low < 2 ^ d) : rne (M * 2 ^ d + low) (k + d) false = rne M k (decide (low ≠ 0)) := by
  obtain ⟨j, rfl⟩ : ∃ j, k = j + 1 := ⟨k - 1, by omega⟩
  have hd := Nat.two_pow_pos d
  have hq : (M * 2 ^ d + low) / 2 ^ (j + 1 + d) = M / 2 ^ (j + 1) := by
    rw [Nat.pow_add, Nat.mul_comm (2 ^ (j + 1)), ← Nat.div_div_eq_div_mul]
    congr 1
    rw [Nat.mul_comm, Nat.mul_add_div hd, Nat.div_eq_of_lt hl]; simp
  have hm : (M * 2 ^ d + low) % 2 ^ (j + 1 + d) = M % 2 ^ (j + 1) * 2 ^ d + low := by
    have h1 := Nat.div_add_mod (M * 2 ^ d + low) (2 ^ (j + 1 + d))
    have h2 := Nat.div_add_mod M (2 ^ (j + 1))
    rw [hq] at h1
    have h3 : 2 ^ (j + 1 + d) * (M / 2 ^ (j + 1)) = 2 ^ (j + 1) * (M / 2 ^ (j + 1)) * 2 ^ d := by rw [Nat.pow_add, Nat.mul_assoc, Nat.mul_comm (2 ^ d), ← Nat.mul_assoc]
    have h4 : M * 2 ^ d = (2 ^ (j + 1) * (M / 2 ^ (j + 1)) + M % 2 ^ (j + 1)) * 2 ^ d := by rw [h2]
    rw [Nat.add_mul] at h4
    rw [h3] at h1
    omega
  unfold rne
  rw [hq, hm]
  generalize M % 2 ^ (j + 1) = r
  generalize M / 2 ^ (j + 1) = q
  have hP : (2 : Nat) ^ (j + 1 + d) = 2 * (2 ^ j * 2 ^ d) := by rw [Nat.pow_add, Nat.pow_succ]; rw [Nat.mul_comm (2 ^ j) 2, Nat.mul_assoc]
  have hK : (2 : Nat) ^ (j + 1) = 2 * 2 ^ j := by rw [Nat.pow_succ, Nat.mul_comm]
  rw [hP, hK]
  generalize (2 : Nat) ^ j = J at *
  generalize hD : (2 : Nat) ^ d = D at *
  have c1 : (2 * (J * D) < 2 * (r * D + low)) ↔ (J < r ∨ (r = J ∧ low ≠ 0)) := by
    constructor
    · intro h
      rcases Nat.lt_trichotomy r J with h' | h' | h'
      · have : (r + 1) * D ≤ J * D := Nat.mul_le_mul_right _ h'
        rw [Nat.add_mul] at this
        omega
      · subst h'; exact .inr ⟨rfl, by omega⟩
      · exact .inl h'
    · rintro (h | ⟨rfl, h⟩)
      · have : (J + 1) * D ≤ r * D := Nat.mul_le_mul_right _ h
        rw [Nat.add_mul] at this
        omega
      · omega
  have c2 : (2 * (r * D + low) = 2 * (J * D)) ↔ (r = J ∧ low = 0) := by
    constructor
    · intro h
      rcases Nat.lt_trichotomy r J with h' | h' | h'
      · have : (r + 1) * D ≤ J * D := Nat.mul_le_mul_right _ h'
        rw [Nat.add_mul] at this
        omega
      · subst h'; exact ⟨rfl, by omega⟩
      · have : (J + 1) * D ≤ r * D := Nat.mul_le_mul_right _ h'
        rw [Nat.add_mul] at this
        omega
    · rintro ⟨rfl, rfl⟩; simp
  have c3 : (2 * J < 2 * r) ↔ J < r := by omega
  have c4 : (2 * r = 2 * J) ↔ r = J := by omega
  simp only [c1, c2, c3, c4, Bool.false_eq_true, false_or, decide_eq_true_eq]
  by_cases h1 : J < r
  · rw [if_pos (.inl (.inl h1)), if_pos (.inl h1)]
  · by_cases h2 : r = J
    · by_cases h3 : low = 0
      · by_cases h4 : q % 2 = 1
        · rw [if_pos (.inr ⟨⟨h2, h3⟩, h4⟩), if_pos (.inr ⟨h2, .inr h4⟩)]
        · rw [if_neg, if_neg]
          · rintro (h | ⟨-, h | h⟩)
            · exact h1 h
            · exact h h3
            · exact h4 h
          · rintro ((h | ⟨-, h⟩) | ⟨-, h⟩)
            · exact h1 h
            · exact h h3
            · exact h4 h
      · rw [if_pos (.inl (.inr ⟨h2, h3⟩)), if_pos (.inr ⟨h2, .inl h3⟩)]
    · rw [if_neg, if_neg]
      · rintro (h | ⟨h, -⟩)
        · exact h1 h
        · exact h2 h
      · rintro ((h | ⟨h, -⟩) | ⟨⟨h, -⟩, -⟩)
        · exact h1 h
        · exact h2 h
        · exact h2 h

/-- a lower part that is not nought counts as a mark, where the upper part has 54 bits or more -/
theorem roundN_sticky {M d low : Nat} {E : Int} (hl : low < 2 ^ d) (hM : low = 0 ∨ 9007199254740992 ≤ M) : roundN (M * 2 ^ d + low) (E - d) false = roundN M E (decide (low ≠ 0)) := by
  have hd := Nat.two_pow_pos d
  by_cases h0 : low = 0
  · subst h0
    rw [Nat.add_zero, roundN_times]
    rfl
  have hM1 : 9007199254740992 ≤ M := by omega
  have hm0 : M ≠ 0 := by omega
  obtain ⟨l, hlog⟩ : ∃ l, M.log2 = l := ⟨_, rfl⟩
  have h1 : 2 ^ l ≤ M := by rw [← hlog]; exact Nat.log2_self_le hm0
  have h2 : M < 2 ^ (l + 1) := by rw [← hlog]; exact Nat.lt_log2_self
  have hl53 : 53 ≤ l := by
    rcases Nat.lt_or_ge l 53 with h | h
    · have : (2 : Nat) ^ (l + 1) ≤ 2 ^ 53 := Nat.pow_le_pow_right (by decide) h
      omega
    · exact h
  -- the place of the last bit
  obtain ⟨k, hk⟩ : ∃ k : Nat, (k : Int) = max (E + l - 52) (-1074) - E := ⟨(max (E + l - 52) (-1074) - E).toNat, by omega⟩
  have hk0 : k ≠ 0 := by omega
  have hup : M < 2 ^ (53 + k) := Nat.lt_of_lt_of_le h2 (Nat.pow_le_pow_right (by decide) (by omega))
  have hlo : E + k = -1074 ∨ 2 ^ (52 + k) ≤ M := by
    rcases Int.le_total (-1074) (E + l - 52) with h | h
    · right
      have : 52 + k = l := by omega
      rw [this]; exact h1
    · left; omega
  rw [roundN_at (k := k) _ hm0 (by omega) hup hlo]
  have hMd : (M + 1) * 2 ^ d ≤ 2 ^ (53 + k) * 2 ^ d := Nat.mul_le_mul_right _ hup
  rw [Nat.add_mul] at hMd
  have hlo2 : E - d + ((k + d : Nat) : Int) = -1074 ∨ 2 ^ (52 + (k + d)) ≤ M * 2 ^ d + low := by
    rcases hlo with h | h
    · left; omega
    · right
      have : 2 ^ (52 + k) * 2 ^ d ≤ M * 2 ^ d := Nat.mul_le_mul_right _ h
      rw [← Nat.pow_add] at this
      rw [show 52 + (k + d) = 52 + k + d by omega]
      omega
  have hup2 : M * 2 ^ d + low < 2 ^ (53 + (k + d)) := by
    rw [show 53 + (k + d) = 53 + k + d by omega, Nat.pow_add]
    omega
  have hne : M * 2 ^ d + low ≠ 0 := by omega
  rw [roundN_at (k := k + d) _ hne (by omega) hup2 hlo2, rne_sticky hk0 hl]
  have e : E - d + ((k + d : Nat) : Int) = E + k := by omega
  rw [e]

end Go.Proofs.YtcabanghegddhaaGreatDoor

namespace Go.Proofs.YtcabanghegddhaaGreatDoor

/-- a lower part and a mark below it -/
theorem roundN_mark {M d low : Nat} {E : Int} (st : Bool) (hl : low < 2 ^ d) (hM : 9007199254740992 ≤ M) : roundN (M * 2 ^ d + low) (E - d) st = roundN M E (st || decide (low ≠ 0)) := by
  cases st
  · rw [Bool.false_or]; exact roundN_sticky hl (.inr hM)
  · have hp := Nat.two_pow_pos d
    have h1 : M * 1 ≤ M * 2 ^ d := Nat.mul_le_mul_left _ hp
    have a := roundN_sticky (M := M * 2 ^ d + low) (d := 1) (low := 1) (E := E - d) (by decide) (.inr (by omega))
    have b := roundN_sticky (M := M) (d := d + 1) (low := low * 2 + 1) (E := E) (by rw [Nat.pow_succ]; omega) (.inr hM)
    have e1 : (M * 2 ^ d + low) * 2 ^ 1 + 1 = M * 2 ^ (d + 1) + (low * 2 + 1) := by rw [Nat.pow_succ 2 d, Nat.pow_one, Nat.add_mul, ← Nat.mul_assoc]; omega
    have e2 : E - d - ((1 : Nat) : Int) = E - ((d + 1 : Nat) : Int) := by omega
    rw [e1, e2, b] at a
    have t1 : decide (low * 2 + 1 ≠ 0) = true := by simp
    have t2 : decide ((1 : Nat) ≠ 0) = true := by simp
    rw [t1, t2] at a
    rw [← a, Bool.true_or]

/-- a product of two whole numbers, k places of it taken off, where what stays fills 64 bits -/
theorem round_off {P k n : Nat} {l : Bool} {E : Int} (hn : n = P / 2 ^ k) (hl : l = decide (P % 2 ^ k ≠ 0)) (h : k = 0 ∨ 72057594037927936 ≤ n) : roundN n (E + k) (l && decide (72057594037927936 ≤ n)) = roundN P E false := by
  have hp := Nat.div_add_mod P (2 ^ k)
  rw [← hn, Nat.mul_comm] at hp
  have hlow : P % 2 ^ k < 2 ^ k := Nat.mod_lt _ (Nat.two_pow_pos k)
  have h0 : k = 0 → P % 2 ^ k = 0 := fun e => by subst e; simp [Nat.mod_one]
  obtain ⟨low, hq⟩ : ∃ q, P % 2 ^ k = q := ⟨_, rfl⟩
  rw [hq] at hp hlow hl h0
  have hs : (l && decide (72057594037927936 ≤ n)) = decide (low ≠ 0) := by
    rcases h with h | h
    · have := h0 h
      subst this
      simp [hl]
    · rw [hl]; simp [h]
  have hE : E = E + k - k := by omega
  rw [hs, ← roundN_sticky (M := n) (d := k) (low := low) (E := E + k) hlow (by omega), ← hE, hp]

/-- the nearest number to a quotient, times 2^e -/
def quoN (m n : Nat) (e : Int) : Nat := roundN (m * 2 ^ 170 / n) (e - 170) (decide (m * 2 ^ 170 % n ≠ 0))

theorem quo_more {m n k d : Nat} {e : Int} (hn : n ≠ 0) (h : 9007199254740992 ≤ m * 2 ^ k / n) :
    roundN (m * 2 ^ (k + d) / n) (e - ((k + d : Nat) : Int)) (decide (m * 2 ^ (k + d) % n ≠ 0)) = roundN (m * 2 ^ k / n) (e - k) (decide (m * 2 ^ k % n ≠ 0)) := by
  have hp := Nat.div_add_mod (m * 2 ^ k) n
  obtain ⟨q, hq⟩ : ∃ q, m * 2 ^ k / n = q := ⟨_, rfl⟩
  obtain ⟨r, hr⟩ : ∃ q, m * 2 ^ k % n = q := ⟨_, rfl⟩
  have hrn : r < n := by rw [← hr]; exact Nat.mod_lt _ (by omega)
  rw [hq, hr] at hp ⊢
  rw [hq] at h
  have hD := Nat.two_pow_pos d
  have e1 : m * 2 ^ (k + d) = n * (q * 2 ^ d) + r * 2 ^ d := by rw [Nat.pow_add, ← Nat.mul_assoc, ← hp, Nat.add_mul, Nat.mul_assoc]
  have e2 : m * 2 ^ (k + d) / n = q * 2 ^ d + r * 2 ^ d / n := by rw [e1, Nat.mul_add_div (by omega)]
  have e3 : m * 2 ^ (k + d) % n = r * 2 ^ d % n := by rw [e1, Nat.mul_add_mod]
  have hlow : r * 2 ^ d / n < 2 ^ d := by
    rw [Nat.div_lt_iff_lt_mul (by omega), Nat.mul_comm]
    exact Nat.mul_lt_mul_of_pos_left hrn hD
  have hx : e - ((k + d : Nat) : Int) = e - k - d := by omega
  rw [e2, e3, hx, roundN_mark _ hlow h]
  congr 1
  have hz := Nat.div_add_mod (r * 2 ^ d) n
  rw [Bool.eq_iff_iff, Bool.or_eq_true, decide_eq_true_iff, decide_eq_true_iff, decide_eq_true_iff]
  constructor
  · intro h0 hr0
    subst hr0
    simp at h0
  · intro hr0
    rcases Nat.eq_zero_or_pos (r * 2 ^ d % n) with h1 | h1
    · right
      intro h2
      rw [h1, h2] at hz
      have : 0 < r * 2 ^ d := Nat.mul_pos (by omega) hD
      omega
    · left; omega

/-- with so many places it is found -/
theorem quo_at {m n k : Nat} {e : Int} (hn : n ≠ 0) (h : 9007199254740992 ≤ m * 2 ^ k / n) (hk : k ≤ 170) : roundN (m * 2 ^ k / n) (e - k) (decide (m * 2 ^ k % n ≠ 0)) = quoN m n e := by
  obtain ⟨d, hd⟩ : ∃ d, k + d = 170 := ⟨170 - k, by omega⟩
  rw [← quo_more (d := d) hn h, hd]
  rfl

/-- a quotient that is just -/
theorem quo_just {m n c k : Nat} {e : Int} (hn : n ≠ 0) (h : m * 2 ^ 170 = n * (c * 2 ^ k)) : quoN m n e = roundN c (e - 170 + k) false := by
  have hd : n * (c * 2 ^ k) / n = c * 2 ^ k := Nat.mul_div_cancel_left _ (by omega)
  have hm : n * (c * 2 ^ k) % n = 0 := Nat.mul_mod_right _ _
  have e1 : decide ((0 : Nat) ≠ 0) = false := by decide
  have e2 := roundN_times k c (e - 170 + k) false
  rw [(by omega : e - 170 + k - k = e - 170)] at e2
  unfold quoN
  rw [h, hd, hm, e1, e2]

/-- both sides of a quotient times powers of 2 -/
theorem quo_scale {m n u v : Nat} {e : Int} (hm : m ≠ 0) (hn : n ≠ 0) (hn2 : n < 9007199254740992) (hv : v ≤ 63) (hu : u ≤ 63) : quoN (m * 2 ^ u) (n * 2 ^ v) (e - u + v) = quoN m n e := by
  have h1 : ∀ k, 107 ≤ k → 9007199254740992 ≤ m * 2 ^ k / n := by
    intro k hk
    rw [Nat.le_div_iff_mul_le (by omega)]
    have : 2 ^ 107 ≤ 2 ^ k := Nat.pow_le_pow_right (by decide) hk
    have : 1 * 2 ^ k ≤ m * 2 ^ k := Nat.mul_le_mul_right _ (by omega)
    omega
  have key : ∀ k, 170 + u = k + v → 107 ≤ k → quoN (m * 2 ^ u) (n * 2 ^ v) (e - u + v) = roundN (m * 2 ^ k / n) (e - k) (decide (m * 2 ^ k % n ≠ 0)) := by
    intro k hk _
    have e1 : m * 2 ^ u * 2 ^ 170 = m * 2 ^ k * 2 ^ v := by rw [Nat.mul_assoc, Nat.mul_assoc, ← Nat.pow_add, ← Nat.pow_add, ← hk, Nat.add_comm]
    have hp := Nat.two_pow_pos v
    have e2 : m * 2 ^ k * 2 ^ v / (n * 2 ^ v) = m * 2 ^ k / n := Nat.mul_div_mul_right _ _ hp
    have e3 : m * 2 ^ k * 2 ^ v % (n * 2 ^ v) = m * 2 ^ k % n * 2 ^ v := Nat.mul_mod_mul_right _ _ _
    have e4 : decide (m * 2 ^ k % n * 2 ^ v ≠ 0) = decide (m * 2 ^ k % n ≠ 0) := by
      rw [Bool.eq_iff_iff, decide_eq_true_iff, decide_eq_true_iff]
      simp only [ne_eq, Nat.mul_eq_zero, not_or]
      exact ⟨fun h => h.1, fun h => ⟨h, by omega⟩⟩
    have e5 : e - u + v - 170 = e - k := by omega
    unfold quoN
    rw [e1, e2, e3, e4, e5]
  rw [key (170 + u - v) (by omega) (by omega)]
  have a := quo_more (m := m) (n := n) (k := 107) (d := 170 + u - v - 107) (e := e) hn (h1 _ (by omega))
  have b := quo_at (m := m) (n := n) (k := 107) (e := e) hn (h1 _ (by omega)) (by omega)
  rw [(by omega : 107 + (170 + u - v - 107) = 170 + u - v)] at a
  rw [a, b]

/-- the whole root -/
def isq (n : Nat) : Nat := if n = 0 then 0 else if (2 * isq (n / 4) + 1) * (2 * isq (n / 4) + 1) ≤ n then 2 * isq (n / 4) + 1 else 2 * isq (n / 4)
  termination_by n
  decreasing_by all_goals omega

theorem isq_of (n : Nat) : isq n * isq n ≤ n ∧ n < (isq n + 1) * (isq n + 1) := by
  induction n using Nat.strongRecOn with
  | ind n ih =>
    rw [isq]
    by_cases h0 : n = 0
    · subst h0; simp
    · rw [if_neg h0]
      obtain ⟨h1, h2⟩ := ih (n / 4) (by omega)
      generalize isq (n / 4) = s at *
      have e1 : 2 * s * (2 * s) = 4 * (s * s) := by rw [Nat.mul_mul_mul_comm]
      have e2 : (2 * s + 1 + 1) * (2 * s + 1 + 1) = 4 * ((s + 1) * (s + 1)) := by
        have : 2 * s + 1 + 1 = 2 * (s + 1) := by omega
        rw [this, Nat.mul_mul_mul_comm]
      split
      · rename_i h
        refine ⟨h, ?_⟩
        rw [e2]; omega
      · rename_i h
        refine ⟨?_, by omega⟩
        rw [e1]; omega

theorem isq_unique {n r : Nat} (h1 : r * r ≤ n) (h2 : n < (r + 1) * (r + 1)) : isq n = r := by
  obtain ⟨a1, a2⟩ := isq_of n
  generalize isq n = s at *
  rcases Nat.lt_trichotomy s r with h | h | h
  · have : (s + 1) * (s + 1) ≤ r * r := Nat.mul_le_mul h h
    omega
  · exact h
  · have : (r + 1) * (r + 1) ≤ s * s := Nat.mul_le_mul h h
    omega

/-- one more figure of the root: two bits more of the number -/
theorem isq_step {n t s : Nat} (ht : t < 4) (hs : isq n = s) : (s * s ≤ n) ∧ isq (4 * n + t) = (if 4 * s + 1 ≤ 4 * (n - s * s) + t then 2 * s + 1 else 2 * s) := by
  obtain ⟨h1, h2⟩ := isq_of n
  rw [hs] at h1 h2
  refine ⟨h1, ?_⟩
  have e1 : (2 * s) * (2 * s) = 4 * (s * s) := by rw [Nat.mul_mul_mul_comm]
  have e2 : (2 * s + 1) * (2 * s + 1) = 4 * (s * s) + 4 * s + 1 := by
    rw [Nat.add_mul, Nat.mul_add, e1]; omega
  have e3 : (2 * s + 1 + 1) * (2 * s + 1 + 1) = 4 * ((s + 1) * (s + 1)) := by
    have : 2 * s + 1 + 1 = 2 * (s + 1) := by omega
    rw [this, Nat.mul_mul_mul_comm]
  split
  · apply isq_unique
    · rw [e2]; omega
    · rw [e3]; omega
  · apply isq_unique
    · rw [e1]; omega
    · rw [e2]; omega

/-- the nearest number to the root of m times 2^(2e) -/
def rootN (m : Nat) (e : Int) : Nat := roundN (isq (m * 4 ^ 100)) (e - 100) (decide (isq (m * 4 ^ 100) * isq (m * 4 ^ 100) ≠ m * 4 ^ 100))

theorem root_more {m k d : Nat} {e : Int} (h : 9007199254740992 ≤ isq (m * 4 ^ k)) :
    roundN (isq (m * 4 ^ (k + d))) (e - ((k + d : Nat) : Int)) (decide (isq (m * 4 ^ (k + d)) * isq (m * 4 ^ (k + d)) ≠ m * 4 ^ (k + d))) = roundN (isq (m * 4 ^ k)) (e - k) (decide (isq (m * 4 ^ k) * isq (m * 4 ^ k) ≠ m * 4 ^ k)) := by
  obtain ⟨a1, a2⟩ := isq_of (m * 4 ^ k)
  obtain ⟨b1, b2⟩ := isq_of (m * 4 ^ (k + d))
  have e1 : m * 4 ^ (k + d) = m * 4 ^ k * (2 ^ d * 2 ^ d) := by
    rw [Nat.pow_add, ← Nat.mul_assoc, ← Nat.mul_pow]
  rw [e1] at b1 b2 ⊢
  obtain ⟨N, hN⟩ : ∃ q, m * 4 ^ k = q := ⟨_, rfl⟩
  rw [hN] at h a1 a2 b1 b2 ⊢
  obtain ⟨D, hD⟩ : ∃ q, 2 ^ d = q := ⟨_, rfl⟩
  have hD0 : 0 < D := by rw [← hD]; exact Nat.two_pow_pos d
  rw [hD] at b1 b2 ⊢
  obtain ⟨r, hr⟩ : ∃ q, isq N = q := ⟨_, rfl⟩
  obtain ⟨s, hs⟩ : ∃ q, isq (N * (D * D)) = q := ⟨_, rfl⟩
  rw [hr] at h a1 a2 ⊢
  rw [hs] at b1 b2 ⊢
  have c1 : (r * D) * (r * D) = r * r * (D * D) := by rw [Nat.mul_mul_mul_comm]
  have c2 : ((r + 1) * D) * ((r + 1) * D) = (r + 1) * (r + 1) * (D * D) := by rw [Nat.mul_mul_mul_comm]
  have hDD : 0 < D * D := Nat.mul_pos hD0 hD0
  have l1 : r * D ≤ s := by
    rcases Nat.lt_or_ge s (r * D) with h' | h'
    · have : (s + 1) * (s + 1) ≤ (r * D) * (r * D) := Nat.mul_le_mul h' h'
      have : r * r * (D * D) ≤ N * (D * D) := Nat.mul_le_mul_right _ a1
      omega
    · exact h'
  have l2 : s < (r + 1) * D := by
    rcases Nat.lt_or_ge s ((r + 1) * D) with h' | h'
    · exact h'
    · have : ((r + 1) * D) * ((r + 1) * D) ≤ s * s := Nat.mul_le_mul h' h'
      have : N * (D * D) < (r + 1) * (r + 1) * (D * D) := Nat.mul_lt_mul_of_pos_right a2 hDD
      omega
  obtain ⟨low, hlow⟩ : ∃ low, s = r * D + low := ⟨s - r * D, by omega⟩
  have l3 : low < D := by rw [Nat.add_mul] at l2; omega
  have hx : e - ((k + d : Nat) : Int) = e - k - d := by omega
  rw [hx]
  have key := roundN_mark (M := r) (d := d) (low := low) (E := e - k) (decide (s * s ≠ N * (D * D))) (by rw [hD]; exact l3) h
  rw [hD, ← hlow] at key
  rw [key]
  congr 1
  rw [Bool.eq_iff_iff, Bool.or_eq_true, decide_eq_true_iff, decide_eq_true_iff, decide_eq_true_iff]
  constructor
  · intro h0 he
    have l4 : s = r * D := by
      have : s * s ≤ r * D * (r * D) := by rw [c1, he]; exact b1
      rcases Nat.lt_or_ge (r * D) s with h' | h'
      · have : (r * D + 1) * (r * D + 1) ≤ s * s := Nat.mul_le_mul h' h'
        have e9 : (r * D + 1) * (r * D + 1) = r * D * (r * D) + (r * D + r * D + 1) := by rw [Nat.add_mul, Nat.mul_add]; omega
        omega
      · omega
    rcases h0 with h0 | h0
    · exact h0 (by rw [l4, c1, he])
    · omega
  · intro hne
    rcases Nat.eq_zero_or_pos low with h' | h'
    · left
      intro he
      have l4 : s = r * D := by omega
      rw [l4, c1] at he
      exact hne (Nat.eq_of_mul_eq_mul_right hDD he)
    · right; omega

theorem root_at {m k : Nat} {e : Int} (h : 9007199254740992 ≤ isq (m * 4 ^ k)) (hk : k ≤ 100) : roundN (isq (m * 4 ^ k)) (e - k) (decide (isq (m * 4 ^ k) * isq (m * 4 ^ k) ≠ m * 4 ^ k)) = rootN m e := by
  obtain ⟨d, hd⟩ : ∃ d, k + d = 100 := ⟨100 - k, by omega⟩
  rw [← root_more (d := d) h, hd]
  rfl

/-- a root that is great enough -/
theorem isq_ge {n : Nat} (r : Nat) (h : r * r ≤ n) : r ≤ isq n := by
  obtain ⟨_, a2⟩ := isq_of n
  rcases Nat.lt_or_ge (isq n) r with h' | h'
  · have : (isq n + 1) * (isq n + 1) ≤ r * r := Nat.mul_le_mul h' h'
    omega
  · exact h'

/-- the number times a power of 4 -/
theorem root_scale {m j : Nat} {e : Int} (hm : m ≠ 0) (hj : j ≤ 40) : rootN (m * 4 ^ j) (e - j) = rootN m e := by
  have g : ∀ k, 60 ≤ k → 9007199254740992 ≤ isq (m * 4 ^ k) := by
    intro k hk
    refine isq_ge _ ?_
    have h1 : 4 ^ 60 ≤ 4 ^ k := Nat.pow_le_pow_right (by decide) hk
    have h2 : 1 * 4 ^ k ≤ m * 4 ^ k := Nat.mul_le_mul_right _ (by omega)
    omega
  have e1 : m * 4 ^ j * 4 ^ 60 = m * 4 ^ (60 + j) := by rw [Nat.mul_assoc, ← Nat.pow_add, Nat.add_comm j 60]
  have a := root_at (m := m * 4 ^ j) (k := 60) (e := e - j) (by rw [e1]; exact g _ (by omega)) (by omega)
  have b := root_at (m := m) (k := 60 + j) (e := e) (g _ (by omega)) (by omega)
  rw [← a, ← b, e1, (by omega : e - j - ((60 : Nat) : Int) = e - ((60 + j : Nat) : Int))]

/-- the bits of a product, a quotient, a rest, a root, by the kinds, signs and parts of the numbers -/
def mulP (k1 k2 : Nat) (s1 s2 : Bool) (m1 m2 : Nat) (e1 e2 : Int) : Nat :=
  if k1 = 1 ∨ k2 = 1 ∨ (k1 = 2 ∧ k2 = 3) ∨ (k1 = 3 ∧ k2 = 2) then 9221120237041090560
  else if k1 = 2 ∨ k2 = 2 then signN (s1 != s2) 9218868437227405312
  else if k1 = 3 ∨ k2 = 3 then signN (s1 != s2) 0
  else signN (s1 != s2) (roundN (m1 * m2) (e1 + e2) false)
def mulN (a b : Nat) : Nat := mulP (kindN a) (kindN b) (belowN a) (belowN b) (mantN a) (mantN b) (expN a) (expN b)
def divP (k1 k2 : Nat) (s1 s2 : Bool) (m1 m2 : Nat) (e1 e2 : Int) : Nat :=
  if k1 = 1 ∨ k2 = 1 ∨ (k1 = k2 ∧ (k1 = 2 ∨ k1 = 3)) then 9221120237041090560
  else if k1 = 2 ∨ k2 = 3 then signN (s1 != s2) 9218868437227405312
  else if k1 = 3 ∨ k2 = 2 then signN (s1 != s2) 0
  else signN (s1 != s2) (quoN m1 m2 (e1 - e2))
def divN (a b : Nat) : Nat := divP (kindN a) (kindN b) (belowN a) (belowN b) (mantN a) (mantN b) (expN a) (expN b)
def restN (m : Nat) (e : Int) (n : Nat) (f : Int) : Nat := roundN (m * 2 ^ (e - min e f).toNat % (n * 2 ^ (f - min e f).toNat)) (min e f) false
def remP (a k1 k2 : Nat) (s1 : Bool) (m1 m2 : Nat) (e1 e2 : Int) : Nat :=
  if k1 = 1 ∨ k2 = 1 ∨ k1 = 2 ∨ k2 = 3 then 9221120237041090560
  else if k1 = 3 ∨ k2 = 2 then a
  else signN s1 (restN m1 e1 m2 e2)
def remN (a b : Nat) : Nat := remP a (kindN a) (kindN b) (belowN a) (mantN a) (mantN b) (expN a) (expN b)
def sqrtP (x k : Nat) (s : Bool) (m : Nat) (e : Int) : Nat :=
  if k = 3 ∨ (k = 2 ∧ s = false) then x
  else if k ≠ 4 ∨ s = true then 9221120237041090560
  else if e % 2 = 0 then rootN m (e / 2) else rootN (m * 2) ((e - 1) / 2)
def sqrtN (x : Nat) : Nat := sqrtP x (kindN x) (belowN x) (mantN x) (expN x)

end Go.Proofs.YtcabanghegddhaaGreatDoor

namespace Go.Proofs.YtcabanghegddhaaGreatDoor

/-- so many places are enough for every quotient here -/
def upK : Nat := 4000
theorem upK_eq : upK = 4000 := rfl
/-- the nearest number to a / b -/
def quoG (a b : Nat) : Nat := roundN (a * 2 ^ upK / b) (-(upK : Int)) (decide (a * 2 ^ upK % b ≠ 0))

theorem mark_scale {x c : Nat} (hc : c ≠ 0) : decide (x * c ≠ 0) = decide (x ≠ 0) := by
  rw [Bool.eq_iff_iff, decide_eq_true_iff, decide_eq_true_iff]
  simp only [ne_eq, Nat.mul_eq_zero, not_or]
  exact ⟨fun h => h.1, fun h => ⟨h, hc⟩⟩

/-- both sides times a number -/
theorem quoG_scale {a b c : Nat} (hc : c ≠ 0) : quoG (a * c) (b * c) = quoG a b := by
  unfold quoG
  have e1 : a * c * 2 ^ upK = a * 2 ^ upK * c := Nat.mul_right_comm _ _ _
  rw [e1, Nat.mul_div_mul_right _ _ (Nat.pos_of_ne_zero hc), Nat.mul_mod_mul_right, mark_scale hc]

theorem quoG_up {a b k : Nat} (hb : b ≠ 0) (h : 9007199254740992 ≤ a * 2 ^ k / b) (hk : k ≤ upK) : roundN (a * 2 ^ k / b) (-(k : Int)) (decide (a * 2 ^ k % b ≠ 0)) = quoG a b := by
  obtain ⟨d, hd⟩ : ∃ d, k + d = upK := ⟨upK - k, by omega⟩
  have q := quo_more (m := a) (n := b) (k := k) (d := d) (e := 0) hb h
  rw [hd, (by omega : (0 : Int) - (upK : Int) = -(upK : Int)), (by omega : (0 : Int) - (k : Int) = -(k : Int))] at q
  exact q.symm

theorem quoG_down {a b j : Nat} (hb : b ≠ 0) (h : 9007199254740992 ≤ a / (b * 2 ^ j)) : roundN (a / (b * 2 ^ j)) (j : Int) (decide (a % (b * 2 ^ j) ≠ 0)) = quoG a b := by
  have hp : (2 : Nat) ^ j ≠ 0 := Nat.pos_iff_ne_zero.mp (Nat.two_pow_pos j)
  have q := quo_more (m := a) (n := b * 2 ^ j) (k := 0) (d := upK + j) (e := (j : Int)) (Nat.mul_ne_zero hb hp) (by rw [Nat.pow_zero, Nat.mul_one]; exact h)
  rw [Nat.pow_zero, Nat.mul_one, Nat.zero_add, (by omega : (j : Int) - ((upK + j : Nat) : Int) = -(upK : Int)), (by omega : (j : Int) - ((0 : Nat) : Int) = (j : Int))] at q
  have e1 : a * 2 ^ (upK + j) = a * 2 ^ upK * 2 ^ j := by rw [Nat.pow_add, Nat.mul_assoc]
  rw [e1, Nat.mul_div_mul_right _ _ (Nat.two_pow_pos j), Nat.mul_mod_mul_right, mark_scale hp] at q
  exact q.symm

/-- how many binary figures there are -/
def bitsN (n : Nat) : Nat := if n = 0 then 0 else n.log2 + 1
theorem bitsN_of {n k : Nat} (h1 : n = 0 ∧ k = 0 ∨ (k ≠ 0 ∧ 2 ^ (k - 1) ≤ n ∧ n < 2 ^ k)) : bitsN n = k := by
  unfold bitsN
  rcases h1 with ⟨h1, h2⟩ | ⟨h1, h2, h3⟩
  · rw [if_pos h1, h2]
  · have h0 : n ≠ 0 := by
      have := Nat.two_pow_pos (k - 1)
      omega
    rw [if_neg h0, log2_of (k := k - 1) h2 (by rw [(by omega : k - 1 + 1 = k)]; exact h3)]
    omega
theorem bitsN_spec {n : Nat} (h : n ≠ 0) : bitsN n ≠ 0 ∧ 2 ^ (bitsN n - 1) ≤ n ∧ n < 2 ^ bitsN n := by
  unfold bitsN
  rw [if_neg h]
  refine ⟨by omega, ?_, ?_⟩
  · rw [Nat.add_sub_cancel]; exact Nat.log2_self_le h
  · exact Nat.lt_log2_self

/-- with the bits' numbers so far apart the quotient has 62 or 63 bits -/
theorem quo_bits {A B p q : Nat} (hA1 : 2 ^ (p - 1) ≤ A) (hA2 : A < 2 ^ p) (hB1 : 2 ^ (q - 1) ≤ B) (hB2 : B < 2 ^ q) (hq : q ≠ 0) (h : p = q + 62) : 2305843009213693952 ≤ A / B ∧ A / B < 9223372036854775808 := by
  subst h
  have hB0 : 0 < B := Nat.lt_of_lt_of_le (Nat.two_pow_pos _) hB1
  constructor
  · rw [Nat.le_div_iff_mul_le hB0]
    have e1 : 2 ^ (q + 62 - 1) = 2305843009213693952 * 2 ^ q := by rw [(by omega : q + 62 - 1 = 61 + q), Nat.pow_add]
    rw [e1] at hA1
    have : 2305843009213693952 * B ≤ 2305843009213693952 * 2 ^ q := Nat.mul_le_mul_left _ (Nat.le_of_lt hB2)
    omega
  · rw [Nat.div_lt_iff_lt_mul hB0]
    have e1 : 2 ^ (q + 62) = 9223372036854775808 * 2 ^ (q - 1) := by rw [(by omega : q + 62 = 63 + (q - 1)), Nat.pow_add]
    rw [e1] at hA2
    have : 9223372036854775808 * 2 ^ (q - 1) ≤ 9223372036854775808 * B := Nat.mul_le_mul_left _ hB1
    omega

/-- two numbers so brought up that their quotient has 62 or 63 bits -/
structure QuoRel (A B : Nat) (up : Int) (X Y : Nat) : Prop where
  x0 : X ≠ 0
  y0 : Y ≠ 0
  lo : 2305843009213693952 ≤ X / Y
  hi : X / Y < 9223372036854775808
  eq : roundN (X / Y) (-up) (decide (X % Y ≠ 0)) = quoG A B
theorem quoRel_up {A B k : Nat} (hA : A ≠ 0) (hB : B ≠ 0) (h : bitsN A + k = bitsN B + 62) (hk : k ≤ upK) : QuoRel A B (k : Int) (A * 2 ^ k) B := by
  obtain ⟨a1, a2, a3⟩ := bitsN_spec hA
  obtain ⟨b1, b2, b3⟩ := bitsN_spec hB
  have hp := Nat.two_pow_pos k
  obtain ⟨c1, c2⟩ := quo_bits (A := A * 2 ^ k) (B := B) (p := bitsN A + k) (q := bitsN B) (by rw [(by omega : bitsN A + k - 1 = bitsN A - 1 + k), Nat.pow_add]; exact Nat.mul_le_mul_right _ a2) (by rw [Nat.pow_add]; exact Nat.mul_lt_mul_of_pos_right a3 hp) b2 b3 b1 h
  exact ⟨Nat.mul_ne_zero hA (by omega), hB, c1, c2, quoG_up hB (by omega) hk⟩
theorem quoRel_down {A B j : Nat} (hA : A ≠ 0) (hB : B ≠ 0) (h : bitsN A = bitsN B + j + 62) : QuoRel A B (-(j : Int)) A (B * 2 ^ j) := by
  obtain ⟨a1, a2, a3⟩ := bitsN_spec hA
  obtain ⟨b1, b2, b3⟩ := bitsN_spec hB
  have hp := Nat.two_pow_pos j
  obtain ⟨c1, c2⟩ := quo_bits (A := A) (B := B * 2 ^ j) (p := bitsN A) (q := bitsN B + j) a2 a3 (by rw [(by omega : bitsN B + j - 1 = bitsN B - 1 + j), Nat.pow_add]; exact Nat.mul_le_mul_right _ b2) (by rw [Nat.pow_add]; exact Nat.mul_lt_mul_of_pos_right b3 hp) (by omega) h
  refine ⟨hA, Nat.mul_ne_zero hB (by omega), c1, c2, ?_⟩
  rw [Int.neg_neg]
  exact quoG_down hB (by omega)

end Go.Proofs.YtcabanghegddhaaGreatDoor

namespace Go.Proofs.YtcabanghegddhaaGreatDoor

theorem rne_back {m k M : Nat} {st : Bool} (hM : M ≠ 0) (h1 : (2 * M - 1) * 2 ^ k < m ∨ ((2 * M - 1) * 2 ^ k = m ∧ st = true)) (h2 : m < (2 * M + 1) * 2 ^ k) : rne m (k + 1) st = M := by
  have hp := Nat.two_pow_pos k
  have e1 : (2 * M - 1) * 2 ^ k = 2 * ((M - 1) * 2 ^ k) + 2 ^ k := by
    obtain ⟨N, rfl⟩ : ∃ N, M = N + 1 := ⟨M - 1, by omega⟩
    rw [Nat.add_sub_cancel, (by omega : 2 * (N + 1) - 1 = 2 * N + 1), Nat.add_mul, Nat.one_mul, Nat.mul_assoc]
  have e2 : (2 * M + 1) * 2 ^ k = 2 * (M * 2 ^ k) + 2 ^ k := by rw [Nat.add_mul, Nat.one_mul, Nat.mul_assoc]
  have e3 : M * 2 ^ k = (M - 1) * 2 ^ k + 2 ^ k := by
    obtain ⟨N, rfl⟩ : ∃ N, M = N + 1 := ⟨M - 1, by omega⟩
    rw [Nat.add_sub_cancel, Nat.add_mul, Nat.one_mul]
  have e4 : 2 ^ (k + 1) = 2 * 2 ^ k := by rw [Nat.pow_succ, Nat.mul_comm]
  rw [e1] at h1
  rw [e2] at h2
  unfold rne
  rw [e4]
  rcases Nat.lt_or_ge m (2 * (M * 2 ^ k)) with h | h
  · obtain ⟨r, hr⟩ : ∃ r, m = 2 * 2 ^ k * (M - 1) + r := ⟨m - 2 * ((M - 1) * 2 ^ k), by
      have : 2 * 2 ^ k * (M - 1) = 2 * ((M - 1) * 2 ^ k) := by rw [Nat.mul_assoc, Nat.mul_comm (2 ^ k)]
      omega⟩
    have e5 : 2 * 2 ^ k * (M - 1) = 2 * ((M - 1) * 2 ^ k) := by rw [Nat.mul_assoc, Nat.mul_comm (2 ^ k)]
    have hr2 : r < 2 * 2 ^ k := by omega
    have hq : m / (2 * 2 ^ k) = M - 1 := by rw [hr, Nat.mul_add_div (by omega), Nat.div_eq_of_lt hr2, Nat.add_zero]
    have hm : m % (2 * 2 ^ k) = r := by rw [hr, Nat.mul_add_mod, Nat.mod_eq_of_lt hr2]
    rw [hq, hm, if_pos]
    · omega
    · rcases h1 with h1 | ⟨h1, h3⟩
      · left; omega
      · right; exact ⟨by omega, .inl h3⟩
  · obtain ⟨r, hr⟩ : ∃ r, m = 2 * 2 ^ k * M + r := ⟨m - 2 * (M * 2 ^ k), by
      have : 2 * 2 ^ k * M = 2 * (M * 2 ^ k) := by rw [Nat.mul_assoc, Nat.mul_comm (2 ^ k)]
      omega⟩
    have e5 : 2 * 2 ^ k * M = 2 * (M * 2 ^ k) := by rw [Nat.mul_assoc, Nat.mul_comm (2 ^ k)]
    have hr2 : r < 2 ^ k := by omega
    have hq : m / (2 * 2 ^ k) = M := by rw [hr, Nat.mul_add_div (by omega), Nat.div_eq_of_lt (by omega), Nat.add_zero]
    have hm : m % (2 * 2 ^ k) = r := by rw [hr, Nat.mul_add_mod, Nat.mod_eq_of_lt (by omega)]
    rw [hq, hm, if_neg]
    omega

/-- what is left out of the quotient with so many places is below one -/
theorem quo_side {c A b m r : Nat} (hb : b ≠ 0) (hm : A / b = m) (hr : A % b = r) : (c * b < A → c < m ∨ (c = m ∧ r ≠ 0)) ∧ (A < c * b → m < c) := by
  have h := Nat.div_add_mod A b
  rw [hm, hr] at h
  have hlt : r < b := by rw [← hr]; exact Nat.mod_lt _ (by omega)
  constructor
  · intro hc
    rcases Nat.lt_trichotomy c m with h1 | h1 | h1
    · exact .inl h1
    · subst h1
      refine .inr ⟨rfl, ?_⟩
      rw [Nat.mul_comm] at h
      omega
    · have : b * (m + 1) ≤ b * c := Nat.mul_le_mul_left _ h1
      rw [Nat.mul_add, Nat.mul_one, Nat.mul_comm b c] at this
      omega
  · intro hc
    rcases Nat.lt_or_ge m c with h1 | h1
    · exact h1
    · have : b * c ≤ b * m := Nat.mul_le_mul_left _ h1
      rw [Nat.mul_comm b c] at this
      omega

theorem min_back {M t : Nat} (hM : M < 9007199254740992) (ht : t ≤ 2045) : min (M + t * 4503599627370496) 9218868437227405312 = M + t * 4503599627370496 := by omega
theorem min_back2 {t : Nat} (h0 : t ≠ 0) (ht : t ≤ 2045) : min (9007199254740992 + (t - 1) * 4503599627370496) 9218868437227405312 = 4503599627370496 + t * 4503599627370496 := by omega
theorem exp_back {K t e : Nat} (he : K = 1074 + (e + 2)) : (-1074 ≤ -(K : Int) + ((t + e + 2 : Nat) : Int)) ∧ (t = 0 → -(K : Int) + ((t + e + 2 : Nat) : Int) = -1074) ∧ (-(K : Int) + ((t + e + 2 : Nat) : Int) + 1074).toNat = t := by omega
theorem exp_back2 {K t e : Nat} (he : K = 1074 + (e + 2)) (h0 : t ≠ 0) : (-1074 ≤ -(K : Int) + ((t + e + 1 : Nat) : Int)) ∧ (-(K : Int) + ((t + e + 1 : Nat) : Int) + 1074).toNat = t - 1 := by omega

set_option maxHeartbeats 1000000 in
theorem quoG_back {a b M t : Nat} (hb : b ≠ 0) (hM0 : M ≠ 0) (hM : M < 9007199254740992) (ht : t ≤ 2045) (hn : t = 0 ∨ 4503599627370496 ≤ M)
    (up : 2 * (a * 2 ^ 1074) < (2 * M + 1) * 2 ^ t * b) (lo : (2 * M - 1) * 2 ^ t * b < 2 * (a * 2 ^ 1074)) (lo2 : t ≠ 0 → M = 4503599627370496 → (4 * M - 1) * 2 ^ t * b < 4 * (a * 2 ^ 1074)) :
    quoG a b = M + t * 4503599627370496 := by
  obtain ⟨W, hW⟩ : ∃ W : Nat, (2 : Nat) ^ 1074 = W := ⟨_, rfl⟩
  obtain ⟨e, he⟩ : ∃ e, upK = 1074 + (e + 2) := ⟨2924, by rw [upK_eq]⟩
  have hpK : a * 2 ^ upK = a * W * (4 * 2 ^ e) := by
    rw [he, Nat.pow_add, hW, Nat.pow_add, Nat.mul_comm (2 ^ e), Nat.mul_assoc]
  rw [hW] at up lo lo2
  have hp := Nat.two_pow_pos e
  obtain ⟨m, hm⟩ : ∃ m, a * 2 ^ upK / b = m := ⟨_, rfl⟩
  obtain ⟨r, hr⟩ : ∃ m, a * 2 ^ upK % b = m := ⟨_, rfl⟩
  unfold quoG
  rw [hm, hr]
  have side := fun c => quo_side (c := c) hb hm hr
  rw [hpK] at side
  have hk : 2 ^ (t + e) = 2 ^ t * 2 ^ e := Nat.pow_add _ _ _
  -- the whole part lies between the halves
  have s1 : m < (2 * M + 1) * 2 ^ (t + e + 1) := by
    refine (side _).2 ?_
    rw [Nat.pow_succ, hk]
    have h1 : 2 * (a * W) * (2 * 2 ^ e) < (2 * M + 1) * 2 ^ t * b * (2 * 2 ^ e) := Nat.mul_lt_mul_of_pos_right up (by omega)
    have e1 : 2 * (a * W) * (2 * 2 ^ e) = a * W * (4 * 2 ^ e) := by
      rw [Nat.mul_comm 2 (a * W), Nat.mul_assoc, ← Nat.mul_assoc 2 2]
    have e2 : (2 * M + 1) * 2 ^ t * b * (2 * 2 ^ e) = (2 * M + 1) * (2 ^ t * 2 ^ e * 2) * b := by
      rw [Nat.mul_right_comm _ b, Nat.mul_assoc (2 * M + 1), Nat.mul_comm 2 (2 ^ e), ← Nat.mul_assoc (2 ^ t)]
    omega
  have s2 : (2 * M - 1) * 2 ^ (t + e + 1) < m ∨ ((2 * M - 1) * 2 ^ (t + e + 1) = m ∧ r ≠ 0) := by
    refine (side _).1 ?_
    rw [Nat.pow_succ, hk]
    have h1 : (2 * M - 1) * 2 ^ t * b * (2 * 2 ^ e) < 2 * (a * W) * (2 * 2 ^ e) := Nat.mul_lt_mul_of_pos_right lo (by omega)
    have e1 : 2 * (a * W) * (2 * 2 ^ e) = a * W * (4 * 2 ^ e) := by
      rw [Nat.mul_comm 2 (a * W), Nat.mul_assoc, ← Nat.mul_assoc 2 2]
    have e2 : (2 * M - 1) * 2 ^ t * b * (2 * 2 ^ e) = (2 * M - 1) * (2 ^ t * 2 ^ e * 2) * b := by
      rw [Nat.mul_right_comm _ b, Nat.mul_assoc (2 * M - 1), Nat.mul_comm 2 (2 ^ e), ← Nat.mul_assoc (2 ^ t)]
    omega
  have s3 : t ≠ 0 → M = 4503599627370496 → (4 * M - 1) * 2 ^ (t + e) < m ∨ ((4 * M - 1) * 2 ^ (t + e) = m ∧ r ≠ 0) := by
    intro h1 h2
    refine (side _).1 ?_
    rw [hk]
    have h3 : (4 * M - 1) * 2 ^ t * b * 2 ^ e < 4 * (a * W) * 2 ^ e := Nat.mul_lt_mul_of_pos_right (lo2 h1 h2) (by omega)
    have e1 : 4 * (a * W) * 2 ^ e = a * W * (4 * 2 ^ e) := by
      rw [Nat.mul_comm 4 (a * W), Nat.mul_assoc]
    have e2 : (4 * M - 1) * 2 ^ t * b * 2 ^ e = (4 * M - 1) * (2 ^ t * 2 ^ e) * b := by
      rw [Nat.mul_right_comm _ b, Nat.mul_assoc (4 * M - 1)]
    omega
  clear side up lo lo2 hpK hm hW
  have hst : r ≠ 0 → decide (r ≠ 0) = true := fun h => decide_eq_true h
  have hp1 := Nat.two_pow_pos (t + e)
  have q1 : 2 ^ (t + e + 1) = 2 * 2 ^ (t + e) := by rw [Nat.pow_succ, Nat.mul_comm]
  have hm0 : m ≠ 0 := by
    have : 1 * 2 ^ (t + e + 1) ≤ (2 * M - 1) * 2 ^ (t + e + 1) := Nat.mul_le_mul_right _ (by omega)
    omega
  have t1 : m < 2 ^ (53 + (t + e + 2)) := by
    have e5 : 2 ^ (53 + (t + e + 2)) = 18014398509481984 * 2 ^ (t + e + 1) := by rw [(by omega : 53 + (t + e + 2) = 54 + (t + e + 1)), Nat.pow_add]
    rw [e5]
    exact Nat.lt_of_lt_of_le s1 (Nat.mul_le_mul_right _ (by omega))
  have e6 : 2 ^ (52 + (t + e + 2)) = 9007199254740992 * 2 ^ (t + e + 1) := by rw [(by omega : 52 + (t + e + 2) = 53 + (t + e + 1)), Nat.pow_add]
  by_cases hbin : t = 0 ∨ 2 ^ (52 + (t + e + 2)) ≤ m
  · have hR : rne m (t + e + 1 + 1) (decide (r ≠ 0)) = M := rne_back hM0 (by
      rcases s2 with h | ⟨h, h'⟩
      · exact .inl h
      · exact .inr ⟨h, hst h'⟩) s1
    obtain ⟨x1, x2, x3⟩ := exp_back (t := t) he
    rw [roundN_at (k := t + e + 2) _ hm0 x1 t1 (by rcases hbin with h | h; exact .inl (x2 h); exact .inr h), hR, x3]
    exact min_back hM ht
  · have ht0 : t ≠ 0 := fun h => hbin (.inl h)
    have hlow : m < 2 ^ (52 + (t + e + 2)) := by
      rcases Nat.lt_or_ge m (2 ^ (52 + (t + e + 2))) with h | h
      · exact h
      · exact absurd (.inr h) hbin
    have hMe : M = 4503599627370496 := by
      rcases hn with h | h
      · exact absurd h ht0
      · rcases Nat.eq_or_lt_of_le h with h1 | h1
        · exact h1.symm
        · exfalso
          rw [e6] at hlow
          have : 9007199254740993 * 2 ^ (t + e + 1) ≤ (2 * M - 1) * 2 ^ (t + e + 1) := Nat.mul_le_mul_right _ (by omega)
          omega
    have s4 := s3 ht0 hMe
    subst hMe
    have hR : rne m (t + e + 1) (decide (r ≠ 0)) = 9007199254740992 := rne_back (by decide) (by
      rcases s4 with h | ⟨h, h'⟩
      · exact .inl h
      · exact .inr ⟨h, hst h'⟩) (by
      rw [e6, q1] at hlow
      omega)
    have t2 : m < 2 ^ (53 + (t + e + 1)) := by rw [(by omega : 53 + (t + e + 1) = 52 + (t + e + 2))]; exact hlow
    have t3 : 2 ^ (52 + (t + e + 1)) ≤ m := by
      have e7 : 2 ^ (52 + (t + e + 1)) = 9007199254740992 * 2 ^ (t + e) := by rw [(by omega : 52 + (t + e + 1) = 53 + (t + e)), Nat.pow_add]
      rw [e7]
      omega
    obtain ⟨x1, x2⟩ := exp_back2 (t := t) he ht0
    rw [roundN_at (k := t + e + 1) _ hm0 x1 t2 (.inr t3), hR, x2]
    exact min_back2 ht0 ht

end Go.Proofs.YtcabanghegddhaaGreatDoor

namespace Go.Proofs.YtcabanghegddhaaGreatDoor
set_option linter.unusedVariables false

/-- a quotient, bit by bit: behind i places -/
structure DivAt (P Q i n l : Nat) : Prop where
  eq : P * 2 ^ i = 2 * (n * Q) + l
  lt : l < 2 * Q
theorem div_start {P Q : Nat} (h : P < 2 * Q) : DivAt P Q 0 0 P := ⟨by simp, h⟩
theorem div_hit {P Q i n l : Nat} (h : DivAt P Q i n l) (hl : Q ≤ l) : DivAt P Q (i + 1) (n * 2 + 1) ((l - Q) * 2) := by
  refine ⟨?_, by have := h.lt; omega⟩
  have e1 : (n * 2 + 1) * Q = 2 * (n * Q) + Q := by rw [Nat.add_mul, Nat.mul_right_comm, Nat.one_mul, Nat.mul_comm 2]
  rw [Nat.pow_succ, ← Nat.mul_assoc, h.eq, e1]
  omega
theorem div_miss {P Q i n l : Nat} (h : DivAt P Q i n l) (hl : l < Q) : DivAt P Q (i + 1) (n * 2) (l * 2) := by
  refine ⟨?_, by omega⟩
  have e1 : n * 2 * Q = 2 * (n * Q) := by rw [Nat.mul_right_comm, Nat.mul_comm 2]
  rw [Nat.pow_succ, ← Nat.mul_assoc, h.eq, e1]
  omega
theorem div_bound {P Q i n l : Nat} (h : DivAt P Q i n l) (hP : P < 2 * Q) : n < 2 ^ i := by
  have h1 := h.eq
  rcases Nat.lt_or_ge n (2 ^ i) with h' | h'
  · exact h'
  · have h2 : 2 ^ i * Q ≤ n * Q := Nat.mul_le_mul_right _ h'
    have h3 : P * 2 ^ i < 2 * Q * 2 ^ i := Nat.mul_lt_mul_of_pos_right hP (Nat.two_pow_pos i)
    have h4 : 2 * Q * 2 ^ i = 2 * (2 ^ i * Q) := by rw [Nat.mul_assoc, Nat.mul_comm Q]
    omega
theorem div_end {P Q n l j : Nat} (h : DivAt P Q (j + 1) n l) (hQ : Q ≠ 0) : P * 2 ^ j / Q = n ∧ (0 < l ↔ P * 2 ^ j % Q ≠ 0) := by
  have h1 := h.eq
  rw [Nat.pow_succ, ← Nat.mul_assoc] at h1
  obtain ⟨X, hX⟩ : ∃ X, P * 2 ^ j = X := ⟨_, rfl⟩
  rw [hX] at h1 ⊢
  obtain ⟨r, hr⟩ : ∃ r, l = 2 * r := ⟨X - n * Q, by omega⟩
  have h3 : X = Q * n + r := by rw [Nat.mul_comm Q]; omega
  have h4 : r < Q := by have := h.lt; omega
  have h5 : X / Q = n := by rw [h3, Nat.mul_add_div (by omega), Nat.div_eq_of_lt h4, Nat.add_zero]
  have h6 : X % Q = r := by rw [h3, Nat.mul_add_mod, Nat.mod_eq_of_lt h4]
  exact ⟨h5, by omega⟩

end Go.Proofs.YtcabanghegddhaaGreatDoor

namespace Go.Proofs.YtcabanghegddhaaGreatDoor

/-- m times 2^e has been halved to M times 2^E; hf: the bit that went last; rs: whether any went before it, or st -/
def Halved (m : Nat) (e : Int) (st : Bool) (M : Nat) (E : Int) (hf rs : Bool) : Prop :=
  (∃ j : Nat, M = m / 2 ^ j ∧ E = e + j ∧ (j = 0 → hf = false ∧ rs = st) ∧ (∀ i, j = i + 1 → hf = decide (m / 2 ^ i % 2 = 1) ∧ rs = (st || decide (m % 2 ^ i ≠ 0)) ∧ (E ≤ -1074 ∨ 9007199254740992 ≤ m / 2 ^ i)))
  ∨ (M = 0 ∧ E = -1074 ∧ hf = false ∧ ∃ j : Nat, e + j < -1074 ∧ m < 2 ^ j)

theorem halved_start (m : Nat) (e : Int) (st : Bool) : Halved m e st m e false st :=
  .inl ⟨0, by simp, by simp, fun _ => ⟨rfl, rfl⟩, fun i h => by omega⟩

theorem halved_le {m : Nat} {e : Int} {st : Bool} {M : Nat} {E : Int} {hf rs : Bool} (h : Halved m e st M E hf rs) : M ≤ m := by
  rcases h with ⟨j, rfl, -⟩ | ⟨rfl, -⟩
  · exact Nat.div_le_self _ _
  · exact Nat.zero_le _

theorem halved_exp {m : Nat} {e : Int} {st : Bool} {M : Nat} {E : Int} {hf rs : Bool} (h : Halved m e st M E hf rs) (hm : m < 18446744073709551616) : E ≤ -1074 ∨ E ≤ e + 64 := by
  rcases h with ⟨j, -, rfl, -, hs⟩ | ⟨-, h, -⟩
  · cases j with
    | zero => right; omega
    | succ i =>
      rcases (hs i rfl).2.2 with h | h
      · exact .inl h
      · right
        rcases Nat.lt_or_ge i 63 with h' | h'
        · omega
        · have : (2 : Nat) ^ 63 ≤ 2 ^ i := Nat.pow_le_pow_right (by decide) h'
          have h2 : 9007199254740992 * 2 ^ i ≤ m := (Nat.le_div_iff_mul_le (Nat.two_pow_pos i)).1 h
          omega
  · exact .inl (by omega)

theorem rest_step (m i : Nat) (st : Bool) : ((st || decide (m % 2 ^ i ≠ 0)) || decide (m / 2 ^ i % 2 = 1)) = (st || decide (m % 2 ^ (i + 1) ≠ 0)) := by
  have hr : m % 2 ^ (i + 1) = m % 2 ^ i + 2 ^ i * (m / 2 ^ i % 2) := by rw [Nat.pow_succ, Nat.mod_mul]
  have hp := Nat.two_pow_pos i
  rw [hr]
  rcases Nat.mod_two_eq_zero_or_one (m / 2 ^ i) with hb | hb
  · rw [hb]; simp
  · rw [hb]
    simp

theorem halved_step {m : Nat} {e : Int} {st : Bool} {M : Nat} {E : Int} {hf rs : Bool} (h : Halved m e st M E hf rs) (hc : 9007199254740992 ≤ M ∨ E < -1074) :
    Halved m e st (M / 2) (E + 1) (decide (M % 2 = 1)) (rs || hf) := by
  rcases h with ⟨j, rfl, rfl, h0, hs⟩ | ⟨rfl, rfl, -⟩
  · refine .inl ⟨j + 1, ?_, ?_, fun h => by omega, fun i hi => ?_⟩
    · rw [Nat.pow_succ, Nat.div_div_eq_div_mul]
    · omega
    · obtain rfl : j = i := by omega
      refine ⟨rfl, ?_, ?_⟩
      · cases j with
        | zero => rw [(h0 rfl).1, (h0 rfl).2]; simp [Nat.mod_one]
        | succ i =>
          rw [(hs i rfl).1, (hs i rfl).2.1]
          exact rest_step m i st
      · rcases hc with hc | hc
        · exact .inr hc
        · exact .inl (by omega)
  · omega

theorem halved_zero {m : Nat} {e : Int} {st : Bool} {M : Nat} {E : Int} {hf rs r : Bool} (h : Halved m e st M E hf rs) (h2 : M / 2 = 0) (h3 : E + 1 < -1074) :
    Halved m e st 0 (-1074) false r := by
  rcases h with ⟨j, rfl, rfl, h0, hs⟩ | ⟨rfl, rfl, -⟩
  · refine .inr ⟨rfl, rfl, rfl, j + 1, by omega, ?_⟩
    rw [Nat.pow_succ]
    rw [Nat.div_div_eq_div_mul] at h2
    rcases Nat.div_eq_zero_iff.1 h2 with h | h
    · have := Nat.two_pow_pos j; omega
    · exact h
  · omega

theorem halved_end {m : Nat} {e : Int} {st : Bool} {M : Nat} {E : Int} {hf rs : Bool} (h : Halved m e st M E hf rs) (hm : m ≠ 0) (hn : e ≤ -1074 ∨ 4503599627370496 ≤ m) (h1 : M < 9007199254740992) (h2 : -1074 ≤ E) :
    roundN m e st = min (M + (if (hf && (rs || decide (M % 2 = 1))) = true then 1 else 0) + (E + 1074).toNat * 4503599627370496) 9218868437227405312 ∧ (E = -1074 ∨ 4503599627370496 ≤ M) := by
  rcases h with ⟨j, rfl, rfl, h0, hs⟩ | ⟨rfl, rfl, rfl, j, hj, hlt⟩
  · have hlt : m < 2 ^ (53 + j) := by
      rw [Nat.pow_add]
      exact (Nat.div_lt_iff_lt_mul (Nat.two_pow_pos j)).1 h1
    have hlow : e + j = -1074 ∨ 2 ^ (52 + j) ≤ m := by
      cases j with
      | zero => rcases hn with h | h; exact .inl (by simp at h2 ⊢; omega); exact .inr h
      | succ i =>
        rcases (hs i rfl).2.2 with h | h
        · exact .inl (by omega)
        · right
          have h3 : 9007199254740992 * 2 ^ i ≤ m := (Nat.le_div_iff_mul_le (Nat.two_pow_pos i)).1 h
          have : 2 ^ (52 + (i + 1)) = 9007199254740992 * 2 ^ i := by rw [show 52 + (i + 1) = 53 + i by omega, Nat.pow_add]
          omega
    constructor
    · rw [roundN_at (k := j) st hm h2 hlt hlow]
      congr 1
      congr 1
      cases j with
      | zero => rw [(h0 rfl).1]; simp [rne_zero]
      | succ i =>
        rw [rne_succ, (hs i rfl).1, (hs i rfl).2.1]
        congr 1
        simp
    · rcases hlow with h | h
      · exact .inl h
      · right
        rw [Nat.pow_add] at h
        exact (Nat.le_div_iff_mul_le (Nat.two_pow_pos j)).2 h
  · refine ⟨?_, .inl rfl⟩
    have hk : e + ((-1074 - e).toNat : Nat) = -1074 := by omega
    have hp : (2 : Nat) ^ (j + 1) ≤ 2 ^ (-1074 - e).toNat := Nat.pow_le_pow_right (by decide) (by omega)
    rw [Nat.pow_succ] at hp
    have hq : (2 : Nat) ^ (-1074 - e).toNat ≤ 2 ^ (53 + (-1074 - e).toNat) := Nat.pow_le_pow_right (by decide) (by omega)
    rw [roundN_at (k := (-1074 - e).toNat) st hm (by omega) (by omega) (.inl hk), rne_small st (by omega), hk]
    simp

/-- what is put together at the end -/
theorem round_put {M' : Nat} {E : Int} (h2 : -1074 ≤ E) (h3 : E = -1074 ∨ 4503599627370496 ≤ M') (h4 : M' ≤ 9007199254740992) :
    min (M' + (E + 1074).toNat * 4503599627370496) 9218868437227405312 =
      if M' = 9007199254740992 then (if 971 < E + 1 then 9218868437227405312 else (E + 1 + 1075).toNat * 4503599627370496)
      else if M' < 4503599627370496 then M' else if 971 < E then 9218868437227405312 else M' - 4503599627370496 + (E + 1075).toNat * 4503599627370496 := by
  obtain ⟨t, ht⟩ : ∃ t : Nat, E + 1074 = t := ⟨(E + 1074).toNat, by omega⟩
  have e1 : (E + 1074).toNat = t := by omega
  have e2 : (E + 1075).toNat = t + 1 := by omega
  have e3 : (E + 1 + 1075).toNat = t + 2 := by omega
  rw [e1, e2, e3]
  split
  · split <;> omega
  · split
    · have : t = 0 := by omega
      omega
    · split <;> omega

/-- the exponent may be taken as -5000 or 5000 where it is beyond these -/
theorem roundN_clamp {m : Nat} (e : Int) (st : Bool) (hm : m < 18446744073709551616) : roundN m (max (min e 5000) (-5000)) st = roundN m e st := by
  by_cases h0 : m = 0
  · subst h0; simp [roundN]
  by_cases h1 : 5000 < e
  · rw [roundN_huge st h0 (show 1100 ≤ e by omega), roundN_huge st h0 (by omega)]
  · by_cases h2 : e < -5000
    · rw [roundN_tiny st hm (show e ≤ -1139 by omega), roundN_tiny st hm (by omega)]
    · congr 1; omega

end Go.Proofs.YtcabanghegddhaaGreatDoor

namespace Go.Proofs.YtcabanghegddhaaGreatDoor

/-- words of 64 bits, the lowest first -/
def wordV : List Nat → Nat
  | [] => 0
  | x :: xs => x + 18446744073709551616 * wordV xs
def WordOk (xs : List Nat) : Prop := ∀ x ∈ xs, x < 18446744073709551616

theorem dword_pow (k : Nat) : 2 ^ (64 * (k + 1)) = 18446744073709551616 * 2 ^ (64 * k) := by
  rw [Nat.mul_add, Nat.mul_one, Nat.pow_add, Nat.mul_comm]
theorem wordV_append (xs ys : List Nat) : wordV (xs ++ ys) = wordV xs + 2 ^ (64 * xs.length) * wordV ys := by
  induction xs with
  | nil => simp [wordV]
  | cons a l ih =>
    rw [List.cons_append, wordV, ih, wordV, List.length_cons, dword_pow, Nat.mul_add, Nat.mul_assoc]
    omega
theorem wordV_one (x : Nat) : wordV [x] = x := by simp [wordV]
theorem wordV_snoc (xs : List Nat) (x : Nat) : wordV (xs ++ [x]) = wordV xs + 2 ^ (64 * xs.length) * x := by rw [wordV_append, wordV_one]
theorem wordV_lt {xs : List Nat} (h : WordOk xs) : wordV xs < 2 ^ (64 * xs.length) := by
  induction xs with
  | nil => simp [wordV]
  | cons a l ih =>
    have b := ih fun x hx => h x (by simp [hx])
    have c := h a (by simp)
    rw [wordV, List.length_cons, dword_pow]
    omega
theorem wordOk_snoc {xs : List Nat} {x : Nat} (h : WordOk xs) (hx : x < 18446744073709551616) : WordOk (xs ++ [x]) := by
  intro y hy
  rw [List.mem_append, List.mem_singleton] at hy
  rcases hy with hy | hy
  · exact h y hy
  · subst hy; exact hx
theorem wordOk_append {xs ys : List Nat} (h : WordOk xs) (k : WordOk ys) : WordOk (xs ++ ys) := fun x hx => (List.mem_append.1 hx).elim (h x) (k x)
theorem wordOk_zeros (k : Nat) : WordOk (List.replicate k 0) := fun x hx => by rw [List.eq_of_mem_replicate hx]; decide
theorem wordOk_at {xs : List Nat} (h : WordOk xs) (i : Nat) : xs.getD i 0 < 18446744073709551616 := by
  rw [List.getD_eq_getElem?_getD]
  cases hx : xs[i]? with
  | none => simp
  | some v => exact h v (List.mem_of_getElem? hx)
theorem wordOk_set {xs : List Nat} {x i : Nat} (h : WordOk xs) (hx : x < 18446744073709551616) : WordOk (xs.set i x) := by
  intro y hy
  rcases List.mem_or_eq_of_mem_set hy with h' | h'
  · exact h y h'
  · rw [h']; exact hx
theorem wordV_zeros (k : Nat) (xs : List Nat) : wordV (List.replicate k 0 ++ xs) = 2 ^ (64 * k) * wordV xs := by
  have h : ∀ k, wordV (List.replicate k 0) = 0 := fun k => by
    induction k with
    | zero => rfl
    | succ k ih => rw [List.replicate_succ, wordV, ih]
  rw [wordV_append, h, List.length_replicate, Nat.zero_add]
theorem wordV_take (xs : List Nat) (i : Nat) : wordV (xs.take (i + 1)) = wordV (xs.take i) + 2 ^ (64 * i) * xs.getD i 0 := by
  by_cases h : i < xs.length
  · rw [List.take_succ_eq_append_getElem h, wordV_snoc, List.length_take, Nat.min_eq_left (by omega), List.getD_eq_getElem?_getD, List.getElem?_eq_getElem h]
    rfl
  · rw [List.take_of_length_le (by omega), List.take_of_length_le (by omega), List.getD_eq_getElem?_getD, List.getElem?_eq_none (by omega)]
    simp
theorem wordV_drop (xs : List Nat) (i : Nat) : wordV (xs.drop i) = xs.getD i 0 + 18446744073709551616 * wordV (xs.drop (i + 1)) := by
  by_cases h : i < xs.length
  · rw [List.drop_eq_getElem_cons h, wordV, List.getD_eq_getElem?_getD, List.getElem?_eq_getElem h]
    rfl
  · rw [List.drop_of_length_le (by omega), List.drop_of_length_le (by omega), List.getD_eq_getElem?_getD, List.getElem?_eq_none (by omega)]
    simp [wordV]
theorem wordV_split (xs : List Nat) (i : Nat) (h : i ≤ xs.length) : wordV xs = wordV (xs.take i) + 2 ^ (64 * i) * wordV (xs.drop i) := by
  have := wordV_append (xs.take i) (xs.drop i)
  rw [List.take_append_drop, List.length_take, Nat.min_eq_left h] at this
  exact this
theorem set_take (zs : List Nat) (i y : Nat) : (zs.set i y).take i = zs.take i := by
  rw [List.take_set, List.set_eq_of_length_le (by rw [List.length_take]; omega)]
theorem set_drop (zs : List Nat) (i y : Nat) : (zs.set i y).drop (i + 1) = zs.drop (i + 1) := by
  rw [List.drop_set, if_pos (by omega)]
theorem set_same {zs : List Nat} {i : Nat} (y : Nat) (h : i < zs.length) : (zs.set i y).getD i 0 = y := by
  rw [List.getD_eq_getElem?_getD, List.getElem?_set_self h]; rfl
theorem set_other {zs : List Nat} {i j : Nat} (y : Nat) (h : i ≠ j) : (zs.set i y).getD j 0 = zs.getD j 0 := by
  rw [List.getD_eq_getElem?_getD, List.getElem?_set_ne h, List.getD_eq_getElem?_getD]

/-- times b and more, so far done -/
structure MulW (xs : List Nat) (b m0 i : Nat) (zs : List Nat) (mo : Nat) : Prop where
  len : zs.length = xs.length
  low : wordV (zs.take i) + 2 ^ (64 * i) * mo = wordV (xs.take i) * b + m0
  high : ∀ j, i ≤ j → zs.getD j 0 = xs.getD j 0
  ok : WordOk zs
theorem mulW_start {xs : List Nat} (b m0 : Nat) (h : WordOk xs) : MulW xs b m0 0 xs m0 := ⟨rfl, by simp [wordV], fun _ _ => rfl, h⟩
theorem mulW_step {xs zs : List Nat} {b m0 i mo X : Nat} (h : MulW xs b m0 i zs mo) (hi : i < xs.length) (hX : zs.getD i 0 * b + mo = X) :
    MulW xs b m0 (i + 1) (zs.set i (X % 18446744073709551616)) (X / 18446744073709551616) := by
  have hl : i < zs.length := by rw [h.len]; exact hi
  refine ⟨by rw [List.length_set, h.len], ?_, fun j hj => by rw [set_other _ (by omega)]; exact h.high j (by omega), wordOk_set h.ok (Nat.mod_lt _ (by decide))⟩
  rw [wordV_take, set_take, set_same _ hl, wordV_take, dword_pow]
  have e1 := h.low
  rw [h.high i (Nat.le_refl _)] at hX
  have e2 : 2 ^ (64 * i) * (X % 18446744073709551616) + 18446744073709551616 * 2 ^ (64 * i) * (X / 18446744073709551616) = 2 ^ (64 * i) * X := by
    rw [Nat.mul_comm 18446744073709551616, Nat.mul_assoc, ← Nat.mul_add]
    congr 1
    omega
  rw [Nat.add_assoc, e2, ← hX, Nat.mul_add, Nat.add_mul, ← Nat.mul_assoc]
  omega
theorem mulW_end {xs zs : List Nat} {b m0 mo : Nat} (h : MulW xs b m0 xs.length zs mo) : wordV zs + 2 ^ (64 * xs.length) * mo = wordV xs * b + m0 := by
  have := h.low
  rw [List.take_of_length_le (by rw [h.len]; omega), List.take_of_length_le (by omega)] at this
  exact this

/-- divided by b, so far done -/
structure DivW (xs : List Nat) (b i : Nat) (zs : List Nat) (r : Nat) : Prop where
  len : zs.length = xs.length
  high : wordV (zs.drop i) * b + r = wordV (xs.drop i)
  low : ∀ j, j < i → zs.getD j 0 = xs.getD j 0
  ok : WordOk zs
  lt : r < b
theorem divW_start {xs : List Nat} {b : Nat} (h : WordOk xs) (hb : 0 < b) : DivW xs b xs.length xs 0 := ⟨rfl, by simp [wordV], fun _ _ => rfl, h, hb⟩
theorem div_word {r x b : Nat} (hr : r < b) (hx : x < 18446744073709551616) : (r * 18446744073709551616 + x) / b < 18446744073709551616 := by
  rw [Nat.div_lt_iff_lt_mul (by omega)]
  have : (r + 1) * 18446744073709551616 ≤ b * 18446744073709551616 := Nat.mul_le_mul_right _ hr
  omega
theorem divW_step {xs zs : List Nat} {b p r : Nat} (h : DivW xs b (p + 1) zs r) (hp : p < xs.length) (ho : WordOk xs) :
    DivW xs b p (zs.set p ((r * 18446744073709551616 + xs.getD p 0) / b)) ((r * 18446744073709551616 + xs.getD p 0) % b) := by
  have hl : p < zs.length := by rw [h.len]; exact hp
  have hb : 0 < b := by have := h.lt; omega
  refine ⟨by rw [List.length_set, h.len], ?_, fun j hj => by rw [set_other _ (by omega)]; exact h.low j (by omega), wordOk_set h.ok (div_word h.lt (wordOk_at ho p)), Nat.mod_lt _ hb⟩
  rw [wordV_drop, set_drop, set_same _ hl, wordV_drop xs p, ← h.high]
  obtain ⟨X, hX⟩ : ∃ X, r * 18446744073709551616 + xs.getD p 0 = X := ⟨_, rfl⟩
  rw [hX]
  have e := Nat.div_add_mod X b
  have e1 : (X / b + 18446744073709551616 * wordV (zs.drop (p + 1))) * b = b * (X / b) + 18446744073709551616 * (wordV (zs.drop (p + 1)) * b) := by
    rw [Nat.add_mul, Nat.mul_comm (X / b), Nat.mul_assoc]
  rw [e1]
  omega
theorem divW_end {xs zs : List Nat} {b r : Nat} (h : DivW xs b 0 zs r) : wordV zs = wordV xs / b ∧ r = wordV xs % b := by
  have e := h.high
  rw [List.drop_zero, List.drop_zero] at e
  have hb : 0 < b := by have := h.lt; omega
  rw [← e, Nat.mul_comm]
  exact ⟨by rw [Nat.mul_add_div hb, Nat.div_eq_of_lt h.lt, Nat.add_zero], by rw [Nat.mul_add_mod, Nat.mod_eq_of_lt h.lt]⟩

/-- divided by powers one behind the other -/
theorem mark_more (N a b : Nat) : (decide (N % a ≠ 0) || decide (0 < N / a % b)) = decide (N % (a * b) ≠ 0) := by
  rw [Nat.mod_mul, Bool.eq_iff_iff, Bool.or_eq_true, decide_eq_true_iff, decide_eq_true_iff, decide_eq_true_iff]
  by_cases h0 : a = 0
  · subst h0; simp
  · constructor
    · rintro (h | h)
      · omega
      · have : 0 < a * (N / a % b) := Nat.mul_pos (by omega) h
        omega
    · intro h
      by_cases h1 : N % a = 0
      · right
        rcases Nat.eq_zero_or_pos (N / a % b) with h2 | h2
        · rw [h1, h2] at h; simp at h
        · exact h2
      · exact .inl h1
theorem five_step {N c d : Nat} : N / 5 ^ c / 5 ^ d = N / 5 ^ (c + d) ∧ (decide (N % 5 ^ c ≠ 0) || decide (0 < N / 5 ^ c % 5 ^ d)) = decide (N % 5 ^ (c + d) ≠ 0) := by
  rw [Nat.pow_add, Nat.div_div_eq_div_mul, mark_more]
  exact ⟨rfl, rfl⟩

/-- the bits that count, and whether others are lost -/
theorem rounded_end {low l h M f t : Nat} {e : Int} (st : Bool) (hlow : low < 2 ^ (64 * t)) (hl : l < 18446744073709551616) (hf : f ≤ 63) (hM : M = h * 2 ^ f) (hM1 : 9223372036854775808 ≤ M) (hM2 : M < 18446744073709551616) :
    roundN (low + 2 ^ (64 * t) * (l + 18446744073709551616 * h)) e st = roundN (M + l / 2 ^ (64 - f)) (e + (t + 1 : Nat) * 64 - f) (st || decide (low ≠ 0 ∨ l * 2 ^ f % 18446744073709551616 ≠ 0)) := by
  have hp := Nat.two_pow_pos f
  have hq := Nat.two_pow_pos (64 * t)
  have e64 : (18446744073709551616 : Nat) = 2 ^ (64 - f) * 2 ^ f := by rw [← Nat.pow_add, (by omega : 64 - f + f = 64)]
  obtain ⟨m, hm⟩ : ∃ m, l / 2 ^ (64 - f) = m := ⟨_, rfl⟩
  obtain ⟨s, hs⟩ : ∃ s, l % 2 ^ (64 - f) = s := ⟨_, rfl⟩
  have el : l = 2 ^ (64 - f) * m + s := by rw [← hm, ← hs]; exact (Nat.div_add_mod _ _).symm
  have hs1 : s < 2 ^ (64 - f) := by rw [← hs]; exact Nat.mod_lt _ (Nat.two_pow_pos _)
  have elost : l * 2 ^ f % 18446744073709551616 = s * 2 ^ f := by rw [e64, Nat.mul_mod_mul_right, hs]
  have hs2 : s * 2 ^ f + 2 ^ f ≤ 18446744073709551616 := by
    rw [e64]
    have : (s + 1) * 2 ^ f ≤ 2 ^ (64 - f) * 2 ^ f := Nat.mul_le_mul_right _ hs1
    rw [Nat.add_mul] at this
    omega
  have etop : (l + 18446744073709551616 * h) * 2 ^ f = 18446744073709551616 * (M + m) + s * 2 ^ f := by
    rw [Nat.add_mul, Nat.mul_assoc, ← hM, el, Nat.add_mul]
    have : 2 ^ (64 - f) * m * 2 ^ f = 18446744073709551616 * m := by rw [Nat.mul_right_comm, ← e64]
    omega
  have eN : (low + 2 ^ (64 * t) * (l + 18446744073709551616 * h)) * 2 ^ f = (M + m) * 2 ^ (64 * (t + 1)) + (2 ^ (64 * t) * (s * 2 ^ f) + low * 2 ^ f) := by
    rw [Nat.add_mul, Nat.mul_assoc, etop, Nat.mul_add, dword_pow, ← Nat.mul_assoc, Nat.mul_comm (2 ^ (64 * t)) 18446744073709551616, Nat.mul_comm (M + m)]
    omega
  have hL : 2 ^ (64 * t) * (s * 2 ^ f) + low * 2 ^ f < 2 ^ (64 * (t + 1)) := by
    have h1 : low * 2 ^ f < 2 ^ (64 * t) * 2 ^ f := Nat.mul_lt_mul_of_pos_right hlow hp
    have h2 : 2 ^ (64 * t) * (s * 2 ^ f + 2 ^ f) ≤ 2 ^ (64 * t) * 18446744073709551616 := Nat.mul_le_mul_left _ hs2
    rw [Nat.mul_add] at h2
    rw [dword_pow, Nat.mul_comm 18446744073709551616]
    omega
  have r1 := roundN_mark (M := low + 2 ^ (64 * t) * (l + 18446744073709551616 * h)) (d := f) (low := 0) (E := e) st hp (by
    have : 1 * 18446744073709551616 ≤ 2 ^ (64 * t) * (l + 18446744073709551616 * h) := by
      refine Nat.mul_le_mul hq ?_
      have : 1 ≤ h := by
        rcases Nat.eq_zero_or_pos h with h' | h'
        · rw [h', Nat.zero_mul] at hM; omega
        · exact h'
      omega
    omega)
  rw [Nat.add_zero] at r1
  have r2 := roundN_mark (M := M + m) (d := 64 * (t + 1)) (low := 2 ^ (64 * t) * (s * 2 ^ f) + low * 2 ^ f) (E := e + (t + 1 : Nat) * 64 - f) st hL (by omega)
  rw [← eN] at r2
  have ee : e + (t + 1 : Nat) * 64 - f - ((64 * (t + 1) : Nat) : Int) = e - f := by omega
  rw [ee] at r2
  have hz : (st || decide ((0 : Nat) ≠ 0)) = st := by simp
  rw [hz] at r1
  rw [← r1, r2, hm, elost]
  have fin : decide (2 ^ (64 * t) * (s * 2 ^ f) + low * 2 ^ f ≠ 0) = decide (low ≠ 0 ∨ s * 2 ^ f ≠ 0) := by
    rw [Bool.eq_iff_iff, decide_eq_true_iff, decide_eq_true_iff]
    have a1 : low * 2 ^ f ≠ 0 ↔ low ≠ 0 := by
      rw [Nat.mul_ne_zero_iff]
      exact ⟨fun h => h.1, fun h => ⟨h, by omega⟩⟩
    have a2 : 2 ^ (64 * t) * (s * 2 ^ f) ≠ 0 ↔ s * 2 ^ f ≠ 0 := by
      rw [Nat.mul_ne_zero_iff]
      exact ⟨fun h => h.2, fun h => ⟨by omega, h⟩⟩
    generalize 2 ^ (64 * t) * (s * 2 ^ f) = A at *
    generalize low * 2 ^ f = B at *
    generalize s * 2 ^ f = C at *
    omega
  rw [fin]

end Go.Proofs.YtcabanghegddhaaGreatDoor

namespace Go.Proofs.YtcabanghegddhaaGreatDoor

/-- a guess of a figure of a quotient, with 32 bits a figure: what is divided has the figures of u and then t -/
structure Guess (u y1 y0 t q r : Nat) : Prop where
  eq : q * y1 + r = u
  top : u * 4294967296 + t < (q + 1) * (y1 * 4294967296 + y0)

theorem guess_mul (q y1 y0 : Nat) : q * (y1 * 4294967296 + y0) = q * y1 * 4294967296 + q * y0 := by rw [Nat.mul_add, Nat.mul_assoc]

theorem guess_start {u y1 y0 t : Nat} (hu : u < y1 * 4294967296 + y0) (h1 : 2147483648 ≤ y1) (h0 : y0 < 4294967296) (ht : t < 4294967296) : Guess u y1 y0 t (u / y1) (u % y1) ∧ u / y1 ≤ 4294967297 ∧ u % y1 < y1 := by
  have e := Nat.div_add_mod u y1
  have hm : u % y1 < y1 := Nat.mod_lt _ (by omega)
  rw [Nat.mul_comm] at e
  refine ⟨⟨e, ?_⟩, ?_, hm⟩
  · rw [guess_mul, Nat.add_mul (u / y1) 1 y1]
    generalize u / y1 * y1 = p at *
    have : (p + 1 * y1) * 4294967296 = p * 4294967296 + y1 * 4294967296 := by omega
    rw [this]
    omega
  · rcases Nat.lt_or_ge 4294967297 (u / y1) with h | h
    · have h2 : 4294967298 * y1 ≤ u / y1 * y1 := Nat.mul_le_mul_right _ h
      omega
    · exact h

theorem guess_down {u y1 y0 t q r : Nat} (h : Guess u y1 y0 t q r) (hu : u < y1 * 4294967296 + y0) (ht : t < 4294967296) (hc : 4294967296 ≤ q ∨ 4294967296 * r + t < q * y0) : 1 ≤ q ∧ Guess u y1 y0 t (q - 1) (r + y1) := by
  have h1 : 1 ≤ q := by
    rcases hc with hc | hc
    · omega
    · rcases Nat.eq_zero_or_pos q with h' | h'
      · subst h'; omega
      · exact h'
  obtain ⟨p, rfl⟩ : ∃ p, q = p + 1 := ⟨q - 1, by omega⟩
  refine ⟨h1, ⟨?_, ?_⟩⟩
  · have := h.eq
    rw [Nat.add_mul] at this
    rw [Nat.add_sub_cancel]
    omega
  · rw [Nat.add_sub_cancel]
    rcases hc with hc | hc
    · have h2 : 4294967296 * (y1 * 4294967296 + y0) ≤ (p + 1) * (y1 * 4294967296 + y0) := Nat.mul_le_mul_right _ hc
      omega
    · have := h.eq
      rw [guess_mul]
      omega

theorem guess_right {u y1 y0 t q : Nat} (hy : 0 < y1 * 4294967296 + y0) (h1 : q * (y1 * 4294967296 + y0) ≤ u * 4294967296 + t) (h2 : u * 4294967296 + t < (q + 1) * (y1 * 4294967296 + y0)) : (u * 4294967296 + t) / (y1 * 4294967296 + y0) = q := by
  apply Nat.le_antisymm
  · exact Nat.lt_succ_iff.mp ((Nat.div_lt_iff_lt_mul hy).mpr h2)
  · exact (Nat.le_div_iff_mul_le hy).mpr h1

theorem guess_end {u y1 y0 t q r : Nat} (h : Guess u y1 y0 t q r) (h1 : 2147483648 ≤ y1) (hc : q * y0 ≤ 4294967296 * r + t) : (u * 4294967296 + t) / (y1 * 4294967296 + y0) = q := by
  refine guess_right (by omega) ?_ h.top
  have := h.eq
  rw [guess_mul]
  omega

theorem guess_break {u y1 y0 t q r : Nat} (h : Guess u y1 y0 t q r) (h1 : 2147483648 ≤ y1) (h0 : y0 < 4294967296) (hq : q ≤ 4294967296) (hr : 4294967296 ≤ r) : (u * 4294967296 + t) / (y1 * 4294967296 + y0) = q := by
  refine guess_end h h1 ?_
  have : q * y0 ≤ 4294967296 * y0 := Nat.mul_le_mul_right _ hq
  omega

/-- two figures -/
theorem two_figures {u y t s q1 q0 : Nat} (hy : 0 < y) (hq1 : (u * 4294967296 + t) / y = q1) (hq0 : ((u * 4294967296 + t - q1 * y) * 4294967296 + s) / y = q0) : (u * 18446744073709551616 + t * 4294967296 + s) / y = q1 * 4294967296 + q0 := by
  have a1 : q1 * y ≤ u * 4294967296 + t := by rw [← hq1]; exact Nat.div_mul_le_self _ _
  obtain ⟨d, hd⟩ : ∃ d, u * 4294967296 + t - q1 * y = d := ⟨_, rfl⟩
  rw [hd] at hq0
  have e : u * 18446744073709551616 + t * 4294967296 + s = y * (q1 * 4294967296) + (d * 4294967296 + s) := by
    have : y * (q1 * 4294967296) = q1 * y * 4294967296 := by rw [← Nat.mul_assoc, Nat.mul_comm y]
    rw [this]
    omega
  rw [e, Nat.mul_add_div hy, hq0]

end Go.Proofs.YtcabanghegddhaaGreatDoor

namespace Go.Proofs.YtcabanghegddhaaGreatDoor

theorem roundN_nil (e : Int) (st : Bool) : roundN 0 e st = 0 := by simp [roundN]

theorem rne_ge (m k : Nat) (st : Bool) : m / 2 ^ k ≤ rne m k st := by unfold rne; split <;> omega
theorem rne_le (m k : Nat) (st : Bool) : rne m k st ≤ m / 2 ^ k + 1 := by unfold rne; split <;> omega

theorem roundN_inf64 {M : Nat} {E : Int} (st : Bool) (h1 : 9223372036854775808 ≤ M) (h2 : M < 18446744073709551616) (hE : 961 ≤ E) :
    roundN M E st = 9218868437227405312 := by
  rw [roundN_at (k := 11) st (by omega) (by omega) (by simpa using h2) (.inr (by simpa using h1))]
  have h : M / 2 ^ 11 ≤ rne M 11 st := rne_ge M 11 st
  have : (2 : Nat) ^ 11 = 2048 := rfl
  rw [this] at h
  simp only [Int.cast_ofNat_Int] at *
  omega

theorem roundN_mid64 {M d : Nat} {E : Int} (st : Bool) (h1 : 9223372036854775808 ≤ M) (h2 : M < 18446744073709551616) (hd1 : 11 ≤ d) (h0 : -1074 ≤ E + d) (hE : E + d = -1074 ∨ d = 11) (h4 : E + d ≤ 971) :
    roundN M E st = (E + d + 1074).toNat * 4503599627370496 + rne M d st := by
  have hp : (2 : Nat) ^ 64 ≤ 2 ^ (53 + d) := Nat.pow_le_pow_right (by decide) (by omega)
  have hq : (2 : Nat) ^ 11 ≤ 2 ^ d := Nat.pow_le_pow_right (by decide) hd1
  have h64 : (2 : Nat) ^ 64 = 18446744073709551616 := rfl
  have h11 : (2 : Nat) ^ 11 = 2048 := rfl
  rw [h64] at hp
  rw [h11] at hq
  rw [roundN_at (k := d) st (by omega) h0 (by omega) (by rcases hE with h | h; exact .inl h; exact .inr (by subst h; simpa using h1))]
  have hr := rne_le M d st
  have hm : M / 2 ^ d ≤ M / 2048 := Nat.div_le_div_left hq (by decide)
  omega

/-- what is dropped, brought to the top of 64 bits -/
theorem drop_top {M d : Nat} (hd : d ≤ 64) : M * 2 ^ (64 - d) % 18446744073709551616 = M % 2 ^ d * 2 ^ (64 - d) := by
  have e : (18446744073709551616 : Nat) = 2 ^ d * 2 ^ (64 - d) := by rw [← Nat.pow_add, Nat.add_sub_of_le hd]
  rw [e, Nat.mul_mod_mul_right]
theorem drop_gt {r d : Nat} (hd : d ≤ 64) : 9223372036854775808 < r * 2 ^ (64 - d) ↔ 2 ^ d < 2 * r := by
  have e : 2 * 9223372036854775808 = 2 ^ d * 2 ^ (64 - d) := by rw [← Nat.pow_add, Nat.add_sub_of_le hd]
  have hp : 0 < 2 ^ (64 - d) := Nat.two_pow_pos _
  have h : 2 ^ d * 2 ^ (64 - d) < 2 * r * 2 ^ (64 - d) ↔ 2 ^ d < 2 * r := Nat.mul_lt_mul_right hp
  rw [← h, ← e, Nat.mul_assoc]
  omega
theorem drop_eq {r d : Nat} (hd : d ≤ 64) : r * 2 ^ (64 - d) = 9223372036854775808 ↔ 2 * r = 2 ^ d := by
  have e : 2 * 9223372036854775808 = 2 ^ d * 2 ^ (64 - d) := by rw [← Nat.pow_add, Nat.add_sub_of_le hd]
  have hp : 0 < 2 ^ (64 - d) := Nat.two_pow_pos _
  have h : 2 * r * 2 ^ (64 - d) = 2 ^ d * 2 ^ (64 - d) ↔ 2 * r = 2 ^ d := Nat.mul_right_cancel_iff hp
  rw [← h, ← e, Nat.mul_assoc]
  omega

/-- one more where what is dropped is more than a half, or is one half and there is more, or the last place is odd -/
theorem rne_drop {M d S : Nat} (st : Bool) (hd : d ≤ 64) (hS : S % 2 = M / 2 ^ d % 2) :
    rne M d st = M / 2 ^ d + (if 9223372036854775808 < M * 2 ^ (64 - d) % 18446744073709551616 ∨ (M * 2 ^ (64 - d) % 18446744073709551616 = 9223372036854775808 ∧ (st = true ∨ S % 2 = 1)) then 1 else 0) := by
  rw [drop_top hd, hS]
  simp only [drop_gt hd, drop_eq hd]
  unfold rne
  split <;> rfl

/-- a whole number that is brought to 64 bits -/
theorem len_top {m l : Nat} (h1 : 2 ^ (l - 1) ≤ m) (h2 : m < 2 ^ l) (hl : 1 ≤ l) (hl2 : l ≤ 64) : 9223372036854775808 ≤ m * 2 ^ (64 - l) ∧ m * 2 ^ (64 - l) < 18446744073709551616 := by
  have e1 : 2 ^ (l - 1) * 2 ^ (64 - l) = 9223372036854775808 := by rw [← Nat.pow_add, (by omega : l - 1 + (64 - l) = 63)]
  have e2 : 2 ^ l * 2 ^ (64 - l) = 18446744073709551616 := by rw [← Nat.pow_add, (by omega : l + (64 - l) = 64)]
  rw [← e1, ← e2]
  exact ⟨Nat.mul_le_mul_right _ h1, Nat.mul_lt_mul_of_pos_right h2 (Nat.two_pow_pos _)⟩

/-- kinds, by the bits without the sign -/
theorem kind_nan {x : Nat} (h : 9218868437227405312 < x % 9223372036854775808) : kindN x = 1 := by
  unfold kindN expBits fracBits
  rw [if_pos (by omega), if_neg (by omega)]
theorem kind_inf {x : Nat} (h : x % 9223372036854775808 = 9218868437227405312) : kindN x = 2 := by
  unfold kindN expBits fracBits
  rw [if_pos (by omega), if_pos (by omega)]
theorem kind_zero {x : Nat} (h : x % 9223372036854775808 = 0) : kindN x = 3 := by
  unfold kindN expBits fracBits
  rw [if_neg (by omega), if_pos (by omega)]
theorem kind_fin {x : Nat} (h : x % 9223372036854775808 < 9218868437227405312) (h0 : x % 9223372036854775808 ≠ 0) : kindN x = 4 := by
  unfold kindN expBits fracBits
  rw [if_neg (by omega), if_neg (by omega)]

end Go.Proofs.YtcabanghegddhaaGreatDoor

namespace Go.Proofs.YtcabanghegddhaaGreatDoor

/-- a whole number with a sign -/
def sgnM (b : Bool) (m : Nat) : Int := if b = true then -(m : Int) else (m : Int)

/-- the nearest number to a whole number times 2^e; 0 of 0 -/
def roundZ (S : Int) (e : Int) : Nat := if S = 0 then 0 else signN (decide (S < 0)) (roundN S.natAbs e false)

/-- the exact sum of two numbers, in steps of the lesser exponent -/
def sumZ (b1 : Bool) (m1 : Nat) (e1 : Int) (b2 : Bool) (m2 : Nat) (e2 : Int) : Int := sgnM b1 m1 * 2 ^ (e1 - min e1 e2).toNat + sgnM b2 m2 * 2 ^ (e2 - min e1 e2).toNat

/-- the bits of the sum -/
def addN (a b : Nat) : Nat :=
  if kindN a = 1 ∨ kindN b = 1 then 9221120237041090560
  else if kindN a = 2 then (if kindN b = 2 ∧ belowN a ≠ belowN b then 9221120237041090560 else a)
  else if kindN b = 2 then b
  else if kindN a = 3 ∧ kindN b = 3 then (if belowN a = true ∧ belowN b = true then a else 0)
  else if kindN a = 3 then b
  else if kindN b = 3 then a
  else roundZ (sumZ (belowN a) (mantN a) (expN a) (belowN b) (mantN b) (expN b)) (min (expN a) (expN b))

theorem sumZ_comm (b1 : Bool) (m1 : Nat) (e1 : Int) (b2 : Bool) (m2 : Nat) (e2 : Int) : sumZ b1 m1 e1 b2 m2 e2 = sumZ b2 m2 e2 b1 m1 e1 := by
  unfold sumZ
  rw [Int.min_comm e1 e2, Int.add_comm]

/-- the greater exponent brought down by j places, the lesser one's number parted d places above its end -/
theorem sumZ_cut {b1 b2 : Bool} {pm qm j d : Nat} {pe qe : Int} (h : pe = qe + ((j + d : Nat) : Int)) :
    min pe qe = qe ∧ sumZ b1 pm pe b2 qm qe = sgnM b1 (pm * 2 ^ j * 2 ^ d) + sgnM b2 (qm / 2 ^ d * 2 ^ d + qm % 2 ^ d) := by
  have hmin : min pe qe = qe := by omega
  refine ⟨hmin, ?_⟩
  unfold sumZ
  rw [hmin, show (pe - qe).toNat = j + d by omega, show (qe - qe).toNat = 0 by omega]
  have e1 : qm / 2 ^ d * 2 ^ d + qm % 2 ^ d = qm := by rw [Nat.mul_comm]; exact Nat.div_add_mod _ _
  rw [e1, Int.pow_add]
  unfold sgnM
  cases b1 <;> cases b2 <;> simp [Int.mul_assoc, Int.neg_mul]

theorem signN_false (x : Nat) : signN false x = x := rfl

theorem roundZ_pos {S e : Int} (n : Nat) (h : S = n) (h0 : n ≠ 0) : roundZ S e = roundN n e false := by
  subst h
  unfold roundZ signN
  rw [if_neg (by omega), if_neg (by simp)]
  simp
theorem roundZ_neg {S e : Int} (n : Nat) (h : S = -(n : Int)) (h0 : n ≠ 0) : roundZ S e = signN true (roundN n e false) := by
  subst h
  unfold roundZ
  rw [if_neg (by omega), decide_eq_true (by omega), Int.natAbs_neg, Int.natAbs_natCast]

/-- both have the same sign -/
theorem round_same {b : Bool} {m n d low : Nat} {e : Int} (hl : low < 2 ^ d) (hm : m ≠ 0) (hbig : low = 0 ∨ 72057594037927936 ≤ m) :
    roundZ (sgnM b (m * 2 ^ d) + sgnM b (n * 2 ^ d + low)) (e - d) = signN b (roundN (m + n) e (decide (low ≠ 0) && decide (72057594037927936 ≤ m + n))) := by
  have hd := Nat.two_pow_pos d
  have hpos : m * 2 ^ d ≠ 0 := Nat.mul_ne_zero hm (by omega)
  have hs : (m + n) * 2 ^ d + low = m * 2 ^ d + (n * 2 ^ d + low) := by rw [Nat.add_mul]; omega
  have hst : (decide (low ≠ 0) && decide (72057594037927936 ≤ m + n)) = decide (low ≠ 0) := by
    rcases hbig with h | h
    · simp [h]
    · simp; omega
  have key : roundN (m * 2 ^ d + (n * 2 ^ d + low)) (e - d) false = roundN (m + n) e (decide (low ≠ 0)) := by
    rw [← hs]; exact roundN_sticky hl (by omega)
  rw [hst, ← key]
  cases b
  · rw [roundZ_pos (m * 2 ^ d + (n * 2 ^ d + low)) (by simp [sgnM]) (by omega)]
    exact (signN_false _).symm
  · rw [roundZ_neg (m * 2 ^ d + (n * 2 ^ d + low)) (by simp only [sgnM, if_true]; omega) (by omega)]

/-- other signs, nothing lost, the first one greater -/
theorem round_more {b : Bool} {m n d : Nat} {e : Int} (h : n < m) : roundZ (sgnM b (m * 2 ^ d) + sgnM (!b) (n * 2 ^ d)) (e - d) = signN b (roundN (m - n) e false) := by
  have hd := Nat.two_pow_pos d
  have hs : (m - n) * 2 ^ d = m * 2 ^ d - n * 2 ^ d := by rw [Nat.sub_mul]
  have hlt : n * 2 ^ d < m * 2 ^ d := Nat.mul_lt_mul_of_pos_right h hd
  have key : roundN ((m - n) * 2 ^ d) (e - d) false = roundN (m - n) e false := roundN_times d (m - n) e false
  rw [← key, hs]
  cases b
  · rw [roundZ_pos (m * 2 ^ d - n * 2 ^ d) (by simp only [sgnM, Bool.not_false, if_true, Bool.false_eq_true, if_false]; omega) (by omega)]
    exact (signN_false _).symm
  · rw [roundZ_neg (m * 2 ^ d - n * 2 ^ d) (by simp only [sgnM, Bool.not_true, if_true, Bool.false_eq_true, if_false]; omega) (by omega)]

/-- other signs, something lost below -/
theorem round_lost {b : Bool} {m n d low : Nat} {e : Int} (hl : low < 2 ^ d) (h0 : low ≠ 0) (h : n < m) (hbig : 72057594037927936 ≤ m - n - 1) :
    roundZ (sgnM b (m * 2 ^ d) + sgnM (!b) (n * 2 ^ d + low)) (e - d) = signN b (roundN (m - n - 1) e (true && decide (72057594037927936 ≤ m - n - 1))) := by
  have hd := Nat.two_pow_pos d
  have hs : (m - n - 1) * 2 ^ d + (2 ^ d - low) = m * 2 ^ d - (n * 2 ^ d + low) := by
    have h1 : (m - n - 1 + 1 + n) * 2 ^ d = m * 2 ^ d := by rw [show m - n - 1 + 1 + n = m by omega]
    rw [Nat.add_mul, Nat.add_mul] at h1
    omega
  have hlt : n * 2 ^ d + low < m * 2 ^ d := by
    have : (n + 1) * 2 ^ d ≤ m * 2 ^ d := Nat.mul_le_mul_right _ h
    rw [Nat.add_mul] at this
    omega
  have key : roundN ((m - n - 1) * 2 ^ d + (2 ^ d - low)) (e - d) false = roundN (m - n - 1) e (decide (2 ^ d - low ≠ 0)) := roundN_sticky (by omega) (by omega)
  have hst : (true && decide (72057594037927936 ≤ m - n - 1)) = decide (2 ^ d - low ≠ 0) := by
    rw [decide_eq_true hbig, decide_eq_true (by omega)]; rfl
  rw [hst, ← key, hs]
  cases b
  · rw [roundZ_pos (m * 2 ^ d - (n * 2 ^ d + low)) (by simp only [sgnM, Bool.not_false, if_true, Bool.false_eq_true, if_false]; omega) (by omega)]
    exact (signN_false _).symm
  · rw [roundZ_neg (m * 2 ^ d - (n * 2 ^ d + low)) (by simp only [sgnM, Bool.not_true, if_true, Bool.false_eq_true, if_false]; omega) (by omega)]

/-- other signs, the same number -/
theorem round_none (b : Bool) (m : Nat) (e : Int) : roundZ (sgnM b m + sgnM (!b) m) e = 0 := by
  unfold roundZ
  rw [if_pos]
  cases b <;> simp [sgnM] <;> omega

end Go.Proofs.YtcabanghegddhaaGreatDoor

namespace Go.Proofs.YtcabanghegddhaaGreatDoor

theorem five_two (d : Nat) : 5 ^ (27 * d) ≤ 2 ^ (63 * d) := by
  rw [Nat.pow_mul, Nat.pow_mul]
  exact Nat.pow_le_pow_left (by decide) _

theorem near_great {N L k m : Nat} (hN : 2 ^ (64 * (L - 1)) ≤ N) (hL : 1 ≤ L) (hk : (m + 26) / 27 + 2 ≤ k + L) : 18446744073709551616 ≤ 2 ^ (64 * k) * N / 5 ^ m := by
  obtain ⟨d, hd⟩ : ∃ d, (m + 26) / 27 = d := ⟨_, rfl⟩
  rw [hd] at hk
  have h1 : 2 ^ (64 * (d + 1)) ≤ 2 ^ (64 * k) * N := by
    refine Nat.le_trans ?_ (Nat.mul_le_mul_left _ hN)
    rw [← Nat.pow_add]
    exact Nat.pow_le_pow_right (by decide) (by omega)
  have h2 : 5 ^ m ≤ 2 ^ (63 * d) := Nat.le_trans (Nat.pow_le_pow_right (by decide) (by omega)) (five_two d)
  rw [Nat.le_div_iff_mul_le (Nat.pos_of_ne_zero (by simp))]
  refine Nat.le_trans (Nat.mul_le_mul_left _ h2) (Nat.le_trans ?_ h1)
  rw [(by omega : 64 * (d + 1) = 64 + 63 * d + d), Nat.pow_add, Nat.pow_add]
  exact Nat.le_mul_of_pos_right _ (Nat.two_pow_pos d)

theorem near_words {D L k : Nat} {e : Int} (he1 : -500 ≤ e) (he2 : e ≤ 500) (hN : 2 ^ (64 * (L - 1)) ≤ D * 5 ^ e.toNat) (hL : 1 ≤ L) (hk : ((-e).toNat + 26) / 27 + 2 ≤ k + L) (hk2 : k ≤ 25) :
    roundN (2 ^ (64 * k) * (D * 5 ^ e.toNat) / 5 ^ (-e).toNat) (e - (k : Int) * 64) (decide (2 ^ (64 * k) * (D * 5 ^ e.toNat) % 5 ^ (-e).toNat ≠ 0)) = quoG (D * 10 ^ e.toNat) (10 ^ (-e).toNat) := by
  have hg := near_great hN hL hk
  rcases Int.lt_or_le e 0 with h | h
  · obtain ⟨m, rfl⟩ : ∃ m : Nat, e = -(m : Int) := ⟨(-e).toNat, by omega⟩
    have z : (-(m : Int)).toNat = 0 := by omega
    simp only [z, Int.neg_neg, Int.toNat_natCast, Nat.pow_zero, Nat.mul_one] at hg ⊢
    have hp := Nat.two_pow_pos m
    have e1 : D * 2 ^ (64 * k + m) = 2 ^ (64 * k) * D * 2 ^ m := by rw [Nat.pow_add, Nat.mul_comm (2 ^ (64 * k)) D, Nat.mul_assoc]
    have e2 : (10 : Nat) ^ m = 5 ^ m * 2 ^ m := by rw [← Nat.mul_pow]
    have q := quoG_up (a := D) (b := 10 ^ m) (k := 64 * k + m) (by simp) (by rw [e1, e2, Nat.mul_div_mul_right _ _ hp]; omega) (by rw [upK_eq]; omega)
    rw [e1, e2, Nat.mul_div_mul_right _ _ hp, Nat.mul_mod_mul_right, mark_scale (by omega)] at q
    rw [e2, ← q]
    congr 1
    omega
  · obtain ⟨m, rfl⟩ : ∃ m : Nat, e = (m : Int) := ⟨e.toNat, by omega⟩
    have z : (-(m : Int)).toNat = 0 := by omega
    simp only [z, Int.toNat_natCast, Nat.pow_zero, Nat.div_one, Nat.mod_one] at hg ⊢
    have e1 : D * 10 ^ m * 2 ^ (64 * k) = 2 ^ (64 * k) * (D * 5 ^ m) * 2 ^ m := by
      rw [(by decide : (10 : Nat) = 5 * 2), Nat.mul_pow, ← Nat.mul_assoc, Nat.mul_comm (2 ^ (64 * k)), Nat.mul_right_comm]
    have q := quoG_up (a := D * 10 ^ m) (b := 1) (k := 64 * k) (by decide) (by
      rw [e1, Nat.div_one]
      have := Nat.le_mul_of_pos_right (2 ^ (64 * k) * (D * 5 ^ m)) (Nat.two_pow_pos m)
      omega) (by rw [upK_eq]; omega)
    rw [e1, Nat.div_one, Nat.mod_one] at q
    have r := roundN_mark (M := 2 ^ (64 * k) * (D * 5 ^ m)) (d := m) (low := 0) (E := (m : Int) - (k : Int) * 64) false (Nat.two_pow_pos m) (by omega)
    rw [Nat.add_zero, (by omega : (m : Int) - (k : Int) * 64 - (m : Int) = -((64 * k : Nat) : Int))] at r
    have f1 : decide ((0 : Nat) ≠ 0) = false := by simp
    rw [f1] at q ⊢
    rw [f1, Bool.or_false] at r
    rw [← q, ← r]

end Go.Proofs.YtcabanghegddhaaGreatDoor
