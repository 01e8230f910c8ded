/-
  Rests: no more than what they are of, less than what is taken, taken again the same; over no program.
-/
import Derived.Test.YtepfjeamiokgnaaMulL
namespace Go.Proofs.Ytepfjeamiokgnaa

/-- the size of a finite number by its parts -/
theorem size_parts {x : Nat} (h : kindN x = 4) (hx : x < 18446744073709551616) : sizeU (x % 9223372036854775808) = mantN x * 2 ^ (expN x + 1074).toNat ∧ x % 9223372036854775808 < 9218868437227405312 := by
  obtain ⟨b1, b2⟩ := bits_parts h hx
  have hm := mantN_lt x
  have hn := mantN_norm h
  have he := expN_ge x
  have hmod : x % 9223372036854775808 = mantN x + (expN x + 1074).toNat * 4503599627370496 := by
    obtain ⟨u, hu⟩ : ∃ u, mantN x + (expN x + 1074).toNat * 4503599627370496 = u := ⟨_, rfl⟩
    rw [hu] at b1 b2 ⊢
    unfold signN at b1
    split at b1 <;> omega
  rw [hmod]
  exact ⟨sizeU_make (by omega) (by omega), b2⟩

/-- a whole number below 2^53 times a power of 2 is just -/
theorem exact_size {X : Nat} {t : Int} (hX : X < 9007199254740992) (h1 : -1074 ≤ t) (h2 : t ≤ 971) : sizeU (roundN X t false) = X * 2 ^ (t + 1074).toNat ∧ roundN X t false < 9218868437227405312 := by
  by_cases h0 : X = 0
  · subst h0
    rw [roundN_nil, sizeU_zero, Nat.zero_mul]
    exact ⟨rfl, by omega⟩
  · obtain ⟨l, hl⟩ : ∃ l, X.log2 = l := ⟨_, rfl⟩
    have a1 : 2 ^ l ≤ X := by rw [← hl]; exact Nat.log2_self_le h0
    have a2 : X < 2 ^ (l + 1) := by rw [← hl]; exact Nat.lt_log2_self
    have hl52 : l ≤ 52 := by
      rcases Nat.lt_or_ge 52 l with h' | h'
      · have : (2 : Nat) ^ 53 ≤ 2 ^ l := Nat.pow_le_pow_right (by decide) h'
        omega
      · exact h'
    obtain ⟨i, hi⟩ : ∃ i : Nat, (i : Int) = min (52 - (l : Int)) (t + 1074) := ⟨(min (52 - (l : Int)) (t + 1074)).toNat, by omega⟩
    have hM : X * 2 ^ i < 9007199254740992 := by
      have c1 : X * 2 ^ i < 2 ^ (l + 1) * 2 ^ i := Nat.mul_lt_mul_of_pos_right a2 (Nat.two_pow_pos i)
      have c2 : (2 : Nat) ^ (l + 1) * 2 ^ i ≤ 2 ^ 53 := by rw [← Nat.pow_add]; exact Nat.pow_le_pow_right (by decide) (by omega)
      omega
    have hM0 : X * 2 ^ i ≠ 0 := Nat.mul_ne_zero h0 (by have := Nat.two_pow_pos i; omega)
    have hn : t - i = -1074 ∨ 4503599627370496 ≤ X * 2 ^ i := by
      by_cases hc : (i : Int) = t + 1074
      · left; omega
      · right
        have c1 : 2 ^ l * 2 ^ i ≤ X * 2 ^ i := Nat.mul_le_mul_right _ a1
        rw [← Nat.pow_add, (by omega : l + i = 52)] at c1
        omega
    have e1 := roundN_times i X t false
    rw [← e1, roundN_at (k := 0) false hM0 (by omega) (by omega) (by rcases hn with h | h; exact .inl (by omega); exact .inr (by omega)), rne_zero]
    have e2 : (t - i + ((0 : Nat) : Int) + 1074).toNat = (t - i + 1074).toNat := by omega
    rw [e2]
    have e3 : (t - i + 1074).toNat ≤ 2045 := by omega
    have e4 : (t - i + 1074).toNat * 4503599627370496 ≤ 2045 * 4503599627370496 := Nat.mul_le_mul_right _ e3
    rw [Nat.min_eq_left (by omega)]
    refine ⟨?_, by omega⟩
    rw [sizeU_make (by rcases hn with h | h; exact .inl (by omega); exact .inr h) (by omega), Nat.mul_assoc, ← Nat.pow_add, (by omega : i + (t - i + 1074).toNat = (t + 1074).toNat)]

theorem size_lt {u v : Nat} (h : sizeU u < sizeU v) : u < v := by
  rcases Nat.lt_trichotomy u v with h' | h' | h'
  · exact h'
  · subst h'; omega
  · have := sizeU_lt h'; omega
theorem size_le {u v : Nat} (h : sizeU u ≤ sizeU v) : u ≤ v := by
  rcases Nat.lt_or_ge v u with h' | h'
  · have := sizeU_lt h'; omega
  · exact h'

theorem up_pow {m : Nat} {e t : Int} (h1 : -1074 ≤ t) (h2 : t ≤ e) : m * 2 ^ (e + 1074).toNat = m * 2 ^ (e - t).toNat * 2 ^ (t + 1074).toNat := by
  rw [Nat.mul_assoc, ← Nat.pow_add, (by omega : (e - t).toNat + (t + 1074).toNat = (e + 1074).toNat)]

/-- what a rest of finite numbers is: no more than the first, less than the second -/
theorem rest_size {a b : Nat} (ha : a < 18446744073709551616) (hb : b < 18446744073709551616) (ka : kindN a = 4) (kb : kindN b = 4) :
    restN (mantN a) (expN a) (mantN b) (expN b) ≤ a % 9223372036854775808 ∧ restN (mantN a) (expN a) (mantN b) (expN b) < b % 9223372036854775808 := by
  have m1 := mantN_lt a
  have m2 := mantN_lt b
  have p2 := mantN_pos kb
  have l1 := expN_ge a
  have l2 := expN_ge b
  have l3 := expN_le a
  have l4 := expN_le b
  obtain ⟨s1, _⟩ := size_parts ka ha
  obtain ⟨s2, _⟩ := size_parts kb hb
  obtain ⟨t, ht⟩ : ∃ t, min (expN a) (expN b) = t := ⟨_, rfl⟩
  unfold restN
  rw [ht]
  rw [up_pow (t := t) (by omega) (by omega)] at s1 s2
  have hA : (expN a - t).toNat = 0 ∨ (expN b - t).toNat = 0 := by omega
  generalize (expN a - t).toNat = i at *
  generalize (expN b - t).toNat = j at *
  have hBpos : 0 < mantN b * 2 ^ j := Nat.mul_pos (by omega) (Nat.two_pow_pos j)
  have hlt : mantN a * 2 ^ i % (mantN b * 2 ^ j) < mantN b * 2 ^ j := Nat.mod_lt _ hBpos
  have hle : mantN a * 2 ^ i % (mantN b * 2 ^ j) ≤ mantN a * 2 ^ i := Nat.mod_le _ _
  have hX : mantN a * 2 ^ i % (mantN b * 2 ^ j) < 9007199254740992 := by
    rcases hA with h | h
    · subst h; rw [Nat.pow_zero, Nat.mul_one] at hle ⊢; omega
    · subst h; rw [Nat.pow_zero, Nat.mul_one] at hlt ⊢; omega
  obtain ⟨x1, x2⟩ := exact_size (t := t) hX (by omega) (by omega)
  refine ⟨size_le ?_, size_lt ?_⟩
  · rw [x1, s1]; exact Nat.mul_le_mul_right _ hle
  · rw [x1, s2]; exact Nat.mul_lt_mul_of_pos_right hlt (Nat.two_pow_pos _)

/-- a number below what is taken is its own rest -/
theorem rest_own {a b : Nat} (ha : a < 18446744073709551616) (hb : b < 18446744073709551616) (ka : kindN a = 4) (kb : kindN b = 4) (h : a % 9223372036854775808 < b % 9223372036854775808) : remN a b = a := by
  have l1 := expN_ge a
  have l2 := expN_ge b
  obtain ⟨s1, _⟩ := size_parts ka ha
  obtain ⟨s2, _⟩ := size_parts kb hb
  have hs := sizeU_lt h
  rw [s1, s2] at hs
  obtain ⟨t, ht⟩ : ∃ t, min (expN a) (expN b) = t := ⟨_, rfl⟩
  rw [up_pow (t := t) (by omega) (by omega), up_pow (m := mantN b) (t := t) (by omega) (by omega)] at hs
  have hlt : mantN a * 2 ^ (expN a - t).toNat < mantN b * 2 ^ (expN b - t).toNat := Nat.lt_of_mul_lt_mul_right hs
  unfold remN remP
  rw [ka, kb, if_neg (by omega), if_neg (by omega)]
  unfold restN
  rw [ht, Nat.mod_eq_of_lt hlt]
  have e1 := roundN_times (expN a - t).toNat (mantN a) (expN a) false
  rw [(by omega : expN a - ((expN a - t).toNat : Nat) = t)] at e1
  rw [e1]
  exact round_parts false ka ha

/-- all that is said of rests -/
theorem rest_all {a b : Nat} (ha : a < 18446744073709551616) (hb : b < 18446744073709551616) (hr : kindN (remN a b) ≠ 1) :
    remN a b % 9223372036854775808 ≤ a % 9223372036854775808 ∧ (remN a b % 9223372036854775808 < b % 9223372036854775808 ∨ kindN b = 2) ∧ remN a b / 9223372036854775808 = a / 9223372036854775808 ∧ remN (remN a b) b = remN a b := by
  have hn : kindN 9221120237041090560 = 1 := by decide
  by_cases h1 : kindN a = 1 ∨ kindN b = 1 ∨ kindN a = 2 ∨ kindN b = 3
  · have : remN a b = 9221120237041090560 := by unfold remN remP; rw [if_pos h1]
    rw [this] at hr
    exact absurd hn hr
  · have ca := kindN_cases a
    have cb := kindN_cases b
    by_cases h2 : kindN a = 3 ∨ kindN b = 2
    · have e : remN a b = a := by unfold remN remP; rw [if_neg h1, if_pos h2]
      rw [e, e]
      refine ⟨Nat.le_refl _, ?_, rfl, rfl⟩
      by_cases h3 : kindN b = 2
      · exact .inr h3
      · left
        have ka : kindN a = 3 := by omega
        have kb : kindN b = 4 := by omega
        have hz := zero_bits ha ka
        have hz2 : a % 9223372036854775808 = 0 := by
          rw [hz]; unfold signN; split <;> omega
        rw [hz2]
        rcases Nat.eq_zero_or_pos (b % 9223372036854775808) with h' | h'
        · have := kind_zero h'; omega
        · exact h'
    · have ka : kindN a = 4 := by omega
      have kb : kindN b = 4 := by omega
      have e : remN a b = signN (belowN a) (restN (mantN a) (expN a) (mantN b) (expN b)) := by unfold remN remP; rw [if_neg h1, if_neg h2]
      obtain ⟨r1, r2⟩ := rest_size ha hb ka kb
      obtain ⟨_, r3⟩ := size_parts ka ha
      rw [e]
      generalize restN (mantN a) (expN a) (mantN b) (expN b) = u at *
      have hbel : belowN a = decide (9223372036854775808 ≤ a) := belowN_of (by omega)
      have hmod : signN (belowN a) u % 9223372036854775808 = u := by unfold signN; split <;> omega
      have hdiv : signN (belowN a) u / 9223372036854775808 = a / 9223372036854775808 := by
        rw [hbel]
        unfold signN
        by_cases hc : 9223372036854775808 ≤ a
        · simp only [hc, decide_true, if_true]; omega
        · simp only [hc, decide_false, Bool.false_eq_true, if_false]; omega
      refine ⟨by rw [hmod]; exact r1, .inl (by rw [hmod]; exact r2), hdiv, ?_⟩
      have hlt : signN (belowN a) u < 18446744073709551616 := sign_lt _ (by omega)
      by_cases hu : u = 0
      · have kz : kindN (signN (belowN a) u) = 3 := kind_zero (by rw [hmod]; exact hu)
        unfold remN remP
        rw [kz, kb, if_neg (by omega), if_pos (.inl rfl)]
      · have kf : kindN (signN (belowN a) u) = 4 := kind_fin (by rw [hmod]; omega) (by rw [hmod]; exact hu)
        exact rest_own hlt hb kf kb (by rw [hmod]; exact r2)

end Go.Proofs.Ytepfjeamiokgnaa
