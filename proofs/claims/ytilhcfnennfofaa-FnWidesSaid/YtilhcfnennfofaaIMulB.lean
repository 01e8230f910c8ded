/-
  Products, quotients and roots of numbers whose whole number fills the word, as the program itself finds them; over no program.
-/
import Derived.Test.YtilhcfnennfofaaSqrtB
import Derived.Test.YtilhcfnennfofaaIAddB
import Derived.Test.YtilhcfnennfofaaRemF
namespace Go.Proofs.Ytilhcfnennfofaa

/-- the same number, its whole number brought up to fill the word -/
structure UpOf (m : Nat) (e : Int) (M : Nat) (E : Int) : Prop where
  lo : 9223372036854775808 ≤ M
  hi : M < 18446744073709551616
  even : M % 2 = 0
  up : ∃ u : Nat, u ≤ 63 ∧ M = m * 2 ^ u ∧ E = e - u

theorem upOf_of {m u M : Nat} {e : Int} (hm : m < 9007199254740992) (hu : u ≤ 63) (h : M = m * 2 ^ u) (h1 : 9223372036854775808 ≤ M) (h2 : M < 18446744073709551616) : UpOf m e M (e - u) := by
  have h3 : u ≠ 0 := by
    intro h0
    subst h0
    rw [Nat.pow_zero, Nat.mul_one] at h
    omega
  obtain ⟨v, rfl⟩ : ∃ v, u = v + 1 := ⟨u - 1, by omega⟩
  refine ⟨h1, h2, ?_, v + 1, hu, h, rfl⟩
  rw [h, Nat.pow_succ, ← Nat.mul_assoc]
  omega

theorem up_product {m n M N : Nat} {e f E F : Int} (h1 : UpOf m e M E) (h2 : UpOf n f N F) :
    roundN (M * N / 18446744073709551616) (E + F + 64) (decide (M * N % 18446744073709551616 ≠ 0) && decide (72057594037927936 ≤ M * N / 18446744073709551616)) = roundN (m * n) (e + f) false := by
  obtain ⟨u, hu, hM, hE⟩ := h1.up
  obtain ⟨v, hv, hN, hF⟩ := h2.up
  have hp : 9223372036854775808 * 9223372036854775808 ≤ M * N := Nat.mul_le_mul h1.lo h2.lo
  have e64 : (18446744073709551616 : Nat) = 2 ^ 64 := by decide
  have a := round_off (P := M * N) (k := 64) (n := M * N / 18446744073709551616) (l := decide (M * N % 18446744073709551616 ≠ 0)) (E := E + F) (by rw [e64]) (by rw [e64]) (.inr (by omega))
  rw [(by omega : E + F + ((64 : Nat) : Int) = E + F + 64)] at a
  rw [a]
  have b := roundN_times (u + v) (m * n) (e + f) false
  rw [← b]
  have c1 : M * N = m * n * 2 ^ (u + v) := by rw [hM, hN, Nat.pow_add, Nat.mul_mul_mul_comm]
  rw [c1, (by omega : E + F = e + f - ((u + v : Nat) : Int))]

theorem up_quotient {m n M N Q : Nat} {e f E F : Int} (hm : m ≠ 0) (hn : n ≠ 0) (hn2 : n < 9007199254740992) (h1 : UpOf m e M E) (h2 : UpOf n f N F) (hQ : M * 9223372036854775808 / N = Q) :
    Q < 18446744073709551616 ∧ roundN Q (E - F - 63) (decide (Q * N ≠ M * 9223372036854775808) && decide (72057594037927936 ≤ Q)) = quoN m n (e - f) := by
  obtain ⟨u, hu, hM, hE⟩ := h1.up
  obtain ⟨v, hv, hN, hF⟩ := h2.up
  have hN0 : N ≠ 0 := by have := h2.lo; omega
  have e63 : (9223372036854775808 : Nat) = 2 ^ 63 := by decide
  have q1 : 4611686018427387904 ≤ Q := by
    rw [← hQ, Nat.le_div_iff_mul_le (by omega)]
    have := h1.lo
    have := h2.hi
    omega
  have q2 : Q < 18446744073709551616 := by
    rw [← hQ, Nat.div_lt_iff_lt_mul (by omega)]
    have := h1.hi
    have := h2.lo
    omega
  have hmod : decide (Q * N ≠ M * 9223372036854775808) = decide (M * 9223372036854775808 % N ≠ 0) := by
    have hd := Nat.div_add_mod (M * 9223372036854775808) N
    rw [hQ, Nat.mul_comm] at hd
    rw [Bool.eq_iff_iff, decide_eq_true_iff, decide_eq_true_iff]
    omega
  refine ⟨q2, ?_⟩
  rw [hmod, decide_eq_true (by omega : 72057594037927936 ≤ Q), Bool.and_true]
  have a := quo_at (m := M) (n := N) (k := 63) (e := E - F) hN0 (by rw [← e63, hQ]; omega) (by omega)
  rw [← e63, hQ, (by omega : E - F - ((63 : Nat) : Int) = E - F - 63)] at a
  rw [a, hM, hN, (by omega : E - F = e - f - u + v)]
  exact quo_scale hm hn hn2 hv hu

theorem up_root {m M r : Nat} {e E : Int} (hm : m ≠ 0) (hM1 : 4611686018427387904 ≤ M) (hE : E % 2 = 0) (hu : ∃ u : Nat, u ≤ 63 ∧ M = m * 2 ^ u ∧ E = e - u) (hr : isq (M * 18446744073709551616) = r) :
    roundN r ((E - 64) / 2) (decide (r * r ≠ M * 18446744073709551616) && decide (72057594037927936 ≤ r)) = if e % 2 = 0 then rootN m (e / 2) else rootN (m * 2) ((e - 1) / 2) := by
  obtain ⟨u, hu, hM, hE2⟩ := hu
  have e64 : (18446744073709551616 : Nat) = 4 ^ 32 := by decide
  have r1 : 9223372036854775808 ≤ r := by
    rw [← hr]
    refine isq_ge _ ?_
    omega
  rw [decide_eq_true (by omega : 72057594037927936 ≤ r), Bool.and_true]
  have a := root_at (m := M) (k := 32) (e := E / 2) (by rw [← e64, hr]; omega) (by omega)
  rw [← e64, hr, (by omega : E / 2 - ((32 : Nat) : Int) = (E - 64) / 2)] at a
  rw [a]
  exact root_even hm hu (.inl ⟨hM, hE2, by omega⟩)

/-- a root, bit by bit: r is below it, and r and 2^k beyond it -/
structure RootBits (H r k : Nat) : Prop where
  low : r * r < H
  top : H < (r + 2 ^ k) * (r + 2 ^ k)
  word : r + 2 ^ k ≤ 18446744073709551616

theorem rootBits_start {H : Nat} (h0 : H ≠ 0) (h : H < 18446744073709551616 * 18446744073709551616) : RootBits H 0 64 := by
  have e64 : (2 : Nat) ^ 64 = 18446744073709551616 := by decide
  refine ⟨by omega, ?_, ?_⟩
  · rw [Nat.zero_add, e64]; exact h
  · rw [Nat.zero_add, e64]; exact Nat.le_refl _
theorem rootBits_more {H r k : Nat} (h : RootBits H r (k + 1)) (hs : (r + 2 ^ k) * (r + 2 ^ k) < H) : RootBits H (r + 2 ^ k) k := by
  have e1 : r + 2 ^ k + 2 ^ k = r + 2 ^ (k + 1) := by rw [Nat.pow_succ]; omega
  exact ⟨hs, by rw [e1]; exact h.top, by rw [e1]; exact h.word⟩
theorem rootBits_less {H r k : Nat} (h : RootBits H r (k + 1)) (hs : H < (r + 2 ^ k) * (r + 2 ^ k)) : RootBits H r k := by
  have e1 : 2 ^ (k + 1) = 2 ^ k + 2 ^ k := by rw [Nat.pow_succ]; omega
  have hw := h.word
  have hp := Nat.two_pow_pos k
  rw [e1] at hw
  exact ⟨h.low, hs, by omega⟩
theorem rootBits_end {H r : Nat} (h : RootBits H r 0) : isq H = r ∧ decide (r * r = H) = false := by
  have h1 := h.low
  have h2 := h.top
  rw [Nat.pow_zero] at h2
  exact ⟨isq_unique (by omega) h2, by simp; omega⟩
theorem rootBits_hit {H t : Nat} (h : t * t = H) : isq H = t := by
  refine isq_unique (by omega) ?_
  have : (t + 1) * (t + 1) = t * t + t + t + 1 := by rw [Nat.add_mul, Nat.mul_add]; omega
  omega

/-- what is left of a number that is less than what is taken is itself -/
theorem rest_self {a b : Nat} (ka : kindN a = 4) (kb : kindN b = 4) (h : a % 9223372036854775808 < b % 9223372036854775808) : restN (mantN a) (expN a) (mantN b) (expN b) = roundN (mantN a) (expN a) false := by
  obtain ⟨o1, o2, o3⟩ := raw_order (g := b) (l := a) (by omega)
  have o4 : rawE a = rawE b → rawM a ≠ rawM b := by
    intro hE hM
    have a1 : a % 9223372036854775808 / 4503599627370496 = a / 4503599627370496 % 2048 := by omega
    have a2 : b % 9223372036854775808 / 4503599627370496 = b / 4503599627370496 % 2048 := by omega
    have a3 : a % 9223372036854775808 % 4503599627370496 = a % 4503599627370496 := by omega
    have a4 : b % 9223372036854775808 % 4503599627370496 = b % 4503599627370496 := by omega
    unfold rawM at hM
    unfold rawE at hE
    rw [← a1, ← a2, ← a3, ← a4] at hM
    rw [← a1, ← a2] at hE
    generalize a % 9223372036854775808 = u at *
    generalize b % 9223372036854775808 = v at *
    clear a1 a2 a3 a4 o1 o2 o3
    split at hM <;> split at hM <;> (try split at hE) <;> (try split at hE) <;> omega
  have ml := rawM_lt a
  have gl := rawE_ge a
  rw [(raw_fin ka).1, (raw_fin ka).2, (raw_fin kb).2] at *
  rw [(raw_fin kb).1] at *
  obtain ⟨D, hD⟩ : ∃ D : Nat, expN b = expN a + D := ⟨(expN b - expN a).toNat, by omega⟩
  rw [rest_down hD]
  have hlt : mantN a < mantN b * 2 ^ D := by
    by_cases h0 : D = 0
    · subst h0
      have h5 : expN a = expN b := by omega
      have := o2 h5
      have := o4 h5
      rw [Nat.pow_zero, Nat.mul_one]
      omega
    · have h1 : 2 ^ 1 ≤ 2 ^ D := Nat.pow_le_pow_right (by decide) (by omega)
      have h3 : mantN b * 2 ^ 1 ≤ mantN b * 2 ^ D := Nat.mul_le_mul_left _ h1
      have h4 : expN b ≠ -1074 := by omega
      have h5 : 4503599627370496 ≤ mantN b := by
        rcases o3 with h | h
        · exact absurd h h4
        · exact h
      omega
  rw [Nat.mod_eq_of_lt hlt]

theorem rest_places {m n j p : Nat} : m * 2 ^ j % n * 2 ^ p % n = m * 2 ^ (j + p) % n := by
  rw [Nat.pow_add, ← Nat.mul_assoc, Nat.mul_mod (m * 2 ^ j) (2 ^ p) n, Nat.mul_mod (m * 2 ^ j % n) (2 ^ p) n, Nat.mod_mod]

end Go.Proofs.Ytilhcfnennfofaa
