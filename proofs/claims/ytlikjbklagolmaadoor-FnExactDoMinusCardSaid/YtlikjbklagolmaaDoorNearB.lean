/-
  Sums of numbers in bits: where a sum is just, and that what is lost of a sum is told just by the difference of its parts; over no program.
-/
import Derived.Test.YtlikjbklagolmaaDoorValB
import Derived.Test.YtlikjbklagolmaaDoorAdd
import Derived.Test.YtlikjbklagolmaaDoorIRoundB
namespace Go.Proofs.YtlikjbklagolmaaDoor

theorem rne_near (M k : Nat) : 2 * (rne M k false * 2 ^ k) ≤ 2 * M + 2 ^ k ∧ 2 * M ≤ 2 * (rne M k false * 2 ^ k) + 2 ^ k := by
  have hd := Nat.div_add_mod M (2 ^ k)
  have hm := Nat.mod_lt M (Nat.two_pow_pos k)
  unfold rne
  rw [Nat.mul_comm] at hd
  split
  · next h =>
    rw [Nat.add_mul, Nat.one_mul]
    have : 2 ^ k ≤ 2 * (M % 2 ^ k) := by omega
    omega
  · next h =>
    have : 2 * (M % 2 ^ k) ≤ 2 ^ k := by
      simp only [Bool.false_eq_true, false_or] at h
      omega
    omega
theorem rne_just {M k : Nat} (h : M % 2 ^ k = 0) : rne M k false * 2 ^ k = M := by
  have hd := Nat.div_add_mod M (2 ^ k)
  have hp := Nat.two_pow_pos k
  unfold rne
  rw [h] at hd ⊢
  rw [if_neg (by omega), Nat.mul_comm]
  omega

/-- not too great for a finite number -/
def Small (M : Nat) : Prop := ∃ c, c ≤ 2097 ∧ M < 2 ^ c

theorem round_val {M : Nat} (h0 : M ≠ 0) (h : Small M) : ∃ k : Nat, M < 2 ^ (53 + k) ∧ (k = 0 ∨ 2 ^ (52 + k) ≤ M) ∧ k ≤ 2044 ∧
    roundN M (-1074) false = rne M k false + k * 4503599627370496 ∧ rne M k false ≤ 9007199254740992 ∧ (k = 0 ∨ 4503599627370496 ≤ rne M k false) ∧ rne M k false ≠ 0 := by
  have l1 := Nat.log2_self_le h0
  have l2 := Nat.lt_log2_self (n := M)
  obtain ⟨c, hc, hM⟩ := h
  have l3 : M.log2 < 2097 := Nat.lt_of_lt_of_le ((Nat.log2_lt h0).2 hM) hc
  clear hM hc
  clear c
  obtain ⟨L, hL⟩ : ∃ L, M.log2 = L := ⟨_, rfl⟩
  rw [hL] at l1 l2 l3
  clear hL
  refine ⟨L - 52, ?_⟩
  have a1 : M < 2 ^ (53 + (L - 52)) := Nat.lt_of_lt_of_le l2 (Nat.pow_le_pow_right (by decide) (by omega))
  have a2 : L - 52 = 0 ∨ 2 ^ (52 + (L - 52)) ≤ M := by
    by_cases h : L ≤ 52
    · exact .inl (by omega)
    · exact .inr (by rw [(by omega : 52 + (L - 52) = L)]; exact l1)
  obtain ⟨k, hk⟩ : ∃ k, L - 52 = k := ⟨_, rfl⟩
  rw [hk] at a1 a2 ⊢
  have hk2 : k ≤ 2044 := by omega
  have hq : M / 2 ^ k < 9007199254740992 := by
    rw [Nat.pow_add] at a1
    exact Nat.div_lt_of_lt_mul (by rw [Nat.mul_comm]; exact a1)
  have hr1 := rne_le M k false
  have hr2 := rne_ge M k false
  have hr3 : k = 0 ∨ 4503599627370496 ≤ rne M k false := by
    rcases a2 with h | h
    · exact .inl h
    · refine .inr (Nat.le_trans ?_ hr2)
      rw [Nat.le_div_iff_mul_le (Nat.two_pow_pos k)]
      rw [Nat.pow_add] at h
      exact h
  have hr4 : rne M k false ≠ 0 := by
    rcases hr3 with h | h
    · subst h; rw [rne_zero]; exact h0
    · omega
  refine ⟨a1, a2, hk2, ?_, by omega, hr3, hr4⟩
  have hat := roundN_at (e := -1074) false h0 (by omega) a1 (by rcases a2 with h | h; exact .inl (by omega); exact .inr h)
  have e1 : (-1074 + (k : Int) + 1074).toNat = k := by omega
  rw [e1] at hat
  rw [hat]
  omega

/-- the nearest number to a whole number of least steps -/
def roundV (S : Int) : Nat := roundZ S (-1074)

/-- a number that stands for something -/
structure Fine (x : Nat) : Prop where
  lt : x < 18446744073709551616
  kind : kindN x = 3 ∨ kindN x = 4

theorem sign_kind {b : Bool} {u : Nat} (h0 : u ≠ 0) (h : u < 9218868437227405312) : kindN (signN b u) = 4 := by
  have hs : (signN b u) % 9223372036854775808 = u := by
    unfold signN
    cases b
    · simp; omega
    · simp; omega
  exact kind_fin (by omega) (by omega)
theorem sign_val (b : Bool) {u : Nat} (h : u < 9223372036854775808) : valN (signN b u) = sgnM b (sizeU u) := by
  unfold valN signN sgnM
  cases b
  · simp only [Bool.false_eq_true, if_false]
    rw [if_neg (by omega)]
  · simp only [if_true]
    rw [if_pos (by omega), Nat.add_sub_cancel]
theorem sign_exp (b : Bool) (r k : Nat) (h : k = 0 ∨ 4503599627370496 ≤ r) (h2 : r ≤ 9007199254740992) (h3 : k ≤ 2044) (h4 : kindN (signN b (r + k * 4503599627370496)) = 4) : (k : Int) ≤ expN (signN b (r + k * 4503599627370496)) + 1074 := by
  have hb := (sign_bits b (r + k * 4503599627370496)).1
  unfold expN
  rw [if_pos h4, hb]
  unfold expBits
  split <;> omega

theorem round_sgn {S : Int} (h0 : S ≠ 0) (e : Int) : roundZ S e = signN (decide (S < 0)) (roundN S.natAbs e false) := by unfold roundZ; rw [if_neg h0]

/-- what the nearest number stands for: how near it is, and when it is just -/
theorem roundV_near {S : Int} (h0 : S ≠ 0) (hb : Small S.natAbs) : ∃ (k : Nat) (r : Int), S.natAbs < 2 ^ (53 + k) ∧ (k = 0 ∨ 2 ^ (52 + k) ≤ S.natAbs) ∧
    Fine (roundV S) ∧ kindN (roundV S) = 4 ∧ valN (roundV S) = r * 2 ^ k ∧ 2 * (r * 2 ^ k - S).natAbs ≤ 2 ^ k ∧ (S.natAbs % 2 ^ k = 0 → r * 2 ^ k = S) ∧ (k : Int) ≤ expN (roundV S) + 1074 := by
  obtain ⟨k, a1, a2, a3, a4, a5, a6, a7⟩ := round_val (M := S.natAbs) (by omega) hb
  obtain ⟨ρ, hρ⟩ : ∃ ρ, rne S.natAbs k false = ρ := ⟨_, rfl⟩
  have hn := rne_near S.natAbs k
  have hj := @rne_just S.natAbs k
  rw [hρ] at a4 a5 a6 a7 hn hj
  have hu : ρ + k * 4503599627370496 < 9218868437227405312 := by omega
  have hx : roundV S = signN (decide (S < 0)) (ρ + k * 4503599627370496) := by unfold roundV; rw [round_sgn h0, a4]
  have hk4 : kindN (roundV S) = 4 := by rw [hx]; exact sign_kind (by omega) hu
  have hlt : roundV S < 18446744073709551616 := by rw [hx]; exact sign_small _ (by omega)
  have hval : valN (roundV S) = sgnM (decide (S < 0)) ρ * 2 ^ k := by
    rw [hx, sign_val _ (by omega), sizeU_make a6 a5]
    unfold sgnM
    split
    · simp [Int.neg_mul]
    · simp
  refine ⟨k, sgnM (decide (S < 0)) ρ, a1, a2, ⟨hlt, .inr hk4⟩, hk4, hval, ?_, ?_, by rw [hx] at hk4 ⊢; exact sign_exp _ _ _ a6 a5 a3 hk4⟩
  · have e1 : sgnM (decide (S < 0)) ρ * 2 ^ k = if S < 0 then -((ρ * 2 ^ k : Nat) : Int) else ((ρ * 2 ^ k : Nat) : Int) := by
      unfold sgnM
      by_cases hs : S < 0
      · simp [hs, Int.neg_mul]
      · simp [hs]
    rw [e1]
    obtain ⟨P, hP⟩ : ∃ P, ρ * 2 ^ k = P := ⟨_, rfl⟩
    obtain ⟨T, hT⟩ : ∃ T, 2 ^ k = T := ⟨_, rfl⟩
    rw [hP, hT] at hn ⊢
    clear hb hj a1 a2 a4 hx hval hT hP e1
    split <;> omega
  · intro hd
    have e1 : sgnM (decide (S < 0)) ρ * 2 ^ k = if S < 0 then -((ρ * 2 ^ k : Nat) : Int) else ((ρ * 2 ^ k : Nat) : Int) := by
      unfold sgnM
      by_cases hs : S < 0
      · simp [hs, Int.neg_mul]
      · simp [hs]
    rw [e1, hj hd]
    split <;> omega

/-- a whole number of 53 bits, and places behind it -/
def Rep (S : Int) : Prop := ∃ (n : Int) (j : Nat), S = n * 2 ^ j ∧ n.natAbs ≤ 9007199254740992

theorem rep_just {S : Int} (h0 : S ≠ 0) (hb : Small S.natAbs) (hr : Rep S) : Fine (roundV S) ∧ kindN (roundV S) = 4 ∧ valN (roundV S) = S := by
  obtain ⟨k, r, a1, a2, a3, a4, a5, _, a7, _⟩ := roundV_near h0 hb
  refine ⟨a3, a4, ?_⟩
  rw [a5]
  apply a7
  obtain ⟨n, j, hn, hn2⟩ := hr
  have hN : S.natAbs = n.natAbs * 2 ^ j := by rw [hn, Int.natAbs_mul, Int.natAbs_pow]; rfl
  rw [hN] at a2 ⊢
  by_cases hkj : k ≤ j
  · rw [(by omega : j = k + (j - k)), Nat.pow_add, ← Nat.mul_assoc, Nat.mul_right_comm]
    exact Nat.mul_mod_left _ _
  · have h2 : 2 ^ (52 + k) ≤ n.natAbs * 2 ^ j := by omega
    obtain ⟨d, rfl⟩ : ∃ d, k = j + d + 1 := ⟨k - j - 1, by omega⟩
    have e1 : 2 ^ (52 + (j + d + 1)) = 9007199254740992 * 2 ^ d * 2 ^ j := by
      rw [(by omega : 52 + (j + d + 1) = 53 + d + j), Nat.pow_add, Nat.pow_add]
    rw [e1] at h2
    have h3 : 9007199254740992 * 2 ^ d ≤ n.natAbs := Nat.le_of_mul_le_mul_right h2 (Nat.two_pow_pos j)
    have hd : d = 0 := by
      by_cases hd : d = 0
      · exact hd
      · have : 2 ^ 1 ≤ 2 ^ d := Nat.pow_le_pow_right (by decide) (by omega)
        omega
    subst hd
    have h4 : n.natAbs = 9007199254740992 := by omega
    rw [h4, Nat.add_zero, Nat.pow_succ]
    have e2 : 9007199254740992 * 2 ^ j = 2 ^ j * 2 * 4503599627370496 := by omega
    rw [e2]
    exact Nat.mul_mod_right _ _

theorem roundZ_scale (S : Int) (e : Int) (j : Nat) : roundZ (S * 2 ^ j) (e - j) = roundZ S e := by
  have hp : (0 : Int) < 2 ^ j := Int.pow_pos (by decide)
  by_cases h0 : S = 0
  · subst h0; simp [roundZ]
  · have h1 : S * 2 ^ j ≠ 0 := Int.mul_ne_zero h0 (by omega)
    rw [round_sgn h1, round_sgn h0, Int.natAbs_mul, Int.natAbs_pow]
    have e1 : decide (S * 2 ^ j < 0) = decide (S < 0) := by
      rw [Bool.eq_iff_iff, decide_eq_true_iff, decide_eq_true_iff]
      constructor
      · intro h
        rcases Int.lt_or_le S 0 with hs | hs
        · exact hs
        · have := Int.mul_nonneg hs (Int.le_of_lt hp); omega
      · intro h; exact Int.mul_neg_of_neg_of_pos h hp
    rw [e1]
    congr 1
    exact roundN_times j S.natAbs e false

theorem sgnM_scale (b : Bool) (m : Nat) {e t : Int} (h1 : -1074 ≤ t) (h2 : t ≤ e) : sgnM b m * 2 ^ (e + 1074).toNat = sgnM b m * 2 ^ (e - t).toNat * 2 ^ (t + 1074).toNat := by
  rw [Int.mul_assoc, ← Int.pow_add, (by omega : (e - t).toNat + (t + 1074).toNat = (e + 1074).toNat)]

/-- the sum of two finite numbers is the nearest number to the sum of what they stand for -/
theorem addN_val {a b : Nat} (ha : a < 18446744073709551616) (hb : b < 18446744073709551616) (ka : kindN a = 4) (kb : kindN b = 4) : addN a b = roundV (valN a + valN b) := by
  have e1 : addN a b = roundZ (sumZ (belowN a) (mantN a) (expN a) (belowN b) (mantN b) (expN b)) (min (expN a) (expN b)) := by unfold addN; simp [ka, kb]
  have l1 := expN_ge a
  have l2 := expN_ge b
  rw [e1, valN_parts ka ha, valN_parts kb hb]
  obtain ⟨t, ht⟩ : ∃ t, min (expN a) (expN b) = t := ⟨_, rfl⟩
  have ht1 : -1074 ≤ t := by omega
  rw [sgnM_scale (belowN a) (mantN a) ht1 (by omega : t ≤ expN a), sgnM_scale (belowN b) (mantN b) ht1 (by omega : t ≤ expN b), ← Int.add_mul]
  unfold roundV sumZ
  rw [ht]
  have e2 : (-1074 : Int) = t - ((t + 1074).toNat : Nat) := by omega
  rw [e2, roundZ_scale]

end Go.Proofs.YtlikjbklagolmaaDoor
