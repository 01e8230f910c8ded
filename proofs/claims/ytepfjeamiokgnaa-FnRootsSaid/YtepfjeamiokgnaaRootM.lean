/-
  How near a root is: the squares of the numbers next to it lie around what it is the root of; over no program.
-/
import Derived.Test.YtepfjeamiokgnaaRootL
namespace Go.Proofs.Ytepfjeamiokgnaa

/-- the square of a finite number, by its size -/
theorem square_size {v : Nat} (hv : v < 9223372036854775808) (kv : kindN v = 4) : mulN v v = roundN (sizeU v * sizeU v) (-2148) false := by
  obtain ⟨s1, _⟩ := size_parts kv (by omega)
  rw [Nat.mod_eq_of_lt hv] at s1
  have l1 := expN_ge v
  obtain ⟨i, hi⟩ : ∃ i, (expN v + 1074).toNat = i := ⟨_, rfl⟩
  rw [hi] at s1
  have hb : (belowN v != belowN v) = false := by cases belowN v <;> rfl
  have e1 : mulN v v = roundN (mantN v * mantN v) (expN v + expN v) false := by
    unfold mulN mulP
    rw [kv, if_neg (by omega), if_neg (by omega), if_neg (by omega), hb]
    exact signN_false _
  have e2 := roundN_times (i + i) (mantN v * mantN v) (expN v + expN v) false
  rw [(by omega : expN v + expN v - ((i + i : Nat) : Int) = -2148)] at e2
  rw [e1, s1, Nat.mul_mul_mul_comm, ← Nat.pow_add, e2]

theorem sq_le {a b : Nat} (h : a ≤ b) : a * a ≤ b * b := Nat.mul_le_mul h h

/-- the sizes of the numbers next to one -/
theorem size_before {y T : Nat} (h1 : 4503599627370496 ≤ y) (h2 : y ≤ 9007199254740992) : sizeU (y + (T + 1) * 4503599627370496 - 1) ≤ (2 * y - 1) * 2 ^ T := by
  by_cases h : y = 4503599627370496
  · subst h
    have e1 : 4503599627370496 + (T + 1) * 4503599627370496 - 1 = 9007199254740991 + T * 4503599627370496 := by omega
    rw [e1, sizeU_make (.inr (by omega)) (by omega)]
    exact Nat.mul_le_mul_right _ (by omega)
  · have e1 : y + (T + 1) * 4503599627370496 - 1 = (y - 1) + (T + 1) * 4503599627370496 := by omega
    rw [e1, sizeU_make (.inr (by omega)) (by omega), Nat.pow_succ, Nat.mul_comm (2 ^ T), ← Nat.mul_assoc]
    exact Nat.mul_le_mul_right _ (by omega)
theorem size_behind {y T : Nat} (h1 : 4503599627370496 ≤ y) (h2 : y ≤ 9007199254740992) : (2 * y + 1) * 2 ^ T ≤ sizeU (y + (T + 1) * 4503599627370496 + 1) := by
  by_cases h : y = 9007199254740992
  · subst h
    have e1 : 9007199254740992 + (T + 1) * 4503599627370496 + 1 = 4503599627370497 + (T + 2) * 4503599627370496 := by omega
    rw [e1, sizeU_make (.inr (by omega)) (by omega), Nat.pow_succ, Nat.pow_succ, Nat.mul_assoc, Nat.mul_comm (2 ^ T), ← Nat.mul_assoc]
    exact Nat.mul_le_mul_right _ (by omega)
  · have e1 : y + (T + 1) * 4503599627370496 + 1 = (y + 1) + (T + 1) * 4503599627370496 := by omega
    rw [e1, sizeU_make (.inr (by omega)) (by omega), Nat.pow_succ, Nat.mul_comm (2 ^ T), ← Nat.mul_assoc]
    exact Nat.mul_le_mul_right _ (by omega)

/-- the root by its places -/
theorem root_places {M : Nat} {h : Int} (h0 : M ≠ 0) (hM : M < 18014398509481984) (h1 : -501 ≤ h) (h2 : h ≤ 400) :
    ∃ y T k : Nat, rootN M h = y + (T + 1) * 4503599627370496 ∧ 4503599627370496 ≤ y ∧ y ≤ 9007199254740992 ∧ T ≤ 2000 ∧ (T : Int) = h + 973 + k ∧ (2 * y - 1) * 2 ^ k * ((2 * y - 1) * 2 ^ k) ≤ 4 * (M * 4 ^ 100) ∧ 4 * (M * 4 ^ 100) ≤ (2 * y + 1) * 2 ^ k * ((2 * y + 1) * 2 ^ k) := by
  obtain ⟨a1, a2⟩ := isq_of (M * 4 ^ 100)
  obtain ⟨N, hN⟩ : ∃ N, M * 4 ^ 100 = N := ⟨_, rfl⟩
  have hNlo : 4 ^ 100 ≤ N := by rw [← hN]; exact Nat.le_mul_of_pos_left _ (by omega)
  have hNhi : N < 4 ^ 127 := by
    have c1 : M * 4 ^ 100 < 4 ^ 27 * 4 ^ 100 := Nat.mul_lt_mul_of_pos_right (by omega) (Nat.pow_pos (by decide))
    rw [← Nat.pow_add] at c1
    rw [← hN]; exact c1
  unfold rootN
  rw [hN] at a1 a2 ⊢
  obtain ⟨ρ, hρ⟩ : ∃ ρ, isq N = ρ := ⟨_, rfl⟩
  have hlo : 2 ^ 100 ≤ ρ := by
    rw [← hρ]
    refine isq_ge _ ?_
    rw [← Nat.pow_add, (by decide : 100 + 100 = 2 * 100), ← four_pow]; exact hNlo
  rw [hρ] at a1 a2 ⊢
  have hhi : ρ < 2 ^ 127 := by
    rcases Nat.lt_or_ge ρ (2 ^ 127) with h' | h'
    · exact h'
    · have c1 := sq_le h'
      rw [← Nat.pow_add, (by decide : 127 + 127 = 2 * 127), ← four_pow] at c1
      omega
  obtain ⟨l, hl⟩ : ∃ l, ρ.log2 = l := ⟨_, rfl⟩
  have hρ0 : ρ ≠ 0 := by have := Nat.two_pow_pos 100; omega
  have l1 : 2 ^ l ≤ ρ := by rw [← hl]; exact Nat.log2_self_le hρ0
  have l2 : ρ < 2 ^ (l + 1) := by rw [← hl]; exact Nat.lt_log2_self
  have hl1 : 100 ≤ l := by
    rcases Nat.lt_or_ge l 100 with h' | h'
    · have : (2 : Nat) ^ (l + 1) ≤ 2 ^ 100 := Nat.pow_le_pow_right (by decide) h'
      omega
    · exact h'
  have hl2 : l ≤ 126 := by
    rcases Nat.lt_or_ge 126 l with h' | h'
    · have : (2 : Nat) ^ 127 ≤ 2 ^ l := Nat.pow_le_pow_right (by decide) h'
      omega
    · exact h'
  obtain ⟨k, hk⟩ : ∃ k, l = 52 + k := ⟨l - 52, by omega⟩
  have l2' : ρ < 2 ^ (53 + k) := by rw [(by omega : 53 + k = l + 1)]; exact l2
  have l1' : 2 ^ (52 + k) ≤ ρ := by rw [← hk]; exact l1
  clear hlo hhi hNlo hNhi hN hρ l1 l2 hl
  obtain ⟨st, hst⟩ : ∃ st, decide (ρ * ρ ≠ N) = st := ⟨_, rfl⟩
  rw [hst, roundN_at (k := k) st hρ0 (by omega) l2' (.inr l1')]
  obtain ⟨n1, n2⟩ := rne_half (ρ := ρ) (k := k) (st := st) (by omega)
  have y1 : 4503599627370496 ≤ rne ρ k st := by
    have c1 := rne_ge ρ k st
    have c2 : 2 ^ 52 ≤ ρ / 2 ^ k := by rw [Nat.le_div_iff_mul_le (Nat.two_pow_pos k), ← Nat.pow_add]; exact l1'
    omega
  have y2 : rne ρ k st ≤ 9007199254740992 := by
    have c1 := rne_le ρ k st
    have c2 : ρ / 2 ^ k < 2 ^ 53 := by rw [Nat.div_lt_iff_lt_mul (Nat.two_pow_pos k), ← Nat.pow_add]; exact l2'
    omega
  obtain ⟨T, hT⟩ : ∃ T : Nat, (T : Int) = h + 973 + k := ⟨(h + 973 + k).toNat, by omega⟩
  have hT2 : (h - 100 + k + 1074).toNat = T + 1 := by omega
  rw [hT2]
  clear l1' l2'
  generalize rne ρ k st = y at *
  have hT3 : T ≤ 2000 := by omega
  have c4 : ∀ z : Nat, 2 * z * (2 * z) = 4 * (z * z) := fun z => Nat.mul_mul_mul_comm _ _ _ _
  refine ⟨y, T, k, ?_, y1, y2, hT3, hT, ?_, ?_⟩
  · have : (T + 1) * 4503599627370496 ≤ 2001 * 4503599627370496 := Nat.mul_le_mul_right _ (by omega)
    rw [Nat.min_eq_left (by omega)]
  · have c1 := sq_le n1
    rw [c4] at c1
    omega
  · cases st
    · have he : ρ * ρ = N := by simpa using hst
      simp only [Bool.false_eq_true, if_false] at n2
      have c1 := sq_le n2
      rw [c4] at c1
      omega
    · simp only [if_true] at n2
      have c1 := sq_le n2
      rw [c4] at c1
      omega

/-- the numbers next to a root: their squares lie around the number -/
theorem root_near {x : Nat} (hx : x < 9223372036854775808) (kx : kindN x = 4) (h1 : -1000 ≤ expN x) (h2 : expN x ≤ 800) :
    1 ≤ sqrtN x ∧ sqrtN x + 1 < 9223372036854775808 ∧ mulN (sqrtN x - 1) (sqrtN x - 1) ≤ x ∧ x ≤ mulN (sqrtN x + 1) (sqrtN x + 1) ∧ mulN (sqrtN x + 1) (sqrtN x + 1) ≤ 9218868437227405312 := by
  have hb : belowN x = false := by rw [belowN_of (by omega)]; simp; omega
  have hm := mantN_lt x
  have hm0 := mantN_pos kx
  have hX : ∃ (M : Nat) (h : Int), sqrtN x = rootN M h ∧ M ≠ 0 ∧ M < 18014398509481984 ∧ -501 ≤ h ∧ h ≤ 400 ∧ roundN M (2 * h) false = x := by
    have hp := round_parts false kx (by omega)
    rw [hb, signN_false] at hp
    unfold sqrtN sqrtP
    rw [kx, hb, if_neg (by simp), if_neg (by simp)]
    by_cases he : expN x % 2 = 0
    · rw [if_pos he]
      exact ⟨mantN x, expN x / 2, rfl, hm0, by omega, by omega, by omega, by rw [(by omega : 2 * (expN x / 2) = expN x)]; exact hp⟩
    · rw [if_neg he]
      refine ⟨mantN x * 2, (expN x - 1) / 2, rfl, by omega, by omega, by omega, by omega, ?_⟩
      have e1 := roundN_times 1 (mantN x) (expN x) false
      rw [Nat.pow_one] at e1
      rw [(by omega : 2 * ((expN x - 1) / 2) = expN x - ((1 : Nat) : Int)), e1]; exact hp
  obtain ⟨M, h, hR, hM0, hM, g1, g2, hxM⟩ := hX
  obtain ⟨y, T, k, p1, p2, p3, p4, p5, p6, p7⟩ := root_places hM0 hM g1 g2
  rw [hR, p1]
  obtain ⟨i, hi⟩ : ∃ i : Nat, (i : Int) = h + 973 := ⟨(h + 973).toNat, by omega⟩
  have hTi : T = k + i := by omega
  have hT4 : (T + 1) * 4503599627370496 ≤ 2001 * 4503599627370496 := Nat.mul_le_mul_right _ (by omega)
  -- the number, in steps of 2^-2148
  have e1 := roundN_times (2 * (i + 101)) M (2 * h) false
  rw [(by omega : 2 * h - ((2 * (i + 101) : Nat) : Int) = -2148), hxM] at e1
  have c1 : ∀ z : Nat, z * 2 ^ T * (z * 2 ^ T) = z * 2 ^ k * (z * 2 ^ k) * 4 ^ i := fun z => by
    have e : z * 2 ^ T = z * 2 ^ k * 2 ^ i := by rw [hTi, Nat.pow_add, Nat.mul_assoc]
    rw [e, Nat.mul_mul_mul_comm (z * 2 ^ k), ← Nat.pow_add, ← Nat.two_mul, ← four_pow]
  have c2 : 4 * (M * 4 ^ 100) * 4 ^ i = M * 2 ^ (2 * (i + 101)) := by
    have q : (4 : Nat) ^ 101 = 4 * 4 ^ 100 := by decide
    rw [← four_pow, Nat.pow_add, q, Nat.mul_comm (4 ^ i), Nat.mul_left_comm, Nat.mul_assoc]
  have lowv : y + (T + 1) * 4503599627370496 - 1 < 9218868437227405312 := by omega
  have k1 : kindN (y + (T + 1) * 4503599627370496 - 1) = 4 := kind_fin (by omega) (by omega)
  have k2 : kindN (y + (T + 1) * 4503599627370496 + 1) = 4 := kind_fin (by omega) (by omega)
  refine ⟨by omega, by omega, ?_, ?_, ?_⟩
  · rw [square_size (by omega) k1]
    have s1 := sq_le (size_before (T := T) p2 p3)
    rw [c1] at s1
    have s2 := Nat.mul_le_mul_right (4 ^ i) p6
    rw [c2] at s2
    have s3 := roundN_mono (-2148) (Nat.le_trans s1 s2)
    rw [e1] at s3
    exact s3
  · rw [square_size (by omega) k2]
    have s1 := sq_le (size_behind (T := T) p2 p3)
    rw [c1] at s1
    have s2 := Nat.mul_le_mul_right (4 ^ i) p7
    rw [c2] at s2
    have s3 := roundN_mono (-2148) (Nat.le_trans s2 s1)
    rw [e1] at s3
    exact s3
  · rw [square_size (by omega) k2]
    exact roundN_le _ _ _

end Go.Proofs.Ytepfjeamiokgnaa
