/-
  Roots: of squares, and how near; the nearest number keeps the order; over no program.
-/
import Derived.Test.YtepfjeamiokgnaaRestL
import Derived.Test.YtepfjeamiokgnaaSqrtB
namespace Go.Proofs.Ytepfjeamiokgnaa

theorem rne_mono {P Q : Nat} (k : Nat) (h : P ≤ Q) : rne P k false ≤ rne Q k false := by
  have hq : P / 2 ^ k ≤ Q / 2 ^ k := Nat.div_le_div_right h
  rcases Nat.lt_or_ge (P / 2 ^ k) (Q / 2 ^ k) with h1 | h1
  · have a := rne_le P k false
    have b := rne_ge Q k false
    omega
  · have he : P / 2 ^ k = Q / 2 ^ k := by omega
    have a := Nat.div_add_mod P (2 ^ k)
    have b := Nat.div_add_mod Q (2 ^ k)
    rw [he] at a
    have hr : P % 2 ^ k ≤ Q % 2 ^ k := by omega
    unfold rne
    rw [he]
    generalize P % 2 ^ k = r at *
    generalize Q % 2 ^ k = t at *
    generalize Q / 2 ^ k = q at *
    generalize 2 ^ k = K at *
    simp only [Bool.false_eq_true, false_or]
    split <;> split <;> omega

theorem min_same {x y z c : Nat} (h : x ≤ y) : min (x + z) c ≤ min (y + z) c := by omega
theorem min_step {x y p q c : Nat} (hx : x ≤ 9007199254740992) (hy : 4503599627370496 ≤ y) (h : p + 1 ≤ q) : min (x + p * 4503599627370496) c ≤ min (y + q * 4503599627370496) c := by omega

/-- the nearest number keeps the order -/
theorem roundN_mono {P Q : Nat} (E : Int) (h : P ≤ Q) : roundN P E false ≤ roundN Q E false := by
  by_cases h0 : P = 0
  · subst h0; rw [roundN_nil]; omega
  have hQ0 : Q ≠ 0 := by omega
  obtain ⟨c, hc⟩ : ∃ c : Nat, 2 ^ c = 4503599627370496 := ⟨52, by decide⟩
  rw [← roundN_times c P E false, ← roundN_times c Q E false]
  have hle : P * 2 ^ c ≤ Q * 2 ^ c := Nat.mul_le_mul_right _ h
  have hpb : 4503599627370496 ≤ P * 2 ^ c := by rw [hc]; omega
  have hqb : 4503599627370496 ≤ Q * 2 ^ c := by rw [hc]; omega
  have hp0 : P * 2 ^ c ≠ 0 := by omega
  have hq0 : Q * 2 ^ c ≠ 0 := by omega
  generalize P * 2 ^ c = A at *
  generalize Q * 2 ^ c = B at *
  generalize E - (c : Int) = F at *
  clear hc
  have place : ∀ M : Nat, 4503599627370496 ≤ M → ∃ l k : Nat, 2 ^ l ≤ M ∧ M < 2 ^ (l + 1) ∧ (k : Int) = max (F + l - 52) (-1074) - F ∧ M < 2 ^ (53 + k) ∧ (F + k = -1074 ∨ 2 ^ (52 + k) ≤ M) := by
    intro M hM
    obtain ⟨l, hl⟩ : ∃ l, M.log2 = l := ⟨_, rfl⟩
    have a1 : 2 ^ l ≤ M := by rw [← hl]; exact Nat.log2_self_le (by omega)
    have a2 : M < 2 ^ (l + 1) := by rw [← hl]; exact Nat.lt_log2_self
    have hl52 : 52 ≤ l := by
      rcases Nat.lt_or_ge l 52 with h' | h'
      · have : (2 : Nat) ^ (l + 1) ≤ 2 ^ 52 := Nat.pow_le_pow_right (by decide) h'
        omega
      · exact h'
    obtain ⟨k, hk⟩ : ∃ k : Nat, (k : Int) = max (F + l - 52) (-1074) - F := ⟨(max (F + l - 52) (-1074) - F).toNat, by omega⟩
    refine ⟨l, k, a1, a2, hk, Nat.lt_of_lt_of_le a2 (Nat.pow_le_pow_right (by decide) (by omega)), ?_⟩
    rcases Int.le_total (-1074) (F + l - 52) with h' | h'
    · right
      rw [(by omega : 52 + k = l)]; exact a1
    · left; omega
  obtain ⟨l1, k1, a1, a2, a3, a4, a5⟩ := place A hpb
  obtain ⟨l2, k2, b1, b2, b3, b4, b5⟩ := place B hqb
  have hll : l1 ≤ l2 := by
    rcases Nat.lt_or_ge l2 l1 with h' | h'
    · have : (2 : Nat) ^ (l2 + 1) ≤ 2 ^ l1 := Nat.pow_le_pow_right (by decide) h'
      omega
    · exact h'
  rw [roundN_at (k := k1) false hp0 (by omega) a4 a5, roundN_at (k := k2) false hq0 (by omega) b4 b5]
  by_cases hk : k1 = k2
  · subst hk
    exact min_same (rne_mono k1 hle)
  · have hk2 : k1 < k2 := by omega
    have hB : 2 ^ (52 + k2) ≤ B := by rcases b5 with h' | h'; omega; exact h'
    have r1 : rne A k1 false ≤ 9007199254740992 := by
      have c1 := rne_le A k1 false
      have c2 : A / 2 ^ k1 < 2 ^ 53 := by
        rw [Nat.div_lt_iff_lt_mul (Nat.two_pow_pos k1), ← Nat.pow_add]; exact a4
      omega
    have r2 : 4503599627370496 ≤ rne B k2 false := by
      have c1 := rne_ge B k2 false
      have c2 : 2 ^ 52 ≤ B / 2 ^ k2 := by
        rw [Nat.le_div_iff_mul_le (Nat.two_pow_pos k2), ← Nat.pow_add]; exact hB
      omega
    have hT : (F + k1 + 1074).toNat + 1 ≤ (F + k2 + 1074).toNat := by omega
    exact min_step r1 r2 hT

/-- the root of a square -/
theorem root_square (n : Nat) : rootN (n * n) 0 = roundN n 0 false := by
  have e1 : n * n * 4 ^ 100 = n * 2 ^ 100 * (n * 2 ^ 100) := by rw [Nat.mul_mul_mul_comm, ← Nat.pow_add]
  have e2 : isq (n * 2 ^ 100 * (n * 2 ^ 100)) = n * 2 ^ 100 := by
    apply isq_unique (Nat.le_refl _)
    exact Nat.mul_lt_mul'' (by omega) (by omega)
  have e3 := roundN_times 100 n 0 false
  unfold rootN
  rw [e1, e2]
  have e4 : decide (n * 2 ^ 100 * (n * 2 ^ 100) ≠ n * 2 ^ 100 * (n * 2 ^ 100)) = false := by simp
  rw [e4]
  exact e3

theorem sqrt_whole {n : Nat} (h : n * n < 9007199254740992) : sqrtN (fromIntN ((n * n : Nat) : Int)) = fromIntN n := by
  by_cases h0 : n = 0
  · subst h0
    have e : fromIntN ((0 * 0 : Nat) : Int) = 0 := fromInt_nil
    rw [e]
    have z1 : kindN 0 = 3 := by decide
    unfold sqrtN sqrtP
    rw [if_pos (.inl z1)]
  · have hnn : n * n ≠ 0 := Nat.mul_ne_zero h0 h0
    obtain ⟨j, hj, k1, k2, k3, k4⟩ := parts_whole (n := ((n * n : Nat) : Int)) (by omega) (by rw [Int.natAbs_natCast]; exact h)
    have k2' : belowN (fromIntN ((n * n : Nat) : Int)) = false := by rw [k2]; simp; omega
    rw [Int.natAbs_natCast] at k3
    have hf : fromIntN (n : Int) = roundN n 0 false := by
      unfold fromIntN
      rw [decide_eq_false (by omega), Int.natAbs_natCast]
      exact signN_false _
    have hr := root_even (m := n * n) (u := j) (M := n * n * 2 ^ j) (e := 0) (E := -(j : Int)) hnn (by omega)
    have hr2 := root_even (m := n * n) (u := j) (M := n * n * 2 ^ j * 2) (e := 0) (E := -(j : Int) - 1) hnn (by omega)
    rw [if_pos (by omega)] at hr hr2
    unfold sqrtN
    rw [k1, k2', k3, k4]
    unfold sqrtP
    rw [if_neg (by simp), if_neg (by simp), hf, ← root_square]
    by_cases hp : -(j : Int) % 2 = 0
    · rw [if_pos hp]
      exact hr (.inl ⟨rfl, by omega, by omega⟩)
    · rw [if_neg hp]
      exact hr2 (.inr ⟨rfl, by omega, by omega⟩)

/-- how near the root is: by its halves -/
theorem rne_half {ρ k : Nat} {st : Bool} (hk : k ≠ 0) : (2 * rne ρ k st - 1) * 2 ^ k ≤ 2 * ρ ∧ (if st = true then 2 * (ρ + 1) ≤ (2 * rne ρ k st + 1) * 2 ^ k else 2 * ρ ≤ (2 * rne ρ k st + 1) * 2 ^ k) := by
  obtain ⟨j, rfl⟩ : ∃ j, k = j + 1 := ⟨k - 1, by omega⟩
  obtain ⟨J, hK, hJ⟩ : ∃ J, 2 ^ (j + 1) = 2 * J ∧ 0 < J := ⟨2 ^ j, by rw [Nat.pow_succ, Nat.mul_comm], Nat.two_pow_pos _⟩
  generalize j + 1 = k at *
  have a := Nat.div_add_mod ρ (2 ^ k)
  have hlt : ρ % 2 ^ k < 2 ^ k := Nat.mod_lt _ (Nat.two_pow_pos _)
  unfold rne
  rw [hK] at a hlt ⊢
  obtain ⟨r, hr⟩ : ∃ r, ρ % (2 * J) = r := ⟨_, rfl⟩
  obtain ⟨q, hq⟩ : ∃ q, ρ / (2 * J) = q := ⟨_, rfl⟩
  rw [hr] at a hlt ⊢
  rw [hq] at a ⊢
  obtain ⟨X, hX⟩ : ∃ X, q * (2 * J) = X := ⟨_, rfl⟩
  rw [Nat.mul_comm, hX] at a
  have e1 : (2 * q + 1) * (2 * J) = 2 * X + 2 * J := by rw [Nat.add_mul, Nat.mul_assoc, hX, Nat.one_mul]
  have e3 : (2 * (q + 1) + 1) * (2 * J) = 2 * X + 6 * J := by
    rw [(by omega : 2 * (q + 1) + 1 = 2 * q + 3), Nat.add_mul, Nat.mul_assoc, hX]; omega
  have e2 : (2 * (q + 1) - 1) * (2 * J) = 2 * X + 2 * J := by rw [(by omega : 2 * (q + 1) - 1 = 2 * q + 1), e1]
  have e4 : (2 * q - 1) * (2 * J) = 2 * X - 2 * J := by rw [Nat.sub_mul, Nat.mul_assoc, hX, Nat.one_mul]
  clear hr hq hX hK
  split
  · rename_i hc
    rw [e2, e3]
    refine ⟨by omega, ?_⟩
    split <;> omega
  · rename_i hc
    rw [e4, e1]
    refine ⟨by omega, ?_⟩
    split
    · rename_i hs
      have h1 : ¬2 * J < 2 * r := fun h => hc (.inl h)
      have h2 : ¬2 * r = 2 * J := fun h => hc (.inr ⟨h, .inl hs⟩)
      omega
    · omega

end Go.Proofs.Ytepfjeamiokgnaa
