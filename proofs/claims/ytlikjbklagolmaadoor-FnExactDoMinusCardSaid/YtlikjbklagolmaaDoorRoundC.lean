/-
  The nearest number where something is lost below: a lower part that is not nought counts as a mark, over no program.
-/
import Derived.Test.YtlikjbklagolmaaDoorBitsB
namespace Go.Proofs.YtlikjbklagolmaaDoor

theorem rne_sticky {M k d low : Nat} (hk : k ≠ 0) (hl : low < 2 ^ d) : rne (M * 2 ^ d + low) (k + d) false = rne M k (decide (low ≠ 0)) := by
  obtain ⟨j, rfl⟩ : ∃ j, k = j + 1 := ⟨k - 1, by omega⟩
  have hd := Nat.two_pow_pos d
  have hq : (M * 2 ^ d + low) / 2 ^ (j + 1 + d) = M / 2 ^ (j + 1) := by
    rw [Nat.pow_add, Nat.mul_comm (2 ^ (j + 1)), ← Nat.div_div_eq_div_mul]
    congr 1
    rw [Nat.mul_comm, Nat.mul_add_div hd, Nat.div_eq_of_lt hl]; simp
  have hm : (M * 2 ^ d + low) % 2 ^ (j + 1 + d) = M % 2 ^ (j + 1) * 2 ^ d + low := by
    have h1 := Nat.div_add_mod (M * 2 ^ d + low) (2 ^ (j + 1 + d))
    have h2 := Nat.div_add_mod M (2 ^ (j + 1))
    rw [hq] at h1
    have h3 : 2 ^ (j + 1 + d) * (M / 2 ^ (j + 1)) = 2 ^ (j + 1) * (M / 2 ^ (j + 1)) * 2 ^ d := by rw [Nat.pow_add, Nat.mul_assoc, Nat.mul_comm (2 ^ d), ← Nat.mul_assoc]
    have h4 : M * 2 ^ d = (2 ^ (j + 1) * (M / 2 ^ (j + 1)) + M % 2 ^ (j + 1)) * 2 ^ d := by rw [h2]
    rw [Nat.add_mul] at h4
    rw [h3] at h1
    omega
  unfold rne
  rw [hq, hm]
  generalize M % 2 ^ (j + 1) = r
  generalize M / 2 ^ (j + 1) = q
  have hP : (2 : Nat) ^ (j + 1 + d) = 2 * (2 ^ j * 2 ^ d) := by rw [Nat.pow_add, Nat.pow_succ]; rw [Nat.mul_comm (2 ^ j) 2, Nat.mul_assoc]
  have hK : (2 : Nat) ^ (j + 1) = 2 * 2 ^ j := by rw [Nat.pow_succ, Nat.mul_comm]
  rw [hP, hK]
  generalize (2 : Nat) ^ j = J at *
  generalize hD : (2 : Nat) ^ d = D at *
  have c1 : (2 * (J * D) < 2 * (r * D + low)) ↔ (J < r ∨ (r = J ∧ low ≠ 0)) := by
    constructor
    · intro h
      rcases Nat.lt_trichotomy r J with h' | h' | h'
      · have : (r + 1) * D ≤ J * D := Nat.mul_le_mul_right _ h'
        rw [Nat.add_mul] at this
        omega
      · subst h'; exact .inr ⟨rfl, by omega⟩
      · exact .inl h'
    · rintro (h | ⟨rfl, h⟩)
      · have : (J + 1) * D ≤ r * D := Nat.mul_le_mul_right _ h
        rw [Nat.add_mul] at this
        omega
      · omega
  have c2 : (2 * (r * D + low) = 2 * (J * D)) ↔ (r = J ∧ low = 0) := by
    constructor
    · intro h
      rcases Nat.lt_trichotomy r J with h' | h' | h'
      · have : (r + 1) * D ≤ J * D := Nat.mul_le_mul_right _ h'
        rw [Nat.add_mul] at this
        omega
      · subst h'; exact ⟨rfl, by omega⟩
      · have : (J + 1) * D ≤ r * D := Nat.mul_le_mul_right _ h'
        rw [Nat.add_mul] at this
        omega
    · rintro ⟨rfl, rfl⟩; simp
  have c3 : (2 * J < 2 * r) ↔ J < r := by omega
  have c4 : (2 * r = 2 * J) ↔ r = J := by omega
  simp only [c1, c2, c3, c4, Bool.false_eq_true, false_or, decide_eq_true_eq]
  by_cases h1 : J < r
  · rw [if_pos (.inl (.inl h1)), if_pos (.inl h1)]
  · by_cases h2 : r = J
    · by_cases h3 : low = 0
      · by_cases h4 : q % 2 = 1
        · rw [if_pos (.inr ⟨⟨h2, h3⟩, h4⟩), if_pos (.inr ⟨h2, .inr h4⟩)]
        · rw [if_neg, if_neg]
          · rintro (h | ⟨-, h | h⟩)
            · exact h1 h
            · exact h h3
            · exact h4 h
          · rintro ((h | ⟨-, h⟩) | ⟨-, h⟩)
            · exact h1 h
            · exact h h3
            · exact h4 h
      · rw [if_pos (.inl (.inr ⟨h2, h3⟩)), if_pos (.inr ⟨h2, .inl h3⟩)]
    · rw [if_neg, if_neg]
      · rintro (h | ⟨h, -⟩)
        · exact h1 h
        · exact h2 h
      · rintro ((h | ⟨h, -⟩) | ⟨⟨h, -⟩, -⟩)
        · exact h1 h
        · exact h2 h
        · exact h2 h

/-- a lower part that is not nought counts as a mark, where the upper part has 54 bits or more -/
theorem roundN_sticky {M d low : Nat} {E : Int} (hl : low < 2 ^ d) (hM : low = 0 ∨ 9007199254740992 ≤ M) : roundN (M * 2 ^ d + low) (E - d) false = roundN M E (decide (low ≠ 0)) := by
  have hd := Nat.two_pow_pos d
  by_cases h0 : low = 0
  · subst h0
    rw [Nat.add_zero, roundN_times]
    rfl
  have hM1 : 9007199254740992 ≤ M := by omega
  have hm0 : M ≠ 0 := by omega
  obtain ⟨l, hlog⟩ : ∃ l, M.log2 = l := ⟨_, rfl⟩
  have h1 : 2 ^ l ≤ M := by rw [← hlog]; exact Nat.log2_self_le hm0
  have h2 : M < 2 ^ (l + 1) := by rw [← hlog]; exact Nat.lt_log2_self
  have hl53 : 53 ≤ l := by
    rcases Nat.lt_or_ge l 53 with h | h
    · have : (2 : Nat) ^ (l + 1) ≤ 2 ^ 53 := Nat.pow_le_pow_right (by decide) h
      omega
    · exact h
  -- the place of the last bit
  obtain ⟨k, hk⟩ : ∃ k : Nat, (k : Int) = max (E + l - 52) (-1074) - E := ⟨(max (E + l - 52) (-1074) - E).toNat, by omega⟩
  have hk0 : k ≠ 0 := by omega
  have hup : M < 2 ^ (53 + k) := Nat.lt_of_lt_of_le h2 (Nat.pow_le_pow_right (by decide) (by omega))
  have hlo : E + k = -1074 ∨ 2 ^ (52 + k) ≤ M := by
    rcases Int.le_total (-1074) (E + l - 52) with h | h
    · right
      have : 52 + k = l := by omega
      rw [this]; exact h1
    · left; omega
  rw [roundN_at (k := k) _ hm0 (by omega) hup hlo]
  have hMd : (M + 1) * 2 ^ d ≤ 2 ^ (53 + k) * 2 ^ d := Nat.mul_le_mul_right _ hup
  rw [Nat.add_mul] at hMd
  have hlo2 : E - d + ((k + d : Nat) : Int) = -1074 ∨ 2 ^ (52 + (k + d)) ≤ M * 2 ^ d + low := by
    rcases hlo with h | h
    · left; omega
    · right
      have : 2 ^ (52 + k) * 2 ^ d ≤ M * 2 ^ d := Nat.mul_le_mul_right _ h
      rw [← Nat.pow_add] at this
      rw [show 52 + (k + d) = 52 + k + d by omega]
      omega
  have hup2 : M * 2 ^ d + low < 2 ^ (53 + (k + d)) := by
    rw [show 53 + (k + d) = 53 + k + d by omega, Nat.pow_add]
    omega
  have hne : M * 2 ^ d + low ≠ 0 := by omega
  rw [roundN_at (k := k + d) _ hne (by omega) hup2 hlo2, rne_sticky hk0 hl]
  have e : E - d + ((k + d : Nat) : Int) = E + k := by omega
  rw [e]

end Go.Proofs.YtlikjbklagolmaaDoor
