/-
  A quotient found bit by bit; over no program.
-/
import Derived.Test.YtfbdhafbpcpjlaaBitsB
namespace Go.Proofs.Ytfbdhafbpcpjlaa
set_option linter.unusedVariables false

/-- a quotient, bit by bit: behind i places -/
structure DivAt (P Q i n l : Nat) : Prop where
  eq : P * 2 ^ i = 2 * (n * Q) + l
  lt : l < 2 * Q
theorem div_start {P Q : Nat} (h : P < 2 * Q) : DivAt P Q 0 0 P := ⟨by simp, h⟩
theorem div_hit {P Q i n l : Nat} (h : DivAt P Q i n l) (hl : Q ≤ l) : DivAt P Q (i + 1) (n * 2 + 1) ((l - Q) * 2) := by
  refine ⟨?_, by have := h.lt; omega⟩
  have e1 : (n * 2 + 1) * Q = 2 * (n * Q) + Q := by rw [Nat.add_mul, Nat.mul_right_comm, Nat.one_mul, Nat.mul_comm 2]
  rw [Nat.pow_succ, ← Nat.mul_assoc, h.eq, e1]
  omega
theorem div_miss {P Q i n l : Nat} (h : DivAt P Q i n l) (hl : l < Q) : DivAt P Q (i + 1) (n * 2) (l * 2) := by
  refine ⟨?_, by omega⟩
  have e1 : n * 2 * Q = 2 * (n * Q) := by rw [Nat.mul_right_comm, Nat.mul_comm 2]
  rw [Nat.pow_succ, ← Nat.mul_assoc, h.eq, e1]
  omega
theorem div_bound {P Q i n l : Nat} (h : DivAt P Q i n l) (hP : P < 2 * Q) : n < 2 ^ i := by
  have h1 := h.eq
  rcases Nat.lt_or_ge n (2 ^ i) with h' | h'
  · exact h'
  · have h2 : 2 ^ i * Q ≤ n * Q := Nat.mul_le_mul_right _ h'
    have h3 : P * 2 ^ i < 2 * Q * 2 ^ i := Nat.mul_lt_mul_of_pos_right hP (Nat.two_pow_pos i)
    have h4 : 2 * Q * 2 ^ i = 2 * (2 ^ i * Q) := by rw [Nat.mul_assoc, Nat.mul_comm Q]
    omega
theorem div_end {P Q n l j : Nat} (h : DivAt P Q (j + 1) n l) (hQ : Q ≠ 0) : P * 2 ^ j / Q = n ∧ (0 < l ↔ P * 2 ^ j % Q ≠ 0) := by
  have h1 := h.eq
  rw [Nat.pow_succ, ← Nat.mul_assoc] at h1
  obtain ⟨X, hX⟩ : ∃ X, P * 2 ^ j = X := ⟨_, rfl⟩
  rw [hX] at h1 ⊢
  obtain ⟨r, hr⟩ : ∃ r, l = 2 * r := ⟨X - n * Q, by omega⟩
  have h3 : X = Q * n + r := by rw [Nat.mul_comm Q]; omega
  have h4 : r < Q := by have := h.lt; omega
  have h5 : X / Q = n := by rw [h3, Nat.mul_add_div (by omega), Nat.div_eq_of_lt h4, Nat.add_zero]
  have h6 : X % Q = r := by rw [h3, Nat.mul_add_mod, Nat.mod_eq_of_lt h4]
  exact ⟨h5, by omega⟩

end Go.Proofs.Ytfbdhafbpcpjlaa
