/-
  The root of a number, found figure by figure; over no program.
-/
import Derived.Test.YtepfjeamiokgnaaMulB
namespace Go.Proofs.Ytepfjeamiokgnaa

/-- the root of what stands above the last j figures, and what is left -/
structure RootAt (N j n l : Nat) : Prop where
  root : isq (N / 4 ^ j) = n
  left : l + n * n = N / 4 ^ j

theorem rootAt_start {N j : Nat} (h : N < 4 ^ j) : RootAt N j 0 0 := by
  have : N / 4 ^ j = 0 := Nat.div_eq_of_lt h
  exact ⟨by rw [this, isq]; rfl, by rw [this]⟩

theorem rootAt_next {N j n l : Nat} (h : RootAt N (j + 1) n l) : N / 4 ^ j = 4 * (l + n * n) + N / 4 ^ j % 4 := by
  have h1 : N / 4 ^ (j + 1) = N / 4 ^ j / 4 := by rw [Nat.pow_succ, Nat.div_div_eq_div_mul]
  have h2 := h.left
  rw [h1] at h2
  omega

theorem rootAt_hit {N j n l d : Nat} (h : RootAt N (j + 1) n l) (hd : N / 4 ^ j % 4 = d) (ht : n * 4 + 1 ≤ l * 4 + d) : RootAt N j (n * 2 + 1) (l * 4 + d - (n * 4 + 1)) := by
  have h1 := rootAt_next h
  rw [hd] at h1
  obtain ⟨_, s2⟩ := isq_step (n := l + n * n) (t := d) (s := n) (by omega) (by rw [h.left]; exact h.root)
  rw [(by omega : l + n * n - n * n = l), if_pos (by omega)] at s2
  have e2 : (n * 2 + 1) * (n * 2 + 1) = 4 * (n * n) + 4 * n + 1 := by
    have e1 : (n * 2) * (n * 2) = n * n * (2 * 2) := Nat.mul_mul_mul_comm _ _ _ _
    rw [Nat.add_mul, Nat.mul_add, e1]; omega
  refine ⟨by rw [h1, s2, Nat.mul_comm], ?_⟩
  rw [e2, h1]
  omega

theorem rootAt_miss {N j n l d : Nat} (h : RootAt N (j + 1) n l) (hd : N / 4 ^ j % 4 = d) (ht : ¬n * 4 + 1 ≤ l * 4 + d) : RootAt N j (n * 2) (l * 4 + d) := by
  have h1 := rootAt_next h
  rw [hd] at h1
  obtain ⟨_, s2⟩ := isq_step (n := l + n * n) (t := d) (s := n) (by omega) (by rw [h.left]; exact h.root)
  rw [(by omega : l + n * n - n * n = l), if_neg (by omega)] at s2
  have e1 : (n * 2) * (n * 2) = n * n * (2 * 2) := Nat.mul_mul_mul_comm _ _ _ _
  refine ⟨by rw [h1, s2, Nat.mul_comm], ?_⟩
  rw [e1, h1]
  omega

theorem rootAt_bound {N j n l : Nat} (h : RootAt N j n l) (hN : N < 288230376151711744 * 288230376151711744) : n < 288230376151711744 ∧ l ≤ 2 * n := by
  obtain ⟨a1, a2⟩ := isq_of (N / 4 ^ j)
  rw [h.root] at a1 a2
  have hle : N / 4 ^ j ≤ N := Nat.div_le_self _ _
  constructor
  · rcases Nat.lt_or_ge n 288230376151711744 with h' | h'
    · exact h'
    · have : 288230376151711744 * 288230376151711744 ≤ n * n := Nat.mul_le_mul h' h'
      omega
  · have e1 : (n + 1) * (n + 1) = n * n + n + n + 1 := by rw [Nat.add_mul, Nat.mul_add]; omega
    have := h.left
    omega

theorem figure_down {M i : Nat} : M * 4 ^ 31 / 4 ^ (31 + i) = M / 4 ^ i := by
  rw [Nat.pow_add, Nat.mul_comm M, Nat.mul_div_mul_left _ _ (Nat.pos_of_ne_zero (by decide))]
theorem figure_none {M j : Nat} (h : j < 31) : M * 4 ^ 31 / 4 ^ j % 4 = 0 := by
  obtain ⟨k, hk⟩ : ∃ k, 31 = j + (k + 1) := ⟨30 - j, by omega⟩
  have e1 : M * 4 ^ 31 = 4 ^ j * (M * 4 ^ k * 4) := by
    rw [hk, Nat.pow_add, Nat.pow_succ, ← Nat.mul_assoc, ← Nat.mul_assoc, Nat.mul_comm M, Nat.mul_assoc (4 ^ j), Nat.mul_assoc (4 ^ j)]
  rw [e1, Nat.mul_div_cancel_left _ (Nat.pos_of_ne_zero (by simp)), Nat.mul_mod_left]
theorem four_pow (i : Nat) : 4 ^ i = 2 ^ (2 * i) := by rw [Nat.pow_mul]

/-- the root by a whole number that is brought up, its exponent even -/
theorem root_even {m u M : Nat} {e E : Int} (hm : m ≠ 0) (hu : u ≤ 63) (h : (M = m * 2 ^ u ∧ E = e - u ∧ (e - u) % 2 = 0) ∨ (M = m * 2 ^ u * 2 ∧ E = e - u - 1 ∧ (e - u) % 2 = 1)) :
    rootN M (E / 2) = if e % 2 = 0 then rootN m (e / 2) else rootN (m * 2) ((e - 1) / 2) := by
  have hm2 : m * 2 ≠ 0 := by omega
  rcases Nat.mod_two_eq_zero_or_one u with hu2 | hu2
  · obtain ⟨j, hj⟩ : ∃ j, u = 2 * j := ⟨u / 2, by omega⟩
    have hp : 2 ^ u = 4 ^ j := by rw [hj, four_pow]
    rw [hp] at h
    rcases h with ⟨h1, h2, h3⟩ | ⟨h1, h2, h3⟩
    · rw [if_pos (by omega), h1, (by omega : E / 2 = e / 2 - j), root_scale hm (by omega)]
    · rw [if_neg (by omega), h1, Nat.mul_right_comm, (by omega : E / 2 = (e - 1) / 2 - j), root_scale hm2 (by omega)]
  · obtain ⟨j, hj⟩ : ∃ j, u = 2 * j + 1 := ⟨u / 2, by omega⟩
    have hp : 2 ^ u = 4 ^ j * 2 := by rw [hj, Nat.pow_succ, four_pow]
    rw [hp] at h
    rcases h with ⟨h1, h2, h3⟩ | ⟨h1, h2, h3⟩
    · have h4 : M = m * 2 * 4 ^ j := by rw [h1, ← Nat.mul_assoc, Nat.mul_right_comm]
      rw [if_neg (by omega), h4, (by omega : E / 2 = (e - 1) / 2 - j), root_scale hm2 (by omega)]
    · have h4 : M = m * 4 ^ (j + 1) := by rw [h1, Nat.pow_succ, Nat.mul_assoc, Nat.mul_assoc]
      rw [if_pos (by omega), h4, (by omega : E / 2 = e / 2 - ((j + 1 : Nat) : Int)), root_scale hm (by omega)]

end Go.Proofs.Ytepfjeamiokgnaa
