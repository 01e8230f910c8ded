/-
  A quotient of whole numbers found by figures of 32 bits, each guessed and mended; over no program.
-/
import Derived.Test.YtfbdhafbpcpjlaaBitsB
namespace Go.Proofs.Ytfbdhafbpcpjlaa

/-- a guess of a figure of a quotient, with 32 bits a figure: what is divided has the figures of u and then t -/
structure Guess (u y1 y0 t q r : Nat) : Prop where
  eq : q * y1 + r = u
  top : u * 4294967296 + t < (q + 1) * (y1 * 4294967296 + y0)

theorem guess_mul (q y1 y0 : Nat) : q * (y1 * 4294967296 + y0) = q * y1 * 4294967296 + q * y0 := by rw [Nat.mul_add, Nat.mul_assoc]

theorem guess_start {u y1 y0 t : Nat} (hu : u < y1 * 4294967296 + y0) (h1 : 2147483648 ≤ y1) (h0 : y0 < 4294967296) (ht : t < 4294967296) : Guess u y1 y0 t (u / y1) (u % y1) ∧ u / y1 ≤ 4294967297 ∧ u % y1 < y1 := by
  have e := Nat.div_add_mod u y1
  have hm : u % y1 < y1 := Nat.mod_lt _ (by omega)
  rw [Nat.mul_comm] at e
  refine ⟨⟨e, ?_⟩, ?_, hm⟩
  · rw [guess_mul, Nat.add_mul (u / y1) 1 y1]
    generalize u / y1 * y1 = p at *
    have : (p + 1 * y1) * 4294967296 = p * 4294967296 + y1 * 4294967296 := by omega
    rw [this]
    omega
  · rcases Nat.lt_or_ge 4294967297 (u / y1) with h | h
    · have h2 : 4294967298 * y1 ≤ u / y1 * y1 := Nat.mul_le_mul_right _ h
      omega
    · exact h

theorem guess_down {u y1 y0 t q r : Nat} (h : Guess u y1 y0 t q r) (hu : u < y1 * 4294967296 + y0) (ht : t < 4294967296) (hc : 4294967296 ≤ q ∨ 4294967296 * r + t < q * y0) : 1 ≤ q ∧ Guess u y1 y0 t (q - 1) (r + y1) := by
  have h1 : 1 ≤ q := by
    rcases hc with hc | hc
    · omega
    · rcases Nat.eq_zero_or_pos q with h' | h'
      · subst h'; omega
      · exact h'
  obtain ⟨p, rfl⟩ : ∃ p, q = p + 1 := ⟨q - 1, by omega⟩
  refine ⟨h1, ⟨?_, ?_⟩⟩
  · have := h.eq
    rw [Nat.add_mul] at this
    rw [Nat.add_sub_cancel]
    omega
  · rw [Nat.add_sub_cancel]
    rcases hc with hc | hc
    · have h2 : 4294967296 * (y1 * 4294967296 + y0) ≤ (p + 1) * (y1 * 4294967296 + y0) := Nat.mul_le_mul_right _ hc
      omega
    · have := h.eq
      rw [guess_mul]
      omega

theorem guess_right {u y1 y0 t q : Nat} (hy : 0 < y1 * 4294967296 + y0) (h1 : q * (y1 * 4294967296 + y0) ≤ u * 4294967296 + t) (h2 : u * 4294967296 + t < (q + 1) * (y1 * 4294967296 + y0)) : (u * 4294967296 + t) / (y1 * 4294967296 + y0) = q := by
  apply Nat.le_antisymm
  · exact Nat.lt_succ_iff.mp ((Nat.div_lt_iff_lt_mul hy).mpr h2)
  · exact (Nat.le_div_iff_mul_le hy).mpr h1

theorem guess_end {u y1 y0 t q r : Nat} (h : Guess u y1 y0 t q r) (h1 : 2147483648 ≤ y1) (hc : q * y0 ≤ 4294967296 * r + t) : (u * 4294967296 + t) / (y1 * 4294967296 + y0) = q := by
  refine guess_right (by omega) ?_ h.top
  have := h.eq
  rw [guess_mul]
  omega

theorem guess_break {u y1 y0 t q r : Nat} (h : Guess u y1 y0 t q r) (h1 : 2147483648 ≤ y1) (h0 : y0 < 4294967296) (hq : q ≤ 4294967296) (hr : 4294967296 ≤ r) : (u * 4294967296 + t) / (y1 * 4294967296 + y0) = q := by
  refine guess_end h h1 ?_
  have : q * y0 ≤ 4294967296 * y0 := Nat.mul_le_mul_right _ hq
  omega

/-- two figures -/
theorem two_figures {u y t s q1 q0 : Nat} (hy : 0 < y) (hq1 : (u * 4294967296 + t) / y = q1) (hq0 : ((u * 4294967296 + t - q1 * y) * 4294967296 + s) / y = q0) : (u * 18446744073709551616 + t * 4294967296 + s) / y = q1 * 4294967296 + q0 := by
  have a1 : q1 * y ≤ u * 4294967296 + t := by rw [← hq1]; exact Nat.div_mul_le_self _ _
  obtain ⟨d, hd⟩ : ∃ d, u * 4294967296 + t - q1 * y = d := ⟨_, rfl⟩
  rw [hd] at hq0
  have e : u * 18446744073709551616 + t * 4294967296 + s = y * (q1 * 4294967296) + (d * 4294967296 + s) := by
    have : y * (q1 * 4294967296) = q1 * y * 4294967296 := by rw [← Nat.mul_assoc, Nat.mul_comm y]
    rw [this]
    omega
  rw [e, Nat.mul_add_div hy, hq0]

end Go.Proofs.Ytfbdhafbpcpjlaa
