/-
  Why words divided by fives are near enough; over no program.
-/
import Derived.Test.YtfbdhafbpcpjlaaWordB
namespace Go.Proofs.Ytfbdhafbpcpjlaa

theorem five_two (d : Nat) : 5 ^ (27 * d) ≤ 2 ^ (63 * d) := by
  rw [Nat.pow_mul, Nat.pow_mul]
  exact Nat.pow_le_pow_left (by decide) _

theorem near_great {N L k m : Nat} (hN : 2 ^ (64 * (L - 1)) ≤ N) (hL : 1 ≤ L) (hk : (m + 26) / 27 + 2 ≤ k + L) : 18446744073709551616 ≤ 2 ^ (64 * k) * N / 5 ^ m := by
  obtain ⟨d, hd⟩ : ∃ d, (m + 26) / 27 = d := ⟨_, rfl⟩
  rw [hd] at hk
  have h1 : 2 ^ (64 * (d + 1)) ≤ 2 ^ (64 * k) * N := by
    refine Nat.le_trans ?_ (Nat.mul_le_mul_left _ hN)
    rw [← Nat.pow_add]
    exact Nat.pow_le_pow_right (by decide) (by omega)
  have h2 : 5 ^ m ≤ 2 ^ (63 * d) := Nat.le_trans (Nat.pow_le_pow_right (by decide) (by omega)) (five_two d)
  rw [Nat.le_div_iff_mul_le (Nat.pos_of_ne_zero (by simp))]
  refine Nat.le_trans (Nat.mul_le_mul_left _ h2) (Nat.le_trans ?_ h1)
  rw [(by omega : 64 * (d + 1) = 64 + 63 * d + d), Nat.pow_add, Nat.pow_add]
  exact Nat.le_mul_of_pos_right _ (Nat.two_pow_pos d)

theorem near_words {D L k : Nat} {e : Int} (he1 : -500 ≤ e) (he2 : e ≤ 500) (hN : 2 ^ (64 * (L - 1)) ≤ D * 5 ^ e.toNat) (hL : 1 ≤ L) (hk : ((-e).toNat + 26) / 27 + 2 ≤ k + L) (hk2 : k ≤ 25) :
    roundN (2 ^ (64 * k) * (D * 5 ^ e.toNat) / 5 ^ (-e).toNat) (e - (k : Int) * 64) (decide (2 ^ (64 * k) * (D * 5 ^ e.toNat) % 5 ^ (-e).toNat ≠ 0)) = quoG (D * 10 ^ e.toNat) (10 ^ (-e).toNat) := by
  have hg := near_great hN hL hk
  rcases Int.lt_or_le e 0 with h | h
  · obtain ⟨m, rfl⟩ : ∃ m : Nat, e = -(m : Int) := ⟨(-e).toNat, by omega⟩
    have z : (-(m : Int)).toNat = 0 := by omega
    simp only [z, Int.neg_neg, Int.toNat_natCast, Nat.pow_zero, Nat.mul_one] at hg ⊢
    have hp := Nat.two_pow_pos m
    have e1 : D * 2 ^ (64 * k + m) = 2 ^ (64 * k) * D * 2 ^ m := by rw [Nat.pow_add, Nat.mul_comm (2 ^ (64 * k)) D, Nat.mul_assoc]
    have e2 : (10 : Nat) ^ m = 5 ^ m * 2 ^ m := by rw [← Nat.mul_pow]
    have q := quoG_up (a := D) (b := 10 ^ m) (k := 64 * k + m) (by simp) (by rw [e1, e2, Nat.mul_div_mul_right _ _ hp]; omega) (by rw [upK_eq]; omega)
    rw [e1, e2, Nat.mul_div_mul_right _ _ hp, Nat.mul_mod_mul_right, mark_scale (by omega)] at q
    rw [e2, ← q]
    congr 1
    omega
  · obtain ⟨m, rfl⟩ : ∃ m : Nat, e = (m : Int) := ⟨e.toNat, by omega⟩
    have z : (-(m : Int)).toNat = 0 := by omega
    simp only [z, Int.toNat_natCast, Nat.pow_zero, Nat.div_one, Nat.mod_one] at hg ⊢
    have e1 : D * 10 ^ m * 2 ^ (64 * k) = 2 ^ (64 * k) * (D * 5 ^ m) * 2 ^ m := by
      rw [(by decide : (10 : Nat) = 5 * 2), Nat.mul_pow, ← Nat.mul_assoc, Nat.mul_comm (2 ^ (64 * k)), Nat.mul_right_comm]
    have q := quoG_up (a := D * 10 ^ m) (b := 1) (k := 64 * k) (by decide) (by
      rw [e1, Nat.div_one]
      have := Nat.le_mul_of_pos_right (2 ^ (64 * k) * (D * 5 ^ m)) (Nat.two_pow_pos m)
      omega) (by rw [upK_eq]; omega)
    rw [e1, Nat.div_one, Nat.mod_one] at q
    have r := roundN_mark (M := 2 ^ (64 * k) * (D * 5 ^ m)) (d := m) (low := 0) (E := (m : Int) - (k : Int) * 64) false (Nat.two_pow_pos m) (by omega)
    rw [Nat.add_zero, (by omega : (m : Int) - (k : Int) * 64 - (m : Int) = -((64 * k : Nat) : Int))] at r
    have f1 : decide ((0 : Nat) ≠ 0) = false := by simp
    rw [f1] at q ⊢
    rw [f1, Bool.or_false] at r
    rw [← q, ← r]

end Go.Proofs.Ytfbdhafbpcpjlaa
