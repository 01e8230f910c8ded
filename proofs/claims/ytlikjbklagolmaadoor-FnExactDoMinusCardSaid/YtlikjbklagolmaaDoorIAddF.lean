/-
  The walks of the program's own Add and Sub.
-/
import Derived.Test.YtlikjbklagolmaaDoorIAdd
namespace Go.Proofs.YtlikjbklagolmaaDoor
open Go.RowKit Go.Sort
set_option linter.unusedVariables false

theorem cut_low {m D : Nat} (h : m < 9007199254740992) : ((m : Int) * 1024 / 2 ^ min D 64) = ((m * 1024 / 2 ^ D : Nat) : Int) ∧ (IntKind.u64.wrap ((m : Int) * 1024 / 2 ^ min D 64 * 2 ^ min D 64) != (m : Int) * 1024) = decide (m * 1024 % 2 ^ D ≠ 0) := by
  have e1 : (m : Int) * 1024 / 2 ^ min D 64 = ((m * 1024 / 2 ^ min D 64 : Nat) : Int) := by simp
  have e2 : m * 1024 / 2 ^ min D 64 = m * 1024 / 2 ^ D ∧ m * 1024 % 2 ^ min D 64 = m * 1024 % 2 ^ D := by
    by_cases h64 : D ≤ 64
    · rw [Nat.min_eq_left h64]; exact ⟨rfl, rfl⟩
    · have hp : 2 ^ 64 ≤ 2 ^ D := Nat.pow_le_pow_right (by decide) (by omega)
      rw [Nat.min_eq_right (by omega), Nat.div_eq_of_lt (by omega), Nat.div_eq_of_lt (by omega), Nat.mod_eq_of_lt (by omega), Nat.mod_eq_of_lt (by omega)]
      exact ⟨rfl, rfl⟩
  rw [e1, e2.1]
  refine ⟨rfl, ?_⟩
  have e3 := Nat.div_add_mod (m * 1024) (2 ^ min D 64)
  rw [e2.1, e2.2, Nat.mul_comm] at e3
  have e4 : ((m * 1024 / 2 ^ D : Nat) : Int) * 2 ^ min D 64 = ((m * 1024 / 2 ^ D * 2 ^ min D 64 : Nat) : Int) := by simp
  rw [e4]
  generalize m * 1024 / 2 ^ D * 2 ^ min D 64 = q at *
  generalize m * 1024 % 2 ^ D = r at *
  have e5 : IntKind.u64.wrap (q : Int) = q := by
    show (q : Int) % 18446744073709551616 = q
    omega
  rw [e5, Bool.eq_iff_iff]
  simp
  omega

theorem kind_le {g l : Nat} (h : l % 9223372036854775808 ≤ g % 9223372036854775808) : (kindN g ≠ 1 → kindN l ≠ 1) ∧ (kindN g = 3 ∨ kindN g = 4 → kindN l = 3 ∨ kindN l = 4) := by
  have hl : l % 9223372036854775808 ≤ 9218868437227405312 → kindN l ≠ 1 := fun h => by
    unfold kindN expBits fracBits
    split
    · rw [if_pos (by omega)]; decide
    · split <;> decide
  have hl2 : l % 9223372036854775808 < 9218868437227405312 → kindN l = 3 ∨ kindN l = 4 := fun h => by
    unfold kindN expBits fracBits
    rw [if_neg (by omega)]
    split
    · exact .inl rfl
    · exact .inr rfl
  constructor
  · intro hg
    refine hl ?_
    rcases Nat.lt_or_ge 9218868437227405312 (g % 9223372036854775808) with h' | h'
    · exact absurd (kind_nan h') hg
    · omega
  · intro hg
    refine hl2 ?_
    rcases Nat.lt_trichotomy 9218868437227405312 (g % 9223372036854775808) with h' | h' | h'
    · have := kind_nan h'; omega
    · have := kind_inf h'.symm; omega
    · omega

end Go.Proofs.YtlikjbklagolmaaDoor
