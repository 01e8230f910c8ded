/-
  The walks of the specification's FromInt and ToInt32, and of what asks for truth and order.
-/
import Derived.Test.YtlikjbklagolmaaDoorRound
namespace Go.Proofs.YtlikjbklagolmaaDoor
open Go.RowKit
set_option linter.unusedVariables false

/-- the bits of the number nearest to n -/
def fromIntN (n : Int) : Nat := signN (decide (n < 0)) (roundN n.natAbs 0 false)

/-- the whole part, towards 0, without its sign -/
def wholeN (x : Nat) : Nat := if expN x < 0 then mantN x / 2 ^ (-expN x).toNat else mantN x * 2 ^ (expN x).toNat

/-- the whole part modulo 2^32, as a number of 32 bits with a sign -/
def low32 (below : Bool) (t : Nat) : Int := if (if below then (4294967296 - t % 4294967296) % 4294967296 else t % 4294967296) ≥ 2147483648 then ((if below then (4294967296 - t % 4294967296) % 4294967296 else t % 4294967296 : Nat) : Int) - 4294967296 else ((if below then (4294967296 - t % 4294967296) % 4294967296 else t % 4294967296 : Nat) : Int)

theorem low32_no {t : Nat} (h : (2147483648 : Int) ≤ (t : Int) % 4294967296) : low32 false t = (t : Int) % 4294967296 - 4294967296 := by
  unfold low32
  simp only [Bool.false_eq_true, if_false]
  rw [if_pos (by omega)]
  omega
theorem low32_no' {t : Nat} (h : (t : Int) % 4294967296 < 2147483648) : low32 false t = (t : Int) % 4294967296 := by
  unfold low32
  simp only [Bool.false_eq_true, if_false]
  rw [if_neg (by omega)]
  omega
theorem low32_yes {t : Nat} (h : (2147483648 : Int) ≤ (4294967296 - (t : Int) % 4294967296) % 4294967296) : low32 true t = (4294967296 - (t : Int) % 4294967296) % 4294967296 - 4294967296 := by
  unfold low32
  simp only [if_true]
  rw [if_pos (by omega)]
  omega
theorem low32_yes' {t : Nat} (h : (4294967296 - (t : Int) % 4294967296) % 4294967296 < 2147483648) : low32 true t = (4294967296 - (t : Int) % 4294967296) % 4294967296 := by
  unfold low32
  simp only [if_true]
  rw [if_neg (by omega)]
  omega

theorem low32_zero (b : Bool) : low32 b 0 = 0 := by cases b <;> simp [low32]
theorem low32_mod {b : Bool} {t t' : Nat} (h : t % 4294967296 = t' % 4294967296) : low32 b t = low32 b t' := by unfold low32; rw [h]

theorem wholeN_not {x : Nat} (h : kindN x ≠ 4) : wholeN x = 0 := by
  unfold wholeN mantN
  rw [if_neg h]
  split <;> simp

theorem div_pow_zero {m a b : Nat} (h : m / 2 ^ a = 0) (hab : a ≤ b) : m / 2 ^ b = 0 := by
  rcases Nat.div_eq_zero_iff.1 h with h | h
  · have := Nat.two_pow_pos a; omega
  · exact Nat.div_eq_of_lt (Nat.lt_of_lt_of_le h (Nat.pow_le_pow_right (by decide) hab))

end Go.Proofs.YtlikjbklagolmaaDoor
