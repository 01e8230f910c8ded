/-
  The walk of the specification's GreatSub.
-/
import Derived.Test.YtfbdhafbpcpjlaaGreatLs
namespace Go.Proofs.Ytfbdhafbpcpjlaa
open Go.RowKit
set_option linter.unusedVariables false

def subS (a b : ByteArray) : ByteArray := if figsOk a.data.toList = true ∧ figsOk b.data.toList = true ∧ digV b.data.toList ≤ digV a.data.toList then txt (Lib.decDigits (digV a.data.toList - digV b.data.toList)) else ⟨#[]⟩
def subB (a b : ByteArray) : Bool := decide (figsOk a.data.toList = true ∧ figsOk b.data.toList = true ∧ digV b.data.toList ≤ digV a.data.toList)

theorem limbV_split (xs : List Nat) (i : Nat) : limbV xs = limbV (xs.take i) + 10 ^ (9 * i) * limbV (xs.drop i) := by
  induction i generalizing xs with
  | zero => simp [limbV]
  | succ i ih =>
    cases xs with
    | nil => simp [limbV]
    | cons a l =>
      rw [List.take_succ_cons, List.drop_succ_cons, limbV, limbV, ih l, nine_pow, Nat.mul_add, Nat.mul_assoc]
      omega

/-- a difference of limbs up to a place -/
structure SubAt (ls ms xs : List Nat) (i c : Nat) : Prop where
  ok : LimbsOk xs
  len : xs.length = i
  eq : limbV (ls.take i) + 10 ^ (9 * i) * c = limbV xs + limbV (ms.take i)
theorem subAt_start (ls ms : List Nat) : SubAt ls ms [] 0 0 := ⟨limbsOk_nil, rfl, by simp [limbV]⟩
theorem subAt_step {ls ms xs : List Nat} {i c c' z : Nat} (h : SubAt ls ms xs i c) (hz : z < 1000000000) (he : z + ms.getD i 0 + c = ls.getD i 0 + 1000000000 * c') : SubAt ls ms (xs ++ [z]) (i + 1) c' := by
  obtain ⟨h1, h2, h3⟩ := h
  refine ⟨limbsOk_snoc h1 hz, by simp [h2], ?_⟩
  rw [limbV_snoc, limbV_take, limbV_take, h2, nine_pow]
  generalize ls.getD i 0 = x at *
  generalize ms.getD i 0 = y at *
  generalize 10 ^ (9 * i) = P at *
  have e2 : P * (z + y + c) = P * (x + 1000000000 * c') := by rw [he]
  rw [Nat.mul_add, Nat.mul_add, Nat.mul_add] at e2
  have e3 : 1000000000 * P * c' = P * (1000000000 * c') := by rw [Nat.mul_comm 1000000000, Nat.mul_assoc]
  omega
theorem subAt_end {ls ms xs : List Nat} {c : Nat} (h : SubAt ls ms xs ls.length c) (hl : LimbsOk ls) (hle : limbV ms ≤ limbV ls) : limbV xs = limbV ls - limbV ms := by
  obtain ⟨h1, h2, h3⟩ := h
  have a1 := limbV_lt hl
  have a2 := limbV_lt h1
  rw [h2] at a2
  have a3 := limbV_split ms ls.length
  rw [List.take_length] at h3
  generalize 10 ^ (9 * ls.length) = P at *
  have a4 : limbV (ms.drop ls.length) = 0 := by
    rcases Nat.eq_zero_or_pos (limbV (ms.drop ls.length)) with h' | h'
    · exact h'
    · have : P * 1 ≤ P * limbV (ms.drop ls.length) := Nat.mul_le_mul_left _ h'
      omega
  rw [a4, Nat.mul_zero, Nat.add_zero] at a3
  rw [← a3] at h3
  have a5 : c = 0 := by
    rcases Nat.eq_zero_or_pos c with h' | h'
    · exact h'
    · have : P * 1 ≤ P * c := Nat.mul_le_mul_left _ h'
      omega
  subst a5
  omega

end Go.Proofs.Ytfbdhafbpcpjlaa
