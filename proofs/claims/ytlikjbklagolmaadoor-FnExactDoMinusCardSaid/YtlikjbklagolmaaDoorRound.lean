/-
  The walk of the specification's RoundTo: the nearest number.
-/
import Derived.Test.YtlikjbklagolmaaDoorBits
import Derived.Test.YtlikjbklagolmaaDoorRoundB
import Derived.Deep.DeepCutAuto
namespace Go.Proofs.YtlikjbklagolmaaDoor
open Go.RowKit
set_option linter.unusedVariables false

theorem sticky_eq (m : Nat) : decide ((72057594037927936 : Int) ≤ (m : Int)) = decide (72057594037927936 ≤ m) := by
  rw [decide_eq_decide]; omega

theorem odd_bit (n : Nat) : ((n : Int) % 2 == 1) = decide (n % 2 = 1) := by
  rw [Bool.eq_iff_iff]
  simp only [beq_iff_eq, decide_eq_true_eq]
  omega

/-- one added where the last place goes up -/
def upN (N : Nat) (u : Bool) : Nat := N + (if u = true then 1 else 0)

theorem round_fin {N : Nat} {F : Int} {u : Bool} {r : Nat} (hr : r = min (N + (if u = true then 1 else 0) + (F + 1074).toNat * 4503599627370496) 9218868437227405312 ∧ (F = -1074 ∨ 4503599627370496 ≤ N)) (h1 : N < 9007199254740992) (h2 : -1074 ≤ F) :
    (upN N u ≤ 9007199254740992) ∧
    r = if upN N u = 9007199254740992 then (if 971 < F + 1 then 9218868437227405312 else (F + 1 + 1075).toNat * 4503599627370496)
      else if upN N u < 4503599627370496 then upN N u else if 971 < F then 9218868437227405312 else upN N u - 4503599627370496 + (F + 1075).toNat * 4503599627370496 := by
  have hu : upN N u ≤ 9007199254740992 := by unfold upN; split <;> omega
  refine ⟨hu, ?_⟩
  rw [hr.1]
  exact round_put h2 (by rcases hr.2 with h | h; exact .inl h; exact .inr (by omega)) hu

end Go.Proofs.YtlikjbklagolmaaDoor
