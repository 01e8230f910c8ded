/-
  Noughts at the end taken off, over no program.
-/
import Derived.Test.YtfocaoliadbhcaaDoorGreatB
namespace Go.Proofs.YtfocaoliadbhcaaDoor

/-- the number without noughts at its end, and how many there were -/
def stripN (N : Nat) : Nat × Nat := if N ≠ 0 ∧ N % 10 = 0 then ((stripN (N / 10)).1, (stripN (N / 10)).2 + 1) else (N, 0)
  termination_by N
  decreasing_by all_goals omega

theorem strip_more {M : Nat} (h0 : M ≠ 0) (h : M % 10 = 0) : stripN M = ((stripN (M / 10)).1, (stripN (M / 10)).2 + 1) := by
  rw [stripN, if_pos ⟨h0, h⟩]
theorem strip_done {M : Nat} (h : M % 10 ≠ 0) : stripN M = (M, 0) := by
  rw [stripN, if_neg (by omega)]

theorem dec_last {M : Nat} : ∃ l, Lib.decDigits M = l ++ [UInt8.ofNat (48 + M % 10)] ∧ (l = [] ↔ M < 10) ∧ (10 ≤ M → l = Lib.decDigits (M / 10)) := by
  by_cases h : M < 10
  · exact ⟨[], by rw [dec_small h, (by omega : M % 10 = M)]; rfl, by simp [h], fun h' => by omega⟩
  · refine ⟨Lib.decDigits (M / 10), ?_, ⟨fun e => absurd e (digV_dec _).2.2, fun h' => absurd h' h⟩, fun _ => rfl⟩
    have e : M = 10 * (M / 10) + M % 10 := by omega
    conv => lhs; rw [e]
    exact dec_more (by omega) (by omega)

/-- a finite number, by its whole number and exponent: the whole number whose figures are told, and the power of 10 -/
def exactN (m : Nat) (e : Int) : Nat := if 0 ≤ e then m * 2 ^ e.toNat else m * 5 ^ (-e).toNat
def exactF (m : Nat) (e : Int) : Nat := (stripN (exactN m e)).1
def exactX (m : Nat) (e : Int) : Int := (if 0 ≤ e then 0 else e) + (stripN (exactN m e)).2

end Go.Proofs.YtfocaoliadbhcaaDoor
