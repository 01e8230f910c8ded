/-
  The walks of the program's own RoundTo, FromInt and ToInt32.
-/
import Derived.Test.YtlikjbklagolmaaDoorIBits
import Derived.Test.YtlikjbklagolmaaDoorInts
import Derived.Test.YtlikjbklagolmaaDoorShelf
import Derived.Lib.ItoaNum
import Derived.Deep.DeepCutAuto
import Derived.Laws.Shifts
import Derived.Deep.QuietTactic
import Derived.BigQuiet
import Derived.Lib.QuietBelow
namespace Go.Proofs.YtlikjbklagolmaaDoor
open Go.RowKit Go.Sort
set_option linter.unusedVariables false

theorem roundN_clamp5 {m : Nat} {e E : Int} (st : Bool) (hm : m < 18446744073709551616) (hE : min (max e (-5000)) 5000 = E) : roundN m E st = roundN m e st := by
  by_cases h0 : m = 0
  · subst h0; rw [roundN_nil, roundN_nil]
  · by_cases h1 : e < -5000
    · rw [roundN_tiny st hm (by omega), roundN_tiny st hm (by omega)]
    · by_cases h2 : 5000 < e
      · rw [roundN_huge st h0 (by omega), roundN_huge st h0 (by omega)]
      · rw [(by omega : E = e)]

theorem whole_shift {m u v : Nat} {q : Int} (hm : m < 9007199254740992) (hu : max q 0 = u) (hv : max (-q) 0 = v) :
    ∃ G : Nat, IntKind.u64.wrap ((m : Int) * 2 ^ min u 64) / 2 ^ min v 64 = (G : Int) ∧ G < 18446744073709551616 ∧ G % 4294967296 = (if q < 0 then m / 2 ^ (-q).toNat else m * 2 ^ q.toNat) % 4294967296 := by
  have hw : IntKind.u64.wrap ((m : Int) * 2 ^ min u 64) / 2 ^ min v 64 = ((m * 2 ^ min u 64 % 18446744073709551616 / 2 ^ min v 64 : Nat) : Int) := by
    have e1 : (m : Int) * 2 ^ min u 64 = ((m * 2 ^ min u 64 : Nat) : Int) := by simp
    rw [e1]
    show ((m * 2 ^ min u 64 : Nat) : Int) % 18446744073709551616 / _ = _
    simp
  refine ⟨_, hw, Nat.lt_of_le_of_lt (Nat.div_le_self _ _) (Nat.mod_lt _ (by decide)), ?_⟩
  by_cases hq : q < 0
  · have h1 : u = 0 := by omega
    have h2 : (-q).toNat = v := by omega
    subst h1
    rw [if_pos hq, h2, (by omega : min 0 64 = 0), Nat.pow_zero, Nat.mul_one, Nat.mod_eq_of_lt (by omega : m < 18446744073709551616)]
    by_cases h3 : v ≤ 64
    · rw [Nat.min_eq_left h3]
    · have h4 : m / 2 ^ 64 = 0 := Nat.div_eq_of_lt (by omega)
      rw [Nat.min_eq_right (by omega), h4, div_pow_zero h4 (by omega)]
  · have h1 : v = 0 := by omega
    have h2 : q.toNat = u := by omega
    subst h1
    rw [if_neg hq, h2, (by omega : min 0 64 = 0), Nat.pow_zero, Nat.div_one, Nat.mod_mod_of_dvd _ (by decide : 4294967296 ∣ 18446744073709551616)]
    by_cases h3 : u ≤ 64
    · rw [Nat.min_eq_left h3]
    · rw [Nat.min_eq_right (by omega), Nat.mul_mod, Nat.mul_mod m (2 ^ u)]
      have e1 : 2 ^ u = 2 ^ 32 * 2 ^ (u - 32) := by rw [← Nat.pow_add, (by omega : 32 + (u - 32) = u)]
      have e2 : (4294967296 : Nat) = 2 ^ 32 := by decide
      rw [e1, e2, Nat.mul_mod_right]

theorem low32_wrap {G T : Nat} (h : G % 4294967296 = T % 4294967296) : wrap64 (wrap32 (G : Int)) = low32 false T := by
  rw [← low32_mod (b := false) h]
  unfold wrap64 wrap32 low32
  simp only [Bool.false_eq_true, if_false]
  split <;> omega
theorem low32_wrap_neg {G T : Nat} (h : G % 4294967296 = T % 4294967296) : wrap64 (wrap32 (IntKind.u64.wrap (-(G : Int)))) = low32 true T := by
  rw [← low32_mod (b := true) h]
  show wrap64 (wrap32 (-(G : Int) % 18446744073709551616)) = _
  unfold wrap64 wrap32 low32
  simp only [if_true]
  split <;> omega

end Go.Proofs.YtlikjbklagolmaaDoor
