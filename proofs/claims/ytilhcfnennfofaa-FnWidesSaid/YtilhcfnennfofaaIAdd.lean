/-
  The walks of the program's own Negate, Add and Sub.
-/
import Derived.Test.YtilhcfnennfofaaIRound
import Derived.Test.YtilhcfnennfofaaAddA
import Derived.Test.YtilhcfnennfofaaIAddB
import Derived.Laws.BitsAllLaws
import Derived.Deep.QuietTactic
import Derived.BigQuiet
namespace Go.Proofs.Ytilhcfnennfofaa
open Go.RowKit Go.Sort
set_option linter.unusedVariables false

set_option maxHeartbeats 400000 in
set_option maxRecDepth 100000 in
theorem iMantRaw (x : Nat) (w : World) (hx : x < 18446744073709551616) :
    Calls Try.prog 46 #[.int .u64 x] w fun e w' => e = .returned (.tuple #[.int .u64 (rawM x : Nat), .int .i64 (rawE x)]) ∧ w = w' := by
  have hx' : (x : Int) < 18446744073709551616 := by omega
  by_cases h : x / 4503599627370496 % 2048 = 0
  · have g : (x : Int) / 4503599627370496 % 2048 = 0 := by omega
    have HM : Hid (Unit → (rawM x : Int) = (x : Int) % 4503599627370496) := fun _ => by simp [rawM, h]
    have HE : Hid (Unit → rawE x = -1074) := fun _ => by simp [rawE, h]
    clear h hx
    go_enter Try.func46, Try.ntmps46
    go_wp2
    go_ret2
    exact ⟨by rw [HM.out (), HE.out ()]; rfl, rfl⟩
  · have g : ((x : Int) / 4503599627370496 % 2048 == 0) = false := by rw [beq_eq_false_iff_ne]; omega
    have HM : Hid (Unit → (rawM x : Int) = 4503599627370496 + (x : Int) % 4503599627370496) := fun _ => by simp [rawM, h]
    have HE : Hid (Unit → rawE x = -1074 + (x : Int) / 4503599627370496 % 2048 - 1) := fun _ => by simp [rawE, h]; omega
    clear h hx
    go_enter Try.func46, Try.ntmps46
    go_wp2
    go_ret2
    exact ⟨by rw [HM.out (), HE.out ()]; rfl, rfl⟩

end Go.Proofs.Ytilhcfnennfofaa
