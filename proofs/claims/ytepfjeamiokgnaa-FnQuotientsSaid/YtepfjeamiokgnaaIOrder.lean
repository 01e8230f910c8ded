/-
  The walks of the program's own Truthy, Equal and Less.
-/
import Derived.Test.YtepfjeamiokgnaaIBits
import Derived.Test.YtepfjeamiokgnaaOrder
namespace Go.Proofs.Ytepfjeamiokgnaa
open Go.RowKit
set_option linter.unusedVariables false

set_option maxHeartbeats 400000 in
set_option maxRecDepth 100000 in
theorem iCompares (a b : Nat) (w : World) :
    Calls Try.prog 36 #[.int .u64 a, .int .u64 b] w fun e w' => e = .returned (.bool (decide (kindN a ≠ 1 ∧ kindN b ≠ 1))) ∧ w = w' := by
  have cA := fun W => iKind a W
  have cB := fun W => iKind b W
  obtain ⟨p, hp⟩ : ∃ p, kindN a = p := ⟨_, rfl⟩
  obtain ⟨q, hq⟩ : ∃ q, kindN b = q := ⟨_, rfl⟩
  rw [hp] at cA
  rw [hq] at cB
  rw [hp, hq]
  clear hp hq
  by_cases h1 : p = 1
  · subst h1
    go_enter Try.func36, Try.ntmps36
    go_wp2_with (go_at_call 35; refine (cA _).mono ?_; rintro e w' ⟨rfl, rfl⟩)
    go_ret
    exact ⟨by simp, rfl⟩
  · have d1 : ((p : Int) != 1) = true := by simp; omega
    by_cases h2 : q = 1
    · subst h2
      go_enter Try.func36, Try.ntmps36
      go_wp2_with fail
      refine (cA _).mono ?_
      rintro e w' ⟨rfl, rfl⟩
      go_wp2_with fail
      refine (cB _).mono ?_
      rintro e w' ⟨rfl, rfl⟩
      go_wp2
      go_ret
      exact ⟨by simp, rfl⟩
    · have d2 : ((q : Int) != 1) = true := by simp; omega
      have HY : Hid (Unit → decide (p ≠ 1 ∧ q ≠ 1) = true) := fun _ => by simp [h1, h2]
      go_enter Try.func36, Try.ntmps36
      go_wp2_with fail
      refine (cA _).mono ?_
      rintro e w' ⟨rfl, rfl⟩
      go_wp2_with fail
      refine (cB _).mono ?_
      rintro e w' ⟨rfl, rfl⟩
      go_wp2
      go_ret
      exact ⟨by rw [HY.out ()]; rfl, rfl⟩

end Go.Proofs.Ytepfjeamiokgnaa
