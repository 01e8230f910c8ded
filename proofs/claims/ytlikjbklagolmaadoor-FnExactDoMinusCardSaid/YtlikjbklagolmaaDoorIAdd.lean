/-
  The walks of the program's own Negate, Add and Sub.
-/
import Derived.Test.YtlikjbklagolmaaDoorIRound
import Derived.Test.YtlikjbklagolmaaDoorAddA
import Derived.Test.YtlikjbklagolmaaDoorIAddB
import Derived.Laws.BitsAllLaws
import Derived.Deep.QuietTactic
import Derived.BigQuiet
namespace Go.Proofs.YtlikjbklagolmaaDoor
open Go.RowKit Go.Sort
set_option linter.unusedVariables false

set_option maxHeartbeats 400000 in
set_option maxRecDepth 100000 in
theorem iNegate_w (x : Nat) (w : World) (hx : x < 18446744073709551616) :
    Calls Tryd.prog 17 #[.int .u64 x] w fun e w' => e = .returned (.int .u64 (negN x : Nat)) ∧ w = w' := by
  have cK := fun W => iKind x W
  by_cases hk : kindN x = 1
  · have HN : Hid (Unit → negN x = 9221120237041090560) := fun _ => by unfold negN; rw [if_pos hk]
    rw [hk] at cK
    clear hx hk
    go_enter Tryd.func17, Tryd.ntmps17
    go_wp2_with (go_at_call 23; refine (cK _).mono ?_; rintro e w' ⟨rfl, rfl⟩)
    go_ret
    exact ⟨by rw [HN.out ()]; rfl, rfl⟩
  · have HN : Hid (Unit → negN x = x ^^^ 9223372036854775808) := fun _ => by rw [xor_top hx]; unfold negN; rw [if_neg hk]
    have hxr : bits .xor .u64 (x : Int) 9223372036854775808 = ((x ^^^ 9223372036854775808 : Nat) : Int) := u64_xor_nat x 9223372036854775808 hx (by decide)
    obtain ⟨Z, hZ⟩ : ∃ Z, x ^^^ 9223372036854775808 = Z := ⟨_, rfl⟩
    rw [hZ] at HN hxr
    obtain ⟨k, hk2⟩ : ∃ k, kindN x = k := ⟨_, rfl⟩
    rw [hk2] at cK hk
    have d : ((k : Int) == 1) = false := by rw [beq_eq_false_iff_ne]; omega
    clear hx hk hZ hk2
    go_enter Tryd.func17, Tryd.ntmps17
    go_wp2_with (go_at_call 23; refine (cK _).mono ?_; rintro e w' ⟨rfl, rfl⟩)
    go_ret
    exact ⟨by rw [HN.out ()]; rfl, rfl⟩

theorem iNegate (x : Nat) (w : World) (hx : x < 18446744073709551616) :
    Calls Tryd.prog 17 #[.int .u64 x] w fun e w' => e = .returned (.int .u64 (negN x : Nat)) ∧ Below w.heap.size w w' :=
  (iNegate_w x w hx).mono (by rintro e w' ⟨rfl, rfl⟩; exact ⟨rfl, Below.refl _ _⟩)

end Go.Proofs.YtlikjbklagolmaaDoor
