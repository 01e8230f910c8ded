/-
  The walks of the program's own Negate, Add and Sub.
-/
import Derived.Test.YtdaebbejpoejcaaIRound
import Derived.Test.YtdaebbejpoejcaaAddA
import Derived.Test.YtdaebbejpoejcaaIAddB
import Derived.Laws.BitsAllLaws
import Derived.Deep.QuietTactic
import Derived.BigQuiet
namespace Go.Proofs.Ytdaebbejpoejcaa
open Go.RowKit Go.Sort
set_option linter.unusedVariables false

set_option maxHeartbeats 400000 in
set_option maxRecDepth 100000 in
theorem iNegate_w (x : Nat) (w : World) (hx : x < 18446744073709551616) :
    Calls Try.prog 29 #[.int .u64 x] w fun e w' => e = .returned (.int .u64 (negN x : Nat)) ∧ w = w' := by
  have cK := fun W => iKind x W
  by_cases hk : kindN x = 1
  · have HN : Hid (Unit → negN x = 9221120237041090560) := fun _ => by unfold negN; rw [if_pos hk]
    rw [hk] at cK
    clear hx hk
    go_enter Try.func29, Try.ntmps29
    go_wp2_with (go_at_call 45; refine (cK _).mono ?_; rintro e w' ⟨rfl, rfl⟩)
    go_ret
    exact ⟨by rw [HN.out ()]; rfl, rfl⟩
  · have HN : Hid (Unit → negN x = x ^^^ 9223372036854775808) := fun _ => by rw [xor_top hx]; unfold negN; rw [if_neg hk]
    have hxr : bits .xor .u64 (x : Int) 9223372036854775808 = ((x ^^^ 9223372036854775808 : Nat) : Int) := u64_xor_nat x 9223372036854775808 hx (by decide)
    obtain ⟨Z, hZ⟩ : ∃ Z, x ^^^ 9223372036854775808 = Z := ⟨_, rfl⟩
    rw [hZ] at HN hxr
    obtain ⟨k, hk2⟩ : ∃ k, kindN x = k := ⟨_, rfl⟩
    rw [hk2] at cK hk
    have d : ((k : Int) == 1) = false := by rw [beq_eq_false_iff_ne]; omega
    clear hx hk hZ hk2
    go_enter Try.func29, Try.ntmps29
    go_wp2_with (go_at_call 45; refine (cK _).mono ?_; rintro e w' ⟨rfl, rfl⟩)
    go_ret
    exact ⟨by rw [HN.out ()]; rfl, rfl⟩

theorem iNegate (x : Nat) (w : World) (hx : x < 18446744073709551616) :
    Calls Try.prog 29 #[.int .u64 x] w fun e w' => e = .returned (.int .u64 (negN x : Nat)) ∧ Below w.heap.size w w' :=
  (iNegate_w x w hx).mono (by rintro e w' ⟨rfl, rfl⟩; exact ⟨rfl, Below.refl _ _⟩)

set_option maxHeartbeats 400000 in
set_option maxRecDepth 100000 in
theorem iMantRaw (x : Nat) (w : World) (hx : x < 18446744073709551616) :
    Calls Try.prog 54 #[.int .u64 x] w fun e w' => e = .returned (.tuple #[.int .u64 (rawM x : Nat), .int .i64 (rawE x)]) ∧ w = w' := by
  have hx' : (x : Int) < 18446744073709551616 := by omega
  by_cases h : x / 4503599627370496 % 2048 = 0
  · have g : (x : Int) / 4503599627370496 % 2048 = 0 := by omega
    have HM : Hid (Unit → (rawM x : Int) = (x : Int) % 4503599627370496) := fun _ => by simp [rawM, h]
    have HE : Hid (Unit → rawE x = -1074) := fun _ => by simp [rawE, h]
    clear h hx
    go_enter Try.func54, Try.ntmps54
    go_wp2
    go_ret2
    exact ⟨by rw [HM.out (), HE.out ()]; rfl, rfl⟩
  · have g : ((x : Int) / 4503599627370496 % 2048 == 0) = false := by rw [beq_eq_false_iff_ne]; omega
    have HM : Hid (Unit → (rawM x : Int) = 4503599627370496 + (x : Int) % 4503599627370496) := fun _ => by simp [rawM, h]
    have HE : Hid (Unit → rawE x = -1074 + (x : Int) / 4503599627370496 % 2048 - 1) := fun _ => by simp [rawE, h]; omega
    clear h hx
    go_enter Try.func54, Try.ntmps54
    go_wp2
    go_ret2
    exact ⟨by rw [HM.out (), HE.out ()]; rfl, rfl⟩

set_option maxHeartbeats 400000 in
set_option maxRecDepth 100000 in
theorem iStand (g l : Nat) (w : World) :
    Calls Try.prog 58 #[.agg #[.int .u64 g, .int .u64 l]] w fun e w' => e = .returned (.agg #[.int .u64 g, .int .u64 l]) ∧ ∃ o p, w' = (w.alloc o).alloc p := by
  go_enter Try.func58, Try.ntmps58
  go_wp2
  go_returns
  exact ⟨rfl, _, _, rfl⟩

set_option maxHeartbeats 400000 in
set_option maxRecDepth 100000 in
theorem iSwapped (g l : Nat) (w : World) :
    Calls Try.prog 59 #[.agg #[.int .u64 g, .int .u64 l]] w fun e w' => e = .returned (.agg #[.int .u64 l, .int .u64 g]) ∧ ∃ o p, w' = (w.alloc o).alloc p := by
  go_enter Try.func59, Try.ntmps59
  go_wp2
  go_returns
  exact ⟨rfl, _, _, rfl⟩

set_option maxHeartbeats 400000 in
set_option maxRecDepth 100000 in
theorem iAddends (a b : Nat) (w : World) :
    Calls Try.prog 46 #[.int .u64 a, .int .u64 b] w fun e w' => e = .returned (.agg #[.int .u64 ((if a % 9223372036854775808 < b % 9223372036854775808 then b else a : Nat) : Int), .int .u64 ((if a % 9223372036854775808 < b % 9223372036854775808 then a else b : Nat) : Int)]) ∧ Below w.heap.size w w' := by
  have cA := fun W => iSize a W
  have cB := fun W => iSize b W
  have c1 := fun W => iStand a b W
  have c2 := fun W => iSwapped a b W
  obtain ⟨p, hp⟩ : ∃ p : Int, (a : Int) % 9223372036854775808 = p := ⟨_, rfl⟩
  obtain ⟨q, hq⟩ : ∃ p : Int, (b : Int) % 9223372036854775808 = p := ⟨_, rfl⟩
  rw [hp] at cA
  rw [hq] at cB
  by_cases h : p < q
  · rw [if_pos (by omega), if_pos (by omega)]
    clear hp hq c1
    go_enter Try.func46, Try.ntmps46
    go_wp2_with fail
    refine (cB _).mono ?_
    rintro e w' ⟨rfl, rfl⟩
    go_wp2_with fail
    refine (cA _).mono ?_
    rintro e w' ⟨rfl, rfl⟩
    go_wp2_with fail
    refine (c2 _).mono ?_
    rintro e w' ⟨rfl, o, p, rfl⟩
    go_wp2
    go_returns
    exact ⟨rfl, by go_grown⟩
  · rw [if_neg (by omega), if_neg (by omega)]
    have d : decide (p < q) = false := by simpa using h
    clear hp hq c2
    go_enter Try.func46, Try.ntmps46
    go_wp2_with fail
    refine (cB _).mono ?_
    rintro e w' ⟨rfl, rfl⟩
    go_wp2_with fail
    refine (cA _).mono ?_
    rintro e w' ⟨rfl, rfl⟩
    go_wp2_with fail
    refine (c1 _).mono ?_
    rintro e w' ⟨rfl, o, p, rfl⟩
    go_wp2
    go_returns
    exact ⟨rfl, by go_grown⟩

set_option maxHeartbeats 1000000 in
set_option maxRecDepth 100000 in
theorem iUnlike (g l : Nat) (w : World) :
    Calls Try.prog 47 #[.agg #[.int .u64 g, .int .u64 l]] w fun e w' => e = .returned (.bool (decide (9223372036854775808 ≤ g) != decide (9223372036854775808 ≤ l))) ∧ ∃ o n, w' = (w.alloc o).drewN n := by
  have cG := fun W => iBelow g W
  have cL := fun W => iBelow l W
  obtain ⟨p, hp⟩ : ∃ p, decide (9223372036854775808 ≤ g) = p := ⟨_, rfl⟩
  obtain ⟨q, hq⟩ : ∃ p, decide (9223372036854775808 ≤ l) = p := ⟨_, rfl⟩
  rw [hp] at cG ⊢
  rw [hq] at cL ⊢
  clear hp hq
  have qG := fun (W : World) (n : Nat) => Calls.quiet_of_same ((cG (W.drewN n)).mono (by rintro e w' ⟨rfl, rfl⟩; exact ⟨rfl, rfl⟩))
  have qL := fun (W : World) (n : Nat) => Calls.quiet_of_same ((cL (W.drewN n)).mono (by rintro e w' ⟨rfl, rfl⟩; exact ⟨rfl, rfl⟩))
  go_enter Try.func47, Try.ntmps47
  go_wp2_with fail
  go_quiet (first | exact qG _ _ | exact qL _ _)
  go_wp2
  go_ret
  exact ⟨rfl, _, _, rfl⟩

end Go.Proofs.Ytdaebbejpoejcaa
