/-
  The walks of the program's own numbers: kinds, parts, signs.
-/
import Derived.Test.YtojmmmfboahkgaaDoorIRoundB
import Derived.Test.YtojmmmfboahkgaaDoorBits
import Derived.Laws.BitsAllLaws
namespace Go.Proofs.YtojmmmfboahkgaaDoor
open Go.RowKit
set_option linter.unusedVariables false

set_option maxRecDepth 100000 in
theorem iSize (x : Nat) (w : World) :
    Calls Tryd.prog 85 #[.int .u64 x] w fun e w' => e = .returned (.int .u64 ((x : Int) % 9223372036854775808)) ∧ w = w' := by
  go_enter Tryd.func85, Tryd.ntmps85
  go_wp2
  go_ret
  exact ⟨rfl, rfl⟩

set_option maxHeartbeats 400000 in
set_option maxRecDepth 100000 in
theorem iKind (x : Nat) (w : World) :
    Calls Tryd.prog 79 #[.int .u64 x] w fun e w' => e = .returned (.int .i64 (kindN x : Nat)) ∧ w = w' := by
  have cS := fun W => iSize x W
  obtain ⟨s, hs⟩ : ∃ s : Int, (x : Int) % 9223372036854775808 = s := ⟨_, rfl⟩
  rw [hs] at cS
  by_cases h1 : 9218868437227405312 < s
  · have HK : Hid (Unit → kindN x = 1) := fun _ => kind_nan (by omega)
    clear hs
    go_enter Tryd.func79, Tryd.ntmps79
    go_wp2_with (go_at_call 85; refine (cS _).mono ?_; rintro e w' ⟨rfl, rfl⟩)
    go_ret
    exact ⟨by rw [HK.out ()]; rfl, rfl⟩
  · have d1 : decide (9218868437227405312 < s) = false := by simp; omega
    by_cases h2 : s = 9218868437227405312
    · have HK : Hid (Unit → kindN x = 2) := fun _ => kind_inf (by omega)
      clear hs h1 d1
      subst h2
      go_enter Tryd.func79, Tryd.ntmps79
      go_wp2_with (go_at_call 85; refine (cS _).mono ?_; rintro e w' ⟨rfl, rfl⟩)
      go_ret
      exact ⟨by rw [HK.out ()]; rfl, rfl⟩
    · have d2 : (s == 9218868437227405312) = false := by rw [beq_eq_false_iff_ne]; exact h2
      by_cases h3 : s = 0
      · have HK : Hid (Unit → kindN x = 3) := fun _ => kind_zero (by omega)
        clear hs h1 d1 h2 d2
        subst h3
        go_enter Tryd.func79, Tryd.ntmps79
        go_wp2_with (go_at_call 85; refine (cS _).mono ?_; rintro e w' ⟨rfl, rfl⟩)
        go_ret
        exact ⟨by rw [HK.out ()]; rfl, rfl⟩
      · have d3 : (s == 0) = false := by rw [beq_eq_false_iff_ne]; exact h3
        have HK : Hid (Unit → kindN x = 4) := fun _ => kind_fin (by omega) (by omega)
        clear hs h1 h2 h3
        go_enter Tryd.func79, Tryd.ntmps79
        go_wp2_with (go_at_call 85; refine (cS _).mono ?_; rintro e w' ⟨rfl, rfl⟩)
        go_ret
        exact ⟨by rw [HK.out ()]; rfl, rfl⟩

theorem partsV_nan {x : Nat} (h : kindN x = 1) : partsV x = .agg #[.int .i64 1, .bool false, .int .u64 0, .int .i64 0] := by simp [partsV, mantN, expN, belowN, h]
theorem partsV_two {x k : Nat} (h : kindN x = k) (h1 : k ≠ 1) (h4 : k ≠ 4) : partsV x = .agg #[.int .i64 k, .bool (decide (9223372036854775808 ≤ x)), .int .u64 0, .int .i64 0] := by simp [partsV, mantN, expN, belowN, h, h1, h4]
theorem partsV_four {x : Nat} (h : kindN x = 4) : partsV x = .agg #[.int .i64 4, .bool (decide (9223372036854775808 ≤ x)), .int .u64 (mantN x : Nat), .int .i64 (expN x)] := by simp [partsV, belowN, h]

theorem or_top {x : Nat} (h : x < 9223372036854775808) : x ||| 9223372036854775808 = x + 9223372036854775808 := by
  have := Nat.two_pow_add_eq_or_of_lt (i := 63) (b := x) (by simpa using h) 1
  simp at this
  rw [Nat.or_comm, Nat.add_comm, ← this]

end Go.Proofs.YtojmmmfboahkgaaDoor
