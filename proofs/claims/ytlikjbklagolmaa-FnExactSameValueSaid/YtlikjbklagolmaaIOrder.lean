/-
  The walks of the program's own Truthy, Equal and Less.
-/
import Derived.Test.YtlikjbklagolmaaIBits
import Derived.Test.YtlikjbklagolmaaOrder
namespace Go.Proofs.Ytlikjbklagolmaa
open Go.RowKit
set_option linter.unusedVariables false

set_option maxHeartbeats 400000 in
set_option maxRecDepth 100000 in
theorem iRank (x : Nat) (w : World) (hx : x < 18446744073709551616) :
    Calls Try.prog 18 #[.int .u64 x] w fun e w' => e = .returned (.int .i64 (keyN x)) ∧ w = w' := by
  have cB := fun W => iBelow x W
  have cS := fun W => iSize x W
  by_cases h : (9223372036854775808 : Int) ≤ x
  · rw [decide_eq_true (by omega : 9223372036854775808 ≤ x)] at cB
    obtain ⟨s, hs⟩ : ∃ s : Int, (x : Int) % 9223372036854775808 = s := ⟨_, rfl⟩
    rw [hs] at cS
    have HY : Hid (Unit → keyN x = -s) := fun _ => by unfold keyN; rw [if_pos (by omega)]; omega
    have s1 : 0 ≤ s := by omega
    have s2 : s < 9223372036854775808 := by omega
    clear hs h hx
    go_enter Try.func18, Try.ntmps18
    go_wp2_with (first | (go_at_call 22; refine (cB _).mono ?_; rintro e w' ⟨rfl, rfl⟩) | (go_at_call 23; refine (cS _).mono ?_; rintro e w' ⟨rfl, rfl⟩))
    go_ret
    exact ⟨by rw [HY.out ()]; rfl, rfl⟩
  · rw [decide_eq_false (by omega : ¬9223372036854775808 ≤ x)] at cB
    have HY : Hid (Unit → keyN x = x) := fun _ => by unfold keyN; rw [if_neg (by omega)]
    have h' : (x : Int) < 9223372036854775808 := by omega
    clear h hx
    go_enter Try.func18, Try.ntmps18
    go_wp2_with (go_at_call 22; refine (cB _).mono ?_; rintro e w' ⟨rfl, rfl⟩)
    go_ret
    exact ⟨by rw [HY.out ()]; rfl, rfl⟩

set_option maxHeartbeats 400000 in
set_option maxRecDepth 100000 in
theorem iCompares (a b : Nat) (w : World) :
    Calls Try.prog 17 #[.int .u64 a, .int .u64 b] w fun e w' => e = .returned (.bool (decide (kindN a ≠ 1 ∧ kindN b ≠ 1))) ∧ w = w' := by
  have cA := fun W => iKind a W
  have cB := fun W => iKind b W
  obtain ⟨p, hp⟩ : ∃ p, kindN a = p := ⟨_, rfl⟩
  obtain ⟨q, hq⟩ : ∃ q, kindN b = q := ⟨_, rfl⟩
  rw [hp] at cA
  rw [hq] at cB
  rw [hp, hq]
  clear hp hq
  by_cases h1 : p = 1
  · subst h1
    go_enter Try.func17, Try.ntmps17
    go_wp2_with (go_at_call 21; refine (cA _).mono ?_; rintro e w' ⟨rfl, rfl⟩)
    go_ret
    exact ⟨by simp, rfl⟩
  · have d1 : ((p : Int) != 1) = true := by simp; omega
    by_cases h2 : q = 1
    · subst h2
      go_enter Try.func17, Try.ntmps17
      go_wp2_with fail
      refine (cA _).mono ?_
      rintro e w' ⟨rfl, rfl⟩
      go_wp2_with fail
      refine (cB _).mono ?_
      rintro e w' ⟨rfl, rfl⟩
      go_wp2
      go_ret
      exact ⟨by simp, rfl⟩
    · have d2 : ((q : Int) != 1) = true := by simp; omega
      have HY : Hid (Unit → decide (p ≠ 1 ∧ q ≠ 1) = true) := fun _ => by simp [h1, h2]
      go_enter Try.func17, Try.ntmps17
      go_wp2_with fail
      refine (cA _).mono ?_
      rintro e w' ⟨rfl, rfl⟩
      go_wp2_with fail
      refine (cB _).mono ?_
      rintro e w' ⟨rfl, rfl⟩
      go_wp2
      go_ret
      exact ⟨by rw [HY.out ()]; rfl, rfl⟩

set_option maxHeartbeats 1000000 in
set_option maxRecDepth 100000 in
theorem iEqual (a b : Nat) (w : World) (ha : a < 18446744073709551616) (hb : b < 18446744073709551616) :
    Calls Try.prog 14 #[.int .u64 a, .int .u64 b] w fun e w' => e = .returned (.bool (equalN a b)) ∧ Below w.heap.size w w' := by
  have cC := fun W => iCompares a b W
  have cA := fun W => iRank a W ha
  have cB := fun W => iRank b W hb
  clear ha hb
  have HE : Hid (Unit → equalN a b = (decide (kindN a ≠ 1 ∧ kindN b ≠ 1) && (keyN a == keyN b))) := fun _ => by
    rw [equalN, Bool.eq_iff_iff]
    simp [and_assoc]
  rw [HE.out ()]
  clear HE
  obtain ⟨c, hc⟩ : ∃ c, decide (kindN a ≠ 1 ∧ kindN b ≠ 1) = c := ⟨_, rfl⟩
  obtain ⟨p, hp⟩ : ∃ p, keyN a = p := ⟨_, rfl⟩
  obtain ⟨q, hq⟩ : ∃ q, keyN b = q := ⟨_, rfl⟩
  rw [hc] at cC ⊢
  rw [hp] at cA ⊢
  rw [hq] at cB ⊢
  clear hc hp hq
  cases c
  · go_enter Try.func14, Try.ntmps14
    go_wp2_with (go_at_call 17; refine (cC _).mono ?_; rintro e w' ⟨rfl, rfl⟩)
    go_ret
    exact ⟨rfl, Below.refl _ _⟩
  · go_enter Try.func14, Try.ntmps14
    go_wp2_with fail
    refine (cC _).mono ?_
    rintro e w' ⟨rfl, rfl⟩
    go_wp2_with fail
    refine (cA _).mono ?_
    rintro e w' ⟨rfl, rfl⟩
    go_wp2_with fail
    refine (cB _).mono ?_
    rintro e w' ⟨rfl, rfl⟩
    go_wp2
    go_ret
    exact ⟨rfl, Below.refl _ _⟩

end Go.Proofs.Ytlikjbklagolmaa
