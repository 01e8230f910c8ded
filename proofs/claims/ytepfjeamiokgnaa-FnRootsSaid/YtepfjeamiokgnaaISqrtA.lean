/-
  The walk of the program's own Sqrt.
-/
import Derived.Test.YtepfjeamiokgnaaIRoot
namespace Go.Proofs.Ytepfjeamiokgnaa
open Go.RowKit Go.Sort
set_option linter.unusedVariables false

set_option maxHeartbeats 2000000 in
set_option maxRecDepth 100000 in
theorem iSqrt (x : Nat) (w : World) (hx : x < 18446744073709551616) :
    Calls Try.prog 21 #[.int .u64 x] w fun e w' => e = .returned (.int .u64 (sqrtN x : Nat)) ∧ Below w.heap.size w w' := by
  have cB := fun W => iBelow x W
  have cK := fun W => iKind x W
  have HF : Hid (Unit → kindN x = 4 → ∀ W : World, Calls Try.prog 43 #[.int .u64 x] W fun e w' => e = .returned (.int .u64 ((if expN x % 2 = 0 then rootN (mantN x) (expN x / 2) else rootN (mantN x * 2) ((expN x - 1) / 2) : Nat) : Int)) ∧ Below W.heap.size W w') := fun _ k W => iFinRoot x W hx k
  have rb : kindN x ≠ 1 → belowN x = decide (9223372036854775808 ≤ x) := belowN_of
  obtain ⟨s, hs⟩ : ∃ p, decide (9223372036854775808 ≤ x) = p := ⟨_, rfl⟩
  rw [hs] at cB rb
  have HD : Hid (Unit → sqrtN x = sqrtP x (kindN x) (belowN x) (mantN x) (expN x)) := fun _ => rfl
  have HRB : Hid (Unit → kindN x ≠ 1 → belowN x = s) := fun _ => rb
  obtain ⟨R, hR⟩ : ∃ R, sqrtN x = R := ⟨_, rfl⟩
  rw [hR] at HD ⊢
  obtain ⟨k, h1⟩ : ∃ k, kindN x = k := ⟨_, rfl⟩
  rw [h1] at cK HD HRB HF
  have K1 : Hid (Unit → k = 1 ∨ k = 2 ∨ k = 3 ∨ k = 4) := fun _ => by rw [← h1]; exact kindN_cases x
  clear hs hR rb hx h1
  go_enter Try.func21, Try.ntmps21
  go_wp2_with fail
  refine (cK _).mono ?_
  rintro e w' ⟨rfl, rfl⟩
  clear cK
  have hk := K1.out ()
  clear K1
  rcases hk with rfl | rfl | rfl | rfl
  · have HR : Hid (Unit → R = 9221120237041090560) := fun _ => by rw [HD.out ()]; simp [sqrtP]
    clear HD HRB HF
    go_wp2_with (go_at_call 26; refine (cB _).mono ?_; rintro e w' ⟨rfl, rfl⟩)
    go_ret
    exact ⟨by rw [HR.out ()]; rfl, Below.refl _ _⟩
  · cases s
    · have HR : Hid (Unit → R = x) := fun _ => by rw [HD.out (), HRB.out () (by decide)]; simp [sqrtP]
      clear HD HRB HF
      go_wp2_with (go_at_call 26; refine (cB _).mono ?_; rintro e w' ⟨rfl, rfl⟩)
      go_ret
      exact ⟨by rw [HR.out ()]; rfl, Below.refl _ _⟩
    · have HR : Hid (Unit → R = 9221120237041090560) := fun _ => by rw [HD.out (), HRB.out () (by decide)]; simp [sqrtP]
      clear HD HRB HF
      go_wp2_with (go_at_call 26; refine (cB _).mono ?_; rintro e w' ⟨rfl, rfl⟩)
      go_ret
      exact ⟨by rw [HR.out ()]; rfl, Below.refl _ _⟩
  · have HR : Hid (Unit → R = x) := fun _ => by rw [HD.out ()]; simp [sqrtP]
    clear HD HRB HF cB
    go_wp2
    go_ret
    exact ⟨by rw [HR.out ()]; rfl, Below.refl _ _⟩
  · cases s
    · have hR : R = if expN x % 2 = 0 then rootN (mantN x) (expN x / 2) else rootN (mantN x * 2) ((expN x - 1) / 2) := by rw [HD.out (), HRB.out () (by decide)]; simp [sqrtP]
      have cF := HF.out () rfl
      rw [← hR] at cF
      clear HD HRB HF hR
      go_wp2_with fail
      refine (cB _).mono ?_
      rintro e w2 ⟨rfl, rfl⟩
      go_wp2_with fail
      refine (cF _).mono ?_
      rintro e w2 ⟨rfl, hb2⟩
      go_wp2
      go_ret
      exact ⟨rfl, hb2⟩
    · have HR : Hid (Unit → R = 9221120237041090560) := fun _ => by rw [HD.out (), HRB.out () (by decide)]; simp [sqrtP]
      clear HD HRB HF
      go_wp2_with (go_at_call 26; refine (cB _).mono ?_; rintro e w' ⟨rfl, rfl⟩)
      go_ret
      exact ⟨by rw [HR.out ()]; rfl, Below.refl _ _⟩

end Go.Proofs.Ytepfjeamiokgnaa
