/-
  The walk of the specification's Sqrt.
-/
import Derived.Test.YtepfjeamiokgnaaSqrtF
namespace Go.Proofs.Ytepfjeamiokgnaa
open Go.RowKit
set_option linter.unusedVariables false

set_option maxHeartbeats 4000000 in
set_option maxRecDepth 100000 in
theorem specSqrt_any (x : Nat) (w : World) (hx : x < 18446744073709551616) :
    Calls Try.prog 22 #[.int .u64 x] w fun e w' => e = .returned (.int .u64 (sqrtN x : Nat)) ∧ Below w.heap.size w w' := by
  by_cases hkk : kindN x = 4 ∧ belowN x = false
  · exact specSqrt_fin x w hx hkk.1 hkk.2
  have cA := fun W => specParts_any x W hx
  unfold partsV at cA
  have HD : Hid (Unit → sqrtN x = if kindN x = 3 ∨ (kindN x = 2 ∧ belowN x = false) then x else 9221120237041090560) := fun _ => by
    unfold sqrtN sqrtP
    split
    · rfl
    · rw [if_pos]
      rcases Nat.lt_or_ge (kindN x) 4 with h | h
      · left; omega
      · by_cases h4 : kindN x = 4
        · right
          cases hb : belowN x
          · exact (hkk ⟨h4, hb⟩).elim
          · rfl
        · exact .inl h4
  have hK := kindN_cases x
  have HN : Hid (Unit → kindN x = 4 → belowN x = false → False) := fun _ h1 h2 => hkk ⟨h1, h2⟩
  clear hkk
  generalize kindN x = k at *
  generalize belowN x = s at *
  generalize mantN x = m at *
  generalize expN x = e at *
  obtain ⟨R, hR⟩ : ∃ R, sqrtN x = R := ⟨_, rfl⟩
  rw [hR] at HD ⊢
  clear hR hx
  rcases hK with rfl | rfl | rfl | rfl
  · go_enter Try.func22, Try.ntmps22
    go_wp2_with (go_at_call 12; refine (cA _).mono ?_; rintro en w1 ⟨rfl, hb1⟩)
    go_ret
    exact ⟨by rw [HD.out ()]; simp, hb1.alloc hb1.size _⟩
  · cases s
    all_goals
      go_enter Try.func22, Try.ntmps22
      go_wp2_with (go_at_call 12; refine (cA _).mono ?_; rintro en w1 ⟨rfl, hb1⟩)
      go_ret
      exact ⟨by rw [HD.out ()]; simp, hb1.alloc hb1.size _⟩
  · go_enter Try.func22, Try.ntmps22
    go_wp2_with (go_at_call 12; refine (cA _).mono ?_; rintro en w1 ⟨rfl, hb1⟩)
    go_ret
    exact ⟨by rw [HD.out ()]; simp, hb1.alloc hb1.size _⟩
  · cases s
    · exact (HN.out () rfl rfl).elim
    · go_enter Try.func22, Try.ntmps22
      go_wp2_with (go_at_call 12; refine (cA _).mono ?_; rintro en w1 ⟨rfl, hb1⟩)
      go_ret
      exact ⟨by rw [HD.out ()]; simp, hb1.alloc hb1.size _⟩

end Go.Proofs.Ytepfjeamiokgnaa
