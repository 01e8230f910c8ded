/-
  The walks of the program's own whole numbers of 128 bits: products, their order, roots; and of the whole number brought up.
-/
import Derived.Test.YtepfjeamiokgnaaIAddF
import Derived.Test.YtepfjeamiokgnaaIMulB
import Derived.Test.YtepfjeamiokgnaaKept
namespace Go.Proofs.Ytepfjeamiokgnaa
open Go.RowKit Go.Sort
set_option linter.unusedVariables false

set_option maxHeartbeats 400000 in
set_option maxRecDepth 100000 in
theorem iProduct (a b : Nat) (w : World) (ha : a < 18446744073709551616) (hb : b < 18446744073709551616) :
    Calls Try.prog 48 #[.int .u64 a, .int .u64 b] w fun e w' => e = .returned (.agg #[.int .u64 ((a * b / 18446744073709551616 : Nat) : Int), .int .u64 ((a * b % 18446744073709551616 : Nat) : Int)]) ∧ ∃ o, w' = w.alloc o := by
  have cM := fun W => Try.bits_Mul64 a b ha hb W
  obtain ⟨p, hp⟩ : ∃ p, a * b / 18446744073709551616 = p := ⟨_, rfl⟩
  obtain ⟨q, hq⟩ : ∃ p, a * b % 18446744073709551616 = p := ⟨_, rfl⟩
  rw [hp, hq] at cM ⊢
  clear hp hq ha hb
  go_enter Try.func48, Try.ntmps48
  go_wp2_with (go_at_call 54; refine (cM _).mono ?_; rintro e w' ⟨rfl, rfl⟩)
  go_returns
  exact ⟨rfl, _, rfl⟩

theorem pair_less {a b c d : Nat} (hb : b < 18446744073709551616) (hd : d < 18446744073709551616) : (a * 18446744073709551616 + b < c * 18446744073709551616 + d) ↔ (a < c ∨ (a = c ∧ b < d)) := by omega

set_option maxHeartbeats 400000 in
set_option maxRecDepth 100000 in
theorem iLessThan (a b c d : Nat) (w : World) (hb : b < 18446744073709551616) (hd : d < 18446744073709551616) :
    Calls Try.prog 57 #[.agg #[.int .u64 a, .int .u64 b], .agg #[.int .u64 c, .int .u64 d]] w fun e w' => e = .returned (.bool (decide (a * 18446744073709551616 + b < c * 18446744073709551616 + d))) ∧ Below w.heap.size w w' := by
  obtain ⟨R, hR⟩ : ∃ R, decide (a * 18446744073709551616 + b < c * 18446744073709551616 + d) = R := ⟨_, rfl⟩
  rw [hR]
  have hR2 : R = true ↔ (a < c ∨ (a = c ∧ b < d)) := by rw [← hR, decide_eq_true_iff]; exact pair_less hb hd
  clear hR hb hd
  by_cases h1 : a < c
  · have HR : Hid (Unit → R = true) := fun _ => hR2.mpr (.inl h1)
    clear hR2
    go_enter Try.func57, Try.ntmps57
    go_wp2
    go_ret
    exact ⟨by rw [HR.out ()]; rfl, by go_grown⟩
  · have d1 : decide (a < c) = false := by simpa using h1
    by_cases h2 : a = c
    · subst h2
      by_cases h3 : b < d
      · have HR : Hid (Unit → R = true) := fun _ => hR2.mpr (.inr ⟨rfl, h3⟩)
        clear hR2 h1 d1
        go_enter Try.func57, Try.ntmps57
        go_wp2
        go_ret
        exact ⟨by rw [HR.out ()]; rfl, by go_grown⟩
      · have d3 : decide (b < d) = false := by simpa using h3
        have HR : Hid (Unit → R = false) := fun _ => by rw [Bool.eq_false_iff, ne_eq, hR2]; omega
        clear hR2 h1 d1 h3
        go_enter Try.func57, Try.ntmps57
        go_wp2
        go_ret
        exact ⟨by rw [HR.out ()]; rfl, by go_grown⟩
    · have d2 : ((a : Int) == c) = false := by rw [beq_eq_false_iff_ne]; omega
      have HR : Hid (Unit → R = false) := fun _ => by rw [Bool.eq_false_iff, ne_eq, hR2]; omega
      clear hR2 h1 h2
      go_enter Try.func57, Try.ntmps57
      go_wp2
      go_ret
      exact ⟨by rw [HR.out ()]; rfl, by go_grown⟩

/-- the whole number brought up, at a finite number that is not 0 -/
theorem iHigh (x : Nat) (hx : x < 18446744073709551616) (hk : kindN x = 4) :
    ∃ (M : Nat) (E : Int), UpOf (mantN x) (expN x) M E ∧ -1137 ≤ E ∧ E ≤ 972 ∧ ∀ W, Calls Try.prog 47 #[.int .u64 x] W fun en w' => en = .returned (.tuple #[.int .u64 M, .int .i64 E]) ∧ W = w' := by
  have hm := mantN_lt x
  have h0 := mantN_pos hk
  have e1 := expN_ge x
  have e2 := expN_le x
  have cM := fun W => iMantExp x W hx hk
  obtain ⟨f, M, hf, hM1, hM2, hMm, cU⟩ := iMovedUp (mantN x) (by omega) h0
  refine ⟨M, expN x - f, upOf_of hm hf hMm hM1 hM2, by omega, by omega, fun W => ?_⟩
  have cV := fun W => cU (expN x) W (by omega) (by omega)
  generalize mantN x = m at *
  generalize expN x = e at *
  clear hm h0 hMm cU hM1 hM2 hx hk
  go_enter Try.func47, Try.ntmps47
  go_wp2_with (first | (go_at_call 51; refine (cM _).mono ?_; rintro e w' ⟨rfl, rfl⟩) | (go_at_call 53; refine (cV _).mono ?_; rintro e w' ⟨rfl, rfl⟩))
  go_ret2
  exact ⟨rfl, rfl⟩

end Go.Proofs.Ytepfjeamiokgnaa
