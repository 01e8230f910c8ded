/-
  The specification's ValueOk, IsTrue.
-/
import Derived.Test.YtlikjbklagolmaaVal17B
namespace Go.Proofs.Ytlikjbklagolmaa
open Go.RowKit Go.Sort
set_option linter.unusedVariables false

set_option maxHeartbeats 1000000 in
set_option maxRecDepth 100000 in
theorem specValueOk_any (p : PVal) (w : World) (hp : valW p) :
    Calls Try.prog 6 #[.agg #[.int .i64 p.kind, .int .u64 (p.num : Int), .string p.text, .int .i64 p.ref]] w fun e w' => e = .returned (.bool (valOk p)) ∧ Below w.heap.size w w' := by
  have hs := hp.2.2.1
  clear hp
  unfold valOk
  obtain ⟨k, x, s, r⟩ := p
  simp only at hs ⊢
  unfold maxLen at hs
  have b0 : ∀ cs t, Below w.heap.size w (w.alloc (.cells cs t)) := fun cs t => (Below.refl _ _).alloc (Nat.le_refl _) _
  obtain ⟨F, hF⟩ : ∃ F, (if k = 0 then decide (x = 0) && (decide (s.size = 0) && decide (r = 0)) else if k = 1 then decide (x ≤ 1) && (decide (s.size = 0) && decide (r = 0)) else if k = 2 then decide (s.size = 0) && decide (r = 0) else if k = 3 then decide (x = 0) && (decide (r = 0) && decide (s.size ≤ 200)) else if k = 4 then decide (x = 0) && (decide (s.size = 0) && decide (0 ≤ r)) else false) = F := ⟨_, rfl⟩
  rw [hF]
  have HF : Hid _ := hF
  clear hF
  by_cases k0 : k = 0
  · subst k0
    by_cases h0 : x = 0
    case neg =>
      have hF : F = false := by
        rw [← HF.out]
        simp [h0]
      subst hF
      clear HF
      have z0 : ((x : Int) == 0) = false := by rw [beq_eq_false_iff_ne]; omega
      go_enter Try.func6, Try.ntmps6
      go_wp2
      go_ret
      exact ⟨rfl, b0 _ _⟩
    by_cases h1 : s.size = 0
    case neg =>
      have hF : F = false := by
        rw [← HF.out]
        simp [h1]
      subst hF
      clear HF
      subst h0
      have z1 := full_text h1
      go_enter Try.func6, Try.ntmps6
      go_wp2
      go_ret
      exact ⟨rfl, b0 _ _⟩
    by_cases h2 : r = 0
    case neg =>
      have hF : F = false := by
        rw [← HF.out]
        simp [h2]
      subst hF
      clear HF
      subst h0
      have z1 := empty_is h1
      subst z1
      have z2 : (r == 0) = false := by rw [beq_eq_false_iff_ne]; exact h2
      go_enter Try.func6, Try.ntmps6
      go_wp2
      go_ret
      exact ⟨rfl, b0 _ _⟩
    have hF : F = true := by
      rw [← HF.out]
      simp [h0, h1, h2]
    subst hF
    clear HF
    subst h0
    have z1 := empty_is h1
    subst z1
    subst h2
    go_enter Try.func6, Try.ntmps6
    go_wp2
    go_ret
    exact ⟨rfl, b0 _ _⟩
  by_cases k1 : k = 1
  · subst k1
    by_cases h0 : x ≤ 1
    case neg =>
      have hF : F = false := by
        rw [← HF.out]
        simp [h0]
      subst hF
      clear HF
      have z0 : ¬ (x : Int) ≤ 1 := by omega
      go_enter Try.func6, Try.ntmps6
      go_wp2
      go_ret
      exact ⟨rfl, b0 _ _⟩
    by_cases h1 : s.size = 0
    case neg =>
      have hF : F = false := by
        rw [← HF.out]
        simp [h1]
      subst hF
      clear HF
      have z0 : (x : Int) ≤ 1 := by omega
      have z1 := full_text h1
      go_enter Try.func6, Try.ntmps6
      go_wp2
      go_ret
      exact ⟨rfl, b0 _ _⟩
    by_cases h2 : r = 0
    case neg =>
      have hF : F = false := by
        rw [← HF.out]
        simp [h2]
      subst hF
      clear HF
      have z0 : (x : Int) ≤ 1 := by omega
      have z1 := empty_is h1
      subst z1
      have z2 : (r == 0) = false := by rw [beq_eq_false_iff_ne]; exact h2
      go_enter Try.func6, Try.ntmps6
      go_wp2
      go_ret
      exact ⟨rfl, b0 _ _⟩
    have hF : F = true := by
      rw [← HF.out]
      simp [h0, h1, h2]
    subst hF
    clear HF
    have z0 : (x : Int) ≤ 1 := by omega
    have z1 := empty_is h1
    subst z1
    subst h2
    go_enter Try.func6, Try.ntmps6
    go_wp2
    go_ret
    exact ⟨rfl, b0 _ _⟩
  by_cases k2 : k = 2
  · subst k2
    by_cases h0 : s.size = 0
    case neg =>
      have hF : F = false := by
        rw [← HF.out]
        simp [h0]
      subst hF
      clear HF
      have z0 := full_text h0
      go_enter Try.func6, Try.ntmps6
      go_wp2
      go_ret
      exact ⟨rfl, b0 _ _⟩
    by_cases h1 : r = 0
    case neg =>
      have hF : F = false := by
        rw [← HF.out]
        simp [h1]
      subst hF
      clear HF
      have z0 := empty_is h0
      subst z0
      have z1 : (r == 0) = false := by rw [beq_eq_false_iff_ne]; exact h1
      go_enter Try.func6, Try.ntmps6
      go_wp2
      go_ret
      exact ⟨rfl, b0 _ _⟩
    have hF : F = true := by
      rw [← HF.out]
      simp [h0, h1]
    subst hF
    clear HF
    have z0 := empty_is h0
    subst z0
    subst h1
    go_enter Try.func6, Try.ntmps6
    go_wp2
    go_ret
    exact ⟨rfl, b0 _ _⟩
  by_cases k3 : k = 3
  · subst k3
    by_cases h0 : x = 0
    case neg =>
      have hF : F = false := by
        rw [← HF.out]
        simp [h0]
      subst hF
      clear HF
      have z0 : ((x : Int) == 0) = false := by rw [beq_eq_false_iff_ne]; omega
      go_enter Try.func6, Try.ntmps6
      go_wp2
      go_ret
      exact ⟨rfl, b0 _ _⟩
    by_cases h1 : r = 0
    case neg =>
      have hF : F = false := by
        rw [← HF.out]
        simp [h1]
      subst hF
      clear HF
      subst h0
      have z1 : (r == 0) = false := by rw [beq_eq_false_iff_ne]; exact h1
      go_enter Try.func6, Try.ntmps6
      go_wp2
      go_ret
      exact ⟨rfl, b0 _ _⟩
    by_cases h2 : s.size ≤ 200
    case neg =>
      have hF : F = false := by
        rw [← HF.out]
        simp [h2]
      subst hF
      clear HF
      subst h0
      subst h1
      have z2 : ¬ (s.size : Int) ≤ 200 := by omega
      go_enter Try.func6, Try.ntmps6
      go_wp2
      go_ret
      exact ⟨rfl, b0 _ _⟩
    have hF : F = true := by
      rw [← HF.out]
      simp [h0, h1, h2]
    subst hF
    clear HF
    subst h0
    subst h1
    have z2 : (s.size : Int) ≤ 200 := by omega
    go_enter Try.func6, Try.ntmps6
    go_wp2
    go_ret
    exact ⟨rfl, b0 _ _⟩
  by_cases k4 : k = 4
  · subst k4
    by_cases h0 : x = 0
    case neg =>
      have hF : F = false := by
        rw [← HF.out]
        simp [h0]
      subst hF
      clear HF
      have z0 : ((x : Int) == 0) = false := by rw [beq_eq_false_iff_ne]; omega
      go_enter Try.func6, Try.ntmps6
      go_wp2
      go_ret
      exact ⟨rfl, b0 _ _⟩
    by_cases h1 : s.size = 0
    case neg =>
      have hF : F = false := by
        rw [← HF.out]
        simp [h1]
      subst hF
      clear HF
      subst h0
      have z1 := full_text h1
      go_enter Try.func6, Try.ntmps6
      go_wp2
      go_ret
      exact ⟨rfl, b0 _ _⟩
    by_cases h2 : 0 ≤ r
    case neg =>
      have hF : F = false := by
        rw [← HF.out]
        simp [h2]
      subst hF
      clear HF
      subst h0
      have z1 := empty_is h1
      subst z1
      go_enter Try.func6, Try.ntmps6
      go_wp2
      go_ret
      exact ⟨rfl, b0 _ _⟩
    have hF : F = true := by
      rw [← HF.out]
      simp [h0, h1, h2]
    subst hF
    clear HF
    subst h0
    have z1 := empty_is h1
    subst z1
    go_enter Try.func6, Try.ntmps6
    go_wp2
    go_ret
    exact ⟨rfl, b0 _ _⟩
  have hF : F = false := by
    rw [← HF.out]
    simp [k0, k1, k2, k3, k4]
  subst hF
  clear HF
  go_enter Try.func6, Try.ntmps6
  go_wp2
  go_ret
  exact ⟨rfl, b0 _ _⟩

end Go.Proofs.Ytlikjbklagolmaa
