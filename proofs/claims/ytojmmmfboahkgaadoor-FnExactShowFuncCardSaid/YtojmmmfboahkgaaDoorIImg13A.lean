/-
  The program's own ConstOk.
-/
import Derived.Test.YtojmmmfboahkgaaDoorImg13D
import Derived.Test.YtojmmmfboahkgaaDoorIBits
namespace Go.Proofs.YtojmmmfboahkgaaDoor
open Go.RowKit Go.Sort
set_option linter.unusedVariables false

set_option maxHeartbeats 400000 in
set_option maxRecDepth 100000 in
theorem iMayBeConst (x : Nat) (w : World) :
    Calls Tryd.prog 64 #[.int .u64 x] w fun e w' => e = .returned (.bool (decide (kindN x ≠ 1) || decide (x = 9221120237041090560))) ∧ w = w' := by
  have cK := fun W => iKind x W
  obtain ⟨k, hk⟩ : ∃ k, kindN x = k := ⟨_, rfl⟩
  rw [hk]
  simp only [hk] at cK
  by_cases k1 : k = 1
  · subst k1
    by_cases hN : x = 9221120237041090560
    · have hF : (decide ((1 : Nat) ≠ 1) || decide (x = 9221120237041090560)) = true := by rw [decide_eq_true hN]; rfl
      rw [hF]
      have HN : ((x : Int) == 9221120237041090560) = true := by rw [hN]; rfl
      clear hF hN hk
      go_enter Tryd.func64, Tryd.ntmps64
      go_wp2_with (go_at_call 79; refine (cK _).mono ?_; rintro e w' ⟨rfl, rfl⟩)
      go_ret
      exact ⟨rfl, rfl⟩
    · have hF : (decide ((1 : Nat) ≠ 1) || decide (x = 9221120237041090560)) = false := by rw [decide_eq_false hN]; rfl
      rw [hF]
      have HN : ((x : Int) == 9221120237041090560) = false := by rw [beq_eq_false_iff_ne]; omega
      clear hF hN hk
      go_enter Tryd.func64, Tryd.ntmps64
      go_wp2_with (go_at_call 79; refine (cK _).mono ?_; rintro e w' ⟨rfl, rfl⟩)
      go_ret
      exact ⟨rfl, rfl⟩
  · have hF : (decide (k ≠ 1) || decide (x = 9221120237041090560)) = true := by rw [decide_eq_true k1]; rfl
    rw [hF]
    have HN : ¬ (k : Int) = 1 := by omega
    clear hF hk k1
    go_enter Tryd.func64, Tryd.ntmps64
    go_wp2_with (go_at_call 79; refine (cK _).mono ?_; rintro e w' ⟨rfl, rfl⟩)
    go_ret
    exact ⟨rfl, rfl⟩

set_option maxHeartbeats 1000000 in
set_option maxRecDepth 100000 in
theorem iConstOk_any (p : PCon) (w : World) (hp : conW p) :
    Calls Tryd.prog 51 #[.agg #[.int .i64 p.kind, .int .u64 (p.num : Int), .string p.text]] w fun e w' => e = .returned (.bool (conOk p)) ∧ Below w.heap.size w w' := by
  have hx := hp.2.1
  have hs := hp.2.2
  clear hp
  have HF0 : conOk p = (if p.kind = 1 then decide (p.text.size = 0) && (decide (kindN p.num ≠ 1) || decide (p.num = 9221120237041090560)) else if p.kind = 2 then decide (p.num = 0) && decide (p.text.size ≤ 40) else if p.kind = 3 ∨ p.kind = 4 ∨ p.kind = 5 then decide (p.num = 0) && decide (p.text.size = 0) else false) := rfl
  obtain ⟨F, hF⟩ : ∃ F, conOk p = F := ⟨_, rfl⟩
  obtain ⟨k, hk⟩ : ∃ k, p.kind = k := ⟨_, rfl⟩
  obtain ⟨x, hxx⟩ : ∃ x, p.num = x := ⟨_, rfl⟩
  obtain ⟨s, hss⟩ : ∃ s, p.text = s := ⟨_, rfl⟩
  rw [hF, hk, hxx, hss] at HF0
  rw [hF, hk, hxx, hss]
  rw [hxx] at hx
  rw [hss] at hs
  clear hF hk hxx hss p
  unfold maxLen at hs
  have cN := fun W => iMayBeConst x W
  obtain ⟨bn, en⟩ : ∃ b, (decide (kindN x ≠ 1) || decide (x = 9221120237041090560)) = b := ⟨_, rfl⟩
  simp only [en] at cN HF0
  have HF : Hid _ := HF0
  clear en hx HF0
  have b0 : ∀ cs t, Below w.heap.size w (w.alloc (.cells cs t)) := fun cs t => (Below.refl _ _).alloc (Nat.le_refl _) _
  have hse : ¬ s.size = 0 → s.toList.isEmpty = false := full_text
  by_cases k1 : k = 1
  · subst k1
    cases bn with
    | false =>
      have hF : F = false := by rw [HF.out, if_pos rfl]; simp
      subst hF
      clear HF hse
      go_enter Tryd.func51, Tryd.ntmps51
      go_wp2_with (go_at_call 64; refine (cN _).mono ?_; rintro e w' ⟨rfl, rfl⟩)
      go_ret
      exact ⟨rfl, b0 _ _⟩
    | true =>
      by_cases z : s.size = 0
      · have es := empty_is z
        subst es
        have hF : F = true := by rw [HF.out, if_pos rfl, decide_eq_true z]; rfl
        subst hF
        clear HF hse
        go_enter Tryd.func51, Tryd.ntmps51
        go_wp2_with (go_at_call 64; refine (cN _).mono ?_; rintro e w' ⟨rfl, rfl⟩)
        go_ret
        exact ⟨rfl, b0 _ _⟩
      · have hF : F = false := by rw [HF.out, if_pos rfl, decide_eq_false z]; rfl
        subst hF
        have hne := hse z
        clear HF hse
        go_enter Tryd.func51, Tryd.ntmps51
        go_wp2_with (go_at_call 64; refine (cN _).mono ?_; rintro e w' ⟨rfl, rfl⟩)
        go_ret
        exact ⟨rfl, b0 _ _⟩
  by_cases k2 : k = 2
  · subst k2
    by_cases hx0 : x = 0
    · subst hx0
      by_cases z : s.size ≤ 40
      · have hF : F = true := by rw [HF.out, if_neg (by decide), if_pos rfl, decide_eq_true z]; rfl
        subst hF
        have zi : (s.size : Int) ≤ 40 := by omega
        clear HF hse cN
        go_enter Tryd.func51, Tryd.ntmps51
        go_wp2
        go_ret
        exact ⟨rfl, b0 _ _⟩
      · have hF : F = false := by rw [HF.out, if_neg (by decide), if_pos rfl, decide_eq_false z]; rfl
        subst hF
        have zi : ¬ (s.size : Int) ≤ 40 := by omega
        clear HF hse cN
        go_enter Tryd.func51, Tryd.ntmps51
        go_wp2
        go_ret
        exact ⟨rfl, b0 _ _⟩
    · have hF : F = false := by rw [HF.out, if_neg (by decide), if_pos rfl, decide_eq_false hx0]; rfl
      subst hF
      have zi : ((x : Int) == 0) = false := by rw [beq_eq_false_iff_ne]; omega
      clear HF hse cN
      go_enter Tryd.func51, Tryd.ntmps51
      go_wp2
      go_ret
      exact ⟨rfl, b0 _ _⟩
  by_cases k3 : k = 3 ∨ k = 4 ∨ k = 5
  · have HF1 : Hid (F = (decide (x = 0) && decide (s.size = 0))) := by
      have h := HF.out
      rw [if_neg k1, if_neg k2, if_pos k3] at h
      exact h
    clear HF cN k1 k2
    by_cases hx0 : x = 0
    · subst hx0
      by_cases z : s.size = 0
      · have es := empty_is z
        subst es
        have hF : F = true := by rw [HF1.out]; rfl
        subst hF
        clear HF1 hse
        rcases k3 with rfl | rfl | rfl
        all_goals
          go_enter Tryd.func51, Tryd.ntmps51
          go_wp2
          go_ret
          exact ⟨rfl, b0 _ _⟩
      · have hF : F = false := by rw [HF1.out, decide_eq_false z]; rfl
        subst hF
        have hne := hse z
        clear HF1 hse
        rcases k3 with rfl | rfl | rfl
        all_goals
          go_enter Tryd.func51, Tryd.ntmps51
          go_wp2
          go_ret
          exact ⟨rfl, b0 _ _⟩
    · have hF : F = false := by rw [HF1.out, decide_eq_false hx0]; rfl
      subst hF
      have zi : ((x : Int) == 0) = false := by rw [beq_eq_false_iff_ne]; omega
      clear HF1 hse
      rcases k3 with rfl | rfl | rfl
      all_goals
        go_enter Tryd.func51, Tryd.ntmps51
        go_wp2
        go_ret
        exact ⟨rfl, b0 _ _⟩
  have hF : F = false := by rw [HF.out, if_neg k1, if_neg k2, if_neg k3]
  subst hF
  have k3a : ¬ k = 3 := fun h => k3 (.inl h)
  have k4a : ¬ k = 4 := fun h => k3 (.inr (.inl h))
  have k5a : ¬ k = 5 := fun h => k3 (.inr (.inr h))
  clear HF cN hse k3
  go_enter Tryd.func51, Tryd.ntmps51
  go_wp2
  go_ret
  exact ⟨rfl, b0 _ _⟩

end Go.Proofs.YtojmmmfboahkgaaDoor
