/-
  The specification's ConstOk.
-/
import Derived.Test.YtojmmmfboahkgaaDoorImg13C
namespace Go.Proofs.YtojmmmfboahkgaaDoor
open Go.RowKit Go.Sort
set_option linter.unusedVariables false

theorem empty_is {s : ByteArray} (h : s.size = 0) : s = ⟨#[]⟩ := by
  obtain ⟨d⟩ := s
  have : d = #[] := Array.eq_empty_of_size_eq_zero h
  rw [this]

theorem full_text {s : ByteArray} (h : ¬ s.size = 0) : s.toList.isEmpty = false := by
  rw [ByteArray.toList_eq, List.isEmpty_eq_false_iff]
  intro e
  apply h
  show s.data.size = 0
  rw [← Array.length_toList, e]
  rfl

set_option maxHeartbeats 1000000 in
set_option maxRecDepth 100000 in
theorem specConstOk_any (p : PCon) (w : World) (hp : conW p) :
    Calls Tryd.prog 32 #[.agg #[.int .i64 p.kind, .int .u64 (p.num : Int), .string p.text]] w fun e w' => e = .returned (.bool (conOk p)) ∧ Below w.heap.size w w' := by
  have hx := hp.2.1
  have hs := hp.2.2
  clear hp
  have HF0 : conOk p = (if p.kind = 1 then decide (p.text.size = 0) && (decide (kindN p.num ≠ 1) || decide (p.num = 9221120237041090560)) else if p.kind = 2 then decide (p.num = 0) && decide (p.text.size ≤ 40) else if p.kind = 3 ∨ p.kind = 4 ∨ p.kind = 5 then decide (p.num = 0) && decide (p.text.size = 0) else false) := rfl
  obtain ⟨F, hF⟩ : ∃ F, conOk p = F := ⟨_, rfl⟩
  obtain ⟨k, hk⟩ : ∃ k, p.kind = k := ⟨_, rfl⟩
  obtain ⟨x, hxx⟩ : ∃ x, p.num = x := ⟨_, rfl⟩
  obtain ⟨s, hss⟩ : ∃ s, p.text = s := ⟨_, rfl⟩
  rw [hF, hk, hxx, hss] at HF0
  rw [hF, hk, hxx, hss]
  rw [hxx] at hx
  rw [hss] at hs
  have HF : Hid _ := HF0
  clear hF hk hxx hss HF0 p
  unfold maxLen at hs
  have cN := fun W => l03Nan_any x W hx
  obtain ⟨bn, en⟩ : ∃ b, decide (kindN x = 1) = b := ⟨_, rfl⟩
  simp only [en] at cN
  have HE : Hid (decide (kindN x = 1) = bn) := en
  clear en hx
  have b0 : ∀ cs t, Below w.heap.size w (w.alloc (.cells cs t)) := fun cs t => (Below.refl _ _).alloc (Nat.le_refl _) _
  have hse : ¬ s.size = 0 → s.toList.isEmpty = false := full_text
  by_cases k1 : k = 1
  · subst k1
    by_cases z : s.size = 0
    · have es := empty_is z
      subst es
      cases bn with
      | false =>
        have hF : F = true := by
          rw [HF.out, if_pos rfl, decide_eq_true z]
          have := of_decide_eq_false HE.out
          simp [this]
        subst hF
        clear HF HE hse
        go_enter Tryd.func32, Tryd.ntmps32
        go_wp2_with (go_at_call 45; refine (cN _).mono ?_; rintro e w' ⟨rfl, hb⟩)
        go_ret
        exact ⟨rfl, chain (b0 _ _) hb⟩
      | true =>
        have hK : kindN x = 1 := of_decide_eq_true HE.out
        by_cases hN : x = 9221120237041090560
        · have hF : F = true := by
            rw [HF.out, if_pos rfl, decide_eq_true z, decide_eq_true hN]
            simp
          subst hF
          have HN : ((x : Int) == 9221120237041090560) = true := by rw [hN]; rfl
          clear HF HE hse hK hN
          go_enter Tryd.func32, Tryd.ntmps32
          go_wp2_with (go_at_call 45; refine (cN _).mono ?_; rintro e w' ⟨rfl, hb⟩; have q1 := new_cell hb 1 _ rfl)
          go_ret
          exact ⟨rfl, chain (b0 _ _) hb⟩
        · have hF : F = false := by
            rw [HF.out, if_pos rfl, decide_eq_true z, decide_eq_false hN]
            simp [hK]
          subst hF
          have HN : ((x : Int) == 9221120237041090560) = false := by rw [beq_eq_false_iff_ne]; omega
          clear HF HE hse hK hN
          go_enter Tryd.func32, Tryd.ntmps32
          go_wp2_with (go_at_call 45; refine (cN _).mono ?_; rintro e w' ⟨rfl, hb⟩; have q1 := new_cell hb 1 _ rfl)
          go_ret
          exact ⟨rfl, chain (b0 _ _) hb⟩
    · have hF : F = false := by rw [HF.out, if_pos rfl, decide_eq_false z]; rfl
      subst hF
      have hne := hse z
      clear HF HE hse cN
      go_enter Tryd.func32, Tryd.ntmps32
      go_wp2
      go_ret
      exact ⟨rfl, b0 _ _⟩
  by_cases k2 : k = 2
  · subst k2
    by_cases hx0 : x = 0
    · subst hx0
      by_cases z : s.size ≤ 40
      · have hF : F = true := by rw [HF.out, if_neg (by decide), if_pos rfl, decide_eq_true z]; rfl
        subst hF
        have zi : (s.size : Int) ≤ 40 := by omega
        clear HF HE hse cN
        go_enter Tryd.func32, Tryd.ntmps32
        go_wp2
        go_ret
        exact ⟨rfl, b0 _ _⟩
      · have hF : F = false := by rw [HF.out, if_neg (by decide), if_pos rfl, decide_eq_false z]; rfl
        subst hF
        have zi : ¬ (s.size : Int) ≤ 40 := by omega
        clear HF HE hse cN
        go_enter Tryd.func32, Tryd.ntmps32
        go_wp2
        go_ret
        exact ⟨rfl, b0 _ _⟩
    · have hF : F = false := by rw [HF.out, if_neg (by decide), if_pos rfl, decide_eq_false hx0]; rfl
      subst hF
      have zi : ((x : Int) == 0) = false := by rw [beq_eq_false_iff_ne]; omega
      clear HF HE hse cN
      go_enter Tryd.func32, Tryd.ntmps32
      go_wp2
      go_ret
      exact ⟨rfl, b0 _ _⟩
  by_cases k3 : k = 3 ∨ k = 4 ∨ k = 5
  · have HF1 : Hid (F = (decide (x = 0) && decide (s.size = 0))) := by
      have h := HF.out
      rw [if_neg k1, if_neg k2, if_pos k3] at h
      exact h
    clear HF HE cN k1 k2
    by_cases hx0 : x = 0
    · subst hx0
      by_cases z : s.size = 0
      · have es := empty_is z
        subst es
        have hF : F = true := by rw [HF1.out]; rfl
        subst hF
        clear HF1 hse
        rcases k3 with rfl | rfl | rfl
        all_goals
          go_enter Tryd.func32, Tryd.ntmps32
          go_wp2
          go_ret
          exact ⟨rfl, b0 _ _⟩
      · have hF : F = false := by rw [HF1.out, decide_eq_false z]; rfl
        subst hF
        have hne := hse z
        clear HF1 hse
        rcases k3 with rfl | rfl | rfl
        all_goals
          go_enter Tryd.func32, Tryd.ntmps32
          go_wp2
          go_ret
          exact ⟨rfl, b0 _ _⟩
    · have hF : F = false := by rw [HF1.out, decide_eq_false hx0]; rfl
      subst hF
      have zi : ((x : Int) == 0) = false := by rw [beq_eq_false_iff_ne]; omega
      clear HF1 hse
      rcases k3 with rfl | rfl | rfl
      all_goals
        go_enter Tryd.func32, Tryd.ntmps32
        go_wp2
        go_ret
        exact ⟨rfl, b0 _ _⟩
  have hF : F = false := by rw [HF.out, if_neg k1, if_neg k2, if_neg k3]
  subst hF
  have k3a : ¬ k = 3 := fun h => k3 (.inl h)
  have k4a : ¬ k = 4 := fun h => k3 (.inr (.inl h))
  have k5a : ¬ k = 5 := fun h => k3 (.inr (.inr h))
  clear HF HE cN hse k3
  go_enter Tryd.func32, Tryd.ntmps32
  go_wp2
  go_ret
  exact ⟨rfl, b0 _ _⟩

end Go.Proofs.YtojmmmfboahkgaaDoor
