/-
  Part 11 of what is proved of drawn right trees.
-/
import Derived.Test.YtbgdapdenbldmaaPag
import Derived.Test.YtbgdapdenbldmaaPae
import Derived.Laws.BitsAllLaws

namespace Go.Proofs.Ytbgdapdenbldmaa
open Go.RowKit Go.Sort
set_option linter.unusedVariables false
set_option maxHeartbeats 1000000 in
set_option maxRecDepth 100000 in
theorem iHolds (s : PSta) (v : Value) (r want : Int) (w : World) (h : ArgI w v s.regs) (h0 : 0 ≤ r) :
    Calls Try.prog 133 #[.agg #[.int .i64 s.acc, v], .int .i64 r, .int .i64 want] w fun e w' => e = .returned (.bool (regIs s r want)) ∧ Below w.heap.size w w' := by
  obtain ⟨x, c, rfl, hm, hc⟩ := h.opened
  clear h
  unfold maxLen at hm
  have HF0 : regIs s r want = (inB r 0 ((s.regs.length : Int) - 1) && decide (s.regs[r.toNat]? = some want)) := rfl
  obtain ⟨F, hF⟩ : ∃ F, regIs s r want = F := ⟨_, rfl⟩
  rw [hF] at HF0 ⊢
  obtain ⟨n, hn⟩ : ∃ n, s.regs.length = n := ⟨_, rfl⟩
  rw [hn] at hm hc HF0 ⊢
  have HN : Hid (s.regs.length = n) := hn
  clear hn hF
  have b0 : Below w.heap.size w (w.alloc (.cells #[.int .i64 s.acc, .slice x n c] 98)) := (Below.refl _ _).alloc (Nat.le_refl _) _
  have HF : Hid (F = (inB r 0 ((n : Int) - 1) && decide (s.regs[r.toNat]? = some want))) := HF0
  clear HF0
  obtain ⟨K, rfl⟩ : ∃ K : Nat, r = (K : Int) := ⟨r.toNat, by omega⟩
  by_cases hk : K < n
  case neg =>
    have hF : F = false := by
      rw [HF.out]
      have : inB (K : Int) 0 ((n : Int) - 1) = false := by
        unfold inB
        rw [decide_eq_false (p := (K : Int) ≤ (n : Int) - 1) (by omega), Bool.and_false]
      rw [this]; rfl
    subst hF
    have hk1 : ¬ (K : Int) < (n : Int) := by omega
    clear HF hc HN
    go_enter Try.func133, Try.ntmps133
    go_wp2
    go_ret
    exact ⟨rfl, b0⟩
  case pos =>
    obtain ⟨b, o, rfl, hb, hcell⟩ := hc (by omega)
    obtain ⟨z, hz⟩ : ∃ z, s.regs[K]? = some z := ⟨_, List.getElem?_eq_getElem (by have := HN.out; omega)⟩
    have g1 : (w.alloc (.cells #[.int .i64 s.acc, .slice (some ⟨b, o, none⟩) n c] 98)).cell? ⟨b, o + K, none⟩ = some (.int .i64 z) := (b0.cell hb).trans (hcell K z hz)
    have hk1 : (K : Int) < (n : Int) := by omega
    have hk0 : (0 : Int) ≤ (K : Int) := by omega
    have hF : F = decide (z = want) := by
      have : inB (K : Int) 0 ((n : Int) - 1) = true := by
        unfold inB
        rw [decide_eq_true (p := (K : Int) ≤ (n : Int) - 1) (by omega), decide_eq_true (p := (0 : Int) ≤ (K : Int)) (by omega)]
        rfl
      rw [HF.out, this, Int.toNat_natCast, hz, Bool.true_and]
      simp
    clear HF HN hcell hz hc
    obtain ⟨W0, hW0⟩ : ∃ W, w.alloc (.cells #[.int .i64 s.acc, .slice (some ⟨b, o, none⟩) n c] 98) = W := ⟨_, rfl⟩
    have g2 : W0.cell? ⟨w.heap.size, 1, none⟩ = some (.slice (some ⟨b, o, none⟩) n c) := by
      rw [← hW0, cell_of_row _ _ 1 _ _ _ (heap_alloc_new w _)]
      rfl
    rw [hW0] at g1 b0
    have HW0 : Hid (w.alloc (.cells #[.int .i64 s.acc, .slice (some ⟨b, o, none⟩) n c] 98) = W0) := hW0
    clear hW0
    by_cases e : z = want
    · subst e
      have hF' : F = true := by rw [hF]; simp
      subst hF'
      clear hF
      go_enter Try.func133, Try.ntmps133
      go_upto_region 1 with fail
      rw [HW0.out]
      clear HW0
      go_wp2
      go_ret
      exact ⟨rfl, b0⟩
    · have hF' : F = false := by rw [hF]; exact decide_eq_false e
      subst hF'
      have hne : (z == want) = false := by rw [beq_eq_false_iff_ne]; exact e
      clear hF
      go_enter Try.func133, Try.ntmps133
      go_upto_region 1 with fail
      rw [HW0.out]
      clear HW0
      go_wp2
      go_ret
      exact ⟨rfl, b0⟩
set_option maxHeartbeats 1000000 in
set_option maxRecDepth 100000 in
theorem iHoldValues (s : PSta) (v : Value) (a b : Int) (w : World) (h : ArgI w v s.regs) (h0 : 0 ≤ a) (h1 : 0 ≤ b) (h2 : a ≤ 300) (h3 : b ≤ 300) :
    Calls Try.prog 135 #[.agg #[.int .i64 s.acc, v], .int .i64 a, .int .i64 (a + b)] w fun e w' => e = .returned (.bool ((List.range (b + 1).toNat).all fun (k : Nat) => regIs s (a + k) 1)) ∧ Below w.heap.size w w' := by
  obtain ⟨x, c, rfl, hm, hc⟩ := h.opened
  obtain ⟨n, hn⟩ : ∃ n, s.regs.length = n := ⟨_, rfl⟩
  rw [hn] at hm h ⊢
  have HI : Hid (ArgI w (.slice x n c) s.regs) := h
  clear hn hm hc h
  obtain ⟨F, hF⟩ : ∃ F, ((List.range (b + 1).toNat).all fun (k : Nat) => regIs s (a + k) 1) = F := ⟨_, rfl⟩
  rw [hF]
  have HF : Hid (((List.range (b + 1).toNat).all fun (k : Nat) => regIs s (a + k) 1) = F) := hF
  clear hF
  obtain ⟨Q, hQ⟩ : ∃ q, a + b = q := ⟨_, rfl⟩
  rw [hQ]
  have HQ : Hid (a + b = Q) := hQ
  have hQ3 : Q ≤ 600 := by omega
  clear hQ
  have b0 : Below w.heap.size w (w.alloc (.cells #[.int .i64 s.acc, .slice x n c] 98)) := (Below.refl _ _).alloc (Nat.le_refl _) _
  have hG : (w.alloc (.cells #[.int .i64 s.acc, .slice x n c] 98)).heap[w.heap.size]? = some (.cells #[.int .i64 s.acc, .slice x n c] 98 (0, 0)) := heap_alloc_new w _
  obtain ⟨W0, hW0⟩ : ∃ W, w.alloc (.cells #[.int .i64 s.acc, .slice x n c] 98) = W := ⟨_, rfl⟩
  rw [hW0] at b0 hG
  have hlt : w.heap.size < W0.heap.size := by rw [← hW0]; simp
  have HW0 : Hid (_ = W0) := hW0
  clear hW0
  go_enter Try.func135, Try.ntmps135
  go_upto_region 1 with fail
  rw [HW0.out]
  clear HW0
  go_wp2
  go_loopw [7] (fun i wr => ∃ k : Nat, i = .int .i64 (a + k) ∧ (k : Int) ≤ b + 1 ∧ Hid (∀ j, j < k → regIs s (a + (j : Int)) 1 = true) ∧ Below W0.heap.size W0 wr) (fun i _ => (Q + 1 - intOf i).toNat)
  case atStart => exact ⟨0, by simp, by omega, fun j hj => absurd hj (Nat.not_lt_zero _), Below.refl _ _⟩
  case round =>
    obtain ⟨k, rfl, hk, HA, hb⟩ := hrel
    obtain ⟨p0, p1⟩ := two_cells_of ((hb.block _ hlt).trans hG)
    obtain ⟨R, hR⟩ : ∃ r, a + (k : Int) = r := ⟨_, rfl⟩
    have HR : Hid (a + (k : Int) = R) := hR
    have hR0 : 0 ≤ R := by omega
    have hR1 : R ≤ 700 := by have := HQ.out; omega
    have cH := iHolds s (.slice x n c) R 1 wr (HI.out.below (chain b0 hb)) hR0
    obtain ⟨B, eB⟩ : ∃ B, regIs s R 1 = B := ⟨_, rfl⟩
    rw [eB] at cH
    have HBB : Hid (regIs s R 1 = B) := eB
    rw [hR]
    clear hR eB
    by_cases hlt2 : R ≤ Q
    · cases B with
      | true =>
        go_wp2_with (go_at_call 133; (with_reducible refine cH.mono ?_); rintro e w5 ⟨rfl, hb5⟩)
        go_roundw
        case rel =>
          refine ⟨k + 1, ?_, ?_, fun j hj => ?_, chain hb hb5⟩
          · rw [← HR.out]
            go_num
          · have := HR.out; have := HQ.out; omega
          · rcases Nat.lt_or_ge j k with h' | h'
            · exact HA.out j h'
            · have e : j = k := by omega
              subst e
              rw [HR.out]; exact HBB.out
        case measure => simp [intOf]; omega
      | false =>
        have hF : F = false := by
          rw [← HF.out, List.all_eq_false]
          exact ⟨k, List.mem_range.2 (by have := HR.out; have := HQ.out; omega), by rw [HR.out, HBB.out]; simp⟩
        subst hF
        go_wp2_with (go_at_call 133; (with_reducible refine cH.mono ?_); rintro e w5 ⟨rfl, hb5⟩)
        go_ret
        exact ⟨rfl, chain b0 (chain hb hb5)⟩
    · have hF : F = true := by
        rw [← HF.out, List.all_eq_true]
        intro j hj
        exact HA.out j (by have := List.mem_range.1 hj; have := HR.out; have := HQ.out; omega)
      subst hF
      clear cH
      go_wp2
      go_ret
      exact ⟨rfl, chain b0 hb⟩
end Go.Proofs.Ytbgdapdenbldmaa
namespace Go.Proofs.Ytbgdapdenbldmaa
theorem kind_nan {x : Nat} (h : 9218868437227405312 < x % 9223372036854775808) : kindN x = 1 := by
  unfold kindN expBits fracBits
  rw [if_pos (by omega), if_neg (by omega)]
theorem kind_inf {x : Nat} (h : x % 9223372036854775808 = 9218868437227405312) : kindN x = 2 := by
  unfold kindN expBits fracBits
  rw [if_pos (by omega), if_pos (by omega)]
theorem kind_zero {x : Nat} (h : x % 9223372036854775808 = 0) : kindN x = 3 := by
  unfold kindN expBits fracBits
  rw [if_neg (by omega), if_pos (by omega)]
theorem kind_fin {x : Nat} (h : x % 9223372036854775808 < 9218868437227405312) (h0 : x % 9223372036854775808 ≠ 0) : kindN x = 4 := by
  unfold kindN expBits fracBits
  rw [if_neg (by omega), if_neg (by omega)]
end Go.Proofs.Ytbgdapdenbldmaa
namespace Go.Proofs.Ytbgdapdenbldmaa
open Go.RowKit
set_option linter.unusedVariables false
set_option maxRecDepth 100000 in
theorem iSize (x : Nat) (w : World) :
    Calls Try.prog 139 #[.int .u64 x] w fun e w' => e = .returned (.int .u64 ((x : Int) % 9223372036854775808)) ∧ w = w' := by
  go_enter Try.func139, Try.ntmps139
  go_wp2
  go_ret
  exact ⟨rfl, rfl⟩
set_option maxHeartbeats 400000 in
set_option maxRecDepth 100000 in
theorem iKind (x : Nat) (w : World) :
    Calls Try.prog 129 #[.int .u64 x] w fun e w' => e = .returned (.int .i64 (kindN x : Nat)) ∧ w = w' := by
  have cS := fun W => iSize x W
  obtain ⟨s, hs⟩ : ∃ s : Int, (x : Int) % 9223372036854775808 = s := ⟨_, rfl⟩
  rw [hs] at cS
  by_cases h1 : 9218868437227405312 < s
  · have HK : Hid (Unit → kindN x = 1) := fun _ => kind_nan (by omega)
    clear hs
    go_enter Try.func129, Try.ntmps129
    go_wp2_with (go_at_call 139; refine (cS _).mono ?_; rintro e w' ⟨rfl, rfl⟩)
    go_ret
    exact ⟨by rw [HK.out ()]; rfl, rfl⟩
  · have d1 : decide (9218868437227405312 < s) = false := by simp; omega
    by_cases h2 : s = 9218868437227405312
    · have HK : Hid (Unit → kindN x = 2) := fun _ => kind_inf (by omega)
      clear hs h1 d1
      subst h2
      go_enter Try.func129, Try.ntmps129
      go_wp2_with (go_at_call 139; refine (cS _).mono ?_; rintro e w' ⟨rfl, rfl⟩)
      go_ret
      exact ⟨by rw [HK.out ()]; rfl, rfl⟩
    · have d2 : (s == 9218868437227405312) = false := by rw [beq_eq_false_iff_ne]; exact h2
      by_cases h3 : s = 0
      · have HK : Hid (Unit → kindN x = 3) := fun _ => kind_zero (by omega)
        clear hs h1 d1 h2 d2
        subst h3
        go_enter Try.func129, Try.ntmps129
        go_wp2_with (go_at_call 139; refine (cS _).mono ?_; rintro e w' ⟨rfl, rfl⟩)
        go_ret
        exact ⟨by rw [HK.out ()]; rfl, rfl⟩
      · have d3 : (s == 0) = false := by rw [beq_eq_false_iff_ne]; exact h3
        have HK : Hid (Unit → kindN x = 4) := fun _ => kind_fin (by omega) (by omega)
        clear hs h1 h2 h3
        go_enter Try.func129, Try.ntmps129
        go_wp2_with (go_at_call 139; refine (cS _).mono ?_; rintro e w' ⟨rfl, rfl⟩)
        go_ret
        exact ⟨by rw [HK.out ()]; rfl, rfl⟩
end Go.Proofs.Ytbgdapdenbldmaa
namespace Go.Proofs.Ytbgdapdenbldmaa
open Go.RowKit Go.Sort
set_option linter.unusedVariables false
set_option maxHeartbeats 400000 in
set_option maxRecDepth 100000 in
theorem iMayBeConst (x : Nat) (w : World) :
    Calls Try.prog 108 #[.int .u64 x] w fun e w' => e = .returned (.bool (decide (kindN x ≠ 1) || decide (x = 9221120237041090560))) ∧ w = w' := by
  have cK := fun W => iKind x W
  obtain ⟨k, hk⟩ : ∃ k, kindN x = k := ⟨_, rfl⟩
  rw [hk]
  simp only [hk] at cK
  by_cases k1 : k = 1
  · subst k1
    by_cases hN : x = 9221120237041090560
    · have hF : (decide ((1 : Nat) ≠ 1) || decide (x = 9221120237041090560)) = true := by rw [decide_eq_true hN]; rfl
      rw [hF]
      have HN : ((x : Int) == 9221120237041090560) = true := by rw [hN]; rfl
      clear hF hN hk
      go_enter Try.func108, Try.ntmps108
      go_wp2_with (go_at_call 129; refine (cK _).mono ?_; rintro e w' ⟨rfl, rfl⟩)
      go_ret
      exact ⟨rfl, rfl⟩
    · have hF : (decide ((1 : Nat) ≠ 1) || decide (x = 9221120237041090560)) = false := by rw [decide_eq_false hN]; rfl
      rw [hF]
      have HN : ((x : Int) == 9221120237041090560) = false := by rw [beq_eq_false_iff_ne]; omega
      clear hF hN hk
      go_enter Try.func108, Try.ntmps108
      go_wp2_with (go_at_call 129; refine (cK _).mono ?_; rintro e w' ⟨rfl, rfl⟩)
      go_ret
      exact ⟨rfl, rfl⟩
  · have hF : (decide (k ≠ 1) || decide (x = 9221120237041090560)) = true := by rw [decide_eq_true k1]; rfl
    rw [hF]
    have HN : ¬ (k : Int) = 1 := by omega
    clear hF hk k1
    go_enter Try.func108, Try.ntmps108
    go_wp2_with (go_at_call 129; refine (cK _).mono ?_; rintro e w' ⟨rfl, rfl⟩)
    go_ret
    exact ⟨rfl, rfl⟩
set_option maxHeartbeats 1000000 in
set_option maxRecDepth 100000 in
theorem iConstOk_any (p : PCon) (w : World) (hp : conW p) :
    Calls Try.prog 76 #[.agg #[.int .i64 p.kind, .int .u64 (p.num : Int), .string p.text]] w fun e w' => e = .returned (.bool (conOk p)) ∧ Below w.heap.size w w' := by
  have hx := hp.2.1
  have hs := hp.2.2
  clear hp
  have HF0 : conOk p = (if p.kind = 1 then decide (p.text.size = 0) && (decide (kindN p.num ≠ 1) || decide (p.num = 9221120237041090560)) else if p.kind = 2 then decide (p.num = 0) && decide (p.text.size ≤ 40) else if p.kind = 3 ∨ p.kind = 4 ∨ p.kind = 5 then decide (p.num = 0) && decide (p.text.size = 0) else false) := rfl
  obtain ⟨F, hF⟩ : ∃ F, conOk p = F := ⟨_, rfl⟩
  obtain ⟨k, hk⟩ : ∃ k, p.kind = k := ⟨_, rfl⟩
  obtain ⟨x, hxx⟩ : ∃ x, p.num = x := ⟨_, rfl⟩
  obtain ⟨s, hss⟩ : ∃ s, p.text = s := ⟨_, rfl⟩
  rw [hF, hk, hxx, hss] at HF0
  rw [hF, hk, hxx, hss]
  rw [hxx] at hx
  rw [hss] at hs
  clear hF hk hxx hss p
  unfold maxLen at hs
  have cN := fun W => iMayBeConst x W
  obtain ⟨bn, en⟩ : ∃ b, (decide (kindN x ≠ 1) || decide (x = 9221120237041090560)) = b := ⟨_, rfl⟩
  simp only [en] at cN HF0
  have HF : Hid _ := HF0
  clear en hx HF0
  have b0 : ∀ cs t, Below w.heap.size w (w.alloc (.cells cs t)) := fun cs t => (Below.refl _ _).alloc (Nat.le_refl _) _
  have hse : ¬ s.size = 0 → s.toList.isEmpty = false := full_text
  by_cases k1 : k = 1
  · subst k1
    cases bn with
    | false =>
      have hF : F = false := by rw [HF.out, if_pos rfl]; simp
      subst hF
      clear HF hse
      go_enter Try.func76, Try.ntmps76
      go_wp2_with (go_at_call 108; refine (cN _).mono ?_; rintro e w' ⟨rfl, rfl⟩)
      go_ret
      exact ⟨rfl, b0 _ _⟩
    | true =>
      by_cases z : s.size = 0
      · have es := empty_is z
        subst es
        have hF : F = true := by rw [HF.out, if_pos rfl, decide_eq_true z]; rfl
        subst hF
        clear HF hse
        go_enter Try.func76, Try.ntmps76
        go_wp2_with (go_at_call 108; refine (cN _).mono ?_; rintro e w' ⟨rfl, rfl⟩)
        go_ret
        exact ⟨rfl, b0 _ _⟩
      · have hF : F = false := by rw [HF.out, if_pos rfl, decide_eq_false z]; rfl
        subst hF
        have hne := hse z
        clear HF hse
        go_enter Try.func76, Try.ntmps76
        go_wp2_with (go_at_call 108; refine (cN _).mono ?_; rintro e w' ⟨rfl, rfl⟩)
        go_ret
        exact ⟨rfl, b0 _ _⟩
  by_cases k2 : k = 2
  · subst k2
    by_cases hx0 : x = 0
    · subst hx0
      by_cases z : s.size ≤ 40
      · have hF : F = true := by rw [HF.out, if_neg (by decide), if_pos rfl, decide_eq_true z]; rfl
        subst hF
        have zi : (s.size : Int) ≤ 40 := by omega
        clear HF hse cN
        go_enter Try.func76, Try.ntmps76
        go_wp2
        go_ret
        exact ⟨rfl, b0 _ _⟩
      · have hF : F = false := by rw [HF.out, if_neg (by decide), if_pos rfl, decide_eq_false z]; rfl
        subst hF
        have zi : ¬ (s.size : Int) ≤ 40 := by omega
        clear HF hse cN
        go_enter Try.func76, Try.ntmps76
        go_wp2
        go_ret
        exact ⟨rfl, b0 _ _⟩
    · have hF : F = false := by rw [HF.out, if_neg (by decide), if_pos rfl, decide_eq_false hx0]; rfl
      subst hF
      have zi : ((x : Int) == 0) = false := by rw [beq_eq_false_iff_ne]; omega
      clear HF hse cN
      go_enter Try.func76, Try.ntmps76
      go_wp2
      go_ret
      exact ⟨rfl, b0 _ _⟩
  by_cases k3 : k = 3 ∨ k = 4 ∨ k = 5
  · have HF1 : Hid (F = (decide (x = 0) && decide (s.size = 0))) := by
      have h := HF.out
      rw [if_neg k1, if_neg k2, if_pos k3] at h
      exact h
    clear HF cN k1 k2
    by_cases hx0 : x = 0
    · subst hx0
      by_cases z : s.size = 0
      · have es := empty_is z
        subst es
        have hF : F = true := by rw [HF1.out]; rfl
        subst hF
        clear HF1 hse
        rcases k3 with rfl | rfl | rfl
        all_goals
          go_enter Try.func76, Try.ntmps76
          go_wp2
          go_ret
          exact ⟨rfl, b0 _ _⟩
      · have hF : F = false := by rw [HF1.out, decide_eq_false z]; rfl
        subst hF
        have hne := hse z
        clear HF1 hse
        rcases k3 with rfl | rfl | rfl
        all_goals
          go_enter Try.func76, Try.ntmps76
          go_wp2
          go_ret
          exact ⟨rfl, b0 _ _⟩
    · have hF : F = false := by rw [HF1.out, decide_eq_false hx0]; rfl
      subst hF
      have zi : ((x : Int) == 0) = false := by rw [beq_eq_false_iff_ne]; omega
      clear HF1 hse
      rcases k3 with rfl | rfl | rfl
      all_goals
        go_enter Try.func76, Try.ntmps76
        go_wp2
        go_ret
        exact ⟨rfl, b0 _ _⟩
  have hF : F = false := by rw [HF.out, if_neg k1, if_neg k2, if_neg k3]
  subst hF
  have k3a : ¬ k = 3 := fun h => k3 (.inl h)
  have k4a : ¬ k = 4 := fun h => k3 (.inr (.inl h))
  have k5a : ¬ k = 5 := fun h => k3 (.inr (.inr h))
  clear HF cN hse k3
  go_enter Try.func76, Try.ntmps76
  go_wp2
  go_ret
  exact ⟨rfl, b0 _ _⟩
end Go.Proofs.Ytbgdapdenbldmaa
