/-
  Part 7 of what is proved of drawn right trees.
-/
import Derived.Test.YtbgdapdenbldmaaPae
import Derived.Test.YtbgdapdenbldmaaPaf

namespace Go.Proofs.Ytbgdapdenbldmaa
open Go.RowKit Go.Sort
set_option linter.unusedVariables false
theorem empty_is {s : ByteArray} (h : s.size = 0) : s = ⟨#[]⟩ := by
  obtain ⟨d⟩ := s
  have : d = #[] := Array.eq_empty_of_size_eq_zero h
  rw [this]
theorem full_text {s : ByteArray} (h : ¬ s.size = 0) : s.toList.isEmpty = false := by
  rw [ByteArray.toList_eq, List.isEmpty_eq_false_iff]
  intro e
  apply h
  show s.data.size = 0
  rw [← Array.length_toList, e]
  rfl
set_option maxHeartbeats 1000000 in
set_option maxRecDepth 100000 in
theorem specConstOk_any (p : PCon) (w : World) (hp : conW p) :
    Calls Try.prog 57 #[.agg #[.int .i64 p.kind, .int .u64 (p.num : Int), .string p.text]] w fun e w' => e = .returned (.bool (conOk p)) ∧ Below w.heap.size w w' := by
  have hx := hp.2.1
  have hs := hp.2.2
  clear hp
  have HF0 : conOk p = (if p.kind = 1 then decide (p.text.size = 0) && (decide (kindN p.num ≠ 1) || decide (p.num = 9221120237041090560)) else if p.kind = 2 then decide (p.num = 0) && decide (p.text.size ≤ 40) else if p.kind = 3 ∨ p.kind = 4 ∨ p.kind = 5 then decide (p.num = 0) && decide (p.text.size = 0) else false) := rfl
  obtain ⟨F, hF⟩ : ∃ F, conOk p = F := ⟨_, rfl⟩
  obtain ⟨k, hk⟩ : ∃ k, p.kind = k := ⟨_, rfl⟩
  obtain ⟨x, hxx⟩ : ∃ x, p.num = x := ⟨_, rfl⟩
  obtain ⟨s, hss⟩ : ∃ s, p.text = s := ⟨_, rfl⟩
  rw [hF, hk, hxx, hss] at HF0
  rw [hF, hk, hxx, hss]
  rw [hxx] at hx
  rw [hss] at hs
  have HF : Hid _ := HF0
  clear hF hk hxx hss HF0 p
  unfold maxLen at hs
  have cN := fun W => l03Nan_any x W hx
  obtain ⟨bn, en⟩ : ∃ b, decide (kindN x = 1) = b := ⟨_, rfl⟩
  simp only [en] at cN
  have HE : Hid (decide (kindN x = 1) = bn) := en
  clear en hx
  have b0 : ∀ cs t, Below w.heap.size w (w.alloc (.cells cs t)) := fun cs t => (Below.refl _ _).alloc (Nat.le_refl _) _
  have hse : ¬ s.size = 0 → s.toList.isEmpty = false := full_text
  by_cases k1 : k = 1
  · subst k1
    by_cases z : s.size = 0
    · have es := empty_is z
      subst es
      cases bn with
      | false =>
        have hF : F = true := by
          rw [HF.out, if_pos rfl, decide_eq_true z]
          have := of_decide_eq_false HE.out
          simp [this]
        subst hF
        clear HF HE hse
        go_enter Try.func57, Try.ntmps57
        go_wp2_with (go_at_call 88; refine (cN _).mono ?_; rintro e w' ⟨rfl, hb⟩)
        go_ret
        exact ⟨rfl, chain (b0 _ _) hb⟩
      | true =>
        have hK : kindN x = 1 := of_decide_eq_true HE.out
        by_cases hN : x = 9221120237041090560
        · have hF : F = true := by
            rw [HF.out, if_pos rfl, decide_eq_true z, decide_eq_true hN]
            simp
          subst hF
          have HN : ((x : Int) == 9221120237041090560) = true := by rw [hN]; rfl
          clear HF HE hse hK hN
          go_enter Try.func57, Try.ntmps57
          go_wp2_with (go_at_call 88; refine (cN _).mono ?_; rintro e w' ⟨rfl, hb⟩; have q1 := new_cell hb 1 _ rfl)
          go_ret
          exact ⟨rfl, chain (b0 _ _) hb⟩
        · have hF : F = false := by
            rw [HF.out, if_pos rfl, decide_eq_true z, decide_eq_false hN]
            simp [hK]
          subst hF
          have HN : ((x : Int) == 9221120237041090560) = false := by rw [beq_eq_false_iff_ne]; omega
          clear HF HE hse hK hN
          go_enter Try.func57, Try.ntmps57
          go_wp2_with (go_at_call 88; refine (cN _).mono ?_; rintro e w' ⟨rfl, hb⟩; have q1 := new_cell hb 1 _ rfl)
          go_ret
          exact ⟨rfl, chain (b0 _ _) hb⟩
    · have hF : F = false := by rw [HF.out, if_pos rfl, decide_eq_false z]; rfl
      subst hF
      have hne := hse z
      clear HF HE hse cN
      go_enter Try.func57, Try.ntmps57
      go_wp2
      go_ret
      exact ⟨rfl, b0 _ _⟩
  by_cases k2 : k = 2
  · subst k2
    by_cases hx0 : x = 0
    · subst hx0
      by_cases z : s.size ≤ 40
      · have hF : F = true := by rw [HF.out, if_neg (by decide), if_pos rfl, decide_eq_true z]; rfl
        subst hF
        have zi : (s.size : Int) ≤ 40 := by omega
        clear HF HE hse cN
        go_enter Try.func57, Try.ntmps57
        go_wp2
        go_ret
        exact ⟨rfl, b0 _ _⟩
      · have hF : F = false := by rw [HF.out, if_neg (by decide), if_pos rfl, decide_eq_false z]; rfl
        subst hF
        have zi : ¬ (s.size : Int) ≤ 40 := by omega
        clear HF HE hse cN
        go_enter Try.func57, Try.ntmps57
        go_wp2
        go_ret
        exact ⟨rfl, b0 _ _⟩
    · have hF : F = false := by rw [HF.out, if_neg (by decide), if_pos rfl, decide_eq_false hx0]; rfl
      subst hF
      have zi : ((x : Int) == 0) = false := by rw [beq_eq_false_iff_ne]; omega
      clear HF HE hse cN
      go_enter Try.func57, Try.ntmps57
      go_wp2
      go_ret
      exact ⟨rfl, b0 _ _⟩
  by_cases k3 : k = 3 ∨ k = 4 ∨ k = 5
  · have HF1 : Hid (F = (decide (x = 0) && decide (s.size = 0))) := by
      have h := HF.out
      rw [if_neg k1, if_neg k2, if_pos k3] at h
      exact h
    clear HF HE cN k1 k2
    by_cases hx0 : x = 0
    · subst hx0
      by_cases z : s.size = 0
      · have es := empty_is z
        subst es
        have hF : F = true := by rw [HF1.out]; rfl
        subst hF
        clear HF1 hse
        rcases k3 with rfl | rfl | rfl
        all_goals
          go_enter Try.func57, Try.ntmps57
          go_wp2
          go_ret
          exact ⟨rfl, b0 _ _⟩
      · have hF : F = false := by rw [HF1.out, decide_eq_false z]; rfl
        subst hF
        have hne := hse z
        clear HF1 hse
        rcases k3 with rfl | rfl | rfl
        all_goals
          go_enter Try.func57, Try.ntmps57
          go_wp2
          go_ret
          exact ⟨rfl, b0 _ _⟩
    · have hF : F = false := by rw [HF1.out, decide_eq_false hx0]; rfl
      subst hF
      have zi : ((x : Int) == 0) = false := by rw [beq_eq_false_iff_ne]; omega
      clear HF1 hse
      rcases k3 with rfl | rfl | rfl
      all_goals
        go_enter Try.func57, Try.ntmps57
        go_wp2
        go_ret
        exact ⟨rfl, b0 _ _⟩
  have hF : F = false := by rw [HF.out, if_neg k1, if_neg k2, if_neg k3]
  subst hF
  have k3a : ¬ k = 3 := fun h => k3 (.inl h)
  have k4a : ¬ k = 4 := fun h => k3 (.inr (.inl h))
  have k5a : ¬ k = 5 := fun h => k3 (.inr (.inr h))
  clear HF HE cN hse k3
  go_enter Try.func57, Try.ntmps57
  go_wp2
  go_ret
  exact ⟨rfl, b0 _ _⟩
end Go.Proofs.Ytbgdapdenbldmaa
namespace Go.Proofs.Ytbgdapdenbldmaa
open Go.RowKit Go.Sort
set_option linter.unusedVariables false
theorem wrap_less (n : Nat) (h : n ≤ 9223372036854775807) : IntKind.i64.wrap ((n : Int) - 1) = (n : Int) - 1 := by
  rw [IntKind.wrap_i64]; omega
set_option maxHeartbeats 1000000 in
set_option maxRecDepth 100000 in
theorem l16Room_any (s : PSta) (v : Value) (r : Int) (w : World) (h : ArgI w v s.regs) :
    Calls Try.prog 103 #[.agg #[.int .i64 s.acc, v], .int .i64 r] w fun e w' => e = .returned (.bool (regIn s r)) ∧ Below w.heap.size w w' := by
  obtain ⟨x, c, rfl, hm, hc⟩ := h.opened
  clear h hc
  unfold maxLen at hm
  unfold regIn
  obtain ⟨n, hn⟩ : ∃ n, s.regs.length = n := ⟨_, rfl⟩
  rw [hn] at hm ⊢
  clear hn
  have hwr : IntKind.i64.wrap ((n : Int) - 1) = (n : Int) - 1 := wrap_less n hm
  have b0 : Below w.heap.size w (w.alloc (.cells #[.int .i64 s.acc, .slice x n c] 98)) := (Below.refl _ _).alloc (Nat.le_refl _) _
  have cP := fun W => l01In_b r 0 ((n : Int) - 1) W
  obtain ⟨bP, eP⟩ : ∃ b, inB r 0 ((n : Int) - 1) = b := ⟨_, rfl⟩
  simp only [eP] at cP ⊢
  clear eP
  go_enter Try.func103, Try.ntmps103
  go_wp2_with (go_at_call 33; with_reducible refine (cP _).mono ?_; rintro e w' ⟨rfl, rfl⟩)
  go_ret
  exact ⟨rfl, b0⟩
set_option maxHeartbeats 1000000 in
set_option maxRecDepth 100000 in
theorem l16Reg_any (s : PSta) (v : Value) (r want : Int) (w : World) (h : ArgI w v s.regs) :
    Calls Try.prog 102 #[.agg #[.int .i64 s.acc, v], .int .i64 r, .int .i64 want] w fun e w' => e = .returned (.bool (regIs s r want)) ∧ Below w.heap.size w w' := by
  obtain ⟨x, c, rfl, hm, hc⟩ := h.opened
  clear h
  unfold maxLen at hm
  have HF0 : regIs s r want = (inB r 0 ((s.regs.length : Int) - 1) && decide (s.regs[r.toNat]? = some want)) := rfl
  obtain ⟨F, hF⟩ : ∃ F, regIs s r want = F := ⟨_, rfl⟩
  rw [hF] at HF0 ⊢
  obtain ⟨n, hn⟩ : ∃ n, s.regs.length = n := ⟨_, rfl⟩
  rw [hn] at hm hc HF0 ⊢
  have HN : Hid (s.regs.length = n) := hn
  clear hn hF
  have hwr : IntKind.i64.wrap ((n : Int) - 1) = (n : Int) - 1 := wrap_less n hm
  have b0 : Below w.heap.size w (w.alloc (.cells #[.int .i64 s.acc, .slice x n c] 98)) := (Below.refl _ _).alloc (Nat.le_refl _) _
  have cP := fun W => l01In_b r 0 ((n : Int) - 1) W
  obtain ⟨bP, eP⟩ : ∃ b, inB r 0 ((n : Int) - 1) = b := ⟨_, rfl⟩
  have HP : Hid (inB r 0 ((n : Int) - 1) = bP) := eP
  simp only [eP] at cP HF0
  clear eP
  have HF : Hid (F = (bP && decide (s.regs[r.toNat]? = some want))) := HF0
  clear HF0
  cases bP with
  | false =>
    have hF : F = false := by rw [HF.out]; rfl
    subst hF
    clear HF hc HN HP
    go_enter Try.func102, Try.ntmps102
    go_wp2_with (go_at_call 33; with_reducible refine (cP _).mono ?_; rintro e w' ⟨rfl, rfl⟩)
    go_ret
    exact ⟨rfl, b0⟩
  | true =>
    have hin := HP.out
    unfold inB at hin
    simp only [Bool.and_eq_true, decide_eq_true_eq] at hin
    obtain ⟨K, rfl⟩ : ∃ K : Nat, r = (K : Int) := ⟨r.toNat, by omega⟩
    obtain ⟨b, o, rfl, hb, hcell⟩ := hc (by omega)
    obtain ⟨z, hz⟩ : ∃ z, s.regs[K]? = some z := ⟨_, List.getElem?_eq_getElem (by have := HN.out; omega)⟩
    have g1 : (w.alloc (.cells #[.int .i64 s.acc, .slice (some ⟨b, o, none⟩) n c] 98)).cell? ⟨b, o + K, none⟩ = some (.int .i64 z) := (b0.cell hb).trans (hcell K z hz)
    have hk1 : (K : Int) < (n : Int) := by omega
    have hk0 : (0 : Int) ≤ (K : Int) := by omega
    have hF : F = decide (z = want) := by
      rw [HF.out, Int.toNat_natCast, hz, Bool.true_and]
      simp
    clear HF HP HN hcell hz hc hin
    obtain ⟨W0, hW0⟩ : ∃ W, w.alloc (.cells #[.int .i64 s.acc, .slice (some ⟨b, o, none⟩) n c] 98) = W := ⟨_, rfl⟩
    have g2 : W0.cell? ⟨w.heap.size, 1, none⟩ = some (.slice (some ⟨b, o, none⟩) n c) := by
      rw [← hW0, cell_of_row _ _ 1 _ _ _ (heap_alloc_new w _)]
      rfl
    rw [hW0] at g1 b0
    have HW0 : Hid (w.alloc (.cells #[.int .i64 s.acc, .slice (some ⟨b, o, none⟩) n c] 98) = W0) := hW0
    clear hW0
    by_cases e : z = want
    · subst e
      have hF' : F = true := by rw [hF]; simp
      subst hF'
      clear hF
      go_enter Try.func102, Try.ntmps102
      go_upto_region 1 with fail
      rw [HW0.out]
      clear HW0
      go_wp2_with (go_at_call 33; with_reducible refine (cP _).mono ?_; rintro e w' ⟨rfl, rfl⟩)
      go_ret
      exact ⟨rfl, b0⟩
    · have hF' : F = false := by rw [hF]; exact decide_eq_false e
      subst hF'
      have hne : (z == want) = false := by rw [beq_eq_false_iff_ne]; exact e
      clear hF
      go_enter Try.func102, Try.ntmps102
      go_upto_region 1 with fail
      rw [HW0.out]
      clear HW0
      go_wp2_with (go_at_call 33; with_reducible refine (cP _).mono ?_; rintro e w' ⟨rfl, rfl⟩)
      go_ret
      exact ⟨rfl, b0⟩
set_option maxHeartbeats 1000000 in
set_option maxRecDepth 100000 in
theorem l16Same_any (p q : PSta) (u v : Value) (w : World) (hu : ArgI w u p.regs) (hv : ArgI w v q.regs) :
    Calls Try.prog 101 #[.agg #[.int .i64 p.acc, u], .agg #[.int .i64 q.acc, v]] w fun e w' => e = .returned (.bool (sameS p q)) ∧ Below w.heap.size w w' := by
  obtain ⟨xa, ca, rfl, hm, oa⟩ := hu.opened
  obtain ⟨xb, cb, rfl, hm', ob⟩ := hv.opened
  clear hu hv
  unfold maxLen at hm hm'
  unfold sameS
  obtain ⟨A, hA⟩ : ∃ x, p.acc = x := ⟨_, rfl⟩
  obtain ⟨B, hB⟩ : ∃ x, q.acc = x := ⟨_, rfl⟩
  rw [hA, hB]
  clear hA hB
  obtain ⟨ls, hls⟩ : ∃ x, p.regs = x := ⟨_, rfl⟩
  obtain ⟨ms, hms⟩ : ∃ x, q.regs = x := ⟨_, rfl⟩
  rw [hls] at hm oa ⊢
  rw [hms] at hm' ob ⊢
  clear hls hms
  obtain ⟨n, hn⟩ : ∃ n, ls.length = n := ⟨_, rfl⟩
  obtain ⟨m, hmm⟩ : ∃ m, ms.length = m := ⟨_, rfl⟩
  have HN : Hid (ls.length = n) := hn
  have HM : Hid (ms.length = m) := hmm
  rw [hn] at hm oa ⊢
  rw [hmm] at hm' ob ⊢
  obtain ⟨F, hF⟩ : ∃ F, (decide (A = B) && decide (ls = ms)) = F := ⟨_, rfl⟩
  rw [hF]
  have HF : Hid ((decide (A = B) && decide (ls = ms)) = F) := hF
  clear hn hmm hF
  have b0 : Below w.heap.size w ((w.alloc (.cells #[.int .i64 A, .slice xa n ca] 98)).alloc (.cells #[.int .i64 B, .slice xb m cb] 98)) := ((Below.refl _ _).alloc (Nat.le_refl _) _).alloc (by simp) _
  by_cases hAB : A = B
  case neg =>
    have hf : F = false := by rw [← HF.out, decide_eq_false hAB]; rfl
    subst hf
    have hne : (A == B) = false := by rw [beq_eq_false_iff_ne]; exact hAB
    clear oa ob HF
    go_enter Try.func101, Try.ntmps101
    go_wp2
    go_ret
    exact ⟨rfl, b0⟩
  subst hAB
  by_cases hnm : n = m
  case neg =>
    have hf : F = false := by
      rw [← HF.out, decide_eq_false (p := ls = ms) (fun e => hnm (by rw [← HN.out, ← HM.out, e])), Bool.and_false]
    subst hf
    have hne : ((n : Int) == (m : Int)) = false := by rw [beq_eq_false_iff_ne]; omega
    clear oa ob HF
    go_enter Try.func101, Try.ntmps101
    go_wp2
    go_ret
    exact ⟨rfl, b0⟩
  subst hnm
  have HF1 : Hid (decide (ls = ms) = F) := by
    have h := HF.out
    rw [decide_eq_true (rfl : A = A), Bool.true_and] at h
    exact h
  clear HF
  have HA : Hid (0 < n → ∃ b o, xa = some ⟨b, o, none⟩ ∧ b < w.heap.size ∧ ∀ (j : Nat) (z : Int), ls[j]? = some z → w.cell? ⟨b, o + j, none⟩ = some (.int .i64 z)) := oa
  have HB : Hid (0 < n → ∃ b o, xb = some ⟨b, o, none⟩ ∧ b < w.heap.size ∧ ∀ (j : Nat) (z : Int), ms[j]? = some z → w.cell? ⟨b, o + j, none⟩ = some (.int .i64 z)) := ob
  clear oa ob
  obtain ⟨W0, hW0⟩ : ∃ W, ((w.alloc (.cells #[.int .i64 A, .slice xa n ca] 98)).alloc (.cells #[.int .i64 A, .slice xb n cb] 98)) = W := ⟨_, rfl⟩
  have z0 : W0.heap[w.heap.size]? = some (.cells #[.int .i64 A, .slice xa n ca] 98) := by
    rw [← hW0, heap_alloc_old (r := w.heap.size) _ _ (by simp)]
    exact heap_alloc_new w _
  have z1 : W0.heap[w.heap.size + 1]? = some (.cells #[.int .i64 A, .slice xb n cb] 98) := by
    rw [← hW0, show w.heap.size + 1 = (w.alloc (.cells #[.int .i64 A, .slice xa n ca] 98)).heap.size by simp]
    exact heap_alloc_new _ _
  have z2 : w.heap.size + 2 ≤ W0.heap.size := by rw [← hW0]; simp
  rw [hW0] at b0
  have HW0 : Hid (((w.alloc (.cells #[.int .i64 A, .slice xa n ca] 98)).alloc (.cells #[.int .i64 A, .slice xb n cb] 98)) = W0) := hW0
  clear hW0
  go_enter Try.func101, Try.ntmps101
  go_upto_region 1 with fail
  rw [HW0.out]
  clear HW0
  obtain ⟨p0, p1⟩ := two_cells_of z0
  obtain ⟨q0, q1⟩ := two_cells_of z1
  go_wp2
  clear p0 p1 q0 q1
  go_loopw [5] (fun i wr => ∃ k : Nat, k ≤ n ∧ i = .int .i64 k ∧ Hid (∀ j, j < k → ls[j]? = ms[j]?) ∧ Below W0.heap.size W0 wr) (fun i _ => n - (intOf i).toNat)
  case atStart => exact ⟨0, Nat.zero_le _, rfl, fun j hj => absurd hj (Nat.not_lt_zero _), Below.refl _ _⟩
  case round =>
    obtain ⟨k, hk, rfl, HS, hbel⟩ := hrel
    obtain ⟨p0, p1⟩ := two_cells_of ((hbel.block w.heap.size (by omega)).trans z0)
    obtain ⟨q0, q1⟩ := two_cells_of ((hbel.block (w.heap.size + 1) (by omega)).trans z1)
    by_cases hlt : k < n
    · obtain ⟨ga, sa, rfl, hga, hca⟩ := HA.out (by omega)
      obtain ⟨gb, sb, rfl, hgb, hcb⟩ := HB.out (by omega)
      obtain ⟨y, hy⟩ : ∃ s, ls[k]? = some s := ⟨_, List.getElem?_eq_getElem (by have := HN.out; omega)⟩
      obtain ⟨z, hz⟩ : ∃ s, ms[k]? = some s := ⟨_, List.getElem?_eq_getElem (by have := HM.out; omega)⟩
      have h1 : wr.cell? ⟨ga, sa + k, none⟩ = some (.int .i64 y) := ((chain b0 hbel).cell hga).trans (hca k y hy)
      have h2 : wr.cell? ⟨gb, sb + k, none⟩ = some (.int .i64 z) := ((chain b0 hbel).cell hgb).trans (hcb k z hz)
      have hki : (k : Int) < (n : Int) := by omega
      have hk0 : (0 : Int) ≤ (k : Int) := by omega
      by_cases e : y = z
      · have HS2 : Hid (∀ j, j < k + 1 → ls[j]? = ms[j]?) := fun j hj => by
          rcases Nat.lt_or_ge j k with h' | h'
          · exact HS.out j h'
          · have e3 : j = k := by omega
            subst e3
            rw [hy, hz, e]
        subst e
        clear hca hcb hy hz HS HA HB z0 z1
        go_wp2
        go_quiet (fail)
        go_wp2
        go_roundw
        case rel => exact ⟨k + 1, by omega, by go_num, HS2, below_drewN hbel _⟩
        case measure => simp [intOf]; omega
      · have hf : F = false := by
          rw [← HF1.out]
          apply decide_eq_false
          intro e3
          rw [e3, hz] at hy
          injection hy with hy
          exact e hy.symm
        subst hf
        have hne : (y == z) = false := by rw [beq_eq_false_iff_ne]; exact e
        clear hca hcb hy hz HS HA HB z0 z1
        go_wp2
        go_quiet (fail)
        go_wp2
        go_ret
        exact ⟨rfl, chain b0 (below_drewN hbel _)⟩
    · have hf : F = true := by
        rw [← HF1.out]
        apply decide_eq_true
        apply List.ext_getElem?
        intro j
        by_cases hj : j < k
        · exact HS.out j hj
        · rw [List.getElem?_eq_none (by have := HN.out; omega), List.getElem?_eq_none (by have := HM.out; omega)]
      subst hf
      clear z0 z1
      go_wp2
      go_ret
      exact ⟨rfl, chain b0 hbel⟩
end Go.Proofs.Ytbgdapdenbldmaa
namespace Go.Proofs.Ytbgdapdenbldmaa
open Go.RowKit Go.Sort
set_option linter.unusedVariables false
def firstOk (l : List PFun) : Bool := match l with | [] => false | f :: _ => decide (f.params = 0) && decide (f.caps.length = 0)
set_option maxHeartbeats 1000000 in
set_option maxRecDepth 100000 in
theorem specImageOk_any (p : PImg) (fv cv : Value) (w : World) (h : ArgImg w fv cv p) (hw : imgW p) :
    Calls Try.prog 32 #[.agg #[fv, cv]] w fun e w' => e = .returned (.bool (imgOk p)) ∧ Below w.heap.size w w' := by
  obtain ⟨hF, hC⟩ := h
  obtain ⟨x1, c1, rfl, m1, o1⟩ := hF
  obtain ⟨x2, c2, rfl, m2, o2⟩ := hC.opened conC_len
  have HW : Hid (∀ x ∈ p.consts, conW x) := hw.consts
  clear hC hw
  unfold maxLen at m1 m2
  obtain ⟨n1, e1⟩ : ∃ n, p.funcs.length = n := ⟨_, rfl⟩
  obtain ⟨n2, e2⟩ : ∃ n, p.consts.length = n := ⟨_, rfl⟩
  have HF0 : imgOk p = (inB n1 1 16 && (decide (n2 ≤ 40) && (p.consts.all conOk && (p.funcs.all funOk && firstOk p.funcs)))) := by unfold imgOk; rw [e1, e2]; rfl
  obtain ⟨F, hF⟩ : ∃ F, imgOk p = F := ⟨_, rfl⟩
  rw [hF] at HF0 ⊢
  rw [e1] at m1 o1 ⊢
  rw [e2] at m2 o2 ⊢
  have H1 : Hid (0 < n1 → ∃ b o, x1 = some ⟨b, o, none⟩ ∧ b < w.heap.size ∧ ∀ j q, p.funcs[j]? = some q → ∃ cv kv hv, FunAt w b (o + j * 5) q cv kv hv) := o1
  have H2 : Hid (0 < n2 → ∃ b o, x2 = some ⟨b, o, none⟩ ∧ b < w.heap.size ∧ ∀ j q, p.consts[j]? = some q → ∀ c u, (conC q)[c]? = some u → w.cell? ⟨b, o + j * 3 + c, none⟩ = some u) := o2
  have E1 : Hid (p.funcs.length = n1) := e1
  have E2 : Hid (p.consts.length = n2) := e2
  clear o1 o2 e1 e2 hF
  have cP := fun W => l01In_b n1 1 16 W
  obtain ⟨bP, eP⟩ : ∃ b, inB n1 1 16 = b := ⟨_, rfl⟩
  have HP : Hid (inB n1 1 16 = bP) := eP
  simp only [eP] at cP HF0
  have HF : Hid (F = (bP && (decide (n2 ≤ 40) && (p.consts.all conOk && (p.funcs.all funOk && firstOk p.funcs))))) := HF0
  clear eP HF0
  cases bP with
  | false =>
    have hF : F = false := by rw [HF.out]; rfl
    subst hF
    clear HF H1 H2 E1 E2 HP
    go_enter Try.func32, Try.ntmps32
    go_wp2_with (go_at_call 33; with_reducible refine (cP _).mono ?_; rintro e w' ⟨rfl, rfl⟩)
    go_ret
    exact ⟨rfl, (Below.refl _ _).alloc (Nat.le_refl _) _⟩
  | true =>
  by_cases hn2 : n2 ≤ 40
  case neg =>
    have hF : F = false := by rw [HF.out, decide_eq_false hn2]; rfl
    subst hF
    clear HF H1 H2 E1 E2 HP
    have hx : (40 : Int) < (n2 : Int) := by omega
    go_enter Try.func32, Try.ntmps32
    go_wp2_with (go_at_call 33; with_reducible refine (cP _).mono ?_; rintro e w' ⟨rfl, rfl⟩)
    go_ret
    exact ⟨rfl, (Below.refl _ _).alloc (Nat.le_refl _) _⟩
  have hx2 : ¬ (40 : Int) < (n2 : Int) := by omega
  have hpos : 0 < n1 := by
    have h := HP.out
    unfold inB at h
    simp only [Bool.and_eq_true, decide_eq_true_eq] at h
    omega
  have HF1 : Hid (F = (p.consts.all conOk && (p.funcs.all funOk && firstOk p.funcs))) := by
    have h := HF.out
    rw [decide_eq_true hn2] at h
    exact h
  clear HF HP
  have b0 : Below w.heap.size w (w.alloc (.cells #[.slice x1 n1 c1, .slice x2 n2 c2] 31)) := (Below.refl _ _).alloc (Nat.le_refl _) _
  have k1 := fun W (h : Below _ _ W) => new_cell (w := w) (cs := #[.slice x1 n1 c1, .slice x2 n2 c2]) (t := 31) h 0 _ rfl
  have k2 := fun W (h : Below _ _ W) => new_cell (w := w) (cs := #[.slice x1 n1 c1, .slice x2 n2 c2]) (t := 31) h 1 _ rfl
  obtain ⟨W0, hW0⟩ : ∃ W, w.alloc (.cells #[.slice x1 n1 c1, .slice x2 n2 c2] 31) = W := ⟨_, rfl⟩
  rw [hW0] at b0 k1 k2
  have HW0 : Hid (w.alloc (.cells #[.slice x1 n1 c1, .slice x2 n2 c2] 31) = W0) := hW0
  clear hW0
  go_enter Try.func32, Try.ntmps32
  go_upto_region 3 with (go_at_call 33; with_reducible refine (cP _).mono ?_; rintro e w' ⟨rfl, rfl⟩)
  rw [HW0.out]
  clear HW0 cP hx2 hn2
  go_wp2
  go_loopw [3] (fun i wr => ∃ k : Nat, k ≤ n2 ∧ i = .int .i64 k ∧ Hid (∀ j q, j < k → p.consts[j]? = some q → conOk q = true) ∧ Below W0.heap.size W0 wr) (fun i _ => n2 - (intOf i).toNat)
  case atStart => exact ⟨0, Nat.zero_le _, rfl, fun j q hj => absurd hj (Nat.not_lt_zero _), Below.refl _ _⟩
  case round =>
    obtain ⟨k, hk, rfl, HA, hb⟩ := hrel
    have s2 := k2 wr hb
    by_cases hkn : k < n2
    · obtain ⟨b, o, rfl, hbz, hcell⟩ := H2.out (by omega)
      obtain ⟨q, hq⟩ : ∃ q, p.consts[k]? = some q := ⟨_, List.getElem?_eq_getElem (by have := E2.out; omega)⟩
      have g0 : wr.cell? ⟨b, o + k * 3, none⟩ = some (.int .i64 q.kind) := ((chain b0 hb).cell hbz).trans (hcell k q hq 0 _ rfl)
      have g1 : wr.cell? ⟨b, o + k * 3 + 1, none⟩ = some (.int .u64 (q.num : Int)) := ((chain b0 hb).cell hbz).trans (hcell k q hq 1 _ rfl)
      have g2 : wr.cell? ⟨b, o + k * 3 + 2, none⟩ = some (.string q.text) := ((chain b0 hb).cell hbz).trans (hcell k q hq 2 _ rfl)
      have hki : (k : Int) < (n2 : Int) := by omega
      have hk0 : (0 : Int) ≤ (k : Int) := by omega
      have cI := fun W => specConstOk_any q W (HW.out q (List.mem_iff_getElem?.2 ⟨_, hq⟩))
      obtain ⟨bI, eI⟩ : ∃ b, conOk q = b := ⟨_, rfl⟩
      simp only [eI] at cI
      have HI : Hid (conOk q = bI) := eI
      have HQ : Hid (p.consts[k]? = some q) := hq
      clear hcell eI hq
      cases bI with
      | false =>
        have hF : F = false := by rw [HF1.out, all_no HQ.out HI.out]; rfl
        subst hF
        clear H1 H2 k1 k2
        go_wp2_with (go_at_call 57; with_reducible refine (cI _).mono ?_; rintro e w' ⟨rfl, hb1⟩)
        go_ret
        exact ⟨rfl, chain (chain b0 hb) hb1⟩
      | true =>
        go_wp2_with (go_at_call 57; with_reducible refine (cI _).mono ?_; rintro e w' ⟨rfl, hb1⟩)
        go_roundw
        case rel => exact ⟨k + 1, by omega, by go_num, all_more HA.out HQ.out HI.out, chain hb hb1⟩
        case measure => simp [intOf]; omega
    · have hall : p.consts.all conOk = true := all_yes (n := k) (by have := E2.out; omega) HA.out
      have HF2 : Hid (F = (p.funcs.all funOk && firstOk p.funcs)) := by
        have h := HF1.out
        rw [hall] at h
        exact h
      clear HF1 hall HA H2 k2
      go_wp2
      go_loopw [4] (fun i wr => ∃ k : Nat, k ≤ n1 ∧ i = .int .i64 k ∧ Hid (∀ j q, j < k → p.funcs[j]? = some q → funOk q = true) ∧ Below W0.heap.size W0 wr) (fun i _ => n1 - (intOf i).toNat)
      case atStart => exact ⟨0, Nat.zero_le _, rfl, fun j q hj => absurd hj (Nat.not_lt_zero _), hb⟩
      case round =>
        clear hb hk hkn
        obtain ⟨k, hk, rfl, HA, hb⟩ := hrel
        have s2 := k1 _ hb
        by_cases hkn : k < n1
        · obtain ⟨b, o, rfl, hbz, hcell⟩ := H1.out (by omega)
          obtain ⟨q, hq⟩ : ∃ q, p.funcs[k]? = some q := ⟨_, List.getElem?_eq_getElem (by have := E1.out; omega)⟩
          obtain ⟨cv, kv, hv, hA⟩ := hcell k q hq
          have hA' := hA.below (chain b0 hb)
          have g0 := hA'.c0
          have g1 := hA'.c1
          have g2 := hA'.c2
          have g3 := hA'.c3
          have g4 := hA'.c4
          have hki : (k : Int) < (n1 : Int) := by omega
          have hk0 : (0 : Int) ≤ (k : Int) := by omega
          have cI := l13Func_any q cv kv hv wr hA'.caps hA'.code hA'.hnds
          obtain ⟨bI, eI⟩ : ∃ b, funOk q = b := ⟨_, rfl⟩
          simp only [eI] at cI
          have HI : Hid (funOk q = bI) := eI
          have HQ : Hid (p.funcs[k]? = some q) := hq
          clear hcell eI hq hA hA'
          cases bI with
          | false =>
            have hF : F = false := by rw [HF2.out, all_no HQ.out HI.out]; rfl
            subst hF
            clear H1 k1
            go_wp2_with (go_at_call 58; with_reducible refine cI.mono ?_; rintro e w' ⟨rfl, hb1⟩)
            go_ret
            exact ⟨rfl, chain (chain b0 hb) hb1⟩
          | true =>
            go_wp2_with (go_at_call 58; with_reducible refine cI.mono ?_; rintro e w' ⟨rfl, hb1⟩)
            go_roundw
            case rel => exact ⟨k + 1, by omega, by go_num, all_more HA.out HQ.out HI.out, chain hb hb1⟩
            case measure => simp [intOf]; omega
        · have hall : p.funcs.all funOk = true := all_yes (n := k) (by have := E1.out; omega) HA.out
          have HF3 : Hid (F = firstOk p.funcs) := by
            have h := HF2.out
            rw [hall] at h
            exact h
          clear HF2 hall HA
          obtain ⟨b, o, rfl, hbz, hcell⟩ := H1.out hpos
          obtain ⟨q, hq⟩ : ∃ q, p.funcs[0]? = some q := ⟨_, List.getElem?_eq_getElem (by have := E1.out; omega)⟩
          obtain ⟨cv, kv, hv, hA⟩ := hcell 0 q hq
          have hA' := hA.below (chain b0 hb)
          obtain ⟨cx, cc, rfl, _, _⟩ := hA'.caps.opened capC_len
          have g0 := hA'.c0
          have g2 := hA'.c2
          have e0 : o + 0 * 5 = o := by omega
          rw [e0] at g0 g2
          have hq1 : firstOk p.funcs = (decide (q.params = 0) && decide (q.caps.length = 0)) := by
            revert hq
            cases p.funcs with
            | nil => intro h; simp at h
            | cons f r =>
              intro h
              simp at h
              subst h
              rfl
          rw [hq1] at HF3
          have hp0 : (0 : Int) < (n1 : Int) := by omega
          obtain ⟨P, hP⟩ : ∃ x, q.params = x := ⟨_, rfl⟩
          obtain ⟨M, hM⟩ : ∃ x, q.caps.length = x := ⟨_, rfl⟩
          rw [hP, hM] at HF3
          rw [hP] at g0
          rw [hM] at g2
          clear hP hM hA hA' hcell hq hq1 H1 k1
          by_cases z1 : P = 0
          · subst z1
            by_cases z2 : M = 0
            · subst z2
              have hF : F = true := by rw [HF3.out]; rfl
              subst hF
              clear HF3
              go_wp2
              go_ret
              exact ⟨rfl, chain b0 hb⟩
            · have hF : F = false := by rw [HF3.out, decide_eq_false z2]; rfl
              subst hF
              have z3 : ((M : Int) == 0) = false := by rw [beq_eq_false_iff_ne]; omega
              clear HF3
              go_wp2
              go_ret
              exact ⟨rfl, chain b0 hb⟩
          · have hF : F = false := by rw [HF3.out, decide_eq_false z1]; rfl
            subst hF
            have z3 : (P == 0) = false := by rw [beq_eq_false_iff_ne]; omega
            clear HF3
            go_wp2
            go_ret
            exact ⟨rfl, chain b0 hb⟩
end Go.Proofs.Ytbgdapdenbldmaa
