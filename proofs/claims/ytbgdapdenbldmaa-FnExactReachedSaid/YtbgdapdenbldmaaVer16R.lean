/-
  The specification's questions about a register, and whether two states are the same.
-/
import Derived.Test.YtbgdapdenbldmaaVer16B
import Derived.Test.YtbgdapdenbldmaaImg13D
namespace Go.Proofs.Ytbgdapdenbldmaa
open Go.RowKit Go.Sort
set_option linter.unusedVariables false

theorem wrap_less (n : Nat) (h : n ≤ 9223372036854775807) : IntKind.i64.wrap ((n : Int) - 1) = (n : Int) - 1 := by
  rw [IntKind.wrap_i64]; omega

set_option maxHeartbeats 1000000 in
set_option maxRecDepth 100000 in
theorem l16Room_any (s : PSta) (v : Value) (r : Int) (w : World) (h : ArgI w v s.regs) :
    Calls Try.prog 103 #[.agg #[.int .i64 s.acc, v], .int .i64 r] w fun e w' => e = .returned (.bool (regIn s r)) ∧ Below w.heap.size w w' := by
  obtain ⟨x, c, rfl, hm, hc⟩ := h.opened
  clear h hc
  unfold maxLen at hm
  unfold regIn
  obtain ⟨n, hn⟩ : ∃ n, s.regs.length = n := ⟨_, rfl⟩
  rw [hn] at hm ⊢
  clear hn
  have hwr : IntKind.i64.wrap ((n : Int) - 1) = (n : Int) - 1 := wrap_less n hm
  have b0 : Below w.heap.size w (w.alloc (.cells #[.int .i64 s.acc, .slice x n c] 98)) := (Below.refl _ _).alloc (Nat.le_refl _) _
  have cP := fun W => l01In_b r 0 ((n : Int) - 1) W
  obtain ⟨bP, eP⟩ : ∃ b, inB r 0 ((n : Int) - 1) = b := ⟨_, rfl⟩
  simp only [eP] at cP ⊢
  clear eP
  go_enter Try.func103, Try.ntmps103
  go_wp2_with (go_at_call 33; with_reducible refine (cP _).mono ?_; rintro e w' ⟨rfl, rfl⟩)
  go_ret
  exact ⟨rfl, b0⟩

set_option maxHeartbeats 1000000 in
set_option maxRecDepth 100000 in
theorem l16Reg_any (s : PSta) (v : Value) (r want : Int) (w : World) (h : ArgI w v s.regs) :
    Calls Try.prog 102 #[.agg #[.int .i64 s.acc, v], .int .i64 r, .int .i64 want] w fun e w' => e = .returned (.bool (regIs s r want)) ∧ Below w.heap.size w w' := by
  obtain ⟨x, c, rfl, hm, hc⟩ := h.opened
  clear h
  unfold maxLen at hm
  have HF0 : regIs s r want = (inB r 0 ((s.regs.length : Int) - 1) && decide (s.regs[r.toNat]? = some want)) := rfl
  obtain ⟨F, hF⟩ : ∃ F, regIs s r want = F := ⟨_, rfl⟩
  rw [hF] at HF0 ⊢
  obtain ⟨n, hn⟩ : ∃ n, s.regs.length = n := ⟨_, rfl⟩
  rw [hn] at hm hc HF0 ⊢
  have HN : Hid (s.regs.length = n) := hn
  clear hn hF
  have hwr : IntKind.i64.wrap ((n : Int) - 1) = (n : Int) - 1 := wrap_less n hm
  have b0 : Below w.heap.size w (w.alloc (.cells #[.int .i64 s.acc, .slice x n c] 98)) := (Below.refl _ _).alloc (Nat.le_refl _) _
  have cP := fun W => l01In_b r 0 ((n : Int) - 1) W
  obtain ⟨bP, eP⟩ : ∃ b, inB r 0 ((n : Int) - 1) = b := ⟨_, rfl⟩
  have HP : Hid (inB r 0 ((n : Int) - 1) = bP) := eP
  simp only [eP] at cP HF0
  clear eP
  have HF : Hid (F = (bP && decide (s.regs[r.toNat]? = some want))) := HF0
  clear HF0
  cases bP with
  | false =>
    have hF : F = false := by rw [HF.out]; rfl
    subst hF
    clear HF hc HN HP
    go_enter Try.func102, Try.ntmps102
    go_wp2_with (go_at_call 33; with_reducible refine (cP _).mono ?_; rintro e w' ⟨rfl, rfl⟩)
    go_ret
    exact ⟨rfl, b0⟩
  | true =>
    have hin := HP.out
    unfold inB at hin
    simp only [Bool.and_eq_true, decide_eq_true_eq] at hin
    obtain ⟨K, rfl⟩ : ∃ K : Nat, r = (K : Int) := ⟨r.toNat, by omega⟩
    obtain ⟨b, o, rfl, hb, hcell⟩ := hc (by omega)
    obtain ⟨z, hz⟩ : ∃ z, s.regs[K]? = some z := ⟨_, List.getElem?_eq_getElem (by have := HN.out; omega)⟩
    have g1 : (w.alloc (.cells #[.int .i64 s.acc, .slice (some ⟨b, o, none⟩) n c] 98)).cell? ⟨b, o + K, none⟩ = some (.int .i64 z) := (b0.cell hb).trans (hcell K z hz)
    have hk1 : (K : Int) < (n : Int) := by omega
    have hk0 : (0 : Int) ≤ (K : Int) := by omega
    have hF : F = decide (z = want) := by
      rw [HF.out, Int.toNat_natCast, hz, Bool.true_and]
      simp
    clear HF HP HN hcell hz hc hin
    obtain ⟨W0, hW0⟩ : ∃ W, w.alloc (.cells #[.int .i64 s.acc, .slice (some ⟨b, o, none⟩) n c] 98) = W := ⟨_, rfl⟩
    have g2 : W0.cell? ⟨w.heap.size, 1, none⟩ = some (.slice (some ⟨b, o, none⟩) n c) := by
      rw [← hW0, cell_of_row _ _ 1 _ _ _ (heap_alloc_new w _)]
      rfl
    rw [hW0] at g1 b0
    have HW0 : Hid (w.alloc (.cells #[.int .i64 s.acc, .slice (some ⟨b, o, none⟩) n c] 98) = W0) := hW0
    clear hW0
    by_cases e : z = want
    · subst e
      have hF' : F = true := by rw [hF]; simp
      subst hF'
      clear hF
      go_enter Try.func102, Try.ntmps102
      go_upto_region 1 with fail
      rw [HW0.out]
      clear HW0
      go_wp2_with (go_at_call 33; with_reducible refine (cP _).mono ?_; rintro e w' ⟨rfl, rfl⟩)
      go_ret
      exact ⟨rfl, b0⟩
    · have hF' : F = false := by rw [hF]; exact decide_eq_false e
      subst hF'
      have hne : (z == want) = false := by rw [beq_eq_false_iff_ne]; exact e
      clear hF
      go_enter Try.func102, Try.ntmps102
      go_upto_region 1 with fail
      rw [HW0.out]
      clear HW0
      go_wp2_with (go_at_call 33; with_reducible refine (cP _).mono ?_; rintro e w' ⟨rfl, rfl⟩)
      go_ret
      exact ⟨rfl, b0⟩

set_option maxHeartbeats 1000000 in
set_option maxRecDepth 100000 in
theorem l16Same_any (p q : PSta) (u v : Value) (w : World) (hu : ArgI w u p.regs) (hv : ArgI w v q.regs) :
    Calls Try.prog 101 #[.agg #[.int .i64 p.acc, u], .agg #[.int .i64 q.acc, v]] w fun e w' => e = .returned (.bool (sameS p q)) ∧ Below w.heap.size w w' := by
  obtain ⟨xa, ca, rfl, hm, oa⟩ := hu.opened
  obtain ⟨xb, cb, rfl, hm', ob⟩ := hv.opened
  clear hu hv
  unfold maxLen at hm hm'
  unfold sameS
  obtain ⟨A, hA⟩ : ∃ x, p.acc = x := ⟨_, rfl⟩
  obtain ⟨B, hB⟩ : ∃ x, q.acc = x := ⟨_, rfl⟩
  rw [hA, hB]
  clear hA hB
  obtain ⟨ls, hls⟩ : ∃ x, p.regs = x := ⟨_, rfl⟩
  obtain ⟨ms, hms⟩ : ∃ x, q.regs = x := ⟨_, rfl⟩
  rw [hls] at hm oa ⊢
  rw [hms] at hm' ob ⊢
  clear hls hms
  obtain ⟨n, hn⟩ : ∃ n, ls.length = n := ⟨_, rfl⟩
  obtain ⟨m, hmm⟩ : ∃ m, ms.length = m := ⟨_, rfl⟩
  have HN : Hid (ls.length = n) := hn
  have HM : Hid (ms.length = m) := hmm
  rw [hn] at hm oa ⊢
  rw [hmm] at hm' ob ⊢
  obtain ⟨F, hF⟩ : ∃ F, (decide (A = B) && decide (ls = ms)) = F := ⟨_, rfl⟩
  rw [hF]
  have HF : Hid ((decide (A = B) && decide (ls = ms)) = F) := hF
  clear hn hmm hF
  have b0 : Below w.heap.size w ((w.alloc (.cells #[.int .i64 A, .slice xa n ca] 98)).alloc (.cells #[.int .i64 B, .slice xb m cb] 98)) := ((Below.refl _ _).alloc (Nat.le_refl _) _).alloc (by simp) _
  by_cases hAB : A = B
  case neg =>
    have hf : F = false := by rw [← HF.out, decide_eq_false hAB]; rfl
    subst hf
    have hne : (A == B) = false := by rw [beq_eq_false_iff_ne]; exact hAB
    clear oa ob HF
    go_enter Try.func101, Try.ntmps101
    go_wp2
    go_ret
    exact ⟨rfl, b0⟩
  subst hAB
  by_cases hnm : n = m
  case neg =>
    have hf : F = false := by
      rw [← HF.out, decide_eq_false (p := ls = ms) (fun e => hnm (by rw [← HN.out, ← HM.out, e])), Bool.and_false]
    subst hf
    have hne : ((n : Int) == (m : Int)) = false := by rw [beq_eq_false_iff_ne]; omega
    clear oa ob HF
    go_enter Try.func101, Try.ntmps101
    go_wp2
    go_ret
    exact ⟨rfl, b0⟩
  subst hnm
  have HF1 : Hid (decide (ls = ms) = F) := by
    have h := HF.out
    rw [decide_eq_true (rfl : A = A), Bool.true_and] at h
    exact h
  clear HF
  have HA : Hid (0 < n → ∃ b o, xa = some ⟨b, o, none⟩ ∧ b < w.heap.size ∧ ∀ (j : Nat) (z : Int), ls[j]? = some z → w.cell? ⟨b, o + j, none⟩ = some (.int .i64 z)) := oa
  have HB : Hid (0 < n → ∃ b o, xb = some ⟨b, o, none⟩ ∧ b < w.heap.size ∧ ∀ (j : Nat) (z : Int), ms[j]? = some z → w.cell? ⟨b, o + j, none⟩ = some (.int .i64 z)) := ob
  clear oa ob
  obtain ⟨W0, hW0⟩ : ∃ W, ((w.alloc (.cells #[.int .i64 A, .slice xa n ca] 98)).alloc (.cells #[.int .i64 A, .slice xb n cb] 98)) = W := ⟨_, rfl⟩
  have z0 : W0.heap[w.heap.size]? = some (.cells #[.int .i64 A, .slice xa n ca] 98) := by
    rw [← hW0, heap_alloc_old (r := w.heap.size) _ _ (by simp)]
    exact heap_alloc_new w _
  have z1 : W0.heap[w.heap.size + 1]? = some (.cells #[.int .i64 A, .slice xb n cb] 98) := by
    rw [← hW0, show w.heap.size + 1 = (w.alloc (.cells #[.int .i64 A, .slice xa n ca] 98)).heap.size by simp]
    exact heap_alloc_new _ _
  have z2 : w.heap.size + 2 ≤ W0.heap.size := by rw [← hW0]; simp
  rw [hW0] at b0
  have HW0 : Hid (((w.alloc (.cells #[.int .i64 A, .slice xa n ca] 98)).alloc (.cells #[.int .i64 A, .slice xb n cb] 98)) = W0) := hW0
  clear hW0
  go_enter Try.func101, Try.ntmps101
  go_upto_region 1 with fail
  rw [HW0.out]
  clear HW0
  obtain ⟨p0, p1⟩ := two_cells_of z0
  obtain ⟨q0, q1⟩ := two_cells_of z1
  go_wp2
  clear p0 p1 q0 q1
  go_loopw [5] (fun i wr => ∃ k : Nat, k ≤ n ∧ i = .int .i64 k ∧ Hid (∀ j, j < k → ls[j]? = ms[j]?) ∧ Below W0.heap.size W0 wr) (fun i _ => n - (intOf i).toNat)
  case atStart => exact ⟨0, Nat.zero_le _, rfl, fun j hj => absurd hj (Nat.not_lt_zero _), Below.refl _ _⟩
  case round =>
    obtain ⟨k, hk, rfl, HS, hbel⟩ := hrel
    obtain ⟨p0, p1⟩ := two_cells_of ((hbel.block w.heap.size (by omega)).trans z0)
    obtain ⟨q0, q1⟩ := two_cells_of ((hbel.block (w.heap.size + 1) (by omega)).trans z1)
    by_cases hlt : k < n
    · obtain ⟨ga, sa, rfl, hga, hca⟩ := HA.out (by omega)
      obtain ⟨gb, sb, rfl, hgb, hcb⟩ := HB.out (by omega)
      obtain ⟨y, hy⟩ : ∃ s, ls[k]? = some s := ⟨_, List.getElem?_eq_getElem (by have := HN.out; omega)⟩
      obtain ⟨z, hz⟩ : ∃ s, ms[k]? = some s := ⟨_, List.getElem?_eq_getElem (by have := HM.out; omega)⟩
      have h1 : wr.cell? ⟨ga, sa + k, none⟩ = some (.int .i64 y) := ((chain b0 hbel).cell hga).trans (hca k y hy)
      have h2 : wr.cell? ⟨gb, sb + k, none⟩ = some (.int .i64 z) := ((chain b0 hbel).cell hgb).trans (hcb k z hz)
      have hki : (k : Int) < (n : Int) := by omega
      have hk0 : (0 : Int) ≤ (k : Int) := by omega
      by_cases e : y = z
      · have HS2 : Hid (∀ j, j < k + 1 → ls[j]? = ms[j]?) := fun j hj => by
          rcases Nat.lt_or_ge j k with h' | h'
          · exact HS.out j h'
          · have e3 : j = k := by omega
            subst e3
            rw [hy, hz, e]
        subst e
        clear hca hcb hy hz HS HA HB z0 z1
        go_wp2
        go_quiet (fail)
        go_wp2
        go_roundw
        case rel => exact ⟨k + 1, by omega, by go_num, HS2, below_drewN hbel _⟩
        case measure => simp [intOf]; omega
      · have hf : F = false := by
          rw [← HF1.out]
          apply decide_eq_false
          intro e3
          rw [e3, hz] at hy
          injection hy with hy
          exact e hy.symm
        subst hf
        have hne : (y == z) = false := by rw [beq_eq_false_iff_ne]; exact e
        clear hca hcb hy hz HS HA HB z0 z1
        go_wp2
        go_quiet (fail)
        go_wp2
        go_ret
        exact ⟨rfl, chain b0 (below_drewN hbel _)⟩
    · have hf : F = true := by
        rw [← HF1.out]
        apply decide_eq_true
        apply List.ext_getElem?
        intro j
        by_cases hj : j < k
        · exact HS.out j hj
        · rw [List.getElem?_eq_none (by have := HN.out; omega), List.getElem?_eq_none (by have := HM.out; omega)]
      subst hf
      clear z0 z1
      go_wp2
      go_ret
      exact ⟨rfl, chain b0 hbel⟩

end Go.Proofs.Ytbgdapdenbldmaa
