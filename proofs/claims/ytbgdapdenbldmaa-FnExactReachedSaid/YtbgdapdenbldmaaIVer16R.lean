/-
  The program's own questions about registers.
-/
import Derived.Test.YtbgdapdenbldmaaVer16R
namespace Go.Proofs.Ytbgdapdenbldmaa
open Go.RowKit Go.Sort
set_option linter.unusedVariables false

set_option maxHeartbeats 1000000 in
set_option maxRecDepth 100000 in
theorem iHolds (s : PSta) (v : Value) (r want : Int) (w : World) (h : ArgI w v s.regs) (h0 : 0 ≤ r) :
    Calls Try.prog 133 #[.agg #[.int .i64 s.acc, v], .int .i64 r, .int .i64 want] w fun e w' => e = .returned (.bool (regIs s r want)) ∧ Below w.heap.size w w' := by
  obtain ⟨x, c, rfl, hm, hc⟩ := h.opened
  clear h
  unfold maxLen at hm
  have HF0 : regIs s r want = (inB r 0 ((s.regs.length : Int) - 1) && decide (s.regs[r.toNat]? = some want)) := rfl
  obtain ⟨F, hF⟩ : ∃ F, regIs s r want = F := ⟨_, rfl⟩
  rw [hF] at HF0 ⊢
  obtain ⟨n, hn⟩ : ∃ n, s.regs.length = n := ⟨_, rfl⟩
  rw [hn] at hm hc HF0 ⊢
  have HN : Hid (s.regs.length = n) := hn
  clear hn hF
  have b0 : Below w.heap.size w (w.alloc (.cells #[.int .i64 s.acc, .slice x n c] 98)) := (Below.refl _ _).alloc (Nat.le_refl _) _
  have HF : Hid (F = (inB r 0 ((n : Int) - 1) && decide (s.regs[r.toNat]? = some want))) := HF0
  clear HF0
  obtain ⟨K, rfl⟩ : ∃ K : Nat, r = (K : Int) := ⟨r.toNat, by omega⟩
  by_cases hk : K < n
  case neg =>
    have hF : F = false := by
      rw [HF.out]
      have : inB (K : Int) 0 ((n : Int) - 1) = false := by
        unfold inB
        rw [decide_eq_false (p := (K : Int) ≤ (n : Int) - 1) (by omega), Bool.and_false]
      rw [this]; rfl
    subst hF
    have hk1 : ¬ (K : Int) < (n : Int) := by omega
    clear HF hc HN
    go_enter Try.func133, Try.ntmps133
    go_wp2
    go_ret
    exact ⟨rfl, b0⟩
  case pos =>
    obtain ⟨b, o, rfl, hb, hcell⟩ := hc (by omega)
    obtain ⟨z, hz⟩ : ∃ z, s.regs[K]? = some z := ⟨_, List.getElem?_eq_getElem (by have := HN.out; omega)⟩
    have g1 : (w.alloc (.cells #[.int .i64 s.acc, .slice (some ⟨b, o, none⟩) n c] 98)).cell? ⟨b, o + K, none⟩ = some (.int .i64 z) := (b0.cell hb).trans (hcell K z hz)
    have hk1 : (K : Int) < (n : Int) := by omega
    have hk0 : (0 : Int) ≤ (K : Int) := by omega
    have hF : F = decide (z = want) := by
      have : inB (K : Int) 0 ((n : Int) - 1) = true := by
        unfold inB
        rw [decide_eq_true (p := (K : Int) ≤ (n : Int) - 1) (by omega), decide_eq_true (p := (0 : Int) ≤ (K : Int)) (by omega)]
        rfl
      rw [HF.out, this, Int.toNat_natCast, hz, Bool.true_and]
      simp
    clear HF HN hcell hz hc
    obtain ⟨W0, hW0⟩ : ∃ W, w.alloc (.cells #[.int .i64 s.acc, .slice (some ⟨b, o, none⟩) n c] 98) = W := ⟨_, rfl⟩
    have g2 : W0.cell? ⟨w.heap.size, 1, none⟩ = some (.slice (some ⟨b, o, none⟩) n c) := by
      rw [← hW0, cell_of_row _ _ 1 _ _ _ (heap_alloc_new w _)]
      rfl
    rw [hW0] at g1 b0
    have HW0 : Hid (w.alloc (.cells #[.int .i64 s.acc, .slice (some ⟨b, o, none⟩) n c] 98) = W0) := hW0
    clear hW0
    by_cases e : z = want
    · subst e
      have hF' : F = true := by rw [hF]; simp
      subst hF'
      clear hF
      go_enter Try.func133, Try.ntmps133
      go_upto_region 1 with fail
      rw [HW0.out]
      clear HW0
      go_wp2
      go_ret
      exact ⟨rfl, b0⟩
    · have hF' : F = false := by rw [hF]; exact decide_eq_false e
      subst hF'
      have hne : (z == want) = false := by rw [beq_eq_false_iff_ne]; exact e
      clear hF
      go_enter Try.func133, Try.ntmps133
      go_upto_region 1 with fail
      rw [HW0.out]
      clear HW0
      go_wp2
      go_ret
      exact ⟨rfl, b0⟩

set_option maxHeartbeats 1000000 in
set_option maxRecDepth 100000 in
theorem iHoldValues (s : PSta) (v : Value) (a b : Int) (w : World) (h : ArgI w v s.regs) (h0 : 0 ≤ a) (h1 : 0 ≤ b) (h2 : a ≤ 300) (h3 : b ≤ 300) :
    Calls Try.prog 135 #[.agg #[.int .i64 s.acc, v], .int .i64 a, .int .i64 (a + b)] w fun e w' => e = .returned (.bool ((List.range (b + 1).toNat).all fun (k : Nat) => regIs s (a + k) 1)) ∧ Below w.heap.size w w' := by
  obtain ⟨x, c, rfl, hm, hc⟩ := h.opened
  obtain ⟨n, hn⟩ : ∃ n, s.regs.length = n := ⟨_, rfl⟩
  rw [hn] at hm h ⊢
  have HI : Hid (ArgI w (.slice x n c) s.regs) := h
  clear hn hm hc h
  obtain ⟨F, hF⟩ : ∃ F, ((List.range (b + 1).toNat).all fun (k : Nat) => regIs s (a + k) 1) = F := ⟨_, rfl⟩
  rw [hF]
  have HF : Hid (((List.range (b + 1).toNat).all fun (k : Nat) => regIs s (a + k) 1) = F) := hF
  clear hF
  obtain ⟨Q, hQ⟩ : ∃ q, a + b = q := ⟨_, rfl⟩
  rw [hQ]
  have HQ : Hid (a + b = Q) := hQ
  have hQ3 : Q ≤ 600 := by omega
  clear hQ
  have b0 : Below w.heap.size w (w.alloc (.cells #[.int .i64 s.acc, .slice x n c] 98)) := (Below.refl _ _).alloc (Nat.le_refl _) _
  have hG : (w.alloc (.cells #[.int .i64 s.acc, .slice x n c] 98)).heap[w.heap.size]? = some (.cells #[.int .i64 s.acc, .slice x n c] 98 (0, 0)) := heap_alloc_new w _
  obtain ⟨W0, hW0⟩ : ∃ W, w.alloc (.cells #[.int .i64 s.acc, .slice x n c] 98) = W := ⟨_, rfl⟩
  rw [hW0] at b0 hG
  have hlt : w.heap.size < W0.heap.size := by rw [← hW0]; simp
  have HW0 : Hid (_ = W0) := hW0
  clear hW0
  go_enter Try.func135, Try.ntmps135
  go_upto_region 1 with fail
  rw [HW0.out]
  clear HW0
  go_wp2
  go_loopw [7] (fun i wr => ∃ k : Nat, i = .int .i64 (a + k) ∧ (k : Int) ≤ b + 1 ∧ Hid (∀ j, j < k → regIs s (a + (j : Int)) 1 = true) ∧ Below W0.heap.size W0 wr) (fun i _ => (Q + 1 - intOf i).toNat)
  case atStart => exact ⟨0, by simp, by omega, fun j hj => absurd hj (Nat.not_lt_zero _), Below.refl _ _⟩
  case round =>
    obtain ⟨k, rfl, hk, HA, hb⟩ := hrel
    obtain ⟨p0, p1⟩ := two_cells_of ((hb.block _ hlt).trans hG)
    obtain ⟨R, hR⟩ : ∃ r, a + (k : Int) = r := ⟨_, rfl⟩
    have HR : Hid (a + (k : Int) = R) := hR
    have hR0 : 0 ≤ R := by omega
    have hR1 : R ≤ 700 := by have := HQ.out; omega
    have cH := iHolds s (.slice x n c) R 1 wr (HI.out.below (chain b0 hb)) hR0
    obtain ⟨B, eB⟩ : ∃ B, regIs s R 1 = B := ⟨_, rfl⟩
    rw [eB] at cH
    have HBB : Hid (regIs s R 1 = B) := eB
    rw [hR]
    clear hR eB
    by_cases hlt2 : R ≤ Q
    · cases B with
      | true =>
        go_wp2_with (go_at_call 133; (with_reducible refine cH.mono ?_); rintro e w5 ⟨rfl, hb5⟩)
        go_roundw
        case rel =>
          refine ⟨k + 1, ?_, ?_, fun j hj => ?_, chain hb hb5⟩
          · rw [← HR.out]
            go_num
          · have := HR.out; have := HQ.out; omega
          · rcases Nat.lt_or_ge j k with h' | h'
            · exact HA.out j h'
            · have e : j = k := by omega
              subst e
              rw [HR.out]; exact HBB.out
        case measure => simp [intOf]; omega
      | false =>
        have hF : F = false := by
          rw [← HF.out, List.all_eq_false]
          exact ⟨k, List.mem_range.2 (by have := HR.out; have := HQ.out; omega), by rw [HR.out, HBB.out]; simp⟩
        subst hF
        go_wp2_with (go_at_call 133; (with_reducible refine cH.mono ?_); rintro e w5 ⟨rfl, hb5⟩)
        go_ret
        exact ⟨rfl, chain b0 (chain hb hb5)⟩
    · have hF : F = true := by
        rw [← HF.out, List.all_eq_true]
        intro j hj
        exact HA.out j (by have := List.mem_range.1 hj; have := HR.out; have := HQ.out; omega)
      subst hF
      clear cH
      go_wp2
      go_ret
      exact ⟨rfl, chain b0 hb⟩

end Go.Proofs.Ytbgdapdenbldmaa
