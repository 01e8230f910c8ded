/-
  The walks of the program's own products, quotients and rests of finite numbers.
-/
import Derived.Test.YtilhcfnennfofaaIMul
import Derived.Test.YtilhcfnennfofaaIDiv64
namespace Go.Proofs.Ytilhcfnennfofaa
open Go.RowKit Go.Sort
set_option linter.unusedVariables false

set_option maxHeartbeats 1000000 in
set_option maxRecDepth 100000 in
theorem iFinProduct (a b : Nat) (w : World) (ha : a < 18446744073709551616) (hb : b < 18446744073709551616) (ka : kindN a = 4) (kb : kindN b = 4) :
    Calls Try.prog 31 #[.int .u64 a, .int .u64 b] w fun e w' => e = .returned (.int .u64 (roundN (mantN a * mantN b) (expN a + expN b) false : Nat)) ∧ Below w.heap.size w w' := by
  obtain ⟨M, E, hM, e1, e2, cA⟩ := iHigh a ha ka
  obtain ⟨N, F, hN, f1, f2, cB⟩ := iHigh b hb kb
  rw [← up_product hM hN]
  have cP := fun W => iProduct M N W hM.hi hN.hi
  obtain ⟨p, hp⟩ : ∃ p, M * N / 18446744073709551616 = p := ⟨_, rfl⟩
  obtain ⟨q, hq⟩ : ∃ p, M * N % 18446744073709551616 = p := ⟨_, rfl⟩
  have hp2 : p < 18446744073709551616 := by
    rw [← hp, Nat.div_lt_iff_lt_mul (by omega)]
    exact Nat.mul_lt_mul'' hM.hi hN.hi
  have cR := fun W => iRound_w false (decide (q ≠ 0)) p (E + F + 64) W hp2 (by omega) (by omega)
  rw [hp, hq] at cP ⊢
  obtain ⟨R, hR⟩ : ∃ R, roundN p (E + F + 64) (decide (q ≠ 0) && decide (72057594037927936 ≤ p)) = R := ⟨_, rfl⟩
  rw [hR] at cR ⊢
  rw [signN_false] at cR
  clear hp hq hp2 hR ha hb ka kb hM hN
  by_cases hq0 : q = 0
  · subst hq0
    rw [(by decide : decide ((0 : Nat) ≠ 0) = false)] at cR
    go_enter Try.func31, Try.ntmps31
    go_wp2_with fail
    refine (cA _).mono ?_
    rintro e w' ⟨rfl, rfl⟩
    go_wp2_with fail
    refine (cB _).mono ?_
    rintro e w' ⟨rfl, rfl⟩
    go_wp2_with fail
    refine (cP _).mono ?_
    rintro e w' ⟨rfl, o, rfl⟩
    go_wp2_with (go_at_call 44; refine (cR _).mono ?_; rintro e w' ⟨rfl, rfl⟩)
    go_ret
    exact ⟨rfl, by go_grown⟩
  · have d : ((q : Int) == 0) = false := by rw [beq_eq_false_iff_ne]; omega
    rw [decide_eq_true hq0] at cR
    go_enter Try.func31, Try.ntmps31
    go_wp2_with fail
    refine (cA _).mono ?_
    rintro e w' ⟨rfl, rfl⟩
    go_wp2_with fail
    refine (cB _).mono ?_
    rintro e w' ⟨rfl, rfl⟩
    go_wp2_with fail
    refine (cP _).mono ?_
    rintro e w' ⟨rfl, o, rfl⟩
    go_wp2_with (go_at_call 44; refine (cR _).mono ?_; rintro e w' ⟨rfl, rfl⟩)
    go_ret
    exact ⟨rfl, by go_grown⟩

theorem size_alloc (w : World) (o : Obj) : (w.alloc o).heap.size = w.heap.size + 1 := by simp

theorem cells_two {w : World} {g : Nat} {a b : Value} {t : TypeId} {r : Nat × Nat} (h : w.heap[g]? = some (.cells #[a, b] t r)) :
    w.cell? ⟨g, 0, none⟩ = some a ∧ w.cell? ⟨g, 1, none⟩ = some b := by
  refine ⟨?_, ?_⟩
  · unfold World.cell?; simp only [h]; rfl
  · unfold World.cell?; simp only [h]; rfl

theorem iProductB (a b : Nat) (w : World) (ha : a < 18446744073709551616) (hb : b < 18446744073709551616) :
    Calls Try.prog 23 #[.int .u64 a, .int .u64 b] w fun e w' => e = .returned (.agg #[.int .u64 ((a * b / 18446744073709551616 : Nat) : Int), .int .u64 ((a * b % 18446744073709551616 : Nat) : Int)]) ∧ Below w.heap.size w w' :=
  (iProduct a b w ha hb).mono (by rintro e w' ⟨rfl, o, rfl⟩; exact ⟨rfl, by go_grown⟩)

/-- the two halves tell whether two products are the same -/
theorem halves_eq {X Y : Nat} : (X / 18446744073709551616 = Y / 18446744073709551616 ∧ X % 18446744073709551616 = Y % 18446744073709551616) ↔ X = Y := by omega

set_option maxHeartbeats 1000000 in
set_option maxRecDepth 100000 in
theorem iFinQuotient (a b : Nat) (w : World) (ha : a < 18446744073709551616) (hb : b < 18446744073709551616) (ka : kindN a = 4) (kb : kindN b = 4) :
    Calls Try.prog 35 #[.int .u64 a, .int .u64 b] w fun e w' => e = .returned (.int .u64 (quoN (mantN a) (mantN b) (expN a - expN b) : Nat)) ∧ Below w.heap.size w w' := by
  obtain ⟨M, E, hM, e1, e2, cA⟩ := iHigh a ha ka
  obtain ⟨N, F, hN, f1, f2, cB⟩ := iHigh b hb kb
  obtain ⟨Q, hQ⟩ : ∃ Q, M * 9223372036854775808 / N = Q := ⟨_, rfl⟩
  obtain ⟨hQ2, hR⟩ := up_quotient (mantN_pos ka) (mantN_pos kb) (mantN_lt b) hM hN hQ
  rw [← hR]
  have cP := fun W => iProduct M 9223372036854775808 W hM.hi (by decide)
  have hx1 := hM.even
  have hx2 := hM.lo
  have hx3 := hM.hi
  have hx4 := hN.lo
  have hx5 := hN.hi
  have x1 : M * 9223372036854775808 / 18446744073709551616 = M / 2 := by omega
  have x2 : M * 9223372036854775808 % 18446744073709551616 = 0 := by omega
  rw [x1, x2] at cP
  have cD := fun W => iDiv64 (M / 2) N W hx4 hx5 (by omega) (by omega)
  have x3 : M / 2 * 18446744073709551616 = M * 9223372036854775808 := by omega
  rw [x3, hQ] at cD
  have cQ := fun W => iProductB Q N W hQ2 hx5
  have cR := fun W => iRound_w false (decide (Q * N ≠ M * 9223372036854775808)) Q (E - F - 63) W hQ2 (by omega) (by omega)
  obtain ⟨R, hR⟩ : ∃ R, roundN Q (E - F - 63) (decide (Q * N ≠ M * 9223372036854775808) && decide (72057594037927936 ≤ Q)) = R := ⟨_, rfl⟩
  rw [hR] at cR ⊢
  rw [signN_false] at cR
  have hs : Q * N = M * 9223372036854775808 ↔ (Q * N / 18446744073709551616 = M / 2 ∧ Q * N % 18446744073709551616 = 0) := by rw [← x1, ← x2]; exact halves_eq.symm
  obtain ⟨u, hu⟩ : ∃ u, M / 2 = u := ⟨_, rfl⟩
  obtain ⟨p, hp⟩ : ∃ p, Q * N / 18446744073709551616 = p := ⟨_, rfl⟩
  obtain ⟨q, hq⟩ : ∃ p, Q * N % 18446744073709551616 = p := ⟨_, rfl⟩
  rw [hu] at cP cD hs
  rw [hp, hq] at cQ hs
  clear hx1 hx2 hx3 hx4 hx5 x1 x2 x3 hQ2 hR ha hb ka kb hM hN hQ hu hp hq
  by_cases hpq : p = u ∧ q = 0
  · obtain ⟨rfl, rfl⟩ := hpq
    rw [decide_eq_false (by simpa using hs)] at cR
    clear hs
    go_enter Try.func35, Try.ntmps35
    go_wp2_with fail
    refine (cA _).mono ?_
    rintro e w' ⟨rfl, rfl⟩
    go_wp2_with fail
    refine (cB _).mono ?_
    rintro e w' ⟨rfl, rfl⟩
    go_wp2_with fail
    refine (cP _).mono ?_
    rintro e w' ⟨rfl, o, rfl⟩
    go_wp2_with fail
    refine (cD _).mono ?_
    rintro e w' ⟨r, rfl, rfl⟩
    go_wp2_with fail
    obtain ⟨wq, hwq⟩ : ∃ wq, (w.alloc o).alloc (.cells #[.int .u64 p, .int .u64 0] 37) = wq := ⟨_, rfl⟩
    have hblk : wq.heap[w.heap.size + 1]? = some (.cells #[.int .u64 p, .int .u64 0] 37) := by rw [← hwq, ← size_alloc w o]; exact heap_alloc_new _ _
    have hb2 : Below w.heap.size w wq := by rw [← hwq]; exact below_two _ _ _
    simp only [hwq]
    clear hwq
    obtain ⟨gp, hgp⟩ : ∃ gp, w.heap.size + 1 = gp := ⟨_, rfl⟩
    simp only [hgp]
    rw [hgp] at hblk
    clear hgp
    obtain ⟨c0, c1⟩ := cells_two hblk
    have k0 := cell_regrown c0
    have k1 := cell_regrown c1
    have cS := fun d os => Calls.regrown_of (w := wq) (d := d) (os := os) (cQ (grow (redrawn wq d) os))
    clear c0 c1
    refine wp_region_quiet_below (by kernel_rfl) (by kernel_rfl) ?_
    repeat (first | go_big_quiet_step (exact cS _ _) | quiet_step (exact cS _ _))
    refine wpQuiet_nil ?_
    intro _ hw'
    obtain ⟨⟨dq, osq⟩, hw''⟩ := hw'
    subst hw''
    have bg := chain hb2 (below_regrown wq dq osq)
    revert bg
    generalize Go.Sort.grow (redrawn wq dq) osq = wg
    intro bg
    go_wp2_with (go_at_call 44; refine (cR _).mono ?_; rintro e w' ⟨rfl, rfl⟩)
    go_ret
    exact ⟨rfl, bg⟩
  · rw [decide_eq_true (by rw [ne_eq, hs]; exact hpq)] at cR
    clear hs
    by_cases hpu : p = u
    · subst hpu
      have hq0 : q ≠ 0 := fun h => hpq ⟨rfl, h⟩
      have dq : ((q : Int) == 0) = false := by rw [beq_eq_false_iff_ne]; omega
      clear hpq
      go_enter Try.func35, Try.ntmps35
      go_wp2_with fail
      refine (cA _).mono ?_
      rintro e w' ⟨rfl, rfl⟩
      go_wp2_with fail
      refine (cB _).mono ?_
      rintro e w' ⟨rfl, rfl⟩
      go_wp2_with fail
      refine (cP _).mono ?_
      rintro e w' ⟨rfl, o, rfl⟩
      go_wp2_with fail
      refine (cD _).mono ?_
      rintro e w' ⟨r, rfl, rfl⟩
      go_wp2_with fail
      obtain ⟨wq, hwq⟩ : ∃ wq, (w.alloc o).alloc (.cells #[.int .u64 p, .int .u64 0] 37) = wq := ⟨_, rfl⟩
      have hblk : wq.heap[w.heap.size + 1]? = some (.cells #[.int .u64 p, .int .u64 0] 37) := by rw [← hwq, ← size_alloc w o]; exact heap_alloc_new _ _
      have hb2 : Below w.heap.size w wq := by rw [← hwq]; exact below_two _ _ _
      simp only [hwq]
      clear hwq
      obtain ⟨gp, hgp⟩ : ∃ gp, w.heap.size + 1 = gp := ⟨_, rfl⟩
      simp only [hgp]
      rw [hgp] at hblk
      clear hgp
      obtain ⟨c0, c1⟩ := cells_two hblk
      have k0 := cell_regrown c0
      have k1 := cell_regrown c1
      have cS := fun d os => Calls.regrown_of (w := wq) (d := d) (os := os) (cQ (grow (redrawn wq d) os))
      clear c0 c1
      refine wp_region_quiet_below (by kernel_rfl) (by kernel_rfl) ?_
      repeat (first | go_big_quiet_step (exact cS _ _) | quiet_step (exact cS _ _))
      refine wpQuiet_nil ?_
      intro _ hw'
      obtain ⟨⟨dq, osq⟩, hw''⟩ := hw'
      subst hw''
      have bg := chain hb2 (below_regrown wq dq osq)
      revert bg
      generalize Go.Sort.grow (redrawn wq dq) osq = wg
      intro bg
      go_wp2_with (go_at_call 44; refine (cR _).mono ?_; rintro e w' ⟨rfl, rfl⟩)
      go_ret
      exact ⟨rfl, bg⟩
    · have dp : ((p : Int) == u) = false := by rw [beq_eq_false_iff_ne]; omega
      clear hpq
      go_enter Try.func35, Try.ntmps35
      go_wp2_with fail
      refine (cA _).mono ?_
      rintro e w' ⟨rfl, rfl⟩
      go_wp2_with fail
      refine (cB _).mono ?_
      rintro e w' ⟨rfl, rfl⟩
      go_wp2_with fail
      refine (cP _).mono ?_
      rintro e w' ⟨rfl, o, rfl⟩
      go_wp2_with fail
      refine (cD _).mono ?_
      rintro e w' ⟨r, rfl, rfl⟩
      go_wp2_with fail
      obtain ⟨wq, hwq⟩ : ∃ wq, (w.alloc o).alloc (.cells #[.int .u64 u, .int .u64 0] 37) = wq := ⟨_, rfl⟩
      have hblk : wq.heap[w.heap.size + 1]? = some (.cells #[.int .u64 u, .int .u64 0] 37) := by rw [← hwq, ← size_alloc w o]; exact heap_alloc_new _ _
      have hb2 : Below w.heap.size w wq := by rw [← hwq]; exact below_two _ _ _
      simp only [hwq]
      clear hwq
      obtain ⟨gp, hgp⟩ : ∃ gp, w.heap.size + 1 = gp := ⟨_, rfl⟩
      simp only [hgp]
      rw [hgp] at hblk
      clear hgp
      obtain ⟨c0, c1⟩ := cells_two hblk
      have k0 := cell_regrown c0
      have k1 := cell_regrown c1
      have cS := fun d os => Calls.regrown_of (w := wq) (d := d) (os := os) (cQ (grow (redrawn wq d) os))
      clear c0 c1
      refine wp_region_quiet_below (by kernel_rfl) (by kernel_rfl) ?_
      repeat (first | go_big_quiet_step (exact cS _ _) | quiet_step (exact cS _ _))
      refine wpQuiet_nil ?_
      intro _ hw'
      obtain ⟨⟨dq, osq⟩, hw''⟩ := hw'
      subst hw''
      have bg := chain hb2 (below_regrown wq dq osq)
      revert bg
      generalize Go.Sort.grow (redrawn wq dq) osq = wg
      intro bg
      go_wp2_with (go_at_call 44; refine (cR _).mono ?_; rintro e w' ⟨rfl, rfl⟩)
      go_ret
      exact ⟨rfl, bg⟩

end Go.Proofs.Ytilhcfnennfofaa
