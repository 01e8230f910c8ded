/-
  Part 14 of what is proved of drawn right trees.
-/
import Derived.Test.YtcdbifcidaafnaaGreatDoorPam
import Derived.Test.YtcdbifcidaafnaaGreatDoorPal

namespace Go.Proofs.YtcdbifcidaafnaaGreatDoor
open Go.RowKit Go.Sort
set_option linter.unusedVariables false
set_option maxHeartbeats 1000000 in
set_option maxRecDepth 100000 in
theorem iFinProduct (a b : Nat) (w : World) (ha : a < 18446744073709551616) (hb : b < 18446744073709551616) (ka : kindN a = 4) (kb : kindN b = 4) :
    Calls Tryz.prog 92 #[.int .u64 a, .int .u64 b] w fun e w' => e = .returned (.int .u64 (roundN (mantN a * mantN b) (expN a + expN b) false : Nat)) ∧ Below w.heap.size w w' := by
  obtain ⟨M, E, hM, e1, e2, cA⟩ := iHigh a ha ka
  obtain ⟨N, F, hN, f1, f2, cB⟩ := iHigh b hb kb
  rw [← up_product hM hN]
  have cP := fun W => iProduct M N W hM.hi hN.hi
  obtain ⟨p, hp⟩ : ∃ p, M * N / 18446744073709551616 = p := ⟨_, rfl⟩
  obtain ⟨q, hq⟩ : ∃ p, M * N % 18446744073709551616 = p := ⟨_, rfl⟩
  have hp2 : p < 18446744073709551616 := by
    rw [← hp, Nat.div_lt_iff_lt_mul (by omega)]
    exact Nat.mul_lt_mul'' hM.hi hN.hi
  have cR := fun W => iRound_w false (decide (q ≠ 0)) p (E + F + 64) W hp2 (by omega) (by omega)
  rw [hp, hq] at cP ⊢
  obtain ⟨R, hR⟩ : ∃ R, roundN p (E + F + 64) (decide (q ≠ 0) && decide (72057594037927936 ≤ p)) = R := ⟨_, rfl⟩
  rw [hR] at cR ⊢
  rw [signN_false] at cR
  clear hp hq hp2 hR ha hb ka kb hM hN
  by_cases hq0 : q = 0
  · subst hq0
    rw [(by decide : decide ((0 : Nat) ≠ 0) = false)] at cR
    go_enter Tryz.func92, Tryz.ntmps92
    go_wp2_with fail
    refine (cA _).mono ?_
    rintro e w' ⟨rfl, rfl⟩
    go_wp2_with fail
    refine (cB _).mono ?_
    rintro e w' ⟨rfl, rfl⟩
    go_wp2_with fail
    refine (cP _).mono ?_
    rintro e w' ⟨rfl, o, rfl⟩
    go_wp2_with (go_at_call 102; refine (cR _).mono ?_; rintro e w' ⟨rfl, rfl⟩)
    go_ret
    exact ⟨rfl, by go_grown⟩
  · have d : ((q : Int) == 0) = false := by rw [beq_eq_false_iff_ne]; omega
    rw [decide_eq_true hq0] at cR
    go_enter Tryz.func92, Tryz.ntmps92
    go_wp2_with fail
    refine (cA _).mono ?_
    rintro e w' ⟨rfl, rfl⟩
    go_wp2_with fail
    refine (cB _).mono ?_
    rintro e w' ⟨rfl, rfl⟩
    go_wp2_with fail
    refine (cP _).mono ?_
    rintro e w' ⟨rfl, o, rfl⟩
    go_wp2_with (go_at_call 102; refine (cR _).mono ?_; rintro e w' ⟨rfl, rfl⟩)
    go_ret
    exact ⟨rfl, by go_grown⟩
theorem size_alloc (w : World) (o : Obj) : (w.alloc o).heap.size = w.heap.size + 1 := by simp
theorem cells_two {w : World} {g : Nat} {a b : Value} {t : TypeId} {r : Nat × Nat} (h : w.heap[g]? = some (.cells #[a, b] t r)) :
    w.cell? ⟨g, 0, none⟩ = some a ∧ w.cell? ⟨g, 1, none⟩ = some b := by
  refine ⟨?_, ?_⟩
  · unfold World.cell?; simp only [h]; rfl
  · unfold World.cell?; simp only [h]; rfl
theorem iProductB (a b : Nat) (w : World) (ha : a < 18446744073709551616) (hb : b < 18446744073709551616) :
    Calls Tryz.prog 104 #[.int .u64 a, .int .u64 b] w fun e w' => e = .returned (.agg #[.int .u64 ((a * b / 18446744073709551616 : Nat) : Int), .int .u64 ((a * b % 18446744073709551616 : Nat) : Int)]) ∧ Below w.heap.size w w' :=
  (iProduct a b w ha hb).mono (by rintro e w' ⟨rfl, o, rfl⟩; exact ⟨rfl, by go_grown⟩)
theorem halves_eq {X Y : Nat} : (X / 18446744073709551616 = Y / 18446744073709551616 ∧ X % 18446744073709551616 = Y % 18446744073709551616) ↔ X = Y := by omega
set_option maxHeartbeats 1000000 in
set_option maxRecDepth 100000 in
theorem iFinQuotient (a b : Nat) (w : World) (ha : a < 18446744073709551616) (hb : b < 18446744073709551616) (ka : kindN a = 4) (kb : kindN b = 4) :
    Calls Tryz.prog 93 #[.int .u64 a, .int .u64 b] w fun e w' => e = .returned (.int .u64 (quoN (mantN a) (mantN b) (expN a - expN b) : Nat)) ∧ Below w.heap.size w w' := by
  obtain ⟨M, E, hM, e1, e2, cA⟩ := iHigh a ha ka
  obtain ⟨N, F, hN, f1, f2, cB⟩ := iHigh b hb kb
  obtain ⟨Q, hQ⟩ : ∃ Q, M * 9223372036854775808 / N = Q := ⟨_, rfl⟩
  obtain ⟨hQ2, hR⟩ := up_quotient (mantN_pos ka) (mantN_pos kb) (mantN_lt b) hM hN hQ
  rw [← hR]
  have cP := fun W => iProduct M 9223372036854775808 W hM.hi (by decide)
  have hx1 := hM.even
  have hx2 := hM.lo
  have hx3 := hM.hi
  have hx4 := hN.lo
  have hx5 := hN.hi
  have x1 : M * 9223372036854775808 / 18446744073709551616 = M / 2 := by omega
  have x2 : M * 9223372036854775808 % 18446744073709551616 = 0 := by omega
  rw [x1, x2] at cP
  have cD := fun W => iDiv64 (M / 2) N W hx4 hx5 (by omega) (by omega)
  have x3 : M / 2 * 18446744073709551616 = M * 9223372036854775808 := by omega
  rw [x3, hQ] at cD
  have cQ := fun W => iProductB Q N W hQ2 hx5
  have cR := fun W => iRound_w false (decide (Q * N ≠ M * 9223372036854775808)) Q (E - F - 63) W hQ2 (by omega) (by omega)
  obtain ⟨R, hR⟩ : ∃ R, roundN Q (E - F - 63) (decide (Q * N ≠ M * 9223372036854775808) && decide (72057594037927936 ≤ Q)) = R := ⟨_, rfl⟩
  rw [hR] at cR ⊢
  rw [signN_false] at cR
  have hs : Q * N = M * 9223372036854775808 ↔ (Q * N / 18446744073709551616 = M / 2 ∧ Q * N % 18446744073709551616 = 0) := by rw [← x1, ← x2]; exact halves_eq.symm
  obtain ⟨u, hu⟩ : ∃ u, M / 2 = u := ⟨_, rfl⟩
  obtain ⟨p, hp⟩ : ∃ p, Q * N / 18446744073709551616 = p := ⟨_, rfl⟩
  obtain ⟨q, hq⟩ : ∃ p, Q * N % 18446744073709551616 = p := ⟨_, rfl⟩
  rw [hu] at cP cD hs
  rw [hp, hq] at cQ hs
  clear hx1 hx2 hx3 hx4 hx5 x1 x2 x3 hQ2 hR ha hb ka kb hM hN hQ hu hp hq
  by_cases hpq : p = u ∧ q = 0
  · obtain ⟨rfl, rfl⟩ := hpq
    rw [decide_eq_false (by simpa using hs)] at cR
    clear hs
    go_enter Tryz.func93, Tryz.ntmps93
    go_wp2_with fail
    refine (cA _).mono ?_
    rintro e w' ⟨rfl, rfl⟩
    go_wp2_with fail
    refine (cB _).mono ?_
    rintro e w' ⟨rfl, rfl⟩
    go_wp2_with fail
    refine (cP _).mono ?_
    rintro e w' ⟨rfl, o, rfl⟩
    go_wp2_with fail
    refine (cD _).mono ?_
    rintro e w' ⟨r, rfl, rfl⟩
    go_wp2_with fail
    obtain ⟨wq, hwq⟩ : ∃ wq, (w.alloc o).alloc (.cells #[.int .u64 p, .int .u64 0] 157) = wq := ⟨_, rfl⟩
    have hblk : wq.heap[w.heap.size + 1]? = some (.cells #[.int .u64 p, .int .u64 0] 157) := by rw [← hwq, ← size_alloc w o]; exact heap_alloc_new _ _
    have hb2 : Below w.heap.size w wq := by rw [← hwq]; exact below_two _ _ _
    simp only [hwq]
    clear hwq
    obtain ⟨gp, hgp⟩ : ∃ gp, w.heap.size + 1 = gp := ⟨_, rfl⟩
    simp only [hgp]
    rw [hgp] at hblk
    clear hgp
    obtain ⟨c0, c1⟩ := cells_two hblk
    have k0 := cell_regrown c0
    have k1 := cell_regrown c1
    have cS := fun d os => Calls.regrown_of (w := wq) (d := d) (os := os) (cQ (grow (redrawn wq d) os))
    clear c0 c1
    refine wp_region_quiet_below (by kernel_rfl) (by kernel_rfl) ?_
    repeat (first | go_big_quiet_step (exact cS _ _) | quiet_step (exact cS _ _))
    refine wpQuiet_nil ?_
    intro _ hw'
    obtain ⟨⟨dq, osq⟩, hw''⟩ := hw'
    subst hw''
    have bg := chain hb2 (below_regrown wq dq osq)
    revert bg
    generalize Go.Sort.grow (redrawn wq dq) osq = wg
    intro bg
    go_wp2_with (go_at_call 102; refine (cR _).mono ?_; rintro e w' ⟨rfl, rfl⟩)
    go_ret
    exact ⟨rfl, bg⟩
  · rw [decide_eq_true (by rw [ne_eq, hs]; exact hpq)] at cR
    clear hs
    by_cases hpu : p = u
    · subst hpu
      have hq0 : q ≠ 0 := fun h => hpq ⟨rfl, h⟩
      have dq : ((q : Int) == 0) = false := by rw [beq_eq_false_iff_ne]; omega
      clear hpq
      go_enter Tryz.func93, Tryz.ntmps93
      go_wp2_with fail
      refine (cA _).mono ?_
      rintro e w' ⟨rfl, rfl⟩
      go_wp2_with fail
      refine (cB _).mono ?_
      rintro e w' ⟨rfl, rfl⟩
      go_wp2_with fail
      refine (cP _).mono ?_
      rintro e w' ⟨rfl, o, rfl⟩
      go_wp2_with fail
      refine (cD _).mono ?_
      rintro e w' ⟨r, rfl, rfl⟩
      go_wp2_with fail
      obtain ⟨wq, hwq⟩ : ∃ wq, (w.alloc o).alloc (.cells #[.int .u64 p, .int .u64 0] 157) = wq := ⟨_, rfl⟩
      have hblk : wq.heap[w.heap.size + 1]? = some (.cells #[.int .u64 p, .int .u64 0] 157) := by rw [← hwq, ← size_alloc w o]; exact heap_alloc_new _ _
      have hb2 : Below w.heap.size w wq := by rw [← hwq]; exact below_two _ _ _
      simp only [hwq]
      clear hwq
      obtain ⟨gp, hgp⟩ : ∃ gp, w.heap.size + 1 = gp := ⟨_, rfl⟩
      simp only [hgp]
      rw [hgp] at hblk
      clear hgp
      obtain ⟨c0, c1⟩ := cells_two hblk
      have k0 := cell_regrown c0
      have k1 := cell_regrown c1
      have cS := fun d os => Calls.regrown_of (w := wq) (d := d) (os := os) (cQ (grow (redrawn wq d) os))
      clear c0 c1
      refine wp_region_quiet_below (by kernel_rfl) (by kernel_rfl) ?_
      repeat (first | go_big_quiet_step (exact cS _ _) | quiet_step (exact cS _ _))
      refine wpQuiet_nil ?_
      intro _ hw'
      obtain ⟨⟨dq, osq⟩, hw''⟩ := hw'
      subst hw''
      have bg := chain hb2 (below_regrown wq dq osq)
      revert bg
      generalize Go.Sort.grow (redrawn wq dq) osq = wg
      intro bg
      go_wp2_with (go_at_call 102; refine (cR _).mono ?_; rintro e w' ⟨rfl, rfl⟩)
      go_ret
      exact ⟨rfl, bg⟩
    · have dp : ((p : Int) == u) = false := by rw [beq_eq_false_iff_ne]; omega
      clear hpq
      go_enter Tryz.func93, Tryz.ntmps93
      go_wp2_with fail
      refine (cA _).mono ?_
      rintro e w' ⟨rfl, rfl⟩
      go_wp2_with fail
      refine (cB _).mono ?_
      rintro e w' ⟨rfl, rfl⟩
      go_wp2_with fail
      refine (cP _).mono ?_
      rintro e w' ⟨rfl, o, rfl⟩
      go_wp2_with fail
      refine (cD _).mono ?_
      rintro e w' ⟨r, rfl, rfl⟩
      go_wp2_with fail
      obtain ⟨wq, hwq⟩ : ∃ wq, (w.alloc o).alloc (.cells #[.int .u64 u, .int .u64 0] 157) = wq := ⟨_, rfl⟩
      have hblk : wq.heap[w.heap.size + 1]? = some (.cells #[.int .u64 u, .int .u64 0] 157) := by rw [← hwq, ← size_alloc w o]; exact heap_alloc_new _ _
      have hb2 : Below w.heap.size w wq := by rw [← hwq]; exact below_two _ _ _
      simp only [hwq]
      clear hwq
      obtain ⟨gp, hgp⟩ : ∃ gp, w.heap.size + 1 = gp := ⟨_, rfl⟩
      simp only [hgp]
      rw [hgp] at hblk
      clear hgp
      obtain ⟨c0, c1⟩ := cells_two hblk
      have k0 := cell_regrown c0
      have k1 := cell_regrown c1
      have cS := fun d os => Calls.regrown_of (w := wq) (d := d) (os := os) (cQ (grow (redrawn wq d) os))
      clear c0 c1
      refine wp_region_quiet_below (by kernel_rfl) (by kernel_rfl) ?_
      repeat (first | go_big_quiet_step (exact cS _ _) | quiet_step (exact cS _ _))
      refine wpQuiet_nil ?_
      intro _ hw'
      obtain ⟨⟨dq, osq⟩, hw''⟩ := hw'
      subst hw''
      have bg := chain hb2 (below_regrown wq dq osq)
      revert bg
      generalize Go.Sort.grow (redrawn wq dq) osq = wg
      intro bg
      go_wp2_with (go_at_call 102; refine (cR _).mono ?_; rintro e w' ⟨rfl, rfl⟩)
      go_ret
      exact ⟨rfl, bg⟩
end Go.Proofs.YtcdbifcidaafnaaGreatDoor
namespace Go.Proofs.YtcdbifcidaafnaaGreatDoor
open Go.RowKit Go.Sort
set_option linter.unusedVariables false
set_option maxHeartbeats 1000000 in
set_option maxRecDepth 100000 in
theorem iFinRest (a b : Nat) (w : World) (ha : a < 18446744073709551616) (hb : b < 18446744073709551616) (ka : kindN a = 4) (kb : kindN b = 4) :
    Calls Tryz.prog 94 #[.int .u64 a, .int .u64 b] w fun e w' => e = .returned (.int .u64 (restN (mantN a) (expN a) (mantN b) (expN b) : Nat)) ∧ w = w' := by
  have cA := fun W => iSize a W
  have cB := fun W => iSize b W
  obtain ⟨p, hp⟩ : ∃ p : Int, (a : Int) % 9223372036854775808 = p := ⟨_, rfl⟩
  obtain ⟨q, hq⟩ : ∃ p : Int, (b : Int) % 9223372036854775808 = p := ⟨_, rfl⟩
  rw [hp] at cA
  rw [hq] at cB
  by_cases h : p < q
  · have HR : Hid (Unit → ((restN (mantN a) (expN a) (mantN b) (expN b) : Nat) : Int) = p) := fun _ => by
      rw [rest_self ka kb (by omega), ← hp]
      have h1 := round_parts false ka ha
      have h2 := roundN_le (mantN a) (expN a) false
      obtain ⟨R, hR⟩ : ∃ R, roundN (mantN a) (expN a) false = R := ⟨_, rfl⟩
      rw [hR] at h1 h2 ⊢
      rw [← h1]
      unfold signN
      split <;> omega
    obtain ⟨R, hR⟩ : ∃ R, restN (mantN a) (expN a) (mantN b) (expN b) = R := ⟨_, rfl⟩
    rw [hR] at HR ⊢
    clear hp hq ha hb ka kb hR
    go_enter Tryz.func94, Tryz.ntmps94
    go_wp2_with fail
    refine (cA _).mono ?_
    rintro e w' ⟨rfl, rfl⟩
    go_wp2_with fail
    refine (cB _).mono ?_
    rintro e w' ⟨rfl, rfl⟩
    go_wp2_with fail
    refine (cA _).mono ?_
    rintro e w' ⟨rfl, rfl⟩
    go_wp2
    go_ret
    exact ⟨by rw [HR.out ()]; rfl, rfl⟩
  · have d : decide (p < q) = false := by simpa using h
    obtain ⟨o1, o2, o3⟩ := raw_order (g := a) (l := b) (by omega)
    rw [(raw_fin ka).2, (raw_fin kb).2] at o1
    obtain ⟨D, hD⟩ : ∃ D : Nat, expN a = expN b + D := ⟨(expN a - expN b).toNat, by omega⟩
    rw [rest_up hD]
    have cM := fun W => iMantExp a W ha ka
    have cN := fun W => iMantExp b W hb kb
    have hm := mantN_lt a
    have hn := mantN_lt b
    have hn0 := mantN_pos kb
    have e1 := expN_ge b
    have e2 := expN_le b
    have e3 := expN_ge a
    have e4 := expN_le a
    generalize mantN a = m at *
    generalize mantN b = n at *
    generalize expN a = E at *
    generalize expN b = F at *
    obtain ⟨R, hR⟩ : ∃ R, roundN (m * 2 ^ D % n) F false = R := ⟨_, rfl⟩
    rw [hR]
    have cR : ∀ X : Nat, X = m * 2 ^ D % n → ∀ W, Calls Tryz.prog 102 #[.bool false, .int .u64 X, .int .i64 F, .bool false] W fun en w' => en = .returned (.int .u64 (R : Nat)) ∧ W = w' := fun X hX W => by
      have hlt := Nat.mod_lt (m * 2 ^ D) (by omega : 0 < n)
      have h := iRound_w false false X F W (by omega) (by omega) (by omega)
      rw [Bool.false_and, signN_false, hX, hR, ← hX] at h
      exact h
    have M1 : (m : Int) < 9007199254740992 := by omega
    have N1 : (n : Int) < 9007199254740992 := by omega
    have z2 : ((n : Int) == 0) = false := by rw [beq_eq_false_iff_ne]; omega
    have hDE : E - F = D := by omega
    have D2 : (D : Int) ≤ 2046 := by omega
    have HN : Hid (Unit → 0 < n ∧ n < 9007199254740992) := fun _ => ⟨by omega, hn⟩
    clear hp hq ha hb ka kb hR h o1 o2 o3 hm hn hD
    go_enter Tryz.func94, Tryz.ntmps94
    go_wp2_with fail
    refine (cA _).mono ?_
    rintro e w' ⟨rfl, rfl⟩
    go_wp2_with fail
    refine (cB _).mono ?_
    rintro e w' ⟨rfl, rfl⟩
    go_wp2_with fail
    refine (cM _).mono ?_
    rintro e w' ⟨rfl, rfl⟩
    go_wp2_with fail
    refine (cN _).mono ?_
    rintro e w' ⟨rfl, rfl⟩
    go_wp2_with fail
    go_loop [9, 10] (fun x9 x10 => ∃ X L j : Nat, x9 = .int .u64 X ∧ x10 = .int .i64 L ∧ (X : Int) < 9007199254740992 ∧ (L : Int) ≤ 2046 ∧ Hid (Unit → X = m * 2 ^ j % n ∧ j + L = D)) (fun _ x10 => (intOf x10).toNat)
    case atStart => exact ⟨m % n, D, 0, by go_num, rfl, by have := Nat.mod_le m n; omega, D2, fun _ => ⟨by simp, by simp⟩⟩
    case round =>
      obtain ⟨X, L, j, rfl, rfl, hX, hL, HI⟩ := hrel
      by_cases hL0 : L = 0
      · subst hL0
        have cX := cR X (by have := HI.out (); rw [this.1, (by omega : j = D)])
        clear cR HI
        go_wp2_with (go_at_call 102; refine (cX _).mono ?_; rintro e w' ⟨rfl, rfl⟩)
        go_ret
        exact ⟨rfl, rfl⟩
      · obtain ⟨P, hP⟩ : ∃ P : Nat, min (L : Int) 11 = P := ⟨min L 11, by omega⟩
        have hP2 : P ≤ 63 := by omega
        have hP3 : P ≤ L := by omega
        have hP4 : 0 < P := by omega
        obtain ⟨Y, hY⟩ : ∃ Y : Nat, X * 2 ^ P = Y := ⟨_, rfl⟩
        have hY2 : Y < 18446744073709551616 := by
          have h1 : 2 ^ P ≤ 2 ^ 11 := Nat.pow_le_pow_right (by decide) (by omega)
          have h2 : X * 2 ^ P ≤ X * 2 ^ 11 := Nat.mul_le_mul_left _ h1
          omega
        have dY : IntKind.u64.wrap ((X : Int) * 2 ^ P) = Y := by
          have e1 : (X : Int) * 2 ^ P = ((X * 2 ^ P : Nat) : Int) := by simp
          rw [e1, hY]
          show (Y : Int) % 18446744073709551616 = Y
          omega
        have Y2 : (Y : Int) < 18446744073709551616 := by omega
        have HY : Hid (Unit → X * 2 ^ P = Y) := fun _ => hY
        have HL : Hid (Unit → P ≤ L) := fun _ => hP3
        have hL1 : 0 < L := by omega
        have hPL : (P : Int) ≤ L := by omega
        clear hY hY2 hL0 hP3
        go_wp2
        go_round
        case rel => exact ⟨Y % n, L - P, j + P, by go_num, by have := HL.out (); go_num, by have := Nat.mod_lt Y (HN.out ()).1; have := (HN.out ()).2; omega, by omega, fun _ => ⟨by rw [← HY.out (), (HI.out ()).1, rest_places], by have := (HI.out ()).2; have := HL.out (); omega⟩⟩
        case measure => simp [intOf]; omega
end Go.Proofs.YtcdbifcidaafnaaGreatDoor
namespace Go.Proofs.YtcdbifcidaafnaaGreatDoor
open Go.RowKit Go.Sort
set_option linter.unusedVariables false
theorem size_kinds {x : Nat} {p : Int} (hp : (x : Int) % 9223372036854775808 = p) : (kindN x = 1 ∧ 9218868437227405312 < p) ∨ (kindN x = 2 ∧ p = 9218868437227405312) ∨ (kindN x = 3 ∧ p = 0) ∨ (kindN x = 4 ∧ 0 < p ∧ p < 9218868437227405312) := by
  rcases Nat.lt_trichotomy 9218868437227405312 (x % 9223372036854775808) with h | h | h
  · exact .inl ⟨kind_nan h, by omega⟩
  · exact .inr (.inl ⟨kind_inf h.symm, by omega⟩)
  · by_cases h0 : x % 9223372036854775808 = 0
    · exact .inr (.inr (.inl ⟨kind_zero h0, by omega⟩))
    · exact .inr (.inr (.inr ⟨kind_fin h h0, by omega, by omega⟩))
structure MulCases (a b R : Nat) (g l : Int) (u : Bool) : Prop where
  nan : 9218868437227405312 < g → R = 9221120237041090560
  none : g = 9218868437227405312 → l = 0 → R = 9221120237041090560
  inf : g = 9218868437227405312 → l ≠ 0 → R = signN u 9218868437227405312
  zero : g < 9218868437227405312 → l = 0 → R = signN u 0
  fin : g < 9218868437227405312 → l ≠ 0 → kindN a = 4 ∧ kindN b = 4 ∧ R = signN u (roundN (mantN a * mantN b) (expN a + expN b) false)
theorem mulN_cases {a b : Nat} {p q g l : Int} {u : Bool} (hp : (a : Int) % 9223372036854775808 = p) (hq : (b : Int) % 9223372036854775808 = q) (hg : max p q = g) (hl : min p q = l)
    (hu : (decide (9223372036854775808 ≤ a) != decide (9223372036854775808 ≤ b)) = u) : MulCases a b (mulN a b) g l u := by
  have x1 := size_kinds hp
  have x2 := size_kinds hq
  have ra : kindN a ≠ 1 → belowN a = decide (9223372036854775808 ≤ a) := belowN_of
  have rb : kindN b ≠ 1 → belowN b = decide (9223372036854775808 ≤ b) := belowN_of
  clear hp hq
  unfold mulN
  rcases x1 with ⟨k1, x1⟩ | ⟨k1, x1⟩ | ⟨k1, x1⟩ | ⟨k1, x1⟩
  · refine ⟨fun _ => ?_, fun h => ?_, fun h => ?_, fun h => ?_, fun h => ?_⟩
    · simp [mulP, k1]
    · exfalso; omega
    · exfalso; omega
    · exfalso; omega
    · exfalso; omega
  all_goals
    rw [ra (by omega)]
    clear ra
    rcases x2 with ⟨k2, x2⟩ | ⟨k2, x2⟩ | ⟨k2, x2⟩ | ⟨k2, x2⟩
    · refine ⟨fun _ => ?_, fun h => ?_, fun h => ?_, fun h => ?_, fun h => ?_⟩
      · simp [mulP, k2]
      · exfalso; omega
      · exfalso; omega
      · exfalso; omega
      · exfalso; omega
    all_goals
      rw [rb (by omega)]
      unfold mulP
      rw [hu, k1, k2]
      refine ⟨fun h => ?_, fun h h2 => ?_, fun h h2 => ?_, fun h h2 => ?_, fun h h2 => ?_⟩
      all_goals first | (exfalso; omega) | (simp; done) | exact ⟨k1, k2, by simp⟩
set_option maxHeartbeats 1000000 in
set_option maxRecDepth 100000 in
theorem iMul (a b : Nat) (w : World) (ha : a < 18446744073709551616) (hb : b < 18446744073709551616) :
    Calls Tryz.prog 75 #[.int .u64 a, .int .u64 b] w fun e w' => e = .returned (.int .u64 (mulN a b : Nat)) ∧ Below w.heap.size w w' := by
  have cA := fun W => iBelow a W
  have cB := fun W => iBelow b W
  have cX := fun W => iSize a W
  have cY := fun W => iSize b W
  obtain ⟨p, hp⟩ : ∃ p : Int, (a : Int) % 9223372036854775808 = p := ⟨_, rfl⟩
  obtain ⟨q, hq⟩ : ∃ p : Int, (b : Int) % 9223372036854775808 = p := ⟨_, rfl⟩
  rw [hp] at cX
  rw [hq] at cY
  obtain ⟨g, hg⟩ : ∃ g : Int, max p q = g := ⟨_, rfl⟩
  obtain ⟨l, hl⟩ : ∃ l : Int, min p q = l := ⟨_, rfl⟩
  obtain ⟨u, hu⟩ : ∃ u, (decide (9223372036854775808 ≤ a) != decide (9223372036854775808 ≤ b)) = u := ⟨_, rfl⟩
  have hC := mulN_cases hp hq hg hl hu
  have HC : Hid (Unit → MulCases a b (mulN a b) g l u) := fun _ => hC
  have hF : kindN a = 4 → kindN b = 4 → ∀ W, _ := fun k1 k2 W => iFinProduct a b W ha hb k1 k2
  obtain ⟨s, hs⟩ : ∃ p, decide (9223372036854775808 ≤ a) = p := ⟨_, rfl⟩
  obtain ⟨t, ht⟩ : ∃ p, decide (9223372036854775808 ≤ b) = p := ⟨_, rfl⟩
  rw [hs] at cA hu
  rw [ht] at cB hu
  have hu2 : (!(s == t)) = u := hu
  obtain ⟨R, hR⟩ : ∃ R, mulN a b = R := ⟨_, rfl⟩
  rw [hR] at HC ⊢
  have HF : Hid (Unit → kindN a = 4 → kindN b = 4 → ∀ W : World, Calls Tryz.prog 92 #[.int .u64 a, .int .u64 b] W fun e w' => e = .returned (.int .u64 (roundN (mantN a * mantN b) (expN a + expN b) false : Nat)) ∧ Below W.heap.size W w') := fun _ => hF
  have HL : Hid (Unit → 0 ≤ l) := fun _ => by omega
  clear hC hF hs ht hu hR hp hq ha hb
  go_enter Tryz.func75, Tryz.ntmps75
  go_wp2_with fail
  refine (cA _).mono ?_
  rintro e w' ⟨rfl, rfl⟩
  go_wp2_with fail
  refine (cB _).mono ?_
  rintro e w' ⟨rfl, rfl⟩
  go_wp2_with fail
  refine (cX _).mono ?_
  rintro e w' ⟨rfl, rfl⟩
  go_wp2_with fail
  refine (cY _).mono ?_
  rintro e w' ⟨rfl, rfl⟩
  go_wp2_with fail
  refine (cX _).mono ?_
  rintro e w' ⟨rfl, rfl⟩
  go_wp2_with fail
  refine (cY _).mono ?_
  rintro e w' ⟨rfl, rfl⟩
  clear cA cB cX cY
  by_cases h1 : 9218868437227405312 < g
  · have HR : Hid (Unit → R = 9221120237041090560) := fun _ => (HC.out ()).nan h1
    clear HC HF HL
    go_wp2
    go_ret
    exact ⟨by rw [HR.out ()]; rfl, Below.refl _ _⟩
  · have d1 : decide (9218868437227405312 < g) = false := by simp; omega
    by_cases h2 : g = 9218868437227405312
    · by_cases h3 : l = 0
      · have HR : Hid (Unit → R = 9221120237041090560) := fun _ => (HC.out ()).none h2 h3
        clear HC HF HL h1 d1
        subst h2 h3
        go_wp2
        go_ret
        exact ⟨by rw [HR.out ()]; rfl, Below.refl _ _⟩
      · have d3 : (l == 0) = false := by rw [beq_eq_false_iff_ne]; exact h3
        have HR : Hid (Unit → R = signN u 9218868437227405312) := fun _ => (HC.out ()).inf h2 h3
        have cS : ∀ W, Calls Tryz.prog 91 #[.int .u64 9218868437227405312, .bool u] W fun e w' => e = .returned (.int .u64 (R : Nat)) ∧ W = w' := fun W => by
          rw [HR.out ()]
          exact iSigned 9218868437227405312 u W (by decide)
        clear HC HF HL h1 d1 h3 HR
        subst h2
        go_wp2_with (go_at_call 91; refine (cS _).mono ?_; rintro e w' ⟨rfl, rfl⟩)
        go_ret
        exact ⟨rfl, Below.refl _ _⟩
    · have d2 : (g == 9218868437227405312) = false := by rw [beq_eq_false_iff_ne]; exact h2
      by_cases h3 : l = 0
      · have HR : Hid (Unit → R = signN u 0) := fun _ => (HC.out ()).zero (by omega) h3
        have cS : ∀ W, Calls Tryz.prog 91 #[.int .u64 0, .bool u] W fun e w' => e = .returned (.int .u64 (R : Nat)) ∧ W = w' := fun W => by
          rw [HR.out ()]
          exact iSigned 0 u W (by decide)
        clear HC HF HL h1 HR h2
        subst h3
        go_wp2_with (go_at_call 91; refine (cS _).mono ?_; rintro e w' ⟨rfl, rfl⟩)
        go_ret
        exact ⟨rfl, Below.refl _ _⟩
      · have d3 : (l == 0) = false := by rw [beq_eq_false_iff_ne]; exact h3
        obtain ⟨k1, k2, hR⟩ := (HC.out ()).fin (by omega) h3
        have cF := HF.out () k1 k2
        have hle := roundN_le (mantN a * mantN b) (expN a + expN b) false
        obtain ⟨Q, hQ⟩ : ∃ Q, roundN (mantN a * mantN b) (expN a + expN b) false = Q := ⟨_, rfl⟩
        rw [hQ] at cF hR hle
        have cS : ∀ W, Calls Tryz.prog 91 #[.int .u64 Q, .bool u] W fun e w' => e = .returned (.int .u64 (R : Nat)) ∧ W = w' := fun W => by
          rw [hR]
          exact iSigned Q u W hle
        clear HC HF HL h1 h2 h3 k1 k2 hR hle hQ
        go_wp2_with fail
        refine (cF _).mono ?_
        rintro e w2 ⟨rfl, hb2⟩
        go_wp2_with (go_at_call 91; refine (cS _).mono ?_; rintro e w' ⟨rfl, rfl⟩)
        go_ret
        exact ⟨rfl, hb2⟩
theorem top_quo (m n : Nat) (e : Int) : quoN m n e ≤ 9218868437227405312 := roundN_le _ _ _
theorem top_rest (m : Nat) (e : Int) (n : Nat) (f : Int) : restN m e n f ≤ 9218868437227405312 := roundN_le _ _ _
set_option maxHeartbeats 2000000 in
set_option maxRecDepth 100000 in
theorem iDiv (a b : Nat) (w : World) (ha : a < 18446744073709551616) (hb : b < 18446744073709551616) :
    Calls Tryz.prog 76 #[.int .u64 a, .int .u64 b] w fun e w' => e = .returned (.int .u64 (divN a b : Nat)) ∧ Below w.heap.size w w' := by
  have cA := fun W => iBelow a W
  have cB := fun W => iBelow b W
  have cK := fun W => iKind a W
  have cL := fun W => iKind b W
  have cW := fun W => iCompares a b W
  have HF : Hid (Unit → kindN a = 4 → kindN b = 4 → ∀ W : World, Calls Tryz.prog 93 #[.int .u64 a, .int .u64 b] W fun e w' => e = .returned (.int .u64 (quoN (mantN a) (mantN b) (expN a - expN b) : Nat)) ∧ Below W.heap.size W w') := fun _ k1 k2 W => iFinQuotient a b W ha hb k1 k2
  have ra : kindN a ≠ 1 → belowN a = decide (9223372036854775808 ≤ a) := belowN_of
  have rb : kindN b ≠ 1 → belowN b = decide (9223372036854775808 ≤ b) := belowN_of
  obtain ⟨s, hs⟩ : ∃ p, decide (9223372036854775808 ≤ a) = p := ⟨_, rfl⟩
  obtain ⟨t, ht⟩ : ∃ p, decide (9223372036854775808 ≤ b) = p := ⟨_, rfl⟩
  rw [hs] at cA ra
  rw [ht] at cB rb
  obtain ⟨u, hu⟩ : ∃ u, (!(s == t)) = u := ⟨_, rfl⟩
  have hu2 : (s != t) = u := hu
  have HD : Hid (Unit → divN a b = divP (kindN a) (kindN b) (belowN a) (belowN b) (mantN a) (mantN b) (expN a) (expN b)) := fun _ => rfl
  have HRA : Hid (Unit → kindN a ≠ 1 → belowN a = s) := fun _ => ra
  have HRB : Hid (Unit → kindN b ≠ 1 → belowN b = t) := fun _ => rb
  obtain ⟨R, hR⟩ : ∃ R, divN a b = R := ⟨_, rfl⟩
  rw [hR] at HD ⊢
  obtain ⟨k1, h1⟩ : ∃ k, kindN a = k := ⟨_, rfl⟩
  obtain ⟨k2, h2⟩ : ∃ k, kindN b = k := ⟨_, rfl⟩
  obtain ⟨c, hc⟩ : ∃ c, decide (kindN a ≠ 1 ∧ kindN b ≠ 1) = c := ⟨_, rfl⟩
  rw [hc] at cW
  rw [h1] at cK HD HRA hc HF
  rw [h2] at cL HD HRB hc HF
  have HC : Hid (Unit → decide (k1 ≠ 1 ∧ k2 ≠ 1) = c) := fun _ => hc
  have K1 : Hid (Unit → k1 = 1 ∨ k1 = 2 ∨ k1 = 3 ∨ k1 = 4) := fun _ => by rw [← h1]; exact kindN_cases a
  have K2 : Hid (Unit → k2 = 1 ∨ k2 = 2 ∨ k2 = 3 ∨ k2 = 4) := fun _ => by rw [← h2]; exact kindN_cases b
  clear hs ht hR ra rb ha hb h1 h2 hc
  have HU : Hid (Unit → (s != t) = u) := fun _ => hu2
  clear hu2
  go_enter Tryz.func76, Tryz.ntmps76
  go_wp2_with fail
  refine (cA _).mono ?_
  rintro e w' ⟨rfl, rfl⟩
  go_wp2_with fail
  refine (cB _).mono ?_
  rintro e w' ⟨rfl, rfl⟩
  go_wp2_with fail
  refine (cK _).mono ?_
  rintro e w' ⟨rfl, rfl⟩
  go_wp2_with fail
  refine (cL _).mono ?_
  rintro e w' ⟨rfl, rfl⟩
  go_wp2_with fail
  refine (cW _).mono ?_
  rintro e w' ⟨rfl, rfl⟩
  clear cA cB cK cL cW hu
  have hk1 := K1.out ()
  have hk2 := K2.out ()
  clear K1 K2
  have hc := HC.out ()
  clear HC
  rcases hk1 with rfl | rfl | rfl | rfl
  · rcases hk2 with rfl | rfl | rfl | rfl
    · have HR : Hid (Unit → R = 9221120237041090560) := fun _ => by rw [HD.out ()]; simp [divP]
      obtain rfl : false = c := by rw [← hc]; decide
      clear hc HD HRA HRB HF HU
      go_wp2
      go_ret
      exact ⟨by rw [HR.out ()]; rfl, Below.refl _ _⟩
    · have HR : Hid (Unit → R = 9221120237041090560) := fun _ => by rw [HD.out ()]; simp [divP]
      obtain rfl : false = c := by rw [← hc]; decide
      clear hc HD HRA HRB HF HU
      go_wp2
      go_ret
      exact ⟨by rw [HR.out ()]; rfl, Below.refl _ _⟩
    · have HR : Hid (Unit → R = 9221120237041090560) := fun _ => by rw [HD.out ()]; simp [divP]
      obtain rfl : false = c := by rw [← hc]; decide
      clear hc HD HRA HRB HF HU
      go_wp2
      go_ret
      exact ⟨by rw [HR.out ()]; rfl, Below.refl _ _⟩
    · have HR : Hid (Unit → R = 9221120237041090560) := fun _ => by rw [HD.out ()]; simp [divP]
      obtain rfl : false = c := by rw [← hc]; decide
      clear hc HD HRA HRB HF HU
      go_wp2
      go_ret
      exact ⟨by rw [HR.out ()]; rfl, Below.refl _ _⟩
  · rcases hk2 with rfl | rfl | rfl | rfl
    · have HR : Hid (Unit → R = 9221120237041090560) := fun _ => by rw [HD.out ()]; simp [divP]
      obtain rfl : false = c := by rw [← hc]; decide
      clear hc HD HRA HRB HF HU
      go_wp2
      go_ret
      exact ⟨by rw [HR.out ()]; rfl, Below.refl _ _⟩
    · have HR : Hid (Unit → R = 9221120237041090560) := fun _ => by rw [HD.out ()]; simp [divP]
      obtain rfl : true = c := by rw [← hc]; decide
      clear hc HD HRA HRB HF HU
      go_wp2
      go_ret
      exact ⟨by rw [HR.out ()]; rfl, Below.refl _ _⟩
    · have hR : R = signN u 9218868437227405312 := by rw [HD.out (), HRA.out () (by decide), HRB.out () (by decide)]; unfold divP; rw [HU.out ()]; simp
      have cS : ∀ W, Calls Tryz.prog 91 #[.int .u64 9218868437227405312, .bool u] W fun e w' => e = .returned (.int .u64 (R : Nat)) ∧ W = w' := fun W => by
        rw [hR]
        exact iSigned 9218868437227405312 u W (by decide)
      obtain rfl : true = c := by rw [← hc]; decide
      clear hc HD HRA HRB HF HU hR
      go_wp2_with (go_at_call 91; refine (cS _).mono ?_; rintro e w' ⟨rfl, rfl⟩)
      go_ret
      exact ⟨rfl, Below.refl _ _⟩
    · have hR : R = signN u 9218868437227405312 := by rw [HD.out (), HRA.out () (by decide), HRB.out () (by decide)]; unfold divP; rw [HU.out ()]; simp
      have cS : ∀ W, Calls Tryz.prog 91 #[.int .u64 9218868437227405312, .bool u] W fun e w' => e = .returned (.int .u64 (R : Nat)) ∧ W = w' := fun W => by
        rw [hR]
        exact iSigned 9218868437227405312 u W (by decide)
      obtain rfl : true = c := by rw [← hc]; decide
      clear hc HD HRA HRB HF HU hR
      go_wp2_with (go_at_call 91; refine (cS _).mono ?_; rintro e w' ⟨rfl, rfl⟩)
      go_ret
      exact ⟨rfl, Below.refl _ _⟩
  · rcases hk2 with rfl | rfl | rfl | rfl
    · have HR : Hid (Unit → R = 9221120237041090560) := fun _ => by rw [HD.out ()]; simp [divP]
      obtain rfl : false = c := by rw [← hc]; decide
      clear hc HD HRA HRB HF HU
      go_wp2
      go_ret
      exact ⟨by rw [HR.out ()]; rfl, Below.refl _ _⟩
    · have hR : R = signN u 0 := by rw [HD.out (), HRA.out () (by decide), HRB.out () (by decide)]; unfold divP; rw [HU.out ()]; simp
      have cS : ∀ W, Calls Tryz.prog 91 #[.int .u64 0, .bool u] W fun e w' => e = .returned (.int .u64 (R : Nat)) ∧ W = w' := fun W => by
        rw [hR]
        exact iSigned 0 u W (by decide)
      obtain rfl : true = c := by rw [← hc]; decide
      clear hc HD HRA HRB HF HU hR
      go_wp2_with (go_at_call 91; refine (cS _).mono ?_; rintro e w' ⟨rfl, rfl⟩)
      go_ret
      exact ⟨rfl, Below.refl _ _⟩
    · have HR : Hid (Unit → R = 9221120237041090560) := fun _ => by rw [HD.out ()]; simp [divP]
      obtain rfl : true = c := by rw [← hc]; decide
      clear hc HD HRA HRB HF HU
      go_wp2
      go_ret
      exact ⟨by rw [HR.out ()]; rfl, Below.refl _ _⟩
    · have hR : R = signN u 0 := by rw [HD.out (), HRA.out () (by decide), HRB.out () (by decide)]; unfold divP; rw [HU.out ()]; simp
      have cS : ∀ W, Calls Tryz.prog 91 #[.int .u64 0, .bool u] W fun e w' => e = .returned (.int .u64 (R : Nat)) ∧ W = w' := fun W => by
        rw [hR]
        exact iSigned 0 u W (by decide)
      obtain rfl : true = c := by rw [← hc]; decide
      clear hc HD HRA HRB HF HU hR
      go_wp2_with (go_at_call 91; refine (cS _).mono ?_; rintro e w' ⟨rfl, rfl⟩)
      go_ret
      exact ⟨rfl, Below.refl _ _⟩
  · rcases hk2 with rfl | rfl | rfl | rfl
    · have HR : Hid (Unit → R = 9221120237041090560) := fun _ => by rw [HD.out ()]; simp [divP]
      obtain rfl : false = c := by rw [← hc]; decide
      clear hc HD HRA HRB HF HU
      go_wp2
      go_ret
      exact ⟨by rw [HR.out ()]; rfl, Below.refl _ _⟩
    · have hR : R = signN u 0 := by rw [HD.out (), HRA.out () (by decide), HRB.out () (by decide)]; unfold divP; rw [HU.out ()]; simp
      have cS : ∀ W, Calls Tryz.prog 91 #[.int .u64 0, .bool u] W fun e w' => e = .returned (.int .u64 (R : Nat)) ∧ W = w' := fun W => by
        rw [hR]
        exact iSigned 0 u W (by decide)
      obtain rfl : true = c := by rw [← hc]; decide
      clear hc HD HRA HRB HF HU hR
      go_wp2_with (go_at_call 91; refine (cS _).mono ?_; rintro e w' ⟨rfl, rfl⟩)
      go_ret
      exact ⟨rfl, Below.refl _ _⟩
    · have hR : R = signN u 9218868437227405312 := by rw [HD.out (), HRA.out () (by decide), HRB.out () (by decide)]; unfold divP; rw [HU.out ()]; simp
      have cS : ∀ W, Calls Tryz.prog 91 #[.int .u64 9218868437227405312, .bool u] W fun e w' => e = .returned (.int .u64 (R : Nat)) ∧ W = w' := fun W => by
        rw [hR]
        exact iSigned 9218868437227405312 u W (by decide)
      obtain rfl : true = c := by rw [← hc]; decide
      clear hc HD HRA HRB HF HU hR
      go_wp2_with (go_at_call 91; refine (cS _).mono ?_; rintro e w' ⟨rfl, rfl⟩)
      go_ret
      exact ⟨rfl, Below.refl _ _⟩
    · have hR : R = signN u (quoN (mantN a) (mantN b) (expN a - expN b)) := by rw [HD.out (), HRA.out () (by decide), HRB.out () (by decide)]; unfold divP; rw [HU.out ()]; simp
      have cF := HF.out () rfl rfl
      have hle := top_quo (mantN a) (mantN b) (expN a - expN b)
      obtain ⟨Q, hQ⟩ : ∃ Q, quoN (mantN a) (mantN b) (expN a - expN b) = Q := ⟨_, rfl⟩
      rw [hQ] at cF hR hle
      have cS : ∀ W, Calls Tryz.prog 91 #[.int .u64 Q, .bool u] W fun e w' => e = .returned (.int .u64 (R : Nat)) ∧ W = w' := fun W => by
        rw [hR]
        exact iSigned Q u W hle
      obtain rfl : true = c := by rw [← hc]; decide
      clear hc HD HRA HRB HF HU hR hle hQ
      go_wp2_with fail
      refine (cF _).mono ?_
      rintro e w2 ⟨rfl, hb2⟩
      go_wp2_with (go_at_call 91; refine (cS _).mono ?_; rintro e w' ⟨rfl, rfl⟩)
      go_ret
      exact ⟨rfl, hb2⟩
set_option maxHeartbeats 2000000 in
set_option maxRecDepth 100000 in
theorem iRem (a b : Nat) (w : World) (ha : a < 18446744073709551616) (hb : b < 18446744073709551616) :
    Calls Tryz.prog 77 #[.int .u64 a, .int .u64 b] w fun e w' => e = .returned (.int .u64 (remN a b : Nat)) ∧ Below w.heap.size w w' := by
  have cA := fun W => iBelow a W
  have cK := fun W => iKind a W
  have cL := fun W => iKind b W
  have cW := fun W => iCompares a b W
  have HF : Hid (Unit → kindN a = 4 → kindN b = 4 → ∀ W : World, Calls Tryz.prog 94 #[.int .u64 a, .int .u64 b] W fun e w' => e = .returned (.int .u64 (restN (mantN a) (expN a) (mantN b) (expN b) : Nat)) ∧ W = w') := fun _ k1 k2 W => iFinRest a b W ha hb k1 k2
  have ra : kindN a ≠ 1 → belowN a = decide (9223372036854775808 ≤ a) := belowN_of
  obtain ⟨s, hs⟩ : ∃ p, decide (9223372036854775808 ≤ a) = p := ⟨_, rfl⟩
  rw [hs] at cA ra
  have HD : Hid (Unit → remN a b = remP a (kindN a) (kindN b) (belowN a) (mantN a) (mantN b) (expN a) (expN b)) := fun _ => rfl
  have HRA : Hid (Unit → kindN a ≠ 1 → belowN a = s) := fun _ => ra
  obtain ⟨R, hR⟩ : ∃ R, remN a b = R := ⟨_, rfl⟩
  rw [hR] at HD ⊢
  obtain ⟨k1, h1⟩ : ∃ k, kindN a = k := ⟨_, rfl⟩
  obtain ⟨k2, h2⟩ : ∃ k, kindN b = k := ⟨_, rfl⟩
  obtain ⟨c, hc⟩ : ∃ c, decide (kindN a ≠ 1 ∧ kindN b ≠ 1) = c := ⟨_, rfl⟩
  rw [hc] at cW
  rw [h1] at cK HD HRA hc HF
  rw [h2] at cL HD hc HF
  have HC : Hid (Unit → decide (k1 ≠ 1 ∧ k2 ≠ 1) = c) := fun _ => hc
  have K1 : Hid (Unit → k1 = 1 ∨ k1 = 2 ∨ k1 = 3 ∨ k1 = 4) := fun _ => by rw [← h1]; exact kindN_cases a
  have K2 : Hid (Unit → k2 = 1 ∨ k2 = 2 ∨ k2 = 3 ∨ k2 = 4) := fun _ => by rw [← h2]; exact kindN_cases b
  clear hs hR ra ha hb h1 h2 hc
  go_enter Tryz.func77, Tryz.ntmps77
  go_wp2_with fail
  refine (cK _).mono ?_
  rintro e w' ⟨rfl, rfl⟩
  go_wp2_with fail
  refine (cL _).mono ?_
  rintro e w' ⟨rfl, rfl⟩
  go_wp2_with fail
  refine (cW _).mono ?_
  rintro e w' ⟨rfl, rfl⟩
  clear cK cL cW
  have hk1 := K1.out ()
  have hk2 := K2.out ()
  clear K1 K2
  have hc := HC.out ()
  clear HC
  rcases hk1 with rfl | rfl | rfl | rfl
  · rcases hk2 with rfl | rfl | rfl | rfl
    · have HR : Hid (Unit → R = 9221120237041090560) := fun _ => by rw [HD.out ()]; simp [remP]
      obtain rfl : false = c := by rw [← hc]; decide
      clear hc HD HRA HF cA
      go_wp2
      go_ret
      exact ⟨by rw [HR.out ()]; rfl, Below.refl _ _⟩
    · have HR : Hid (Unit → R = 9221120237041090560) := fun _ => by rw [HD.out ()]; simp [remP]
      obtain rfl : false = c := by rw [← hc]; decide
      clear hc HD HRA HF cA
      go_wp2
      go_ret
      exact ⟨by rw [HR.out ()]; rfl, Below.refl _ _⟩
    · have HR : Hid (Unit → R = 9221120237041090560) := fun _ => by rw [HD.out ()]; simp [remP]
      obtain rfl : false = c := by rw [← hc]; decide
      clear hc HD HRA HF cA
      go_wp2
      go_ret
      exact ⟨by rw [HR.out ()]; rfl, Below.refl _ _⟩
    · have HR : Hid (Unit → R = 9221120237041090560) := fun _ => by rw [HD.out ()]; simp [remP]
      obtain rfl : false = c := by rw [← hc]; decide
      clear hc HD HRA HF cA
      go_wp2
      go_ret
      exact ⟨by rw [HR.out ()]; rfl, Below.refl _ _⟩
  · rcases hk2 with rfl | rfl | rfl | rfl
    · have HR : Hid (Unit → R = 9221120237041090560) := fun _ => by rw [HD.out ()]; simp [remP]
      obtain rfl : false = c := by rw [← hc]; decide
      clear hc HD HRA HF cA
      go_wp2
      go_ret
      exact ⟨by rw [HR.out ()]; rfl, Below.refl _ _⟩
    · have HR : Hid (Unit → R = 9221120237041090560) := fun _ => by rw [HD.out ()]; simp [remP]
      obtain rfl : true = c := by rw [← hc]; decide
      clear hc HD HRA HF cA
      go_wp2
      go_ret
      exact ⟨by rw [HR.out ()]; rfl, Below.refl _ _⟩
    · have HR : Hid (Unit → R = 9221120237041090560) := fun _ => by rw [HD.out ()]; simp [remP]
      obtain rfl : true = c := by rw [← hc]; decide
      clear hc HD HRA HF cA
      go_wp2
      go_ret
      exact ⟨by rw [HR.out ()]; rfl, Below.refl _ _⟩
    · have HR : Hid (Unit → R = 9221120237041090560) := fun _ => by rw [HD.out ()]; simp [remP]
      obtain rfl : true = c := by rw [← hc]; decide
      clear hc HD HRA HF cA
      go_wp2
      go_ret
      exact ⟨by rw [HR.out ()]; rfl, Below.refl _ _⟩
  · rcases hk2 with rfl | rfl | rfl | rfl
    · have HR : Hid (Unit → R = 9221120237041090560) := fun _ => by rw [HD.out ()]; simp [remP]
      obtain rfl : false = c := by rw [← hc]; decide
      clear hc HD HRA HF cA
      go_wp2
      go_ret
      exact ⟨by rw [HR.out ()]; rfl, Below.refl _ _⟩
    · have HR : Hid (Unit → R = a) := fun _ => by rw [HD.out ()]; simp [remP]
      obtain rfl : true = c := by rw [← hc]; decide
      clear hc HD HRA HF cA
      go_wp2
      go_ret
      exact ⟨by rw [HR.out ()]; rfl, Below.refl _ _⟩
    · have HR : Hid (Unit → R = 9221120237041090560) := fun _ => by rw [HD.out ()]; simp [remP]
      obtain rfl : true = c := by rw [← hc]; decide
      clear hc HD HRA HF cA
      go_wp2
      go_ret
      exact ⟨by rw [HR.out ()]; rfl, Below.refl _ _⟩
    · have HR : Hid (Unit → R = a) := fun _ => by rw [HD.out ()]; simp [remP]
      obtain rfl : true = c := by rw [← hc]; decide
      clear hc HD HRA HF cA
      go_wp2
      go_ret
      exact ⟨by rw [HR.out ()]; rfl, Below.refl _ _⟩
  · rcases hk2 with rfl | rfl | rfl | rfl
    · have HR : Hid (Unit → R = 9221120237041090560) := fun _ => by rw [HD.out ()]; simp [remP]
      obtain rfl : false = c := by rw [← hc]; decide
      clear hc HD HRA HF cA
      go_wp2
      go_ret
      exact ⟨by rw [HR.out ()]; rfl, Below.refl _ _⟩
    · have HR : Hid (Unit → R = a) := fun _ => by rw [HD.out ()]; simp [remP]
      obtain rfl : true = c := by rw [← hc]; decide
      clear hc HD HRA HF cA
      go_wp2
      go_ret
      exact ⟨by rw [HR.out ()]; rfl, Below.refl _ _⟩
    · have HR : Hid (Unit → R = 9221120237041090560) := fun _ => by rw [HD.out ()]; simp [remP]
      obtain rfl : true = c := by rw [← hc]; decide
      clear hc HD HRA HF cA
      go_wp2
      go_ret
      exact ⟨by rw [HR.out ()]; rfl, Below.refl _ _⟩
    · have hR : R = signN s (restN (mantN a) (expN a) (mantN b) (expN b)) := by rw [HD.out (), HRA.out () (by decide)]; simp [remP]
      have cF := HF.out () rfl rfl
      have hle := top_rest (mantN a) (expN a) (mantN b) (expN b)
      obtain ⟨Q, hQ⟩ : ∃ Q, restN (mantN a) (expN a) (mantN b) (expN b) = Q := ⟨_, rfl⟩
      rw [hQ] at cF hR hle
      have cS : ∀ W, Calls Tryz.prog 91 #[.int .u64 Q, .bool s] W fun e w' => e = .returned (.int .u64 (R : Nat)) ∧ W = w' := fun W => by
        rw [hR]
        exact iSigned Q s W hle
      obtain rfl : true = c := by rw [← hc]; decide
      clear hc HD HRA HF hR hle hQ
      go_wp2_with fail
      refine (cF _).mono ?_
      rintro e w2 ⟨rfl, rfl⟩
      go_wp2_with fail
      refine (cA _).mono ?_
      rintro e w2 ⟨rfl, rfl⟩
      go_wp2_with (go_at_call 91; refine (cS _).mono ?_; rintro e w' ⟨rfl, rfl⟩)
      go_ret
      exact ⟨rfl, Below.refl _ _⟩
end Go.Proofs.YtcdbifcidaafnaaGreatDoor
