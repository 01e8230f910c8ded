/-
  The walk of the specification's Sqrt at finite numbers.
-/
import Derived.Test.YtilhcfnennfofaaDivF
import Derived.Test.YtilhcfnennfofaaSqrtB
namespace Go.Proofs.Ytilhcfnennfofaa
open Go.RowKit
set_option linter.unusedVariables false

set_option maxHeartbeats 4000000 in
set_option maxRecDepth 100000 in
theorem specSqrt_fin (x : Nat) (w : World) (hx : x < 18446744073709551616) (kx : kindN x = 4) (sx : belowN x = false) :
    Calls Try.prog 19 #[.int .u64 x] w fun e w' => e = .returned (.int .u64 (sqrtN x : Nat)) ∧ Below w.heap.size w w' := by
  have cA := fun W => specParts_any x W hx
  unfold partsV at cA
  have HD : Hid (Unit → sqrtN x = if expN x % 2 = 0 then rootN (mantN x) (expN x / 2) else rootN (mantN x * 2) ((expN x - 1) / 2)) := fun _ => by simp [sqrtN, sqrtP, kx, sx]
  have f1 := fin1_of x
  rw [kx] at f1
  rw [kx, sx] at cA
  generalize mantN x = m at *
  generalize expN x = e at *
  obtain ⟨R, hR⟩ : ∃ R, sqrtN x = R := ⟨_, rfl⟩
  rw [hR] at HD ⊢
  have cU := fun W => l05Up_any 4 m false e W (f1.pos rfl) f1.lt f1.lo f1.hi
  have b1 := f1.lo
  have b2 := f1.hi
  have HF1 : Hid (Unit → Fin1 4 m e) := fun _ => f1
  clear hR kx sx hx f1
  go_enter Try.func19, Try.ntmps19
  go_wp2_with fail
  refine (cA _).mono ?_
  rintro en w1 ⟨rfl, hb1⟩
  clear cA
  go_wp2_with fail
  refine (cU _).mono ?_
  rintro en w3 ⟨u, M0, F, rfl, HPu, hb3⟩
  have hP3 := kept_block hb3 (heap_alloc_new _ _)
  have hB3 : Below w.heap.size w w3 := chain (hb1.alloc hb1.size _) hb3
  have hgp : w.heap.size ≤ w1.heap.size := hb1.size
  clear hb3 cU hb1
  obtain ⟨gp, hgp2⟩ : ∃ g, w1.heap.size = g := ⟨_, rfl⟩
  rw [hgp2] at hP3 hgp
  simp only [hgp2]
  clear hgp2
  clear w1
  have fp := fun j => frozen_of_row w3 gp j _ _ hP3
  obtain ⟨p0, p1, p2, p3⟩ := cells_four hP3
  have HPP : Hid (Unit → F = e - u ∧ u ≤ 52 ∧ M0 = m * 2 ^ u ∧ 4503599627370496 ≤ M0 ∧ M0 < 9007199254740992) := fun _ => HPu
  have F1 : -1126 ≤ F := by omega
  have F2 : F ≤ 971 := by omega
  clear HPu
  go_upto_region 7 with fail
  obtain ⟨w6, h6⟩ : ∃ w6, ((((w3.setCell ⟨gp, 0, none⟩ (.int .i64 4)).setCell ⟨gp, 1, none⟩ (.bool false)).setCell ⟨gp, 2, none⟩ (.int .u64 M0)).setCell ⟨gp, 3, none⟩ (.int .i64 F)) = w6 := ⟨_, rfl⟩
  have hP6 : w6.heap[gp]? = some (.cells #[.int .i64 4, .bool false, .int .u64 M0, .int .i64 F] 40) := by rw [← h6]; exact four_stores hP3
  have hB6 : Below w.heap.size w w6 := by rw [← h6]; exact four_below hB3 hgp
  simp only [h6]
  clear h6 hP3 hB3 p0 p1 p2 p3 fp
  clear w3
  obtain ⟨p0, p1, p2, p3⟩ := cells_four hP6
  clear hP6
  have hM0 : (M0 : Int) < 9007199254740992 := by have := HPP.out (); omega
  go_upto_if 42 with fail
  go_cut [4, 5] (fun x4 x5 wx => ∃ (M : Nat) (h : Int), x4 = .int .u64 M ∧ x5 = .int .i64 (2 * h) ∧ wx = w6 ∧ (M : Int) < 18014398509481984 ∧ -600 ≤ h ∧ h ≤ 600 ∧ Hid (Unit → R = rootN M h ∧ 4503599627370496 ≤ M))
  case first =>
    by_cases hpar : F % 2 = 0
    · obtain ⟨h, hh⟩ : ∃ h, F = 2 * h := ⟨F / 2, by omega⟩
      have ht0 : F.tmod 2 = 0 := by rw [hh]; exact Int.mul_tmod_right _ _
      have ht : (F.tmod 2 != 0) = false := by rw [ht0]; rfl
      have HH : Hid (Unit → F = 2 * h) := fun _ => hh
      clear hh ht0 hpar
      simp only [ht]
      go_wp2
      go_meet
      case rel =>
        have hh := HH.out ()
        refine ⟨M0, h, rfl, by rw [hh], rfl, by omega, by omega, by omega, fun _ => ?_⟩
        obtain ⟨x1, x2, x3, x4, x5⟩ := HPP.out ()
        refine ⟨?_, x4⟩
        rw [HD.out (), ← root_even (u := u) (M := M0) (E := F) ((HF1.out ()).pos rfl) (by omega) (.inl ⟨x3, x1, by omega⟩), (by omega : F / 2 = h)]
    · obtain ⟨h, hh⟩ : ∃ h, F = 2 * h + 1 := ⟨F / 2, by omega⟩
      have ht : (F.tmod 2 != 0) = true := by
        rw [bne_iff_ne]
        intro h0
        have := Int.dvd_of_tmod_eq_zero h0
        omega
      have HH : Hid (Unit → F = 2 * h + 1) := fun _ => hh
      clear hh hpar
      simp only [ht]
      go_wp2
      go_meet
      case rel =>
        have hh := HH.out ()
        refine ⟨M0 * 2, h, by go_num, by rw [hh]; go_num, rfl, by omega, by omega, by omega, fun _ => ?_⟩
        obtain ⟨x1, x2, x3, x4, x5⟩ := HPP.out ()
        refine ⟨?_, by omega⟩
        rw [HD.out (), ← root_even (u := u) (M := M0 * 2) (E := F - 1) ((HF1.out ()).pos rfl) (by omega) (.inr ⟨by rw [x3], by omega, by omega⟩), (by omega : (F - 1) / 2 = h)]
  case rest =>
    obtain ⟨M, h, rfl, rfl, rfl, hM, hh1, hh2, HM⟩ := hcut
    clear HD HF1 HPP
    have hd2 : (2 * h).tdiv 2 = h := Int.mul_tdiv_cancel_left _ (by decide)
    obtain ⟨E, hE⟩ : ∃ E, 2 * h = E := ⟨_, rfl⟩
    rw [hE] at hd2 ⊢
    clear hE
    have HN : Hid (Unit → M * 4 ^ 31 < 4 ^ 59 ∧ M * 4 ^ 31 < 288230376151711744 * 288230376151711744) := fun _ => by omega
    go_upto_region 15 with fail
    go_loop [6, 7, 8] (fun x6 x7 x8 => ∃ (j n l : Nat) (I : Int), x6 = .int .u64 n ∧ x7 = .int .u64 l ∧ x8 = .int .i64 I ∧ -32 ≤ I ∧ I ≤ 27 ∧ Hid (Unit → RootAt (M * 4 ^ 31) j n l ∧ I = (j : Int) - 32)) (fun _ _ x8 => (intOf x8 + 32).toNat)
    case atStart => exact ⟨59, 0, 0, 27, rfl, rfl, rfl, by omega, by omega, fun _ => ⟨rootAt_start (HN.out ()).1, by omega⟩⟩
    case round =>
      obtain ⟨j, n, l, I, rfl, rfl, rfl, I1, I2, HI⟩ := hrel
      have HB : Hid (Unit → n < 288230376151711744 ∧ l ≤ 2 * n) := fun _ => rootAt_bound (HI.out ()).1 (HN.out ()).2
      have hn : (n : Int) < 288230376151711744 := by have := HB.out (); omega
      have hl : (l : Int) < 576460752303423488 := by have := HB.out (); omega
      by_cases hI : -31 ≤ I
      · obtain ⟨j', hj⟩ : ∃ j', j = j' + 1 := ⟨j - 1, by have := (HI.out ()).2; omega⟩
        subst hj
        have HT : Hid (Unit → I = (j' : Int) - 31) := fun _ => by have := (HI.out ()).2; omega
        have HA : Hid (Unit → RootAt (M * 4 ^ 31) (j' + 1) n l) := fun _ => (HI.out ()).1
        clear HI HB
        obtain ⟨d, hd⟩ : ∃ d, M * 4 ^ 31 / 4 ^ j' % 4 = d := ⟨_, rfl⟩
        have HDg : Hid (Unit → M * 4 ^ 31 / 4 ^ j' % 4 = d) := fun _ => hd
        have hd4 : (d : Int) < 4 := by omega
        by_cases hI0 : 0 ≤ I
        · obtain ⟨i, hi⟩ : ∃ i : Nat, I = i := ⟨I.toNat, by omega⟩
          have hK : ∃ K : Nat, 4 ^ i = K := ⟨_, rfl⟩
          obtain ⟨K, hK⟩ := hK
          have cP : ∀ W, Calls Try.prog 26 #[.int .i64 (2 * I)] W fun e w' => e = .returned (.int .u64 (K : Int)) ∧ W = w' := fun W => by
            have h := l03Pow_any (2 * i) W (by omega)
            rw [← four_pow, hK, (by omega : ((2 * i : Nat) : Int) = 2 * I)] at h
            exact h
          obtain ⟨q, hq⟩ : ∃ q, M / K = q := ⟨_, rfl⟩
          have hq2 : (M : Int) / K = q := by rw [← hq]; simp
          have hq3 : (q : Int) < 18014398509481984 := by have : M / K ≤ M := Nat.div_le_self _ _; omega
          have hKd : (q : Int) % 4 = d := by
            have h1 : j' = 31 + i := by have := HT.out (); omega
            rw [h1, figure_down, hK, hq] at hd
            omega
          have hK0 : K ≠ 0 := by rw [← hK]; simp
          have zK : ((K : Int) == 0) = false := by rw [beq_eq_false_iff_ne]; omega
          clear hd hK hi hq
          by_cases ht : (n : Int) * 4 + 1 ≤ l * 4 + d
          · have HJ : Hid (Unit → RootAt (M * 4 ^ 31) j' (n * 2 + 1) (l * 4 + d - (n * 4 + 1))) := fun _ => rootAt_hit (HA.out ()) (HDg.out ()) (by omega)
            go_wp2_with (go_at_call 26; refine (cP _).mono ?_; rintro en w' ⟨rfl, rfl⟩)
            go_round
            case rel => exact ⟨j', n * 2 + 1, l * 4 + d - (n * 4 + 1), I - 1, by go_num, by go_num, by go_num, by omega, by omega, fun _ => ⟨HJ.out (), by have := HT.out (); omega⟩⟩
            case measure => simp [intOf]; omega
          · have ht' : decide ((n : Int) * 4 + 1 ≤ l * 4 + d) = false := by simp; omega
            have HJ : Hid (Unit → RootAt (M * 4 ^ 31) j' (n * 2) (l * 4 + d)) := fun _ => rootAt_miss (HA.out ()) (HDg.out ()) (by omega)
            go_wp2_with (go_at_call 26; refine (cP _).mono ?_; rintro en w' ⟨rfl, rfl⟩)
            go_round
            case rel => exact ⟨j', n * 2, l * 4 + d, I - 1, by go_num, by go_num, by go_num, by omega, by omega, fun _ => ⟨HJ.out (), by have := HT.out (); omega⟩⟩
            case measure => simp [intOf]; omega
        · have hI0' : decide (0 ≤ I) = false := by simp; omega
          have hd0 : d = 0 := by
            rw [← hd]; exact figure_none (by have := HT.out (); omega)
          subst hd0
          clear hd
          by_cases ht : (n : Int) * 4 + 1 ≤ l * 4
          · have HJ : Hid (Unit → RootAt (M * 4 ^ 31) j' (n * 2 + 1) (l * 4 + 0 - (n * 4 + 1))) := fun _ => rootAt_hit (HA.out ()) (HDg.out ()) (by omega)
            go_wp2
            go_round
            case rel => exact ⟨j', n * 2 + 1, l * 4 + 0 - (n * 4 + 1), I - 1, by go_num, by go_num, by go_num, by omega, by omega, fun _ => ⟨HJ.out (), by have := HT.out (); omega⟩⟩
            case measure => simp [intOf]; omega
          · have ht' : decide ((n : Int) * 4 + 1 ≤ l * 4) = false := by simp; omega
            have HJ : Hid (Unit → RootAt (M * 4 ^ 31) j' (n * 2) (l * 4 + 0)) := fun _ => rootAt_miss (HA.out ()) (HDg.out ()) (by omega)
            go_wp2
            go_round
            case rel => exact ⟨j', n * 2, l * 4 + 0, I - 1, by go_num, by go_num, by go_num, by omega, by omega, fun _ => ⟨HJ.out (), by have := HT.out (); omega⟩⟩
            case measure => simp [intOf]; omega
      · have hI' : decide (-31 ≤ I) = false := by simp; omega
        have cR : ∀ W, Calls Try.prog 27 #[.bool false, .int .u64 n, .int .i64 (h - 31), .bool (decide (0 < l))] W fun e w' => e = .returned (.int .u64 (R : Nat)) ∧ W = w' := fun W => by
          obtain ⟨x1, x2⟩ := HI.out ()
          have hj : j = 0 := by omega
          subst hj
          obtain ⟨y1, y2⟩ := x1
          rw [Nat.pow_zero, Nat.div_one] at y1 y2
          obtain ⟨r1, r2⟩ := HM.out ()
          have z1 : 144115188075855872 ≤ n := by
            rw [← y1]
            exact isq_ge _ (by omega)
          have h' := specRound_any false (decide (0 < l)) n (h - 31) W (by omega) (by omega) (by omega)
          have z3 : (decide (0 < l) && decide (72057594037927936 ≤ n)) = decide (n * n ≠ M * 4 ^ 31) := by
            rw [decide_eq_true (by omega : 72057594037927936 ≤ n), Bool.and_true, Bool.eq_iff_iff, decide_eq_true_iff, decide_eq_true_iff]
            omega
          have z4 := root_at (m := M) (k := 31) (e := h) (by rw [y1]; omega) (by omega)
          rw [y1] at z4
          rw [z3] at h'
          have z5 : signN false (roundN n (h - 31) (decide (n * n ≠ M * 4 ^ 31))) = R := by
            rw [r1, ← z4]
            exact signN_false _
          rw [z5] at h'
          exact h'
        clear HI HB
        go_wp2_with (go_at_call 27; refine (cR _).mono ?_; rintro en w' ⟨rfl, rfl⟩)
        go_ret
        exact ⟨rfl, hB6⟩

end Go.Proofs.Ytilhcfnennfofaa
