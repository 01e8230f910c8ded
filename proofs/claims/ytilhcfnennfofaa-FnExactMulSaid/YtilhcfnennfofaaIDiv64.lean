/-
  The walk of the library's division of 128 bits by 64, where the divisor fills its word and the lower half of what is divided is 0.
-/
import Derived.Test.YtilhcfnennfofaaGuessB
import Derived.Test.YtilhcfnennfofaaIRound
import Derived.Laws.BitsAllLaws
import Derived.Deep.CutBlock
namespace Go.Proofs.Ytilhcfnennfofaa
open Go.RowKit Go.Sort
set_option linter.unusedVariables false

theorem mask_low (y : Nat) (hy : y < 18446744073709551616) : bits .and .u64 (y : Int) 4294967295 = ((y % 4294967296 : Nat) : Int) := by
  have h := u64_and_nat y 4294967295 hy (by decide)
  have e : y &&& 4294967295 = y % 4294967296 := Nat.and_two_pow_sub_one_eq_mod y 32
  rw [e] at h
  exact h
theorem or_none (h : Nat) (hh : h < 18446744073709551616) : bits .or .u64 (h : Int) 0 = (h : Int) := by
  have e := u64_or_nat h 0 hh (by decide)
  rw [Nat.or_zero] at e
  exact e

theorem lz_top (y : Nat) (h1 : 9223372036854775808 ≤ y) (h2 : y < 18446744073709551616) (W : World) :
    Calls Try.prog 51 #[.int .u64 y] W fun e w' => e = .returned (.int .i64 0) ∧ W = w' := by
  obtain ⟨f, M, hf, hM1, hM2, hM, c⟩ := lz_any y h2 (by omega)
  have h0 : f = 0 := by
    rcases Nat.eq_zero_or_pos f with h | h
    · exact h
    · have : 2 ^ 1 ≤ 2 ^ f := Nat.pow_le_pow_right (by decide) h
      have : y * 2 ^ 1 ≤ y * 2 ^ f := Nat.mul_le_mul_left _ this
      omega
  subst h0
  exact c W

set_option maxHeartbeats 1000000 in
set_option maxRecDepth 100000 in
theorem iDiv64 (h y : Nat) (w : World) (hy : 9223372036854775808 ≤ y) (hy2 : y < 18446744073709551616) (h0 : h ≠ 0) (hh : h < y) :
    Calls Try.prog 45 #[.int .u64 h, .int .u64 0, .int .u64 y] w fun e w' => ∃ r : Value, e = .returned (.tuple #[.int .u64 ((h * 18446744073709551616 / y : Nat) : Int), r]) ∧ w = w' := by
  obtain ⟨Z, hZ⟩ : ∃ Z, h * 18446744073709551616 / y = Z := ⟨_, rfl⟩
  rw [hZ]
  have HZZ : Hid (Unit → h * 18446744073709551616 / y = Z) := fun _ => hZ
  clear hZ
  have cL := fun W => lz_top y hy hy2 W
  have d0 : ((y : Int) == 0) = false := by rw [beq_eq_false_iff_ne]; omega
  have d1 : decide (y ≤ h) = false := by simp; omega
  have d2 : ((h : Int) == 0) = false := by rw [beq_eq_false_iff_ne]; omega
  have m1 := mask_low y hy2
  have m2 := or_none h (by omega)
  obtain ⟨Y1, hY1⟩ : ∃ Y1, y / 4294967296 = Y1 := ⟨_, rfl⟩
  obtain ⟨Y0, hY0⟩ : ∃ Y0, y % 4294967296 = Y0 := ⟨_, rfl⟩
  have v1 : (y : Int) / 4294967296 = Y1 := by omega
  rw [hY0] at m1
  have hyy : y = Y1 * 4294967296 + Y0 := by omega
  have b1 : 2147483648 ≤ Y1 := by omega
  have b2 : Y1 < 4294967296 := by omega
  have b3 : Y0 < 4294967296 := by omega
  obtain ⟨g1, g2, g3⟩ := guess_start (u := h) (y1 := Y1) (y0 := Y0) (t := 0) (by omega) b1 b3 (by omega)
  obtain ⟨q, hq⟩ : ∃ q, h / Y1 = q := ⟨_, rfl⟩
  obtain ⟨r, hr⟩ : ∃ r, h % Y1 = r := ⟨_, rfl⟩
  rw [hq, hr] at g1
  rw [hq] at g2
  rw [hr] at g3
  have v2 : (h : Int) / Y1 = q := by rw [← hq]; simp
  have v3 : IntKind.u64.wrap ((h : Int) - IntKind.u64.wrap ((q : Int) * Y1)) = r := by
    have e1 := g1.eq
    have e2 : (q : Int) * Y1 = ((q * Y1 : Nat) : Int) := by simp
    rw [e2]
    generalize q * Y1 = p at *
    show ((h : Int) - (p : Int) % 18446744073709551616) % 18446744073709551616 = r
    omega
  have z1 : ((Y1 : Int) == 0) = false := by rw [beq_eq_false_iff_ne]; omega
  have z2 : Y1 ≠ 0 := by omega
  have HY : Hid (Unit → y = Y1 * 4294967296 + Y0) := fun _ => hyy
  have HH : Hid (Unit → h < y ∧ y < 18446744073709551616) := fun _ => ⟨hh, hy2⟩
  have HG : Hid (Unit → Guess h Y1 Y0 0 q r) := fun _ => g1
  have B1 : Hid (Unit → 2147483648 ≤ Y1 ∧ Y1 < 4294967296 ∧ Y0 < 4294967296 ∧ q ≤ 4294967297 ∧ r < Y1) := fun _ => ⟨b1, b2, b3, g2, g3⟩
  have y2 : (y : Int) < 18446744073709551616 := by omega
  have h2 : (h : Int) < 18446744073709551616 := by omega
  clear hyy hh hy2 hy h0 g1 g2 g3 b1 b2 b3 hY1 hY0 hq hr
  have q2 : (q : Int) ≤ 4294967297 := by have := (B1.out ()).2.2.2.1; omega
  have r2 : (r : Int) < 4294967296 := by have := B1.out (); omega
  have y3 : (Y1 : Int) < 4294967296 := by have := B1.out (); omega
  have m3 : bits .and .u64 0 4294967295 = 0 := by kernel_rfl
  have HQ : Hid (Unit → ∀ Q, h * 4294967296 / y = Q → Q < 4294967296) := fun _ Q hQ => by
    have := HH.out ()
    rw [← hQ, Nat.div_lt_iff_lt_mul (by omega)]
    omega
  go_enter Try.func45, Try.ntmps45
  go_upto_block 0 with (go_at_call 51; refine (cL _).mono ?_; rintro e w' ⟨rfl, rfl⟩)
  go_cut [15, 16] from 67 to 85 (fun s15 s16 wx => w = wx ∧ ∃ Q R : Nat, s15 = .int .u64 Q ∧ s16 = .int .u64 R ∧ Hid (Unit → h * 4294967296 / y = Q))
  case first =>
    go_wp2_with fail
    go_loop [15, 16] (fun x15 x16 => ∃ Q R : Nat, x15 = .int .u64 Q ∧ x16 = .int .u64 R ∧ (Q : Int) ≤ 4294967297 ∧ (R : Int) < 4294967296 ∧ Hid (Unit → Guess h Y1 Y0 0 Q R)) (fun x15 _ => (intOf x15).toNat)
    case atStart => exact ⟨q, r, rfl, rfl, q2, r2, HG⟩
    case round =>
      obtain ⟨Q, R, rfl, rfl, hQ, hR, HGG⟩ := hrel
      have HD : Hid (Unit → (4294967296 ≤ Q ∨ 4294967296 * R < Q * Y0) → 1 ≤ Q ∧ Guess h Y1 Y0 0 (Q - 1) (R + Y1)) := fun _ hc => guess_down (HGG.out ()) (by have := HH.out (); have := HY.out (); omega) (by omega) (by omega)
      have HE : Hid (Unit → ∀ R', 4294967296 ≤ R' → Guess h Y1 Y0 0 (Q - 1) R' → h * 4294967296 / y = Q - 1) := fun _ R' h1 h2 => by
        have b := B1.out ()
        have := guess_break h2 b.1 b.2.2.1 (by omega) h1
        rw [Nat.add_zero] at this
        rw [HY.out ()]
        exact this
      by_cases c1 : (4294967296 : Int) ≤ Q
      · by_cases c2 : (4294967296 : Int) ≤ (R : Int) + Y1
        · go_wp2
          go_meet
          case rel => exact ⟨rfl, Q - 1, R + Y1, by go_num, by go_num, fun _ => HE.out () _ (by omega) (HD.out () (.inl (by omega))).2⟩
        · have c2' : decide ((4294967296 : Int) ≤ (R : Int) + Y1) = false := by simp; omega
          go_wp2
          go_round
          case rel => exact ⟨Q - 1, R + Y1, by go_num, by go_num, by omega, by omega, fun _ => (HD.out () (.inl (by omega))).2⟩
          case measure => simp [intOf]; omega
      · have c1' : decide ((4294967296 : Int) ≤ Q) = false := by simp; omega
        obtain ⟨P, hP⟩ : ∃ P : Nat, Q * Y0 = P := ⟨_, rfl⟩
        have wP : IntKind.u64.wrap ((Q : Int) * Y0) = P := by
          have b := B1.out ()
          have e1 : (Q : Int) * Y0 = ((Q * Y0 : Nat) : Int) := by simp
          have e2 : Q * Y0 ≤ 4294967296 * 4294967296 := Nat.mul_le_mul (by omega) (by omega)
          have e3 : Q * Y0 < 18446744073709551616 := by
            have : Q * Y0 ≤ 4294967295 * Y0 := Nat.mul_le_mul_right _ (by omega)
            omega
          rw [e1, hP]
          show (P : Int) % 18446744073709551616 = P
          omega
        by_cases c3 : 4294967296 * (R : Int) < P
        · have hQ1 : (1 : Int) ≤ Q := by have := (HD.out () (.inr (by omega))).1; omega
          by_cases c2 : (4294967296 : Int) ≤ (R : Int) + Y1
          · go_wp2
            go_meet
            case rel => exact ⟨rfl, Q - 1, R + Y1, by go_num, by go_num, fun _ => HE.out () _ (by omega) (HD.out () (.inr (by omega))).2⟩
          · have c2' : decide ((4294967296 : Int) ≤ (R : Int) + Y1) = false := by simp; omega
            go_wp2
            go_round
            case rel => exact ⟨Q - 1, R + Y1, by go_num, by go_num, by omega, by omega, fun _ => (HD.out () (.inr (by omega))).2⟩
            case measure => simp [intOf]; omega
        · have c3' : decide (4294967296 * (R : Int) < P) = false := by simp; omega
          go_wp2
          go_meet
          case rel => exact ⟨rfl, Q, R, rfl, rfl, fun _ => by
            have := guess_end (HGG.out ()) (B1.out ()).1 (by omega)
            rw [Nat.add_zero] at this
            rw [HY.out ()]
            exact this⟩
  case rest =>
    obtain ⟨rfl, Q, R, rfl, rfl, HD⟩ := hcut
    clear HG v2 v3 q2 r2 m1 m2 v1 d0 d1 d2
    have hQ : (Q : Int) < 4294967296 := by have := HQ.out () Q (HD.out ()); omega
    obtain ⟨U, hU⟩ : ∃ U, h * 4294967296 - Q * y = U := ⟨_, rfl⟩
    have hQy : Q * y ≤ h * 4294967296 := by rw [← HD.out ()]; exact Nat.div_mul_le_self _ _
    have hUy : U < y := by
      have h5 := Nat.div_add_mod (h * 4294967296) y
      have h6 := Nat.mod_lt (h * 4294967296) (by have := HH.out (); omega : 0 < y)
      rw [HD.out (), Nat.mul_comm] at h5
      omega
    have vU : IntKind.u64.wrap (IntKind.u64.wrap ((h : Int) * 4294967296) - IntKind.u64.wrap ((Q : Int) * y)) = U := by
      have := (HH.out ()).2
      have e1 : (Q : Int) * y = ((Q * y : Nat) : Int) := by simp
      rw [e1]
      generalize Q * y = P at *
      show ((h : Int) * 4294967296 % 18446744073709551616 - (P : Int) % 18446744073709551616) % 18446744073709551616 = U
      omega
    have wU : IntKind.u64.wrap (IntKind.u64.wrap (IntKind.u64.wrap ((h : Int) * 4294967296)) - IntKind.u64.wrap ((Q : Int) * y)) = U := by
      have e1 : IntKind.u64.wrap (IntKind.u64.wrap ((h : Int) * 4294967296)) = IntKind.u64.wrap ((h : Int) * 4294967296) := by
        show ((h : Int) * 4294967296 % 18446744073709551616) % 18446744073709551616 = (h : Int) * 4294967296 % 18446744073709551616
        omega
      rw [e1]
      exact vU
    have b := B1.out ()
    obtain ⟨g1, g2, g3⟩ := guess_start (u := U) (y1 := Y1) (y0 := Y0) (t := 0) (by have := HY.out (); omega) b.1 b.2.2.1 (by omega)
    obtain ⟨q', hq⟩ : ∃ q, U / Y1 = q := ⟨_, rfl⟩
    obtain ⟨r', hr⟩ : ∃ r, U % Y1 = r := ⟨_, rfl⟩
    rw [hq, hr] at g1
    rw [hq] at g2
    rw [hr] at g3
    have v2 : (U : Int) / Y1 = q' := by rw [← hq]; simp
    have v3 : IntKind.u64.wrap ((U : Int) - IntKind.u64.wrap ((q' : Int) * Y1)) = r' := by
      have e1 := g1.eq
      have e2 : (q' : Int) * Y1 = ((q' * Y1 : Nat) : Int) := by simp
      have := (HH.out ()).2
      rw [e2]
      generalize q' * Y1 = p at *
      show ((U : Int) - (p : Int) % 18446744073709551616) % 18446744073709551616 = r'
      omega
    have q2 : (q' : Int) ≤ 4294967297 := by omega
    have r2 : (r' : Int) < 4294967296 := by omega
    have u2 : (U : Int) < 18446744073709551616 := by have := (HH.out ()).2; omega
    have HG : Hid (Unit → Guess U Y1 Y0 0 q' r') := fun _ => g1
    have HU : Hid (Unit → U < y) := fun _ => hUy
    have HZ : Hid (Unit → ∀ Q0, U * 4294967296 / y = Q0 → Q0 < 4294967296 ∧ h * 18446744073709551616 / y = Q * 4294967296 + Q0) := fun _ Q0 hQ0 => by
      have := HH.out ()
      constructor
      · rw [← hQ0, Nat.div_lt_iff_lt_mul (by omega)]
        omega
      · have h7 := two_figures (u := h) (y := y) (t := 0) (s := 0) (q1 := Q) (q0 := Q0) (by omega) (by simpa using HD.out ()) (by rw [Nat.add_zero, Nat.add_zero, hU]; exact hQ0)
        simpa using h7
    clear hQy hUy hU b g1 g2 g3 hq hr HD HQ
    go_wp2_with fail
    go_loop [18, 16] (fun x18 x16 => ∃ Q R : Nat, x18 = .int .u64 Q ∧ x16 = .int .u64 R ∧ (Q : Int) ≤ 4294967297 ∧ (R : Int) < 4294967296 ∧ Hid (Unit → Guess U Y1 Y0 0 Q R)) (fun x18 _ => (intOf x18).toNat)
    case atStart => exact ⟨q', r', rfl, rfl, q2, r2, HG⟩
    case round =>
      obtain ⟨S, T, rfl, rfl, hS, hT, HGG⟩ := hrel
      have HD : Hid (Unit → (4294967296 ≤ S ∨ 4294967296 * T < S * Y0) → 1 ≤ S ∧ Guess U Y1 Y0 0 (S - 1) (T + Y1)) := fun _ hc => guess_down (HGG.out ()) (by have := HU.out (); have := HY.out (); omega) (by omega) (by omega)
      have HE : Hid (Unit → ∀ R', 4294967296 ≤ R' → Guess U Y1 Y0 0 (S - 1) R' → S - 1 < 4294967296 ∧ h * 18446744073709551616 / y = Q * 4294967296 + (S - 1)) := fun _ R' h1 h2 => by
        have b := B1.out ()
        have := guess_break h2 b.1 b.2.2.1 (by omega) h1
        rw [Nat.add_zero] at this
        refine HZ.out () _ ?_
        rw [HY.out ()]
        exact this
      by_cases c1 : (4294967296 : Int) ≤ S
      · by_cases c2 : (4294967296 : Int) ≤ (T : Int) + Y1
        · obtain ⟨k1, k2⟩ := HE.out () _ (by omega) (HD.out () (.inl (by omega))).2
          have K2 : Hid ((Z : Int) = (Q : Int) * 4294967296 + ((S : Int) - 1)) := by have := HZZ.out (); show _ = _; omega
          have k3 : (S : Int) - 1 < 4294967296 := by omega
          clear k1 k2
          go_wp2
          go_ret2
          exact ⟨⟨_, by rw [K2.out]; rfl⟩, rfl⟩
        · have c2' : decide ((4294967296 : Int) ≤ (T : Int) + Y1) = false := by simp; omega
          go_wp2
          go_round
          case rel => exact ⟨S - 1, T + Y1, by go_num, by go_num, by omega, by omega, fun _ => (HD.out () (.inl (by omega))).2⟩
          case measure => simp [intOf]; omega
      · have c1' : decide ((4294967296 : Int) ≤ S) = false := by simp; omega
        obtain ⟨P, hP⟩ : ∃ P : Nat, S * Y0 = P := ⟨_, rfl⟩
        have wP : IntKind.u64.wrap ((S : Int) * Y0) = P := by
          have b := B1.out ()
          have e1 : (S : Int) * Y0 = ((S * Y0 : Nat) : Int) := by simp
          have e3 : S * Y0 < 18446744073709551616 := by
            have : S * Y0 ≤ 4294967295 * Y0 := Nat.mul_le_mul_right _ (by omega)
            omega
          rw [e1, hP]
          show (P : Int) % 18446744073709551616 = P
          omega
        by_cases c3 : 4294967296 * (T : Int) < P
        · have hS1 : (1 : Int) ≤ S := by have := (HD.out () (.inr (by omega))).1; omega
          by_cases c2 : (4294967296 : Int) ≤ (T : Int) + Y1
          · obtain ⟨k1, k2⟩ := HE.out () _ (by omega) (HD.out () (.inr (by omega))).2
            have K2 : Hid ((Z : Int) = (Q : Int) * 4294967296 + ((S : Int) - 1)) := by have := HZZ.out (); show _ = _; omega
            have k3 : (S : Int) - 1 < 4294967296 := by omega
            clear k1 k2
            go_wp2
            go_ret2
            exact ⟨⟨_, by rw [K2.out]; rfl⟩, rfl⟩
          · have c2' : decide ((4294967296 : Int) ≤ (T : Int) + Y1) = false := by simp; omega
            go_wp2
            go_round
            case rel => exact ⟨S - 1, T + Y1, by go_num, by go_num, by omega, by omega, fun _ => (HD.out () (.inr (by omega))).2⟩
            case measure => simp [intOf]; omega
        · have c3' : decide (4294967296 * (T : Int) < P) = false := by simp; omega
          obtain ⟨k1, k2⟩ := HZ.out () S (by
            have := guess_end (HGG.out ()) (B1.out ()).1 (by omega)
            rw [Nat.add_zero] at this
            rw [HY.out ()]
            exact this)
          have K2 : Hid ((Z : Int) = (Q : Int) * 4294967296 + (S : Int)) := by have := HZZ.out (); show _ = _; omega
          have k3 : (S : Int) < 4294967296 := by omega
          clear k1 k2
          go_wp2
          go_ret2
          exact ⟨⟨_, by rw [K2.out]; rfl⟩, rfl⟩

end Go.Proofs.Ytilhcfnennfofaa
