/-
  The walk of the library's division of 128 bits by 64.
-/
import Derived.Test.YtcabanghegddhaaGreatDoorNumA
import Derived.Test.YtcabanghegddhaaGreatDoorIRound
import Derived.Laws.BitsAllLaws
import Derived.Deep.CutBlock
namespace Go.Proofs.YtcabanghegddhaaGreatDoor
open Go.RowKit Go.Sort
set_option linter.unusedVariables false

theorem mask32 (y : Nat) (hy : y < 18446744073709551616) : bits .and .u64 (y : Int) 4294967295 = ((y % 4294967296 : Nat) : Int) := by
  have h := u64_and_nat y 4294967295 hy (by decide)
  have e : y &&& 4294967295 = y % 4294967296 := Nat.and_two_pow_sub_one_eq_mod y 32
  rw [e] at h
  exact h

/-- what is divided, brought up with the divisor -/
theorem div_up {h lo y f Y U Z : Nat} (hy : y ≠ 0) (hh : h < y) (hlo : lo < 18446744073709551616) (hf : f ≤ 63) (hY : Y = y * 2 ^ f) (hY2 : Y < 18446744073709551616)
    (hU : h * 2 ^ f + lo / 2 ^ (64 - f) = U) (hZ : lo * 2 ^ f % 18446744073709551616 = Z) :
    h * 2 ^ f < 18446744073709551616 ∧ lo / 2 ^ (64 - f) < 2 ^ f ∧ U < Y ∧ (U * 18446744073709551616 + Z) / Y = (h * 18446744073709551616 + lo) / y ∧ (U * 18446744073709551616 + Z) % Y = (h * 18446744073709551616 + lo) % y * 2 ^ f := by
  have hp := Nat.two_pow_pos f
  have e64 : (18446744073709551616 : Nat) = 2 ^ (64 - f) * 2 ^ f := by rw [← Nat.pow_add, (by omega : 64 - f + f = 64)]
  have a1 : h * 2 ^ f + 2 ^ f ≤ Y := by
    have : (h + 1) * 2 ^ f ≤ y * 2 ^ f := Nat.mul_le_mul_right _ hh
    rw [Nat.add_mul] at this
    omega
  have a2 : lo / 2 ^ (64 - f) < 2 ^ f := by
    rw [Nat.div_lt_iff_lt_mul (Nat.two_pow_pos _), Nat.mul_comm, ← e64]
    exact hlo
  have a3 : U * 18446744073709551616 + Z = (h * 18446744073709551616 + lo) * 2 ^ f := by
    have e1 := Nat.div_add_mod (lo * 2 ^ f) 18446744073709551616
    have e2 : lo * 2 ^ f / 18446744073709551616 = lo / 2 ^ (64 - f) := by rw [e64, Nat.mul_div_mul_right _ _ hp]
    rw [hZ, e2] at e1
    rw [Nat.add_mul, ← e1, ← hU, Nat.add_mul, Nat.mul_right_comm]
    omega
  refine ⟨by omega, a2, by omega, ?_, ?_⟩
  · rw [a3, hY, Nat.mul_div_mul_right _ _ hp]
  · rw [a3, hY, Nat.mul_mod_mul_right]

theorem div_or {h f m : Nat} (hm : m < 2 ^ f) : h * 2 ^ f ||| m = h * 2 ^ f + m := by
  rw [Nat.mul_comm, ← Nat.two_pow_add_eq_or_of_lt hm]

/-- what is left behind two figures -/
theorem two_rest {u y t s q1 q0 : Nat} (hy : 0 < y) (hq1 : (u * 4294967296 + t) / y = q1) (hq0 : ((u * 4294967296 + t - q1 * y) * 4294967296 + s) / y = q0) : (u * 18446744073709551616 + (t * 4294967296 + s)) % y = (u * 4294967296 + t - q1 * y) * 4294967296 + s - q0 * y := by
  have a1 : q1 * y ≤ u * 4294967296 + t := by rw [← hq1]; exact Nat.div_mul_le_self _ _
  obtain ⟨d, hd⟩ : ∃ d, u * 4294967296 + t - q1 * y = d := ⟨_, rfl⟩
  rw [hd] at hq0 ⊢
  have e : u * 18446744073709551616 + (t * 4294967296 + s) = y * (q1 * 4294967296) + (d * 4294967296 + s) := by
    have : y * (q1 * 4294967296) = q1 * y * 4294967296 := by rw [← Nat.mul_assoc, Nat.mul_comm y]
    rw [this]
    omega
  have e2 := Nat.div_add_mod (d * 4294967296 + s) y
  rw [hq0, Nat.mul_comm] at e2
  rw [e, Nat.mul_add_mod]
  omega

set_option maxHeartbeats 1000000 in
set_option maxRecDepth 100000 in
theorem divSmall (lo y : Nat) (w : World) (hy : y ≠ 0) (hy2 : y < 18446744073709551616) (hlo : lo < 18446744073709551616) :
    Calls Tryz.prog 124 #[.int .u64 0, .int .u64 lo, .int .u64 y] w fun e w' => e = .returned (.tuple #[.int .u64 ((lo / y : Nat) : Int), .int .u64 ((lo % y : Nat) : Int)]) ∧ w' = w.drew := by
  have d0 : ((y : Int) == 0) = false := by rw [beq_eq_false_iff_ne]; omega
  have d1 : decide (y ≤ 0) = false := by simp; omega
  obtain ⟨q, hq⟩ : ∃ q, lo / y = q := ⟨_, rfl⟩
  obtain ⟨r, hr⟩ : ∃ r, lo % y = r := ⟨_, rfl⟩
  have v1 : (lo : Int) / y = q := by rw [← hq]; simp
  have v2 : (lo : Int) % y = r := by rw [← hr]; simp
  have wq : IntKind.u64.wrap (q : Int) = q := by
    have : lo / y ≤ lo := Nat.div_le_self _ _
    show (q : Int) % 18446744073709551616 = q
    omega
  rw [hq, hr]
  clear hq hr hy2 hlo
  go_enter Tryz.func124, Tryz.ntmps124
  go_wp2_with fail
  go_big_region
  go_wp2
  go_ret2
  refine ⟨?_, rfl⟩
  show Ending.returned (.tuple #[.int .u64 (q : Int), .int .u64 ((lo : Int) % y)]) = _
  rw [v2]

set_option maxHeartbeats 2000000 in
set_option maxRecDepth 100000 in
theorem divGreat (h lo y : Nat) (w : World) (hy : y ≠ 0) (hy2 : y < 18446744073709551616) (hlo : lo < 18446744073709551616) (h0 : h ≠ 0) (hh : h < y) :
    Calls Tryz.prog 124 #[.int .u64 h, .int .u64 lo, .int .u64 y] w fun e w' => e = .returned (.tuple #[.int .u64 (((h * 18446744073709551616 + lo) / y : Nat) : Int), .int .u64 (((h * 18446744073709551616 + lo) % y : Nat) : Int)]) ∧ w = w' := by
  obtain ⟨QQ, hQQ⟩ : ∃ Z, (h * 18446744073709551616 + lo) / y = Z := ⟨_, rfl⟩
  obtain ⟨RR, hRR⟩ : ∃ Z, (h * 18446744073709551616 + lo) % y = Z := ⟨_, rfl⟩
  rw [hQQ, hRR]
  obtain ⟨f, Y, hf, hY1, hY2, hYm, cL⟩ := lz_any y hy2 hy
  obtain ⟨m, hm⟩ : ∃ m, lo / 2 ^ (64 - f) = m := ⟨_, rfl⟩
  obtain ⟨H, hH⟩ : ∃ H, h * 2 ^ f = H := ⟨_, rfl⟩
  obtain ⟨U, hU⟩ : ∃ U, H + m = U := ⟨_, rfl⟩
  obtain ⟨Z, hZ⟩ : ∃ Z, lo * 2 ^ f % 18446744073709551616 = Z := ⟨_, rfl⟩
  obtain ⟨u1, u2, u3, u4, u5⟩ := div_up (U := U) hy hh hlo hf hYm hY2 (by rw [hH, hm]; exact hU) hZ
  rw [hH] at u1
  rw [hm] at u2
  rw [hQQ] at u4
  rw [hRR] at u5
  have d0 : ((y : Int) == 0) = false := by rw [beq_eq_false_iff_ne]; omega
  have d1 : decide (y ≤ h) = false := by simp; omega
  have d2 : ((h : Int) == 0) = false := by rw [beq_eq_false_iff_ne]; omega
  have dY : IntKind.u64.wrap ((y : Int) * 2 ^ f) = Y := by
    have e1 : (y : Int) * 2 ^ f = ((y * 2 ^ f : Nat) : Int) := by simp
    rw [e1, ← hYm]
    show (Y : Int) % 18446744073709551616 = Y
    omega
  have dH : IntKind.u64.wrap ((h : Int) * 2 ^ f) = H := by
    have e1 : (h : Int) * 2 ^ f = ((h * 2 ^ f : Nat) : Int) := by simp
    rw [e1, hH]
    show (H : Int) % 18446744073709551616 = H
    omega
  have dm : (lo : Int) / 2 ^ (64 - f) = m := by rw [← hm]; simp
  have dU : bits .or .u64 (H : Int) (m : Int) = (U : Int) := by
    rw [u64_or_nat H m u1 (by omega), ← hH, div_or u2, hH, hU]
  have dZ : IntKind.u64.wrap ((lo : Int) * 2 ^ f) = Z := by
    have e1 : (lo : Int) * 2 ^ f = ((lo * 2 ^ f : Nat) : Int) := by simp
    rw [e1]
    generalize lo * 2 ^ f = q at *
    show (q : Int) % 18446744073709551616 = Z
    omega
  have hZ1 : Z < 18446744073709551616 := by omega
  have m1 := mask32 Y hY2
  have m2 := mask32 Z hZ1
  obtain ⟨Y1, hY1'⟩ : ∃ Y1, Y / 4294967296 = Y1 := ⟨_, rfl⟩
  obtain ⟨Y0, hY0⟩ : ∃ Y0, Y % 4294967296 = Y0 := ⟨_, rfl⟩
  obtain ⟨T1, hT1⟩ : ∃ T1, Z / 4294967296 = T1 := ⟨_, rfl⟩
  obtain ⟨T0, hT0⟩ : ∃ T0, Z % 4294967296 = T0 := ⟨_, rfl⟩
  have v1 : (Y : Int) / 4294967296 = Y1 := by omega
  have v4 : (Z : Int) / 4294967296 = T1 := by omega
  rw [hY0] at m1
  rw [hT0] at m2
  have hyy : Y = Y1 * 4294967296 + Y0 := by omega
  have hzz : Z = T1 * 4294967296 + T0 := by omega
  have b1 : 2147483648 ≤ Y1 := by omega
  have b2 : Y1 < 4294967296 := by omega
  have b3 : Y0 < 4294967296 := by omega
  have b4 : T1 < 4294967296 := by omega
  have b5 : T0 < 4294967296 := by omega
  obtain ⟨g1, g2, g3⟩ := guess_start (u := U) (y1 := Y1) (y0 := Y0) (t := T1) (by omega) b1 b3 b4
  obtain ⟨q, hq⟩ : ∃ q, U / Y1 = q := ⟨_, rfl⟩
  obtain ⟨r, hr⟩ : ∃ r, U % Y1 = r := ⟨_, rfl⟩
  rw [hq, hr] at g1
  rw [hq] at g2
  rw [hr] at g3
  have v2 : (U : Int) / Y1 = q := by rw [← hq]; simp
  have v3 : IntKind.u64.wrap ((U : Int) - IntKind.u64.wrap ((q : Int) * Y1)) = r := by
    have e1 := g1.eq
    have e2 : (q : Int) * Y1 = ((q * Y1 : Nat) : Int) := by simp
    rw [e2]
    generalize q * Y1 = p at *
    show ((U : Int) - (p : Int) % 18446744073709551616) % 18446744073709551616 = r
    omega
  have z1 : ((Y1 : Int) == 0) = false := by rw [beq_eq_false_iff_ne]; omega
  have z2 : Y1 ≠ 0 := by omega
  have HY : Hid (Unit → Y = Y1 * 4294967296 + Y0 ∧ Z = T1 * 4294967296 + T0) := fun _ => ⟨hyy, hzz⟩
  have HH : Hid (Unit → U < Y ∧ Y < 18446744073709551616) := fun _ => ⟨u3, hY2⟩
  have HG : Hid (Unit → Guess U Y1 Y0 T1 q r) := fun _ => g1
  have B1 : Hid (Unit → 2147483648 ≤ Y1 ∧ Y1 < 4294967296 ∧ Y0 < 4294967296 ∧ q ≤ 4294967297 ∧ r < Y1 ∧ T1 < 4294967296 ∧ T0 < 4294967296) := fun _ => ⟨b1, b2, b3, g2, g3, b4, b5⟩
  have HQR : Hid (Unit → (U * 18446744073709551616 + Z) / Y = QQ ∧ (U * 18446744073709551616 + Z) % Y = RR * 2 ^ f) := fun _ => ⟨u4, u5⟩
  have hf' : (f : Int) ≤ 63 := by omega
  clear hyy hzz hh hy2 hy h0 g1 g2 g3 b1 b2 b3 b4 b5 hY1' hY0 hT1 hT0 hq hr hQQ hRR hYm hm hH hU hZ u1 u2 u3 u4 u5 hY1 hY2 hlo hZ1
  have q2 : (q : Int) ≤ 4294967297 := by have := (B1.out ()).2.2.2.1; omega
  have r2 : (r : Int) < 4294967296 := by have := B1.out (); omega
  have y3 : (Y1 : Int) < 4294967296 := by have := B1.out (); omega
  have t3 : (T1 : Int) < 4294967296 := by have := B1.out (); omega
  have t4 : (T0 : Int) < 4294967296 := by have := B1.out (); omega
  have HQ : Hid (Unit → ∀ Q, (U * 4294967296 + T1) / Y = Q → Q < 4294967296) := fun _ Q hQ => by
    have := HH.out ()
    have := B1.out ()
    rw [← hQ, Nat.div_lt_iff_lt_mul (by omega)]
    omega
  go_enter Tryz.func124, Tryz.ntmps124
  go_upto_block 0 with (go_at_call 103; refine (cL _).mono ?_; rintro e w' ⟨rfl, rfl⟩)
  go_cut [15, 16] from 67 to 85 (fun s15 s16 wx => w = wx ∧ ∃ Q R : Nat, s15 = .int .u64 Q ∧ s16 = .int .u64 R ∧ Hid (Unit → (U * 4294967296 + T1) / Y = Q))
  case first =>
    go_wp2_with fail
    go_loop [15, 16] (fun x15 x16 => ∃ Q R : Nat, x15 = .int .u64 Q ∧ x16 = .int .u64 R ∧ (Q : Int) ≤ 4294967297 ∧ (R : Int) < 4294967296 ∧ Hid (Unit → Guess U Y1 Y0 T1 Q R)) (fun x15 _ => (intOf x15).toNat)
    case atStart => exact ⟨q, r, rfl, rfl, q2, r2, HG⟩
    case round =>
      obtain ⟨Q, R, rfl, rfl, hQ, hR, HGG⟩ := hrel
      have HD : Hid (Unit → (4294967296 ≤ Q ∨ 4294967296 * R + T1 < Q * Y0) → 1 ≤ Q ∧ Guess U Y1 Y0 T1 (Q - 1) (R + Y1)) := fun _ hc => guess_down (HGG.out ()) (by have := HH.out (); have := (HY.out ()).1; omega) (by omega) hc
      have HE : Hid (Unit → ∀ R', 4294967296 ≤ R' → Guess U Y1 Y0 T1 (Q - 1) R' → (U * 4294967296 + T1) / Y = Q - 1) := fun _ R' h1 h2 => by
        have b := B1.out ()
        rw [(HY.out ()).1]
        exact guess_break h2 b.1 b.2.2.1 (by omega) h1
      by_cases c1 : (4294967296 : Int) ≤ Q
      · by_cases c2 : (4294967296 : Int) ≤ (R : Int) + Y1
        · go_wp2
          go_meet
          case rel => exact ⟨rfl, Q - 1, R + Y1, by go_num, by go_num, fun _ => HE.out () _ (by omega) (HD.out () (.inl (by omega))).2⟩
        · have c2' : decide ((4294967296 : Int) ≤ (R : Int) + Y1) = false := by simp; omega
          go_wp2
          go_round
          case rel => exact ⟨Q - 1, R + Y1, by go_num, by go_num, by omega, by omega, fun _ => (HD.out () (.inl (by omega))).2⟩
          case measure => simp [intOf]; omega
      · have c1' : decide ((4294967296 : Int) ≤ Q) = false := by simp; omega
        obtain ⟨P, hP⟩ : ∃ P : Nat, Q * Y0 = P := ⟨_, rfl⟩
        have wP : IntKind.u64.wrap ((Q : Int) * Y0) = P := by
          have b := B1.out ()
          have e1 : (Q : Int) * Y0 = ((Q * Y0 : Nat) : Int) := by simp
          have e3 : Q * Y0 < 18446744073709551616 := by
            have : Q * Y0 ≤ 4294967295 * Y0 := Nat.mul_le_mul_right _ (by omega)
            omega
          rw [e1, hP]
          show (P : Int) % 18446744073709551616 = P
          omega
        by_cases c3 : 4294967296 * (R : Int) + T1 < P
        · have hQ1 : (1 : Int) ≤ Q := by have := (HD.out () (.inr (by omega))).1; omega
          by_cases c2 : (4294967296 : Int) ≤ (R : Int) + Y1
          · go_wp2
            go_meet
            case rel => exact ⟨rfl, Q - 1, R + Y1, by go_num, by go_num, fun _ => HE.out () _ (by omega) (HD.out () (.inr (by omega))).2⟩
          · have c2' : decide ((4294967296 : Int) ≤ (R : Int) + Y1) = false := by simp; omega
            go_wp2
            go_round
            case rel => exact ⟨Q - 1, R + Y1, by go_num, by go_num, by omega, by omega, fun _ => (HD.out () (.inr (by omega))).2⟩
            case measure => simp [intOf]; omega
        · have c3' : decide (4294967296 * (R : Int) + T1 < P) = false := by simp; omega
          go_wp2
          go_meet
          case rel => exact ⟨rfl, Q, R, rfl, rfl, fun _ => by
            rw [(HY.out ()).1]
            exact guess_end (HGG.out ()) (B1.out ()).1 (by omega)⟩
  case rest =>
    obtain ⟨rfl, Q, R, rfl, rfl, HD⟩ := hcut
    clear HG v2 v3 q2 r2 m1 m2 v1 v4 d0 d1 d2 dY dH dm dU dZ
    have hQ : (Q : Int) < 4294967296 := by have := HQ.out () Q (HD.out ()); omega
    obtain ⟨V, hV⟩ : ∃ V, U * 4294967296 + T1 - Q * Y = V := ⟨_, rfl⟩
    have hQy : Q * Y ≤ U * 4294967296 + T1 := by rw [← HD.out ()]; exact Nat.div_mul_le_self _ _
    have hVy : V < Y := by
      have h5 := Nat.div_add_mod (U * 4294967296 + T1) Y
      have h6 := Nat.mod_lt (U * 4294967296 + T1) (by have := HH.out (); omega : 0 < Y)
      rw [HD.out (), Nat.mul_comm] at h5
      omega
    have vU : IntKind.u64.wrap (IntKind.u64.wrap (IntKind.u64.wrap ((U : Int) * 4294967296) + T1) - IntKind.u64.wrap ((Q : Int) * Y)) = V := by
      have := (HH.out ()).2
      have e1 : (Q : Int) * Y = ((Q * Y : Nat) : Int) := by simp
      rw [e1]
      generalize Q * Y = P at *
      show (((U : Int) * 4294967296 % 18446744073709551616 + T1) % 18446744073709551616 - (P : Int) % 18446744073709551616) % 18446744073709551616 = V
      omega
    have b := B1.out ()
    obtain ⟨g1, g2, g3⟩ := guess_start (u := V) (y1 := Y1) (y0 := Y0) (t := T0) (by have := (HY.out ()).1; omega) b.1 b.2.2.1 b.2.2.2.2.2.2
    obtain ⟨q', hq⟩ : ∃ q, V / Y1 = q := ⟨_, rfl⟩
    obtain ⟨r', hr⟩ : ∃ r, V % Y1 = r := ⟨_, rfl⟩
    rw [hq, hr] at g1
    rw [hq] at g2
    rw [hr] at g3
    have v2 : (V : Int) / Y1 = q' := by rw [← hq]; simp
    have v3 : IntKind.u64.wrap ((V : Int) - IntKind.u64.wrap ((q' : Int) * Y1)) = r' := by
      have e1 := g1.eq
      have e2 : (q' : Int) * Y1 = ((q' * Y1 : Nat) : Int) := by simp
      have := (HH.out ()).2
      rw [e2]
      generalize q' * Y1 = p at *
      show ((V : Int) - (p : Int) % 18446744073709551616) % 18446744073709551616 = r'
      omega
    have q2 : (q' : Int) ≤ 4294967297 := by omega
    have r2 : (r' : Int) < 4294967296 := by omega
    have HG : Hid (Unit → Guess V Y1 Y0 T0 q' r') := fun _ => g1
    have HU : Hid (Unit → V < Y) := fun _ => hVy
    have HZ : Hid (Unit → ∀ Q0, (V * 4294967296 + T0) / Y = Q0 → Q0 < 4294967296 ∧ QQ = Q * 4294967296 + Q0 ∧ Q0 * Y ≤ V * 4294967296 + T0 ∧ V * 4294967296 + T0 - Q0 * Y = RR * 2 ^ f ∧ RR * 2 ^ f < Y) := fun _ Q0 hQ0 => by
      have hh := HH.out ()
      obtain ⟨k1, k2⟩ := HQR.out ()
      have hz := (HY.out ()).2
      have hy0 : 0 < Y := by omega
      refine ⟨?_, ?_, ?_, ?_, ?_⟩
      · rw [← hQ0, Nat.div_lt_iff_lt_mul (by omega)]
        omega
      · have h7 := two_figures (u := U) (y := Y) (t := T1) (s := T0) (q1 := Q) (q0 := Q0) hy0 (HD.out ()) (by rw [hV]; exact hQ0)
        rw [← k1, hz, ← h7, Nat.add_assoc]
      · rw [← hQ0]; exact Nat.div_mul_le_self _ _
      · have h8 := two_rest (u := U) (y := Y) (t := T1) (s := T0) (q1 := Q) (q0 := Q0) hy0 (HD.out ()) (by rw [hV]; exact hQ0)
        rw [← k2, hz, h8, hV]
      · rw [← k2]; exact Nat.mod_lt _ hy0
    have HZ2 : Hid (Unit → ∀ Q0, (V * 4294967296 + T0) / Y = Q0 → IntKind.u64.wrap (IntKind.u64.wrap (IntKind.u64.wrap ((V : Int) * 4294967296) + T0) - IntKind.u64.wrap ((Q0 : Int) * Y)) / 2 ^ f = RR) := fun _ Q0 hQ0 => by
      obtain ⟨k1, k2, k3, k4, k5⟩ := HZ.out () Q0 hQ0
      have hh := (HH.out ()).2
      have hp := Nat.two_pow_pos f
      have e1 : (Q0 : Int) * Y = ((Q0 * Y : Nat) : Int) := by simp
      have e2 : IntKind.u64.wrap (IntKind.u64.wrap (IntKind.u64.wrap ((V : Int) * 4294967296) + T0) - IntKind.u64.wrap ((Q0 : Int) * Y)) = ((RR * 2 ^ f : Nat) : Int) := by
        rw [e1]
        generalize Q0 * Y = P at *
        generalize RR * 2 ^ f = E at *
        show (((V : Int) * 4294967296 % 18446744073709551616 + T0) % 18446744073709551616 - (P : Int) % 18446744073709551616) % 18446744073709551616 = E
        omega
      rw [e2, (by simp : ((2 : Int) ^ f) = ((2 ^ f : Nat) : Int)), ← Int.natCast_ediv, Nat.mul_div_cancel _ hp]
    clear hQy hVy hV b g1 g2 g3 hq hr HD HQ HQR
    go_wp2_with fail
    go_loop [18, 16] (fun x18 x16 => ∃ Q R : Nat, x18 = .int .u64 Q ∧ x16 = .int .u64 R ∧ (Q : Int) ≤ 4294967297 ∧ (R : Int) < 4294967296 ∧ Hid (Unit → Guess V Y1 Y0 T0 Q R)) (fun x18 _ => (intOf x18).toNat)
    case atStart => exact ⟨q', r', rfl, rfl, q2, r2, HG⟩
    case round =>
      obtain ⟨S, T, rfl, rfl, hS, hT, HGG⟩ := hrel
      have HD : Hid (Unit → (4294967296 ≤ S ∨ 4294967296 * T + T0 < S * Y0) → 1 ≤ S ∧ Guess V Y1 Y0 T0 (S - 1) (T + Y1)) := fun _ hc => guess_down (HGG.out ()) (by have := HU.out (); have := (HY.out ()).1; omega) (by omega) hc
      have HE : Hid (Unit → ∀ R', 4294967296 ≤ R' → Guess V Y1 Y0 T0 (S - 1) R' → (V * 4294967296 + T0) / Y = S - 1) := fun _ R' h1 h2 => by
        have b := B1.out ()
        rw [(HY.out ()).1]
        exact guess_break h2 b.1 b.2.2.1 (by omega) h1
      have HF : Hid (Unit → ∀ K, (V * 4294967296 + T0) / Y = K → (K : Int) < 4294967296 ∧ (QQ : Int) = (Q : Int) * 4294967296 + K ∧ IntKind.u64.wrap (IntKind.u64.wrap (IntKind.u64.wrap ((V : Int) * 4294967296) + T0) - IntKind.u64.wrap ((K : Int) * Y)) / 2 ^ f = RR) := fun _ K hK => by
        obtain ⟨k1, k2, _⟩ := HZ.out () K hK
        exact ⟨by omega, by omega, HZ2.out () K hK⟩
      by_cases c1 : (4294967296 : Int) ≤ S
      · by_cases c2 : (4294967296 : Int) ≤ (T : Int) + Y1
        · obtain ⟨K, hK⟩ : ∃ K, S - 1 = K := ⟨_, rfl⟩
          have hK' : (S : Int) - 1 = K := by omega
          obtain ⟨k1, k2, k3⟩ := HF.out () K (by rw [← hK]; exact HE.out () _ (by omega) (HD.out () (.inl (by omega))).2)
          have K2 : Hid ((QQ : Int) = (Q : Int) * 4294967296 + K) := k2
          clear k2 hK
          go_wp2
          go_ret2
          exact ⟨by rw [K2.out]; rfl, rfl⟩
        · have c2' : decide ((4294967296 : Int) ≤ (T : Int) + Y1) = false := by simp; omega
          go_wp2
          go_round
          case rel => exact ⟨S - 1, T + Y1, by go_num, by go_num, by omega, by omega, fun _ => (HD.out () (.inl (by omega))).2⟩
          case measure => simp [intOf]; omega
      · have c1' : decide ((4294967296 : Int) ≤ S) = false := by simp; omega
        obtain ⟨P, hP⟩ : ∃ P : Nat, S * Y0 = P := ⟨_, rfl⟩
        have wP : IntKind.u64.wrap ((S : Int) * Y0) = P := by
          have b := B1.out ()
          have e1 : (S : Int) * Y0 = ((S * Y0 : Nat) : Int) := by simp
          have e3 : S * Y0 < 18446744073709551616 := by
            have : S * Y0 ≤ 4294967295 * Y0 := Nat.mul_le_mul_right _ (by omega)
            omega
          rw [e1, hP]
          show (P : Int) % 18446744073709551616 = P
          omega
        by_cases c3 : 4294967296 * (T : Int) + T0 < P
        · have hS1 : (1 : Int) ≤ S := by have := (HD.out () (.inr (by omega))).1; omega
          by_cases c2 : (4294967296 : Int) ≤ (T : Int) + Y1
          · obtain ⟨K, hK⟩ : ∃ K, S - 1 = K := ⟨_, rfl⟩
            have hK' : (S : Int) - 1 = K := by omega
            obtain ⟨k1, k2, k3⟩ := HF.out () K (by rw [← hK]; exact HE.out () _ (by omega) (HD.out () (.inr (by omega))).2)
            have K2 : Hid ((QQ : Int) = (Q : Int) * 4294967296 + K) := k2
            clear k2 hK
            go_wp2
            go_ret2
            exact ⟨by rw [K2.out]; rfl, rfl⟩
          · have c2' : decide ((4294967296 : Int) ≤ (T : Int) + Y1) = false := by simp; omega
            go_wp2
            go_round
            case rel => exact ⟨S - 1, T + Y1, by go_num, by go_num, by omega, by omega, fun _ => (HD.out () (.inr (by omega))).2⟩
            case measure => simp [intOf]; omega
        · have c3' : decide (4294967296 * (T : Int) + T0 < P) = false := by simp; omega
          obtain ⟨k1, k2, k3⟩ := HF.out () S (by
            rw [(HY.out ()).1]
            exact guess_end (HGG.out ()) (B1.out ()).1 (by omega))
          have K2 : Hid ((QQ : Int) = (Q : Int) * 4294967296 + S) := k2
          clear k2
          go_wp2
          go_ret2
          exact ⟨by rw [K2.out]; rfl, rfl⟩

end Go.Proofs.YtcabanghegddhaaGreatDoor
