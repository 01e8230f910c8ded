/-
  Part 10 of what is proved of drawn right trees.
-/
import Derived.Test.YtcdbifcidaafnaaGreatDoorPac
import Derived.Test.YtcdbifcidaafnaaGreatDoorPab

namespace Go.Proofs.YtcdbifcidaafnaaGreatDoor
open Go.RowKit
set_option linter.unusedVariables false
theorem wide_of {a b a1 a0 b1 b0 p00 p10 p01 p11 : Nat} (ha : a = a1 * 4294967296 + a0) (hb : b = b1 * 4294967296 + b0) (h0 : a0 * b0 = p00) (h1 : a1 * b0 = p10) (h2 : a0 * b1 = p01) (h3 : a1 * b1 = p11) :
    a * b = p11 * 18446744073709551616 + (p10 + p01) * 4294967296 + p00 := by
  subst ha hb h0 h1 h2 h3
  have x1 : a1 * 4294967296 * (b1 * 4294967296) = a1 * b1 * (4294967296 * 4294967296) := Nat.mul_mul_mul_comm _ _ _ _
  have x2 : a1 * 4294967296 * b0 = a1 * b0 * 4294967296 := Nat.mul_right_comm _ _ _
  have x3 : a0 * (b1 * 4294967296) = a0 * b1 * 4294967296 := (Nat.mul_assoc _ _ _).symm
  rw [Nat.add_mul, Nat.mul_add, Nat.mul_add, x1, x2, x3]
  omega
theorem mul_le32 {x y p : Nat} (hx : x < 4294967296) (hy : y < 4294967296) (h : x * y = p) : p ≤ 18446744065119617025 := by
  have : x * y ≤ 4294967295 * 4294967295 := Nat.mul_le_mul (by omega) (by omega)
  omega
set_option maxHeartbeats 1000000 in
set_option maxRecDepth 100000 in
theorem specWide_any (a b : Nat) (w : World) (ha : a < 18446744073709551616) (hb : b < 18446744073709551616) :
    Calls Tryz.prog 59 #[.int .u64 a, .int .u64 b] w fun e w' => e = .returned (.tuple #[.int .u64 (a * b / 18446744073709551616 : Nat), .int .u64 (a * b % 18446744073709551616 : Nat)]) ∧ w = w' := by
  obtain ⟨a1, ha1⟩ : ∃ q, a / 4294967296 = q := ⟨_, rfl⟩
  obtain ⟨a0, ha0⟩ : ∃ q, a % 4294967296 = q := ⟨_, rfl⟩
  obtain ⟨b1, hb1⟩ : ∃ q, b / 4294967296 = q := ⟨_, rfl⟩
  obtain ⟨b0, hb0⟩ : ∃ q, b % 4294967296 = q := ⟨_, rfl⟩
  obtain ⟨p00, h0⟩ : ∃ q, a0 * b0 = q := ⟨_, rfl⟩
  obtain ⟨p10, h1⟩ : ∃ q, a1 * b0 = q := ⟨_, rfl⟩
  obtain ⟨p01, h2⟩ : ∃ q, a0 * b1 = q := ⟨_, rfl⟩
  obtain ⟨p11, h3⟩ : ∃ q, a1 * b1 = q := ⟨_, rfl⟩
  have hw := wide_of (a := a) (b := b) (by omega) (by omega) h0 h1 h2 h3
  have l0 := mul_le32 (by omega) (by omega) h0
  have l1 := mul_le32 (by omega) (by omega) h1
  have l2 := mul_le32 (by omega) (by omega) h2
  have l3 := mul_le32 (by omega) (by omega) h3
  obtain ⟨mid, hm⟩ : ∃ q, p10 + p00 / 4294967296 = q := ⟨_, rfl⟩
  obtain ⟨oth, ho⟩ : ∃ q, p01 + mid % 4294967296 = q := ⟨_, rfl⟩
  have hH : a * b / 18446744073709551616 = p11 + mid / 4294967296 + oth / 4294967296 := by omega
  have hL : a * b % 18446744073709551616 = oth % 4294967296 * 4294967296 + p00 % 4294967296 := by omega
  have hO : oth < 18446744073709551616 := by omega
  rw [hH, hL]
  have z1 : (a1 : Int) < 4294967296 := by omega
  have z2 : (b1 : Int) < 4294967296 := by omega
  have z3 : (a0 : Int) < 4294967296 := by omega
  have z4 : (b0 : Int) < 4294967296 := by omega
  have A1 : (a : Int) / 4294967296 = a1 := by omega
  have A0 : (a : Int) % 4294967296 = a0 := by omega
  have B1 : (b : Int) / 4294967296 = b1 := by omega
  have B0 : (b : Int) % 4294967296 = b0 := by omega
  have P0 : (a0 : Int) * b0 = p00 := by rw [← h0]; simp
  have P1 : (a1 : Int) * b0 = p10 := by rw [← h1]; simp
  have P2 : (a0 : Int) * b1 = p01 := by rw [← h2]; simp
  have P3 : (a1 : Int) * b1 = p11 := by rw [← h3]; simp
  have M1 : (p10 : Int) + p00 / 4294967296 = mid := by omega
  have M2 : (p01 : Int) + mid % 4294967296 = oth := by omega
  have L0 : (p00 : Int) ≤ 18446744065119617025 := by omega
  have L1 : (p10 : Int) ≤ 18446744065119617025 := by omega
  have L2 : (p01 : Int) ≤ 18446744065119617025 := by omega
  have L3 : (p11 : Int) + (mid : Int) / 4294967296 + (oth : Int) / 4294967296 < 18446744073709551616 := by
    have : a * b < 18446744073709551616 * 18446744073709551616 := Nat.mul_lt_mul'' ha hb
    omega
  have L4 : (mid : Int) < 18446744073709551616 := by omega
  have L5 : (oth : Int) < 18446744073709551616 := by omega
  have HW : Hid (Unit → IntKind.u64.wrap ((oth : Int) * 4294967296) = (oth : Int) % 4294967296 * 4294967296) := fun _ => by
    show (oth : Int) * 4294967296 % 18446744073709551616 = _
    omega
  have HW := HW.out ()
  clear hw l0 l1 l2 l3 hH hL hO ha1 ha0 hb1 hb0 h0 h1 h2 h3 hm ho ha hb
  go_enter Tryz.func59, Tryz.ntmps59
  go_wp2
  go_ret2
  exact ⟨rfl, rfl⟩
theorem sign_zero (s : Bool) (w : World) : Calls Tryz.prog 58 #[.int .u64 0, .bool s] w fun e w' => e = .returned (.int .u64 (signN s 0 : Nat)) ∧ w = w' := l03Sign_int 0 s w (by omega) (by omega)
theorem sign_inf (s : Bool) (w : World) : Calls Tryz.prog 58 #[.int .u64 9218868437227405312, .bool s] w fun e w' => e = .returned (.int .u64 (signN s 9218868437227405312 : Nat)) ∧ w = w' := l03Sign_int 9218868437227405312 s w (by omega) (by omega)
theorem lost_bits {P k H L : Nat} {l : Bool} (h : LostAt P k (H * 18446744073709551616 + L) l) : LostAt P (k + 1) (H / 2 * 18446744073709551616 + (L / 2 + H % 2 * 9223372036854775808)) (l || decide (L % 2 = 1)) := by
  have := lost_step h
  have e1 : (H * 18446744073709551616 + L) / 2 = H / 2 * 18446744073709551616 + (L / 2 + H % 2 * 9223372036854775808) := by omega
  have e2 : (H * 18446744073709551616 + L) % 2 = L % 2 := by omega
  rw [e1, e2] at this
  exact this
theorem lost_room {P k H L : Nat} {l : Bool} (h : LostAt P k (H * 18446744073709551616 + L) l) (hH : 0 < H) (hP : P < 81129638414606681695789005144064) : k ≤ 41 := by
  have h1 := h.1
  have h2 := Nat.div_mul_le_self P (2 ^ k)
  rw [← h1] at h2
  rcases Nat.lt_or_ge 41 k with hk | hk
  · have h3 : 2 ^ 42 ≤ 2 ^ k := Nat.pow_le_pow_right (by decide) hk
    have h4 : 18446744073709551616 * 2 ^ 42 ≤ (H * 18446744073709551616 + L) * 2 ^ k := Nat.mul_le_mul (by omega) h3
    have e : (18446744073709551616 : Nat) * 2 ^ 42 = 81129638414606681695789005144064 := by decide
    omega
  · exact hk
end Go.Proofs.YtcdbifcidaafnaaGreatDoor
namespace Go.Proofs.YtcdbifcidaafnaaGreatDoor
open Go.RowKit
set_option linter.unusedVariables false
set_option maxHeartbeats 2000000 in
set_option maxRecDepth 100000 in
theorem specMul_fin (a b : Nat) (w : World) (ha : a < 18446744073709551616) (hb : b < 18446744073709551616) (ka : kindN a = 4) (kb : kindN b = 4) :
    Calls Tryz.prog 38 #[.int .u64 a, .int .u64 b] w fun e w' => e = .returned (.int .u64 (mulN a b : Nat)) ∧ Below w.heap.size w w' := by
  have cA := fun W => specParts_any a W ha
  have cB := fun W => specParts_any b W hb
  unfold partsV at cA cB
  obtain ⟨k1, hk1⟩ : ∃ k, kindN a = k := ⟨_, rfl⟩
  obtain ⟨k2, hk2⟩ : ∃ k, kindN b = k := ⟨_, rfl⟩
  obtain ⟨s1, hs1⟩ : ∃ k, belowN a = k := ⟨_, rfl⟩
  obtain ⟨s2, hs2⟩ : ∃ k, belowN b = k := ⟨_, rfl⟩
  obtain ⟨m1, hm1⟩ : ∃ k, mantN a = k := ⟨_, rfl⟩
  obtain ⟨m2, hm2⟩ : ∃ k, mantN b = k := ⟨_, rfl⟩
  obtain ⟨e1, he1⟩ : ∃ k, expN a = k := ⟨_, rfl⟩
  obtain ⟨e2, he2⟩ : ∃ k, expN b = k := ⟨_, rfl⟩
  have HD : Hid (Unit → mulN a b = mulP k1 k2 s1 s2 m1 m2 e1 e2) := fun _ => by rw [mulN, hk1, hk2, hs1, hs2, hm1, hm2, he1, he2]
  rw [hk1, hs1, hm1, he1] at cA
  rw [hk2, hs2, hm2, he2] at cB
  have HF1 : Hid (Unit → Fin1 k1 m1 e1) := fun _ => by rw [← hk1, ← hm1, ← he1]; exact fin1_of a
  have HF2 : Hid (Unit → Fin1 k2 m2 e2) := fun _ => by rw [← hk2, ← hm2, ← he2]; exact fin1_of b
  obtain ⟨R, hR⟩ : ∃ R, mulN a b = R := ⟨_, rfl⟩
  rw [hR] at HD ⊢
  have HK1 : Hid (Unit → k1 = 4) := fun _ => hk1.symm.trans ka
  have HK2 : Hid (Unit → k2 = 4) := fun _ => hk2.symm.trans kb
  clear hR hk1 hk2 ka kb hs1 hs2 hm1 hm2 he1 he2 ha hb
  go_enter Tryz.func38, Tryz.ntmps38
  go_wp2_with fail
  refine (cA _).mono ?_
  rintro e w1 ⟨rfl, hb1⟩
  clear cA
  go_wp2_with fail
  refine (cB _).mono ?_
  rintro e w2 ⟨rfl, hb2⟩
  clear cB
  go_upto_region 3 with fail
  have hlt : w1.heap.size < w2.heap.size := by have := hb2.size; simp at this; omega
  obtain ⟨wq, hwq⟩ : ∃ wq, w2.alloc (.cells #[.int .i64 k2, .bool s2, .int .u64 m2, .int .i64 e2] 62) = wq := ⟨_, rfl⟩
  have hQ : wq.heap[w2.heap.size]? = some (.cells #[.int .i64 k2, .bool s2, .int .u64 m2, .int .i64 e2] 62) := by rw [← hwq]; exact heap_alloc_new _ _
  have hP : wq.heap[w1.heap.size]? = some (.cells #[.int .i64 k1, .bool s1, .int .u64 m1, .int .i64 e1] 62) := by rw [← hwq]; exact (Below.heap_alloc w2 _ _ hlt).trans (alloc_kept hb2)
  have hBb : Below w.heap.size w wq := by
    have hb3 : Below w.heap.size w w2 := (hb1.alloc hb1.size _).trans (hb2.mono (by simp; exact Nat.le_succ_of_le hb1.size))
    rw [← hwq]; exact hb3.alloc hb3.size _
  obtain ⟨gq, hgq⟩ : ∃ g, w2.heap.size = g := ⟨_, rfl⟩
  obtain ⟨gp, hgp2⟩ : ∃ g, w1.heap.size = g := ⟨_, rfl⟩
  simp only [hwq, hgq, hgp2]
  rw [hgq] at hQ hlt
  rw [hgp2] at hP hlt
  clear hwq hgq hgp2 hb1 hb2
  clear w1 w2
  obtain ⟨p0, p1, p2, p3⟩ := cells_four hP
  obtain ⟨q0, q1, q2, q3⟩ := cells_four hQ
  clear hP hQ
  have hk1 := HK1.out ()
  have hk2 := HK2.out ()
  subst hk1 hk2
  clear HK1 HK2
  obtain ⟨s, hs⟩ : ∃ s, (!(s1 == s2)) = s := ⟨_, rfl⟩
  have HE : Hid (Unit → R = signN s (roundN (m1 * m2) (e1 + e2) false)) := fun _ => by rw [HD.out (), ← hs]; simp [mulP, bne]
  have f1 := HF1.out ()
  have f2 := HF2.out ()
  have cW := fun W => specWide_any m1 m2 W (by have := f1.lt; omega) (by have := f2.lt; omega)
  have b1 := f1.lo
  have b2 := f1.hi
  have b3 := f2.lo
  have b4 := f2.hi
  obtain ⟨P, hP⟩ : ∃ P, m1 * m2 = P := ⟨_, rfl⟩
  rw [hP] at HE cW
  have hPl : P < 81129638414606681695789005144064 := by
    rw [← hP]
    exact Nat.mul_lt_mul'' f1.lt f2.lt
  have HP : Hid (Unit → P < 81129638414606681695789005144064) := fun _ => hPl
  obtain ⟨E, hE⟩ : ∃ E, e1 + e2 = E := ⟨_, rfl⟩
  rw [hE] at HE
  have E1 : -2148 ≤ E := by omega
  have E2 : E ≤ 1942 := by omega
  have hL0 : P / 18446744073709551616 * 18446744073709551616 + P % 18446744073709551616 = P := by omega
  obtain ⟨H0, hH0⟩ : ∃ q, P / 18446744073709551616 = q := ⟨_, rfl⟩
  obtain ⟨L0, hL00⟩ : ∃ q, P % 18446744073709551616 = q := ⟨_, rfl⟩
  rw [hH0, hL00] at cW hL0
  have HL0 : Hid (Unit → H0 * 18446744073709551616 + L0 = P) := fun _ => hL0
  have h1 : (H0 : Int) < 4398046511104 := by omega
  have h2 : (L0 : Int) < 18446744073709551616 := by omega
  clear hP hPl HD HF1 HF2 f1 f2 b1 b2 b3 b4 hH0 hL00 hL0
  go_wp2_with fail
  refine (cW _).mono ?_
  rintro e w' ⟨rfl, rfl⟩
  go_upto_region 13 with fail
  go_loop [8, 9, 10, 11] (fun x8 x9 x10 x11 => ∃ (k H L : Nat) (l : Bool), x8 = .int .u64 H ∧ x9 = .int .u64 L ∧ x10 = .int .i64 (E + k) ∧ x11 = .bool l ∧ (H : Int) < 4398046511104 ∧ (L : Int) < 18446744073709551616 ∧ (k : Int) ≤ 42 ∧ Hid (Unit → LostAt P k (H * 18446744073709551616 + L) l ∧ (k = 0 ∨ 9223372036854775808 ≤ H * 18446744073709551616 + L))) (fun x8 _ _ _ => (intOf x8).toNat)
  case atStart => exact ⟨0, H0, L0, false, rfl, rfl, by simp, rfl, h1, h2, by omega, fun _ => ⟨by rw [HL0.out ()]; exact lost_start P, .inl rfl⟩⟩
  case round =>
    obtain ⟨k, H, L, l, rfl, rfl, rfl, rfl, hH, hL, hk, HI⟩ := hrel
    obtain ⟨F, hF⟩ : ∃ F, E + (k : Int) = F := ⟨_, rfl⟩
    have HF : Hid (Unit → E + (k : Int) = F) := fun _ => hF
    rw [hF]
    have F1 : -2148 ≤ F := by omega
    have F2 : F ≤ 1984 := by omega
    clear hF
    by_cases hz : 0 < H
    · have HJ : Hid (Unit → LostAt P (k + 1) (H / 2 * 18446744073709551616 + (L / 2 + H % 2 * 9223372036854775808)) (l || decide (L % 2 = 1)) ∧ 9223372036854775808 ≤ H / 2 * 18446744073709551616 + (L / 2 + H % 2 * 9223372036854775808) ∧ (k + 1 : Int) ≤ 42) := fun _ => by
        have := lost_room (HI.out ()).1 (by omega) (HP.out ())
        exact ⟨lost_bits (HI.out ()).1, by omega, by omega⟩
      clear HI
      obtain ⟨M, hM⟩ : ∃ M, L / 2 + H % 2 * 9223372036854775808 = M := ⟨_, rfl⟩
      rw [hM] at HJ
      obtain ⟨T, hT⟩ : ∃ T : Int, (H : Int) % 2 * 9223372036854775808 = T := ⟨_, rfl⟩
      have hT2 : IntKind.u64.wrap ((H : Int) % 2 * 9223372036854775808) = T := by
        show (H : Int) % 2 * 9223372036854775808 % 18446744073709551616 = T
        omega
      have hM2 : IntKind.u64.wrap ((L : Int) / 2 + T) = M := by
        show ((L : Int) / 2 + T) % 18446744073709551616 = M
        omega
      have HB : Hid (Unit → (H : Int) < 4398046511104 ∧ (M : Int) < 18446744073709551616) := fun _ => by omega
      clear hT hM
      cases l
      · by_cases ho : L % 2 = 1
        · have ho' : ((L : Int) % 2 == 1) = true := by simp; omega
          rw [Bool.false_or, decide_eq_true ho] at HJ
          clear ho
          go_wp2_with (go_at_call 46; refine (l03Pow_63 _).mono ?_; rintro e w' ⟨rfl, rfl⟩)
          go_round
          case rel => exact ⟨k + 1, H / 2, M, true, by go_num, rfl, by have := HF.out (); go_num, rfl, by have := HB.out (); omega, by have := HB.out (); omega, (HJ.out ()).2.2, fun _ => ⟨(HJ.out ()).1, .inr (HJ.out ()).2.1⟩⟩
          case measure => simp [intOf]; omega
        · have ho' : ((L : Int) % 2 == 1) = false := by rw [beq_eq_false_iff_ne]; omega
          rw [Bool.false_or, decide_eq_false ho] at HJ
          clear ho
          go_wp2_with (go_at_call 46; refine (l03Pow_63 _).mono ?_; rintro e w' ⟨rfl, rfl⟩)
          go_round
          case rel => exact ⟨k + 1, H / 2, M, false, by go_num, rfl, by have := HF.out (); go_num, rfl, by have := HB.out (); omega, by have := HB.out (); omega, (HJ.out ()).2.2, fun _ => ⟨(HJ.out ()).1, .inr (HJ.out ()).2.1⟩⟩
          case measure => simp [intOf]; omega
      · rw [Bool.true_or] at HJ
        go_wp2_with (go_at_call 46; refine (l03Pow_63 _).mono ?_; rintro e w' ⟨rfl, rfl⟩)
        go_round
        case rel => exact ⟨k + 1, H / 2, M, true, by go_num, rfl, by have := HF.out (); go_num, rfl, by have := HB.out (); omega, by have := HB.out (); omega, (HJ.out ()).2.2, fun _ => ⟨(HJ.out ()).1, .inr (HJ.out ()).2.1⟩⟩
        case measure => simp [intOf]; omega
    · have hz0 : H = 0 := by omega
      subst hz0
      have cR : ∀ W, Calls Tryz.prog 57 #[.bool s, .int .u64 L, .int .i64 F, .bool l] W fun e w' => e = .returned (.int .u64 (R : Nat)) ∧ W = w' := fun W => by
        have h := specRound_any s l L F W (by omega) (by omega) (by omega)
        have hI := HI.out ()
        rw [Nat.zero_mul, Nat.zero_add] at hI
        have hr := round_off (E := E) hI.1.1 hI.1.2 (by omega)
        rw [HF.out ()] at hr
        rw [hr, ← HE.out ()] at h
        exact h
      clear HI
      go_wp2_with (go_at_call 57; refine (cR _).mono ?_; rintro e w' ⟨rfl, rfl⟩)
      go_ret
      exact ⟨rfl, hBb⟩
end Go.Proofs.YtcdbifcidaafnaaGreatDoor
namespace Go.Proofs.YtcdbifcidaafnaaGreatDoor
open Go.RowKit
set_option linter.unusedVariables false
set_option maxHeartbeats 4000000 in
set_option maxRecDepth 100000 in
theorem specMul_any (a b : Nat) (w : World) (ha : a < 18446744073709551616) (hb : b < 18446744073709551616) :
    Calls Tryz.prog 38 #[.int .u64 a, .int .u64 b] w fun e w' => e = .returned (.int .u64 (mulN a b : Nat)) ∧ Below w.heap.size w w' := by
  by_cases hkk : kindN a = 4 ∧ kindN b = 4
  · exact specMul_fin a b w ha hb hkk.1 hkk.2
  have cA := fun W => specParts_any a W ha
  have cB := fun W => specParts_any b W hb
  unfold partsV at cA cB
  obtain ⟨k1, hk1⟩ : ∃ k, kindN a = k := ⟨_, rfl⟩
  obtain ⟨k2, hk2⟩ : ∃ k, kindN b = k := ⟨_, rfl⟩
  obtain ⟨s1, hs1⟩ : ∃ k, belowN a = k := ⟨_, rfl⟩
  obtain ⟨s2, hs2⟩ : ∃ k, belowN b = k := ⟨_, rfl⟩
  obtain ⟨m1, hm1⟩ : ∃ k, mantN a = k := ⟨_, rfl⟩
  obtain ⟨m2, hm2⟩ : ∃ k, mantN b = k := ⟨_, rfl⟩
  obtain ⟨e1, he1⟩ : ∃ k, expN a = k := ⟨_, rfl⟩
  obtain ⟨e2, he2⟩ : ∃ k, expN b = k := ⟨_, rfl⟩
  have HD : Hid (Unit → mulN a b = mulP k1 k2 s1 s2 m1 m2 e1 e2) := fun _ => by rw [mulN, hk1, hk2, hs1, hs2, hm1, hm2, he1, he2]
  have hK1 := kindN_cases a
  have hK2 := kindN_cases b
  rw [hk1] at hK1
  rw [hk2] at hK2
  rw [hk1, hs1, hm1, he1] at cA
  rw [hk2, hs2, hm2, he2] at cB
  have HF1 : Hid (Unit → Fin1 k1 m1 e1) := fun _ => by rw [← hk1, ← hm1, ← he1]; exact fin1_of a
  have HF2 : Hid (Unit → Fin1 k2 m2 e2) := fun _ => by rw [← hk2, ← hm2, ← he2]; exact fin1_of b
  obtain ⟨R, hR⟩ : ∃ R, mulN a b = R := ⟨_, rfl⟩
  rw [hR] at HD ⊢
  have HN : Hid (Unit → k1 = 4 → k2 = 4 → False) := fun _ h1 h2 => hkk ⟨hk1.trans h1, hk2.trans h2⟩
  have HE : Hid (Unit → R = if k1 = 1 ∨ k2 = 1 ∨ (k1 = 2 ∧ k2 = 3) ∨ (k1 = 3 ∧ k2 = 2) then 9221120237041090560 else if k1 = 2 ∨ k2 = 2 then signN (s1 != s2) 9218868437227405312 else signN (s1 != s2) 0) := fun _ => by
    rw [HD.out (), mulP]
    split
    · rfl
    · split
      · rfl
      · have := HN.out ()
        rw [if_pos (by omega)]
  clear HD HF1 HF2 hkk hR hk1 hk2 hs1 hs2 hm1 hm2 he1 he2 ha hb
  go_enter Tryz.func38, Tryz.ntmps38
  go_wp2_with fail
  refine (cA _).mono ?_
  rintro e w1 ⟨rfl, hb1⟩
  clear cA
  go_wp2_with fail
  refine (cB _).mono ?_
  rintro e w2 ⟨rfl, hb2⟩
  clear cB
  go_upto_region 3 with fail
  have hlt : w1.heap.size < w2.heap.size := by have := hb2.size; simp at this; omega
  obtain ⟨wq, hwq⟩ : ∃ wq, w2.alloc (.cells #[.int .i64 k2, .bool s2, .int .u64 m2, .int .i64 e2] 62) = wq := ⟨_, rfl⟩
  have hQ : wq.heap[w2.heap.size]? = some (.cells #[.int .i64 k2, .bool s2, .int .u64 m2, .int .i64 e2] 62) := by rw [← hwq]; exact heap_alloc_new _ _
  have hP : wq.heap[w1.heap.size]? = some (.cells #[.int .i64 k1, .bool s1, .int .u64 m1, .int .i64 e1] 62) := by rw [← hwq]; exact (Below.heap_alloc w2 _ _ hlt).trans (alloc_kept hb2)
  have hBb : Below w.heap.size w wq := by
    have hb3 : Below w.heap.size w w2 := (hb1.alloc hb1.size _).trans (hb2.mono (by simp; exact Nat.le_succ_of_le hb1.size))
    rw [← hwq]; exact hb3.alloc hb3.size _
  obtain ⟨gq, hgq⟩ : ∃ g, w2.heap.size = g := ⟨_, rfl⟩
  obtain ⟨gp, hgp2⟩ : ∃ g, w1.heap.size = g := ⟨_, rfl⟩
  simp only [hwq, hgq, hgp2]
  rw [hgq] at hQ hlt
  rw [hgp2] at hP hlt
  clear hwq hgq hgp2 hb1 hb2
  clear w1 w2
  obtain ⟨p0, p1, p2, p3⟩ := cells_four hP
  obtain ⟨q0, q1, q2, q3⟩ := cells_four hQ
  clear hP hQ
  obtain ⟨s, hs⟩ : ∃ s, (!(s1 == s2)) = s := ⟨_, rfl⟩
  have hs' : (s1 != s2) = s := hs
  rw [hs'] at HE
  clear hs'
  have cS0 := fun W => sign_zero s W
  have cS1 := fun W => sign_inf s W
  obtain ⟨z0, hz0⟩ : ∃ z, signN s 0 = z := ⟨_, rfl⟩
  obtain ⟨z1, hz1⟩ : ∃ z, signN s 9218868437227405312 = z := ⟨_, rfl⟩
  rw [hz0] at cS0 HE
  rw [hz1] at cS1 HE
  clear hz0 hz1
  rcases hK1 with rfl | rfl | rfl | rfl
  · go_wp2
    go_ret
    exact ⟨by rw [HE.out ()]; simp, hBb⟩
  · rcases hK2 with rfl | rfl | rfl | rfl
    · go_wp2
      go_ret
      exact ⟨by rw [HE.out ()]; simp, hBb⟩
    · go_wp2_with (go_at_call 58; refine (cS1 _).mono ?_; rintro e w' ⟨rfl, rfl⟩)
      go_ret
      exact ⟨by rw [HE.out ()]; simp, hBb⟩
    · go_wp2
      go_ret
      exact ⟨by rw [HE.out ()]; simp, hBb⟩
    · go_wp2_with (go_at_call 58; refine (cS1 _).mono ?_; rintro e w' ⟨rfl, rfl⟩)
      go_ret
      exact ⟨by rw [HE.out ()]; simp, hBb⟩
  · rcases hK2 with rfl | rfl | rfl | rfl
    · go_wp2
      go_ret
      exact ⟨by rw [HE.out ()]; simp, hBb⟩
    · go_wp2
      go_ret
      exact ⟨by rw [HE.out ()]; simp, hBb⟩
    · go_wp2_with (go_at_call 58; refine (cS0 _).mono ?_; rintro e w' ⟨rfl, rfl⟩)
      go_ret
      exact ⟨by rw [HE.out ()]; simp, hBb⟩
    · go_wp2_with (go_at_call 58; refine (cS0 _).mono ?_; rintro e w' ⟨rfl, rfl⟩)
      go_ret
      exact ⟨by rw [HE.out ()]; simp, hBb⟩
  · rcases hK2 with rfl | rfl | rfl | rfl
    · go_wp2
      go_ret
      exact ⟨by rw [HE.out ()]; simp, hBb⟩
    · go_wp2_with (go_at_call 58; refine (cS1 _).mono ?_; rintro e w' ⟨rfl, rfl⟩)
      go_ret
      exact ⟨by rw [HE.out ()]; simp, hBb⟩
    · go_wp2_with (go_at_call 58; refine (cS0 _).mono ?_; rintro e w' ⟨rfl, rfl⟩)
      go_ret
      exact ⟨by rw [HE.out ()]; simp, hBb⟩
    · exact (HN.out () rfl rfl).elim
end Go.Proofs.YtcdbifcidaafnaaGreatDoor
namespace Go.Proofs.YtcdbifcidaafnaaGreatDoor
open Go.RowKit
set_option linter.unusedVariables false
def roomAt (w : World) (g : Nat) : Nat := 4503599627370496 - (intOf ((w.cell? ⟨g, 2, none⟩).getD (.int .u64 0))).toNat
theorem roomAt_of {w : World} {g : Nat} {a b d : Value} {x : Int} {t : TypeId} {r : Nat × Nat} (h : w.heap[g]? = some (.cells #[a, b, .int .u64 x, d] t r)) : roomAt w g = 4503599627370496 - x.toNat := by
  have := (cells_four h).2.2.1
  unfold roomAt
  rw [this]
  rfl
set_option maxHeartbeats 1000000 in
set_option maxRecDepth 100000 in
theorem l05Up_any (k m : Nat) (s : Bool) (e : Int) (w : World) (h0 : m ≠ 0) (hm : m < 9007199254740992) (h1 : -1074 ≤ e) (h2 : e ≤ 971) :
    Calls Tryz.prog 60 #[.agg #[.int .i64 k, .bool s, .int .u64 m, .int .i64 e]] w fun en w' => ∃ (u M : Nat) (f : Int), en = .returned (.agg #[.int .i64 k, .bool s, .int .u64 M, .int .i64 f]) ∧ (f = e - u ∧ u ≤ 52 ∧ M = m * 2 ^ u ∧ 4503599627370496 ≤ M ∧ M < 9007199254740992) ∧ Below w.heap.size w w' := by
  have H0 : Hid (Unit → m ≠ 0 ∧ m < 9007199254740992) := fun _ => ⟨h0, hm⟩
  clear h0 hm
  go_enter Tryz.func60, Tryz.ntmps60
  go_upto_region 1 with fail
  go_loopw [] (fun wr => ∃ u M : Nat, (M : Int) < 9007199254740992 ∧ (u : Int) ≤ 52 ∧ Hid (Unit → M = m * 2 ^ u) ∧ Below w.heap.size w wr ∧ wr.heap[w.heap.size]? = some (.cells #[.int .i64 k, .bool s, .int .u64 M, .int .i64 (e - u)] 62) ∧ wr.heap[w.heap.size + 1]? = some (.cells #[.int .i64 0, .bool false, .int .u64 0, .int .i64 0] 62)) (fun wr => roomAt wr w.heap.size)
  case atStart =>
    refine ⟨0, m, by have := H0.out (); omega, by omega, fun _ => by simp, below_two _ _ _, ?_, ?_⟩
    · rw [(by simp : e - ((0 : Nat) : Int) = e)]
      exact (Below.heap_alloc _ _ _ (by simp)).trans (heap_alloc_new _ _)
    · have hz : (w.alloc (.cells #[.int .i64 k, .bool s, .int .u64 m, .int .i64 e] 62)).heap.size = w.heap.size + 1 := by simp
      rw [← hz]
      exact heap_alloc_new _ _
  case round =>
    obtain ⟨u, M, hM, hu, HM, hB, hC, hO⟩ := hrel
    obtain ⟨c0, c1, c2, c3⟩ := cells_four hC
    obtain ⟨d0, d1, d2, d3⟩ := cells_four hO
    have fz := fun j => frozen_of_row wr w.heap.size j _ _ hC
    have fo := fun j => frozen_of_row wr (w.heap.size + 1) j _ _ hO
    have HC : Hid _ := hC
    have HO : Hid _ := hO
    clear hC hO
    obtain ⟨F, hF⟩ : ∃ F : Int, e - u = F := ⟨_, rfl⟩
    rw [hF] at c3
    have HF : Hid (Unit → e - (u : Int) = F) := fun _ => hF
    have F1 : -1126 ≤ F := by omega
    have F2 : F ≤ 971 := by omega
    clear hF
    by_cases hlt : (M : Int) < 4503599627370496
    · have HU : Hid (Unit → (u : Int) + 1 ≤ 52) := fun _ => by
        rcases Nat.lt_or_ge u 52 with h | h
        · omega
        · have hu2 : u = 52 := by omega
          have hm := HM.out ()
          subst hu2
          have := (H0.out ()).1
          have h3 : (2 : Nat) ^ 52 = 4503599627370496 := by decide
          rw [h3] at hm
          omega
      go_wp2
      go_roundw
      case rel =>
        refine ⟨u + 1, M * 2, by omega, by have := HU.out (); omega, fun _ => by rw [HM.out (), Nat.pow_succ, Nat.mul_assoc], (hB.setCell (p := ⟨w.heap.size, 2, none⟩) (Nat.le_refl _) _).setCell (p := ⟨w.heap.size, 3, none⟩) (Nat.le_refl _) _, ?_, ?_⟩
        · rw [heap_setCell_same _ _ _ _ _ _ (heap_setCell_same _ _ _ _ _ _ HC.out)]
          have := HF.out ()
          simp
          omega
        · rw [heap_setCell_other _ _ _ _ (by simp), heap_setCell_other _ _ _ _ (by simp)]
          exact HO.out
      case measure =>
        have hM0 : M ≠ 0 := by
          rw [HM.out ()]
          exact Nat.mul_ne_zero (H0.out ()).1 (by have := Nat.two_pow_pos u; omega)
        rw [roomAt_of HC.out, roomAt_of (a := .int .i64 k) (b := .bool s) (x := (M : Int) * 2) (d := .int .i64 (F - 1)) (t := 62) (r := (0, 0)) (by rw [heap_setCell_same _ _ _ _ _ _ (heap_setCell_same _ _ _ _ _ _ HC.out)]; simp)]
        omega
    · have hge : decide ((M : Int) < 4503599627370496) = false := by simp; omega
      have x0 := set_here (v := .int .i64 (k : Int)) d0
      have x1 := set_here (v := .bool s) (set_keep_o (v := .int .i64 (k : Int)) (j := 0) (g := w.heap.size + 1) (by decide) d1)
      have x2 := set_here (v := .int .u64 (M : Int)) (set_keep_o (v := .bool s) (j := 1) (g := w.heap.size + 1) (by decide) (set_keep_o (v := .int .i64 (k : Int)) (j := 0) (g := w.heap.size + 1) (by decide) d2))
      have x3 := set_here (v := .int .i64 F) (set_keep_o (v := .int .u64 (M : Int)) (j := 2) (g := w.heap.size + 1) (by decide) (set_keep_o (v := .bool s) (j := 1) (g := w.heap.size + 1) (by decide) (set_keep_o (v := .int .i64 (k : Int)) (j := 0) (g := w.heap.size + 1) (by decide) d3)))
      go_wp2
      refine bodyPost_ret (by simp [results, Tryz.results60, go_sem, x0, x1, x2, x3]; try rfl) rfl ?_
      refine ⟨u, M, F, rfl, ⟨(HF.out ()).symm, by omega, HM.out (), by omega, by omega⟩, ?_⟩
      · have hg : w.heap.size ≤ w.heap.size + 1 := Nat.le_succ _
        exact (((hB.setCell (p := ⟨w.heap.size + 1, 0, none⟩) hg _).setCell (p := ⟨w.heap.size + 1, 1, none⟩) hg _).setCell (p := ⟨w.heap.size + 1, 2, none⟩) hg _).setCell (p := ⟨w.heap.size + 1, 3, none⟩) hg _
end Go.Proofs.YtcdbifcidaafnaaGreatDoor
namespace Go.Proofs.YtcdbifcidaafnaaGreatDoor
open Go.RowKit
set_option linter.unusedVariables false
theorem four_stores {w : World} {g : Nat} {a b c d a' b' c' d' : Value} {t : TypeId} (h : w.heap[g]? = some (.cells #[a, b, c, d] t)) :
    ((((w.setCell ⟨g, 0, none⟩ a').setCell ⟨g, 1, none⟩ b').setCell ⟨g, 2, none⟩ c').setCell ⟨g, 3, none⟩ d').heap[g]? = some (.cells #[a', b', c', d'] t) := by
  rw [heap_setCell_same _ _ _ _ _ _ (heap_setCell_same _ _ _ _ _ _ (heap_setCell_same _ _ _ _ _ _ (heap_setCell_same _ _ _ _ _ _ h)))]
  simp
theorem four_other {w : World} {g k : Nat} {a' b' c' d' : Value} (hk : k ≠ g) :
    ((((w.setCell ⟨g, 0, none⟩ a').setCell ⟨g, 1, none⟩ b').setCell ⟨g, 2, none⟩ c').setCell ⟨g, 3, none⟩ d').heap[k]? = w.heap[k]? := by
  rw [heap_setCell_other _ _ _ _ hk, heap_setCell_other _ _ _ _ hk, heap_setCell_other _ _ _ _ hk, heap_setCell_other _ _ _ _ hk]
theorem four_below {B : Nat} {a w : World} {g : Nat} {a' b' c' d' : Value} (h : Below B a w) (hg : B ≤ g) :
    Below B a ((((w.setCell ⟨g, 0, none⟩ a').setCell ⟨g, 1, none⟩ b').setCell ⟨g, 2, none⟩ c').setCell ⟨g, 3, none⟩ d') :=
  (((h.setCell (p := ⟨g, 0, none⟩) hg _).setCell (p := ⟨g, 1, none⟩) hg _).setCell (p := ⟨g, 2, none⟩) hg _).setCell (p := ⟨g, 3, none⟩) hg _
set_option maxHeartbeats 4000000 in
set_option maxRecDepth 100000 in
theorem specDiv_fin (a b : Nat) (w : World) (ha : a < 18446744073709551616) (hb : b < 18446744073709551616) (ka : kindN a = 4) (kb : kindN b = 4) :
    Calls Tryz.prog 39 #[.int .u64 a, .int .u64 b] w fun e w' => e = .returned (.int .u64 (divN a b : Nat)) ∧ Below w.heap.size w w' := by
  have cA := fun W => specParts_any a W ha
  have cB := fun W => specParts_any b W hb
  unfold partsV at cA cB
  obtain ⟨k1, hk1⟩ : ∃ k, kindN a = k := ⟨_, rfl⟩
  obtain ⟨k2, hk2⟩ : ∃ k, kindN b = k := ⟨_, rfl⟩
  obtain ⟨s1, hs1⟩ : ∃ k, belowN a = k := ⟨_, rfl⟩
  obtain ⟨s2, hs2⟩ : ∃ k, belowN b = k := ⟨_, rfl⟩
  obtain ⟨m1, hm1⟩ : ∃ k, mantN a = k := ⟨_, rfl⟩
  obtain ⟨m2, hm2⟩ : ∃ k, mantN b = k := ⟨_, rfl⟩
  obtain ⟨e1, he1⟩ : ∃ k, expN a = k := ⟨_, rfl⟩
  obtain ⟨e2, he2⟩ : ∃ k, expN b = k := ⟨_, rfl⟩
  have HD : Hid (Unit → divN a b = divP k1 k2 s1 s2 m1 m2 e1 e2) := fun _ => by rw [divN, hk1, hk2, hs1, hs2, hm1, hm2, he1, he2]
  rw [hk1, hs1, hm1, he1] at cA
  rw [hk2, hs2, hm2, he2] at cB
  have HF1 : Hid (Unit → Fin1 k1 m1 e1) := fun _ => by rw [← hk1, ← hm1, ← he1]; exact fin1_of a
  have HF2 : Hid (Unit → Fin1 k2 m2 e2) := fun _ => by rw [← hk2, ← hm2, ← he2]; exact fin1_of b
  obtain ⟨R, hR⟩ : ∃ R, divN a b = R := ⟨_, rfl⟩
  rw [hR] at HD ⊢
  have HK1 : Hid (Unit → k1 = 4) := fun _ => hk1.symm.trans ka
  have HK2 : Hid (Unit → k2 = 4) := fun _ => hk2.symm.trans kb
  clear hR hk1 hk2 ka kb hs1 hs2 hm1 hm2 he1 he2 ha hb
  go_enter Tryz.func39, Tryz.ntmps39
  go_wp2_with fail
  refine (cA _).mono ?_
  rintro e w1 ⟨rfl, hb1⟩
  clear cA
  go_wp2_with fail
  refine (cB _).mono ?_
  rintro e w2 ⟨rfl, hb2⟩
  clear cB
  go_upto_region 3 with fail
  have hlt : w1.heap.size < w2.heap.size := by have := hb2.size; simp at this; omega
  obtain ⟨wq, hwq⟩ : ∃ wq, w2.alloc (.cells #[.int .i64 k2, .bool s2, .int .u64 m2, .int .i64 e2] 62) = wq := ⟨_, rfl⟩
  have hQ : wq.heap[w2.heap.size]? = some (.cells #[.int .i64 k2, .bool s2, .int .u64 m2, .int .i64 e2] 62) := by rw [← hwq]; exact heap_alloc_new _ _
  have hP : wq.heap[w1.heap.size]? = some (.cells #[.int .i64 k1, .bool s1, .int .u64 m1, .int .i64 e1] 62) := by rw [← hwq]; exact (Below.heap_alloc w2 _ _ hlt).trans (alloc_kept hb2)
  have hBb : Below w.heap.size w wq := by
    have hb3 : Below w.heap.size w w2 := (hb1.alloc hb1.size _).trans (hb2.mono (by simp; exact Nat.le_succ_of_le hb1.size))
    rw [← hwq]; exact hb3.alloc hb3.size _
  have hgp : w.heap.size ≤ w1.heap.size := hb1.size
  obtain ⟨gq, hgq⟩ : ∃ g, w2.heap.size = g := ⟨_, rfl⟩
  obtain ⟨gp, hgp2⟩ : ∃ g, w1.heap.size = g := ⟨_, rfl⟩
  simp only [hwq, hgq, hgp2]
  rw [hgq] at hQ hlt
  rw [hgp2] at hP hlt hgp
  clear hwq hgq hgp2 hb1 hb2
  clear w1 w2
  obtain ⟨p0, p1, p2, p3⟩ := cells_four hP
  obtain ⟨q0, q1, q2, q3⟩ := cells_four hQ
  have hk1 := HK1.out ()
  have hk2 := HK2.out ()
  subst hk1 hk2
  clear HK1 HK2
  obtain ⟨s, hs⟩ : ∃ s, (!(s1 == s2)) = s := ⟨_, rfl⟩
  have HE : Hid (Unit → R = signN s (quoN m1 m2 (e1 - e2))) := fun _ => by rw [HD.out (), ← hs]; simp [divP, bne]
  have f1 := HF1.out ()
  have f2 := HF2.out ()
  have cU := fun W => l05Up_any 4 m1 s1 e1 W (f1.pos rfl) f1.lt f1.lo f1.hi
  have cV := fun W => l05Up_any 4 m2 s2 e2 W (f2.pos rfl) f2.lt f2.lo f2.hi
  have b1 := f1.lo
  have b2 := f1.hi
  have b3 := f2.lo
  have b4 := f2.hi
  clear HD f1 f2
  go_wp2_with fail
  refine (cU _).mono ?_
  rintro e w3 ⟨u, P, F, rfl, HPu, hb3⟩
  have hP3 := kept_block hb3 hP
  have hQ3 := kept_block hb3 hQ
  have hB3 : Below w.heap.size w w3 := chain hBb hb3
  clear hb3 hP hQ hBb p0 p1 p2 p3 q0 q1 q2 q3 cU
  clear wq
  have fp := fun j => frozen_of_row w3 gp j _ _ hP3
  obtain ⟨p0, p1, p2, p3⟩ := cells_four hP3
  obtain ⟨q0, q1, q2, q3⟩ := cells_four hQ3
  have hne : gp ≠ gq := by omega
  have HPP : Hid (Unit → F = e1 - u ∧ u ≤ 52 ∧ P = m1 * 2 ^ u ∧ 4503599627370496 ≤ P ∧ P < 9007199254740992) := fun _ => HPu
  clear HPu
  go_wp2_with fail
  refine (cV _).mono ?_
  rintro e w5 ⟨v, Q, G, rfl, HQv, hb5⟩
  have hP5 := kept_block hb5 (four_stores hP3)
  have hQ5 := kept_block hb5 ((four_other (Ne.symm hne)).trans hQ3)
  have hB5 : Below w.heap.size w w5 := chain (four_below hB3 hgp) hb5
  clear hb5 hP3 hQ3 hB3 p0 p1 p2 p3 q0 q1 q2 q3 fp cV
  clear w3
  have fq := fun j => frozen_of_row w5 gq j _ _ hQ5
  obtain ⟨p0, p1, p2, p3⟩ := cells_four hP5
  obtain ⟨q0, q1, q2, q3⟩ := cells_four hQ5
  have HQQ : Hid (Unit → G = e2 - v ∧ v ≤ 52 ∧ Q = m2 * 2 ^ v ∧ 4503599627370496 ≤ Q ∧ Q < 9007199254740992) := fun _ => HQv
  clear HQv
  have hne' : gq ≠ gp := Ne.symm hne
  go_upto_region 12 with fail
  obtain ⟨w6, h6⟩ : ∃ w6, ((((w5.setCell ⟨gq, 0, none⟩ (.int .i64 4)).setCell ⟨gq, 1, none⟩ (.bool s2)).setCell ⟨gq, 2, none⟩ (.int .u64 Q)).setCell ⟨gq, 3, none⟩ (.int .i64 G)) = w6 := ⟨_, rfl⟩
  have hP6 : w6.heap[gp]? = some (.cells #[.int .i64 4, .bool s1, .int .u64 P, .int .i64 F] 62) := by rw [← h6]; exact (four_other hne).trans hP5
  have hQ6 : w6.heap[gq]? = some (.cells #[.int .i64 4, .bool s2, .int .u64 Q, .int .i64 G] 62) := by rw [← h6]; exact four_stores hQ5
  have hB6 : Below w.heap.size w w6 := by rw [← h6]; exact four_below hB5 (by omega)
  simp only [h6]
  clear h6 hP5 hQ5 hB5 p0 p1 p2 p3 q0 q1 q2 q3 fq
  clear w5
  obtain ⟨p0, p1, p2, p3⟩ := cells_four hP6
  obtain ⟨q0, q1, q2, q3⟩ := cells_four hQ6
  clear hP6 hQ6
  have hP := HPP.out ()
  have hQ := HQQ.out ()
  obtain ⟨E, hE⟩ : ∃ E, F - G = E := ⟨_, rfl⟩
  have E1 : -2200 ≤ E := by omega
  have E2 : E ≤ 2200 := by omega
  have F1 : -1126 ≤ F := by omega
  have F2 : F ≤ 971 := by omega
  have G1 : -1126 ≤ G := by omega
  have G2 : G ≤ 971 := by omega
  have HR : Hid (Unit → R = signN s (quoN P Q E)) := fun _ => by
    obtain ⟨x1, x2, x3, _⟩ := HPP.out ()
    obtain ⟨y1, y2, y3, _⟩ := HQQ.out ()
    have g1 := HF1.out ()
    have g2 := HF2.out ()
    have hq := quo_scale (m := m1) (n := m2) (u := u) (v := v) (e := e1 - e2) (g1.pos rfl) (g2.pos rfl) g2.lt (by omega) (by omega)
    rw [HE.out (), ← hq, ← x3, ← y3]
    congr 2
    omega
  have HPQ : Hid (Unit → 4503599627370496 ≤ P ∧ P < 9007199254740992 ∧ 4503599627370496 ≤ Q ∧ Q < 9007199254740992) := fun _ => by omega
  have Q1 : (Q : Int) < 9007199254740992 := by omega
  have P1 : (P : Int) < 9007199254740992 := by omega
  clear hP hQ HPP HQQ HE HF1 HF2
  go_upto_region 16 with fail
  go_loop [8, 9, 10, 11] (fun x8 x9 x10 x11 => ∃ (i n l : Nat) (T : Int), x8 = .int .u64 l ∧ x9 = .int .u64 n ∧ x10 = .int .i64 T ∧ x11 = .int .i64 i ∧ (i : Int) ≤ 62 ∧ -2200 - (i : Int) ≤ T ∧ T ≤ 2200 ∧ Hid (Unit → DivAt P Q i n l ∧ T = E - max ((i : Int) - 1) 0)) (fun _ _ _ x11 => (62 - intOf x11).toNat)
  case atStart => exact ⟨0, 0, P, E, rfl, rfl, rfl, rfl, by omega, by omega, by omega, fun _ => ⟨div_start (by have := HPQ.out (); omega), by omega⟩⟩
  case round =>
    obtain ⟨i, n, l, T, rfl, rfl, rfl, rfl, hi, T1, T2, HI⟩ := hrel
    have HL : Hid (Unit → (l : Int) < 18014398509481984) := fun _ => by have := (HI.out ()).1.lt; have := HPQ.out (); omega
    have hL := HL.out ()
    by_cases hi2 : (i : Int) < 62
    · have HN : Hid (Unit → (n : Int) < 2305843009213693952) := fun _ => by
        have h1 := div_bound (HI.out ()).1 (by have := HPQ.out (); omega)
        have h2 : 2 ^ i ≤ 2 ^ 61 := Nat.pow_le_pow_right (by decide) (by omega)
        omega
      have hN := HN.out ()
      have T3 : -2262 ≤ T := by omega
      by_cases hq : (Q : Int) ≤ l
      · have HJ : Hid (Unit → DivAt P Q (i + 1) (n * 2 + 1) ((l - Q) * 2)) := fun _ => div_hit (HI.out ()).1 (by omega)
        by_cases h0 : 0 < i
        · go_wp2
          go_round
          case rel => exact ⟨i + 1, n * 2 + 1, (l - Q) * 2, T - 1, by go_num, by go_num, by go_num, by go_num, by omega, by omega, by omega, fun _ => ⟨HJ.out (), by have := (HI.out ()).2; omega⟩⟩
          case measure => simp [intOf]; omega
        · have h00 : i = 0 := by omega
          subst h00
          go_wp2
          go_round
          case rel => exact ⟨0 + 1, n * 2 + 1, (l - Q) * 2, T, by go_num, by go_num, by go_num, by go_num, by omega, by omega, by omega, fun _ => ⟨HJ.out (), by have := (HI.out ()).2; omega⟩⟩
          case measure => simp [intOf]
      · have hq' : decide ((Q : Int) ≤ l) = false := by simp; omega
        have HJ : Hid (Unit → DivAt P Q (i + 1) (n * 2) (l * 2)) := fun _ => div_miss (HI.out ()).1 (by omega)
        by_cases h0 : 0 < i
        · go_wp2
          go_round
          case rel => exact ⟨i + 1, n * 2, l * 2, T - 1, by go_num, by go_num, by go_num, by go_num, by omega, by omega, by omega, fun _ => ⟨HJ.out (), by have := (HI.out ()).2; omega⟩⟩
          case measure => simp [intOf]; omega
        · have h00 : i = 0 := by omega
          subst h00
          go_wp2
          go_round
          case rel => exact ⟨0 + 1, n * 2, l * 2, T, by go_num, by go_num, by go_num, by go_num, by omega, by omega, by omega, fun _ => ⟨HJ.out (), by have := (HI.out ()).2; omega⟩⟩
          case measure => simp [intOf]
    · have h62 : i = 62 := by omega
      subst h62
      have cR : ∀ W, Calls Tryz.prog 57 #[.bool s, .int .u64 n, .int .i64 T, .bool (decide (0 < l))] W fun e w' => e = .returned (.int .u64 (R : Nat)) ∧ W = w' := fun W => by
        obtain ⟨x1, x2⟩ := HI.out ()
        obtain ⟨y1, y2⟩ := div_end (j := 61) x1 (by have := HPQ.out (); omega)
        have hpq := HPQ.out ()
        have z1 : 1152921504606846976 ≤ n := by
          rw [← y1, Nat.le_div_iff_mul_le (by omega)]
          omega
        have z2 : n < 2 ^ 62 := div_bound x1 (by omega)
        have h := specRound_any s (decide (0 < l)) n T W (by omega) (by omega) (by omega)
        have z3 : (decide (0 < l) && decide (72057594037927936 ≤ n)) = decide (P * 2 ^ 61 % Q ≠ 0) := by
          rw [decide_eq_true (by omega : 72057594037927936 ≤ n), Bool.and_true, Bool.eq_iff_iff, decide_eq_true_iff, decide_eq_true_iff]
          exact y2
        have z4 := quo_at (m := P) (n := Q) (k := 61) (e := E) (by omega) (by rw [y1]; omega) (by omega)
        rw [y1] at z4
        rw [z3, (by omega : T = E - ((61 : Nat) : Int)), z4, ← HR.out (), (by omega : E - ((61 : Nat) : Int) = T)] at h
        exact h
      clear HI HL hL
      go_wp2_with (go_at_call 57; refine (cR _).mono ?_; rintro e w' ⟨rfl, rfl⟩)
      go_ret
      exact ⟨rfl, hB6⟩
end Go.Proofs.YtcdbifcidaafnaaGreatDoor
namespace Go.Proofs.YtcdbifcidaafnaaGreatDoor
open Go.RowKit
set_option linter.unusedVariables false
set_option maxHeartbeats 4000000 in
set_option maxRecDepth 100000 in
theorem specDiv_any (a b : Nat) (w : World) (ha : a < 18446744073709551616) (hb : b < 18446744073709551616) :
    Calls Tryz.prog 39 #[.int .u64 a, .int .u64 b] w fun e w' => e = .returned (.int .u64 (divN a b : Nat)) ∧ Below w.heap.size w w' := by
  by_cases hkk : kindN a = 4 ∧ kindN b = 4
  · exact specDiv_fin a b w ha hb hkk.1 hkk.2
  have cA := fun W => specParts_any a W ha
  have cB := fun W => specParts_any b W hb
  unfold partsV at cA cB
  obtain ⟨k1, hk1⟩ : ∃ k, kindN a = k := ⟨_, rfl⟩
  obtain ⟨k2, hk2⟩ : ∃ k, kindN b = k := ⟨_, rfl⟩
  obtain ⟨s1, hs1⟩ : ∃ k, belowN a = k := ⟨_, rfl⟩
  obtain ⟨s2, hs2⟩ : ∃ k, belowN b = k := ⟨_, rfl⟩
  obtain ⟨m1, hm1⟩ : ∃ k, mantN a = k := ⟨_, rfl⟩
  obtain ⟨m2, hm2⟩ : ∃ k, mantN b = k := ⟨_, rfl⟩
  obtain ⟨e1, he1⟩ : ∃ k, expN a = k := ⟨_, rfl⟩
  obtain ⟨e2, he2⟩ : ∃ k, expN b = k := ⟨_, rfl⟩
  have HD : Hid (Unit → divN a b = divP k1 k2 s1 s2 m1 m2 e1 e2) := fun _ => by rw [divN, hk1, hk2, hs1, hs2, hm1, hm2, he1, he2]
  have hK1 := kindN_cases a
  have hK2 := kindN_cases b
  rw [hk1] at hK1
  rw [hk2] at hK2
  rw [hk1, hs1, hm1, he1] at cA
  rw [hk2, hs2, hm2, he2] at cB
  have HF1 : Hid (Unit → Fin1 k1 m1 e1) := fun _ => by rw [← hk1, ← hm1, ← he1]; exact fin1_of a
  have HF2 : Hid (Unit → Fin1 k2 m2 e2) := fun _ => by rw [← hk2, ← hm2, ← he2]; exact fin1_of b
  obtain ⟨R, hR⟩ : ∃ R, divN a b = R := ⟨_, rfl⟩
  rw [hR] at HD ⊢
  have HN : Hid (Unit → k1 = 4 → k2 = 4 → False) := fun _ h1 h2 => hkk ⟨hk1.trans h1, hk2.trans h2⟩
  have HE : Hid (Unit → R = if k1 = 1 ∨ k2 = 1 ∨ (k1 = k2 ∧ (k1 = 2 ∨ k1 = 3)) then 9221120237041090560 else if k1 = 2 ∨ k2 = 3 then signN (s1 != s2) 9218868437227405312 else signN (s1 != s2) 0) := fun _ => by
    rw [HD.out (), divP]
    split
    · rfl
    · split
      · rfl
      · have := HN.out ()
        rw [if_pos (by omega)]
  clear HD HF1 HF2 hkk hR hk1 hk2 hs1 hs2 hm1 hm2 he1 he2 ha hb
  go_enter Tryz.func39, Tryz.ntmps39
  go_wp2_with fail
  refine (cA _).mono ?_
  rintro e w1 ⟨rfl, hb1⟩
  clear cA
  go_wp2_with fail
  refine (cB _).mono ?_
  rintro e w2 ⟨rfl, hb2⟩
  clear cB
  go_upto_region 3 with fail
  have hlt : w1.heap.size < w2.heap.size := by have := hb2.size; simp at this; omega
  obtain ⟨wq, hwq⟩ : ∃ wq, w2.alloc (.cells #[.int .i64 k2, .bool s2, .int .u64 m2, .int .i64 e2] 62) = wq := ⟨_, rfl⟩
  have hQ : wq.heap[w2.heap.size]? = some (.cells #[.int .i64 k2, .bool s2, .int .u64 m2, .int .i64 e2] 62) := by rw [← hwq]; exact heap_alloc_new _ _
  have hP : wq.heap[w1.heap.size]? = some (.cells #[.int .i64 k1, .bool s1, .int .u64 m1, .int .i64 e1] 62) := by rw [← hwq]; exact (Below.heap_alloc w2 _ _ hlt).trans (alloc_kept hb2)
  have hBb : Below w.heap.size w wq := by
    have hb3 : Below w.heap.size w w2 := (hb1.alloc hb1.size _).trans (hb2.mono (by simp; exact Nat.le_succ_of_le hb1.size))
    rw [← hwq]; exact hb3.alloc hb3.size _
  obtain ⟨gq, hgq⟩ : ∃ g, w2.heap.size = g := ⟨_, rfl⟩
  obtain ⟨gp, hgp2⟩ : ∃ g, w1.heap.size = g := ⟨_, rfl⟩
  simp only [hwq, hgq, hgp2]
  rw [hgq] at hQ hlt
  rw [hgp2] at hP hlt
  clear hwq hgq hgp2 hb1 hb2
  clear w1 w2
  obtain ⟨p0, p1, p2, p3⟩ := cells_four hP
  obtain ⟨q0, q1, q2, q3⟩ := cells_four hQ
  clear hP hQ
  obtain ⟨s, hs⟩ : ∃ s, (!(s1 == s2)) = s := ⟨_, rfl⟩
  have hs' : (s1 != s2) = s := hs
  rw [hs'] at HE
  clear hs'
  have cS0 := fun W => sign_zero s W
  have cS1 := fun W => sign_inf s W
  obtain ⟨z0, hz0⟩ : ∃ z, signN s 0 = z := ⟨_, rfl⟩
  obtain ⟨z1, hz1⟩ : ∃ z, signN s 9218868437227405312 = z := ⟨_, rfl⟩
  rw [hz0] at cS0 HE
  rw [hz1] at cS1 HE
  clear hz0 hz1
  rcases hK1 with rfl | rfl | rfl | rfl
  · go_wp2
    go_ret
    exact ⟨by rw [HE.out ()]; simp, hBb⟩
  · rcases hK2 with rfl | rfl | rfl | rfl
    · go_wp2
      go_ret
      exact ⟨by rw [HE.out ()]; simp, hBb⟩
    · go_wp2
      go_ret
      exact ⟨by rw [HE.out ()]; simp, hBb⟩
    · go_wp2_with (go_at_call 58; refine (cS1 _).mono ?_; rintro e w' ⟨rfl, rfl⟩)
      go_ret
      exact ⟨by rw [HE.out ()]; simp, hBb⟩
    · go_wp2_with (go_at_call 58; refine (cS1 _).mono ?_; rintro e w' ⟨rfl, rfl⟩)
      go_ret
      exact ⟨by rw [HE.out ()]; simp, hBb⟩
  · rcases hK2 with rfl | rfl | rfl | rfl
    · go_wp2
      go_ret
      exact ⟨by rw [HE.out ()]; simp, hBb⟩
    · go_wp2_with (go_at_call 58; refine (cS0 _).mono ?_; rintro e w' ⟨rfl, rfl⟩)
      go_ret
      exact ⟨by rw [HE.out ()]; simp, hBb⟩
    · go_wp2
      go_ret
      exact ⟨by rw [HE.out ()]; simp, hBb⟩
    · go_wp2_with (go_at_call 58; refine (cS0 _).mono ?_; rintro e w' ⟨rfl, rfl⟩)
      go_ret
      exact ⟨by rw [HE.out ()]; simp, hBb⟩
  · rcases hK2 with rfl | rfl | rfl | rfl
    · go_wp2
      go_ret
      exact ⟨by rw [HE.out ()]; simp, hBb⟩
    · go_wp2_with (go_at_call 58; refine (cS0 _).mono ?_; rintro e w' ⟨rfl, rfl⟩)
      go_ret
      exact ⟨by rw [HE.out ()]; simp, hBb⟩
    · go_wp2_with (go_at_call 58; refine (cS1 _).mono ?_; rintro e w' ⟨rfl, rfl⟩)
      go_ret
      exact ⟨by rw [HE.out ()]; simp, hBb⟩
    · exact (HN.out () rfl rfl).elim
end Go.Proofs.YtcdbifcidaafnaaGreatDoor
