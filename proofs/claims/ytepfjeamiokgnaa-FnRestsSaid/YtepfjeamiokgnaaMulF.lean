/-
  The walk of the specification's Mul at finite numbers.
-/
import Derived.Test.YtepfjeamiokgnaaMul
namespace Go.Proofs.Ytepfjeamiokgnaa
open Go.RowKit
set_option linter.unusedVariables false

set_option maxHeartbeats 2000000 in
set_option maxRecDepth 100000 in
theorem specMul_fin (a b : Nat) (w : World) (ha : a < 18446744073709551616) (hb : b < 18446744073709551616) (ka : kindN a = 4) (kb : kindN b = 4) :
    Calls Try.prog 10 #[.int .u64 a, .int .u64 b] w fun e w' => e = .returned (.int .u64 (mulN a b : Nat)) ∧ Below w.heap.size w w' := by
  have cA := fun W => specParts_any a W ha
  have cB := fun W => specParts_any b W hb
  unfold partsV at cA cB
  obtain ⟨k1, hk1⟩ : ∃ k, kindN a = k := ⟨_, rfl⟩
  obtain ⟨k2, hk2⟩ : ∃ k, kindN b = k := ⟨_, rfl⟩
  obtain ⟨s1, hs1⟩ : ∃ k, belowN a = k := ⟨_, rfl⟩
  obtain ⟨s2, hs2⟩ : ∃ k, belowN b = k := ⟨_, rfl⟩
  obtain ⟨m1, hm1⟩ : ∃ k, mantN a = k := ⟨_, rfl⟩
  obtain ⟨m2, hm2⟩ : ∃ k, mantN b = k := ⟨_, rfl⟩
  obtain ⟨e1, he1⟩ : ∃ k, expN a = k := ⟨_, rfl⟩
  obtain ⟨e2, he2⟩ : ∃ k, expN b = k := ⟨_, rfl⟩
  have HD : Hid (Unit → mulN a b = mulP k1 k2 s1 s2 m1 m2 e1 e2) := fun _ => by rw [mulN, hk1, hk2, hs1, hs2, hm1, hm2, he1, he2]
  rw [hk1, hs1, hm1, he1] at cA
  rw [hk2, hs2, hm2, he2] at cB
  have HF1 : Hid (Unit → Fin1 k1 m1 e1) := fun _ => by rw [← hk1, ← hm1, ← he1]; exact fin1_of a
  have HF2 : Hid (Unit → Fin1 k2 m2 e2) := fun _ => by rw [← hk2, ← hm2, ← he2]; exact fin1_of b
  obtain ⟨R, hR⟩ : ∃ R, mulN a b = R := ⟨_, rfl⟩
  rw [hR] at HD ⊢
  have HK1 : Hid (Unit → k1 = 4) := fun _ => hk1.symm.trans ka
  have HK2 : Hid (Unit → k2 = 4) := fun _ => hk2.symm.trans kb
  clear hR hk1 hk2 ka kb hs1 hs2 hm1 hm2 he1 he2 ha hb
  go_enter Try.func10, Try.ntmps10
  go_wp2_with fail
  refine (cA _).mono ?_
  rintro e w1 ⟨rfl, hb1⟩
  clear cA
  go_wp2_with fail
  refine (cB _).mono ?_
  rintro e w2 ⟨rfl, hb2⟩
  clear cB
  go_upto_region 3 with fail
  have hlt : w1.heap.size < w2.heap.size := by have := hb2.size; simp at this; omega
  obtain ⟨wq, hwq⟩ : ∃ wq, w2.alloc (.cells #[.int .i64 k2, .bool s2, .int .u64 m2, .int .i64 e2] 30) = wq := ⟨_, rfl⟩
  have hQ : wq.heap[w2.heap.size]? = some (.cells #[.int .i64 k2, .bool s2, .int .u64 m2, .int .i64 e2] 30) := by rw [← hwq]; exact heap_alloc_new _ _
  have hP : wq.heap[w1.heap.size]? = some (.cells #[.int .i64 k1, .bool s1, .int .u64 m1, .int .i64 e1] 30) := by rw [← hwq]; exact (Below.heap_alloc w2 _ _ hlt).trans (alloc_kept hb2)
  have hBb : Below w.heap.size w wq := by
    have hb3 : Below w.heap.size w w2 := (hb1.alloc hb1.size _).trans (hb2.mono (by simp; exact Nat.le_succ_of_le hb1.size))
    rw [← hwq]; exact hb3.alloc hb3.size _
  obtain ⟨gq, hgq⟩ : ∃ g, w2.heap.size = g := ⟨_, rfl⟩
  obtain ⟨gp, hgp2⟩ : ∃ g, w1.heap.size = g := ⟨_, rfl⟩
  simp only [hwq, hgq, hgp2]
  rw [hgq] at hQ hlt
  rw [hgp2] at hP hlt
  clear hwq hgq hgp2 hb1 hb2
  clear w1 w2
  obtain ⟨p0, p1, p2, p3⟩ := cells_four hP
  obtain ⟨q0, q1, q2, q3⟩ := cells_four hQ
  clear hP hQ
  have hk1 := HK1.out ()
  have hk2 := HK2.out ()
  subst hk1 hk2
  clear HK1 HK2
  obtain ⟨s, hs⟩ : ∃ s, (!(s1 == s2)) = s := ⟨_, rfl⟩
  have HE : Hid (Unit → R = signN s (roundN (m1 * m2) (e1 + e2) false)) := fun _ => by rw [HD.out (), ← hs]; simp [mulP, bne]
  have f1 := HF1.out ()
  have f2 := HF2.out ()
  have cW := fun W => specWide_any m1 m2 W (by have := f1.lt; omega) (by have := f2.lt; omega)
  have b1 := f1.lo
  have b2 := f1.hi
  have b3 := f2.lo
  have b4 := f2.hi
  obtain ⟨P, hP⟩ : ∃ P, m1 * m2 = P := ⟨_, rfl⟩
  rw [hP] at HE cW
  have hPl : P < 81129638414606681695789005144064 := by
    rw [← hP]
    exact Nat.mul_lt_mul'' f1.lt f2.lt
  have HP : Hid (Unit → P < 81129638414606681695789005144064) := fun _ => hPl
  obtain ⟨E, hE⟩ : ∃ E, e1 + e2 = E := ⟨_, rfl⟩
  rw [hE] at HE
  have E1 : -2148 ≤ E := by omega
  have E2 : E ≤ 1942 := by omega
  have hL0 : P / 18446744073709551616 * 18446744073709551616 + P % 18446744073709551616 = P := by omega
  obtain ⟨H0, hH0⟩ : ∃ q, P / 18446744073709551616 = q := ⟨_, rfl⟩
  obtain ⟨L0, hL00⟩ : ∃ q, P % 18446744073709551616 = q := ⟨_, rfl⟩
  rw [hH0, hL00] at cW hL0
  have HL0 : Hid (Unit → H0 * 18446744073709551616 + L0 = P) := fun _ => hL0
  have h1 : (H0 : Int) < 4398046511104 := by omega
  have h2 : (L0 : Int) < 18446744073709551616 := by omega
  clear hP hPl HD HF1 HF2 f1 f2 b1 b2 b3 b4 hH0 hL00 hL0
  go_wp2_with fail
  refine (cW _).mono ?_
  rintro e w' ⟨rfl, rfl⟩
  go_upto_region 13 with fail
  go_loop [8, 9, 10, 11] (fun x8 x9 x10 x11 => ∃ (k H L : Nat) (l : Bool), x8 = .int .u64 H ∧ x9 = .int .u64 L ∧ x10 = .int .i64 (E + k) ∧ x11 = .bool l ∧ (H : Int) < 4398046511104 ∧ (L : Int) < 18446744073709551616 ∧ (k : Int) ≤ 42 ∧ Hid (Unit → LostAt P k (H * 18446744073709551616 + L) l ∧ (k = 0 ∨ 9223372036854775808 ≤ H * 18446744073709551616 + L))) (fun x8 _ _ _ => (intOf x8).toNat)
  case atStart => exact ⟨0, H0, L0, false, rfl, rfl, by simp, rfl, h1, h2, by omega, fun _ => ⟨by rw [HL0.out ()]; exact lost_start P, .inl rfl⟩⟩
  case round =>
    obtain ⟨k, H, L, l, rfl, rfl, rfl, rfl, hH, hL, hk, HI⟩ := hrel
    obtain ⟨F, hF⟩ : ∃ F, E + (k : Int) = F := ⟨_, rfl⟩
    have HF : Hid (Unit → E + (k : Int) = F) := fun _ => hF
    rw [hF]
    have F1 : -2148 ≤ F := by omega
    have F2 : F ≤ 1984 := by omega
    clear hF
    by_cases hz : 0 < H
    · have HJ : Hid (Unit → LostAt P (k + 1) (H / 2 * 18446744073709551616 + (L / 2 + H % 2 * 9223372036854775808)) (l || decide (L % 2 = 1)) ∧ 9223372036854775808 ≤ H / 2 * 18446744073709551616 + (L / 2 + H % 2 * 9223372036854775808) ∧ (k + 1 : Int) ≤ 42) := fun _ => by
        have := lost_room (HI.out ()).1 (by omega) (HP.out ())
        exact ⟨lost_bits (HI.out ()).1, by omega, by omega⟩
      clear HI
      obtain ⟨M, hM⟩ : ∃ M, L / 2 + H % 2 * 9223372036854775808 = M := ⟨_, rfl⟩
      rw [hM] at HJ
      obtain ⟨T, hT⟩ : ∃ T : Int, (H : Int) % 2 * 9223372036854775808 = T := ⟨_, rfl⟩
      have hT2 : IntKind.u64.wrap ((H : Int) % 2 * 9223372036854775808) = T := by
        show (H : Int) % 2 * 9223372036854775808 % 18446744073709551616 = T
        omega
      have hM2 : IntKind.u64.wrap ((L : Int) / 2 + T) = M := by
        show ((L : Int) / 2 + T) % 18446744073709551616 = M
        omega
      have HB : Hid (Unit → (H : Int) < 4398046511104 ∧ (M : Int) < 18446744073709551616) := fun _ => by omega
      clear hT hM
      cases l
      · by_cases ho : L % 2 = 1
        · have ho' : ((L : Int) % 2 == 1) = true := by simp; omega
          rw [Bool.false_or, decide_eq_true ho] at HJ
          clear ho
          go_wp2_with (go_at_call 32; refine (l03Pow_63 _).mono ?_; rintro e w' ⟨rfl, rfl⟩)
          go_round
          case rel => exact ⟨k + 1, H / 2, M, true, by go_num, rfl, by have := HF.out (); go_num, rfl, by have := HB.out (); omega, by have := HB.out (); omega, (HJ.out ()).2.2, fun _ => ⟨(HJ.out ()).1, .inr (HJ.out ()).2.1⟩⟩
          case measure => simp [intOf]; omega
        · have ho' : ((L : Int) % 2 == 1) = false := by rw [beq_eq_false_iff_ne]; omega
          rw [Bool.false_or, decide_eq_false ho] at HJ
          clear ho
          go_wp2_with (go_at_call 32; refine (l03Pow_63 _).mono ?_; rintro e w' ⟨rfl, rfl⟩)
          go_round
          case rel => exact ⟨k + 1, H / 2, M, false, by go_num, rfl, by have := HF.out (); go_num, rfl, by have := HB.out (); omega, by have := HB.out (); omega, (HJ.out ()).2.2, fun _ => ⟨(HJ.out ()).1, .inr (HJ.out ()).2.1⟩⟩
          case measure => simp [intOf]; omega
      · rw [Bool.true_or] at HJ
        go_wp2_with (go_at_call 32; refine (l03Pow_63 _).mono ?_; rintro e w' ⟨rfl, rfl⟩)
        go_round
        case rel => exact ⟨k + 1, H / 2, M, true, by go_num, rfl, by have := HF.out (); go_num, rfl, by have := HB.out (); omega, by have := HB.out (); omega, (HJ.out ()).2.2, fun _ => ⟨(HJ.out ()).1, .inr (HJ.out ()).2.1⟩⟩
        case measure => simp [intOf]; omega
    · have hz0 : H = 0 := by omega
      subst hz0
      have cR : ∀ W, Calls Try.prog 33 #[.bool s, .int .u64 L, .int .i64 F, .bool l] W fun e w' => e = .returned (.int .u64 (R : Nat)) ∧ W = w' := fun W => by
        have h := specRound_any s l L F W (by omega) (by omega) (by omega)
        have hI := HI.out ()
        rw [Nat.zero_mul, Nat.zero_add] at hI
        have hr := round_off (E := E) hI.1.1 hI.1.2 (by omega)
        rw [HF.out ()] at hr
        rw [hr, ← HE.out ()] at h
        exact h
      clear HI
      go_wp2_with (go_at_call 33; refine (cR _).mono ?_; rintro e w' ⟨rfl, rfl⟩)
      go_ret
      exact ⟨rfl, hBb⟩

end Go.Proofs.Ytepfjeamiokgnaa
