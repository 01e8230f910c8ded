/-
  Part 9 of what is proved of drawn right trees.
-/
import Derived.Test.YtcdbifcidaafnaaGreatDoorPag
import Derived.Deep.QuietTactic
import Derived.BigQuiet

namespace Go.Proofs.YtcdbifcidaafnaaGreatDoor
open Go.RowKit
set_option linter.unusedVariables false
theorem rest_more {m n j : Nat} : m * 2 ^ j % n * 2 % n = m * 2 ^ (j + 1) % n := by
  rw [Nat.pow_succ, ← Nat.mul_assoc, Nat.mul_mod (m * 2 ^ j) 2 n, Nat.mul_mod (m * 2 ^ j % n) 2 n, Nat.mod_mod]
theorem rest_up {m n D : Nat} {e f : Int} (h : e = f + D) : restN m e n f = roundN (m * 2 ^ D % n) f false := by
  unfold restN
  rw [(by omega : min e f = f), (by omega : (e - f).toNat = D), (by omega : (f - f).toNat = 0), Nat.pow_zero, Nat.mul_one]
theorem rest_down {m n D : Nat} {e f : Int} (h : f = e + D) : restN m e n f = roundN (m % (n * 2 ^ D)) e false := by
  unfold restN
  rw [(by omega : min e f = e), (by omega : (f - e).toNat = D), (by omega : (e - e).toNat = 0), Nat.pow_zero, Nat.mul_one]
theorem rest_less {m n j D : Nat} (hj : j ≤ D) (h : m < n * 2 ^ j) : m % (n * 2 ^ D) = m := by
  refine Nat.mod_eq_of_lt (Nat.lt_of_lt_of_le h (Nat.mul_le_mul_left _ (Nat.pow_le_pow_right (by decide) hj)))
set_option maxHeartbeats 2000000 in
set_option maxRecDepth 100000 in
theorem specRem_fin (a b : Nat) (w : World) (ha : a < 18446744073709551616) (hb : b < 18446744073709551616) (ka : kindN a = 4) (kb : kindN b = 4) :
    Calls Tryz.prog 40 #[.int .u64 a, .int .u64 b] w fun e w' => e = .returned (.int .u64 (remN a b : Nat)) ∧ Below w.heap.size w w' := by
  have cA := fun W => specParts_any a W ha
  have cB := fun W => specParts_any b W hb
  unfold partsV at cA cB
  obtain ⟨k1, hk1⟩ : ∃ k, kindN a = k := ⟨_, rfl⟩
  obtain ⟨k2, hk2⟩ : ∃ k, kindN b = k := ⟨_, rfl⟩
  obtain ⟨s1, hs1⟩ : ∃ k, belowN a = k := ⟨_, rfl⟩
  obtain ⟨s2, hs2⟩ : ∃ k, belowN b = k := ⟨_, rfl⟩
  obtain ⟨m1, hm1⟩ : ∃ k, mantN a = k := ⟨_, rfl⟩
  obtain ⟨m2, hm2⟩ : ∃ k, mantN b = k := ⟨_, rfl⟩
  obtain ⟨e1, he1⟩ : ∃ k, expN a = k := ⟨_, rfl⟩
  obtain ⟨e2, he2⟩ : ∃ k, expN b = k := ⟨_, rfl⟩
  have HD : Hid (Unit → remN a b = remP a k1 k2 s1 m1 m2 e1 e2) := fun _ => by rw [remN, hk1, hk2, hs1, hm1, hm2, he1, he2]
  rw [hk1, hs1, hm1, he1] at cA
  rw [hk2, hs2, hm2, he2] at cB
  have HA : Hid (Unit → signN s1 (roundN m1 e1 false) = a) := fun _ => by rw [← hs1, ← hm1, ← he1]; exact round_parts false ka ha
  have HF1 : Hid (Unit → Fin1 k1 m1 e1) := fun _ => by rw [← hk1, ← hm1, ← he1]; exact fin1_of a
  have HF2 : Hid (Unit → Fin1 k2 m2 e2) := fun _ => by rw [← hk2, ← hm2, ← he2]; exact fin1_of b
  obtain ⟨R, hR⟩ : ∃ R, remN a b = R := ⟨_, rfl⟩
  rw [hR] at HD ⊢
  have HK1 : Hid (Unit → k1 = 4) := fun _ => hk1.symm.trans ka
  have HK2 : Hid (Unit → k2 = 4) := fun _ => hk2.symm.trans kb
  clear hR hk1 hk2 ka kb hs1 hs2 hm1 hm2 he1 he2 ha hb
  go_enter Tryz.func40, Tryz.ntmps40
  go_wp2_with fail
  refine (cA _).mono ?_
  rintro e w1 ⟨rfl, hb1⟩
  clear cA
  go_wp2_with fail
  refine (cB _).mono ?_
  rintro e w2 ⟨rfl, hb2⟩
  clear cB
  go_upto_region 3 with fail
  have hlt : w1.heap.size < w2.heap.size := by have := hb2.size; simp at this; omega
  obtain ⟨wq, hwq⟩ : ∃ wq, w2.alloc (.cells #[.int .i64 k2, .bool s2, .int .u64 m2, .int .i64 e2] 62) = wq := ⟨_, rfl⟩
  have hQ : wq.heap[w2.heap.size]? = some (.cells #[.int .i64 k2, .bool s2, .int .u64 m2, .int .i64 e2] 62) := by rw [← hwq]; exact heap_alloc_new _ _
  have hP : wq.heap[w1.heap.size]? = some (.cells #[.int .i64 k1, .bool s1, .int .u64 m1, .int .i64 e1] 62) := by rw [← hwq]; exact (Below.heap_alloc w2 _ _ hlt).trans (alloc_kept hb2)
  have hBb : Below w.heap.size w wq := by
    have hb3 : Below w.heap.size w w2 := (hb1.alloc hb1.size _).trans (hb2.mono (by simp; exact Nat.le_succ_of_le hb1.size))
    rw [← hwq]; exact hb3.alloc hb3.size _
  obtain ⟨gq, hgq⟩ : ∃ g, w2.heap.size = g := ⟨_, rfl⟩
  obtain ⟨gp, hgp2⟩ : ∃ g, w1.heap.size = g := ⟨_, rfl⟩
  simp only [hwq, hgq, hgp2]
  rw [hgq] at hQ hlt
  rw [hgp2] at hP hlt
  clear hwq hgq hgp2 hb1 hb2
  clear w1 w2
  obtain ⟨p0, p1, p2, p3⟩ := cells_four hP
  obtain ⟨q0, q1, q2, q3⟩ := cells_four hQ
  clear hP hQ
  have hk1 := HK1.out ()
  have hk2 := HK2.out ()
  subst hk1 hk2
  clear HK1 HK2
  have HE : Hid (Unit → R = signN s1 (restN m1 e1 m2 e2)) := fun _ => by rw [HD.out ()]; simp [remP]
  have f1 := HF1.out ()
  have f2 := HF2.out ()
  have b1 := f1.lo
  have b2 := f1.hi
  have b3 := f2.lo
  have b4 := f2.hi
  have M1 : (m1 : Int) < 9007199254740992 := by have := f1.lt; omega
  have M2 : (m2 : Int) < 9007199254740992 := by have := f2.lt; omega
  have hp2 := f2.pos rfl
  have HP2 : Hid (Unit → m2 ≠ 0) := fun _ => hp2
  have z2 : ((m2 : Int) == 0) = false := by rw [beq_eq_false_iff_ne]; omega
  clear HD HF1 HF2 f1 f2
  by_cases hle : e2 ≤ e1
  · obtain ⟨D, hD⟩ : ∃ D : Nat, e1 = e2 + D := ⟨(e1 - e2).toNat, by omega⟩
    have HR : Hid (Unit → R = signN s1 (roundN (m1 * 2 ^ D % m2) e2 false)) := fun _ => by rw [HE.out (), rest_up hD]
    have HDD : Hid (Unit → e1 = e2 + D) := fun _ => hD
    clear hD HE
    go_upto_region 11 with fail
    go_loop [7, 8] (fun x7 x8 => ∃ (j X : Nat) (I : Int), x7 = .int .u64 X ∧ x8 = .int .i64 I ∧ (X : Int) < 9007199254740992 ∧ e2 ≤ I ∧ I ≤ e1 ∧ Hid (Unit → X = m1 * 2 ^ j % m2 ∧ I = e2 + j)) (fun _ x8 => (e1 - intOf x8).toNat)
    case atStart => exact ⟨0, m1 % m2, e2, by go_num, rfl, by have := Nat.mod_lt m1 (by have := HP2.out (); omega : 0 < m2); omega, by omega, hle, fun _ => ⟨by simp, by simp⟩⟩
    case round =>
      obtain ⟨j, X, I, rfl, rfl, hX, I1, I2, HI⟩ := hrel
      by_cases hlt : I < e1
      · go_wp2
        go_round
        case rel => exact ⟨j + 1, X * 2 % m2, I + 1, by go_num, by go_num, by have := Nat.mod_lt (X * 2) (by have := HP2.out (); omega : 0 < m2); omega, by omega, by omega, fun _ => ⟨by rw [(HI.out ()).1, rest_more], by have := (HI.out ()).2; omega⟩⟩
        case measure => simp [intOf]; omega
      · have hlt' : decide (I < e1) = false := by simp; omega
        have cR : ∀ W, Calls Tryz.prog 57 #[.bool s1, .int .u64 X, .int .i64 e2, .bool false] W fun e w' => e = .returned (.int .u64 (R : Nat)) ∧ W = w' := fun W => by
          obtain ⟨x1, x2⟩ := HI.out ()
          have hD := HDD.out ()
          have hj : j = D := by omega
          subst hj
          have h := specRound_any s1 false X e2 W (by omega) (by omega) (by omega)
          rw [Bool.false_and, x1, ← HR.out (), ← x1] at h
          exact h
        clear HI
        go_wp2_with (go_at_call 57; refine (cR _).mono ?_; rintro e w' ⟨rfl, rfl⟩)
        go_ret
        exact ⟨rfl, hBb⟩
  · have hle' : decide (e2 ≤ e1) = false := by simp; omega
    obtain ⟨D, hD⟩ : ∃ D : Nat, e2 = e1 + D := ⟨(e2 - e1).toNat, by omega⟩
    have HR : Hid (Unit → R = signN s1 (roundN (m1 % (m2 * 2 ^ D)) e1 false)) := fun _ => by rw [HE.out (), rest_down hD]
    have HDD : Hid (Unit → e2 = e1 + D) := fun _ => hD
    have hle2 : e1 ≤ e2 := by omega
    clear hD HE hle
    go_upto_region 17 with fail
    go_loop [9, 10] (fun x9 x10 => ∃ (j X : Nat) (I : Int), x9 = .int .u64 X ∧ x10 = .int .i64 I ∧ (X : Int) < 18014398509481984 ∧ e1 ≤ I ∧ I ≤ e2 ∧ Hid (Unit → X = m2 * 2 ^ j ∧ I = e1 + j)) (fun _ x10 => (e2 - intOf x10).toNat)
    case atStart => exact ⟨0, m2, e1, rfl, rfl, by omega, by omega, hle2, fun _ => ⟨by simp, by simp⟩⟩
    case round =>
      obtain ⟨j, X, I, rfl, rfl, hX, I1, I2, HI⟩ := hrel
      by_cases hlt : I < e2
      · by_cases hm : m1 < X
        · have HZ : Hid (Unit → R = a) := fun _ => by
            obtain ⟨x1, x2⟩ := HI.out ()
            have hD := HDD.out ()
            rw [HR.out (), rest_less (j := j) (by omega) (by omega)]
            exact HA.out ()
          clear HI
          go_wp2
          go_ret
          exact ⟨by rw [HZ.out ()]; rfl, hBb⟩
        · have hm' : decide (m1 < X) = false := by simp; omega
          go_wp2
          go_round
          case rel => exact ⟨j + 1, X * 2, I + 1, by go_num, by go_num, by omega, by omega, by omega, fun _ => ⟨by rw [(HI.out ()).1, Nat.pow_succ, Nat.mul_assoc], by have := (HI.out ()).2; omega⟩⟩
          case measure => simp [intOf]; omega
      · have hlt' : decide (I < e2) = false := by simp; omega
        have hX0 : X ≠ 0 := by
          rw [(HI.out ()).1]
          exact Nat.mul_ne_zero (HP2.out ()) (by have := Nat.two_pow_pos j; omega)
        have zX : ((X : Int) == 0) = false := by rw [beq_eq_false_iff_ne]; omega
        have cR : ∀ W, Calls Tryz.prog 57 #[.bool s1, .int .u64 ((m1 : Int) % X), .int .i64 e1, .bool false] W fun e w' => e = .returned (.int .u64 (R : Nat)) ∧ W = w' := fun W => by
          obtain ⟨x1, x2⟩ := HI.out ()
          have hD := HDD.out ()
          have hj : j = D := by omega
          subst hj
          have hmod : m1 % X ≤ m1 := Nat.mod_le _ _
          have h := specRound_any s1 false (m1 % X) e1 W (by omega) (by omega) (by omega)
          have x3 : R = signN s1 (roundN (m1 % X) e1 false) := by rw [HR.out (), x1]
          have x4 : ((m1 % X : Nat) : Int) = (m1 : Int) % X := by simp
          rw [Bool.false_and, ← x3, x4] at h
          exact h
        clear HI
        have qR := fun (W : World) (n : Nat) => Calls.quiet_of_same ((cR (W.drewN n)).mono (by rintro e w' ⟨rfl, rfl⟩; exact ⟨rfl, rfl⟩))
        go_wp2_with fail
        go_quiet (exact qR _ _)
        go_wp2
        go_ret
        exact ⟨rfl, below_drewN hBb _⟩
end Go.Proofs.YtcdbifcidaafnaaGreatDoor
namespace Go.Proofs.YtcdbifcidaafnaaGreatDoor
open Go.RowKit
set_option linter.unusedVariables false
set_option maxHeartbeats 4000000 in
set_option maxRecDepth 100000 in
theorem specRem_any (a b : Nat) (w : World) (ha : a < 18446744073709551616) (hb : b < 18446744073709551616) :
    Calls Tryz.prog 40 #[.int .u64 a, .int .u64 b] w fun e w' => e = .returned (.int .u64 (remN a b : Nat)) ∧ Below w.heap.size w w' := by
  by_cases hkk : kindN a = 4 ∧ kindN b = 4
  · exact specRem_fin a b w ha hb hkk.1 hkk.2
  have cA := fun W => specParts_any a W ha
  have cB := fun W => specParts_any b W hb
  unfold partsV at cA cB
  obtain ⟨k1, hk1⟩ : ∃ k, kindN a = k := ⟨_, rfl⟩
  obtain ⟨k2, hk2⟩ : ∃ k, kindN b = k := ⟨_, rfl⟩
  obtain ⟨s1, hs1⟩ : ∃ k, belowN a = k := ⟨_, rfl⟩
  obtain ⟨s2, hs2⟩ : ∃ k, belowN b = k := ⟨_, rfl⟩
  obtain ⟨m1, hm1⟩ : ∃ k, mantN a = k := ⟨_, rfl⟩
  obtain ⟨m2, hm2⟩ : ∃ k, mantN b = k := ⟨_, rfl⟩
  obtain ⟨e1, he1⟩ : ∃ k, expN a = k := ⟨_, rfl⟩
  obtain ⟨e2, he2⟩ : ∃ k, expN b = k := ⟨_, rfl⟩
  have HD : Hid (Unit → remN a b = remP a k1 k2 s1 m1 m2 e1 e2) := fun _ => by rw [remN, hk1, hk2, hs1, hm1, hm2, he1, he2]
  have hK1 := kindN_cases a
  have hK2 := kindN_cases b
  rw [hk1] at hK1
  rw [hk2] at hK2
  rw [hk1, hs1, hm1, he1] at cA
  rw [hk2, hs2, hm2, he2] at cB
  have HF1 : Hid (Unit → Fin1 k1 m1 e1) := fun _ => by rw [← hk1, ← hm1, ← he1]; exact fin1_of a
  have HF2 : Hid (Unit → Fin1 k2 m2 e2) := fun _ => by rw [← hk2, ← hm2, ← he2]; exact fin1_of b
  obtain ⟨R, hR⟩ : ∃ R, remN a b = R := ⟨_, rfl⟩
  rw [hR] at HD ⊢
  have HN : Hid (Unit → k1 = 4 → k2 = 4 → False) := fun _ h1 h2 => hkk ⟨hk1.trans h1, hk2.trans h2⟩
  have HE : Hid (Unit → R = if k1 = 1 ∨ k2 = 1 ∨ k1 = 2 ∨ k2 = 3 then 9221120237041090560 else a) := fun _ => by
    rw [HD.out (), remP]
    split
    · rfl
    · have := HN.out ()
      rw [if_pos (by omega)]
  clear HD HF1 HF2 hkk hR hk1 hk2 hs1 hs2 hm1 hm2 he1 he2 ha hb
  go_enter Tryz.func40, Tryz.ntmps40
  go_wp2_with fail
  refine (cA _).mono ?_
  rintro e w1 ⟨rfl, hb1⟩
  clear cA
  go_wp2_with fail
  refine (cB _).mono ?_
  rintro e w2 ⟨rfl, hb2⟩
  clear cB
  go_upto_region 3 with fail
  have hlt : w1.heap.size < w2.heap.size := by have := hb2.size; simp at this; omega
  obtain ⟨wq, hwq⟩ : ∃ wq, w2.alloc (.cells #[.int .i64 k2, .bool s2, .int .u64 m2, .int .i64 e2] 62) = wq := ⟨_, rfl⟩
  have hQ : wq.heap[w2.heap.size]? = some (.cells #[.int .i64 k2, .bool s2, .int .u64 m2, .int .i64 e2] 62) := by rw [← hwq]; exact heap_alloc_new _ _
  have hP : wq.heap[w1.heap.size]? = some (.cells #[.int .i64 k1, .bool s1, .int .u64 m1, .int .i64 e1] 62) := by rw [← hwq]; exact (Below.heap_alloc w2 _ _ hlt).trans (alloc_kept hb2)
  have hBb : Below w.heap.size w wq := by
    have hb3 : Below w.heap.size w w2 := (hb1.alloc hb1.size _).trans (hb2.mono (by simp; exact Nat.le_succ_of_le hb1.size))
    rw [← hwq]; exact hb3.alloc hb3.size _
  obtain ⟨gq, hgq⟩ : ∃ g, w2.heap.size = g := ⟨_, rfl⟩
  obtain ⟨gp, hgp2⟩ : ∃ g, w1.heap.size = g := ⟨_, rfl⟩
  simp only [hwq, hgq, hgp2]
  rw [hgq] at hQ hlt
  rw [hgp2] at hP hlt
  clear hwq hgq hgp2 hb1 hb2
  clear w1 w2
  obtain ⟨p0, p1, p2, p3⟩ := cells_four hP
  obtain ⟨q0, q1, q2, q3⟩ := cells_four hQ
  clear hP hQ
  rcases hK1 with rfl | rfl | rfl | rfl
  · go_wp2
    go_ret
    exact ⟨by rw [HE.out ()]; simp, hBb⟩
  · rcases hK2 with rfl | rfl | rfl | rfl
    · go_wp2
      go_ret
      exact ⟨by rw [HE.out ()]; simp, hBb⟩
    · go_wp2
      go_ret
      exact ⟨by rw [HE.out ()]; simp, hBb⟩
    · go_wp2
      go_ret
      exact ⟨by rw [HE.out ()]; simp, hBb⟩
    · go_wp2
      go_ret
      exact ⟨by rw [HE.out ()]; simp, hBb⟩
  · rcases hK2 with rfl | rfl | rfl | rfl
    · go_wp2
      go_ret
      exact ⟨by rw [HE.out ()]; simp, hBb⟩
    · go_wp2
      go_ret
      exact ⟨by rw [HE.out ()]; simp, hBb⟩
    · go_wp2
      go_ret
      exact ⟨by rw [HE.out ()]; simp, hBb⟩
    · go_wp2
      go_ret
      exact ⟨by rw [HE.out ()]; simp, hBb⟩
  · rcases hK2 with rfl | rfl | rfl | rfl
    · go_wp2
      go_ret
      exact ⟨by rw [HE.out ()]; simp, hBb⟩
    · go_wp2
      go_ret
      exact ⟨by rw [HE.out ()]; simp, hBb⟩
    · go_wp2
      go_ret
      exact ⟨by rw [HE.out ()]; simp, hBb⟩
    · exact (HN.out () rfl rfl).elim
end Go.Proofs.YtcdbifcidaafnaaGreatDoor
