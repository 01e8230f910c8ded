/-
  Part 11 of what is proved of drawn right trees.
-/
import Derived.Test.YtcdbifcidaafnaaGreatDoorPaj
import Derived.Deep.QuietTactic
import Derived.BigQuiet
import Derived.Test.YtcdbifcidaafnaaGreatDoorPac
import Derived.Test.YtcdbifcidaafnaaGreatDoorPaa
import Derived.Test.YtcdbifcidaafnaaGreatDoorPah
import Derived.Deep.RegionHeld3

namespace Go.Proofs.YtcdbifcidaafnaaGreatDoor
open Go.RowKit
set_option linter.unusedVariables false
theorem rest_more {m n j : Nat} : m * 2 ^ j % n * 2 % n = m * 2 ^ (j + 1) % n := by
  rw [Nat.pow_succ, ← Nat.mul_assoc, Nat.mul_mod (m * 2 ^ j) 2 n, Nat.mul_mod (m * 2 ^ j % n) 2 n, Nat.mod_mod]
theorem rest_up {m n D : Nat} {e f : Int} (h : e = f + D) : restN m e n f = roundN (m * 2 ^ D % n) f false := by
  unfold restN
  rw [(by omega : min e f = f), (by omega : (e - f).toNat = D), (by omega : (f - f).toNat = 0), Nat.pow_zero, Nat.mul_one]
theorem rest_down {m n D : Nat} {e f : Int} (h : f = e + D) : restN m e n f = roundN (m % (n * 2 ^ D)) e false := by
  unfold restN
  rw [(by omega : min e f = e), (by omega : (f - e).toNat = D), (by omega : (e - e).toNat = 0), Nat.pow_zero, Nat.mul_one]
theorem rest_less {m n j D : Nat} (hj : j ≤ D) (h : m < n * 2 ^ j) : m % (n * 2 ^ D) = m := by
  refine Nat.mod_eq_of_lt (Nat.lt_of_lt_of_le h (Nat.mul_le_mul_left _ (Nat.pow_le_pow_right (by decide) hj)))
set_option maxHeartbeats 2000000 in
set_option maxRecDepth 100000 in
theorem specRem_fin (a b : Nat) (w : World) (ha : a < 18446744073709551616) (hb : b < 18446744073709551616) (ka : kindN a = 4) (kb : kindN b = 4) :
    Calls Tryz.prog 40 #[.int .u64 a, .int .u64 b] w fun e w' => e = .returned (.int .u64 (remN a b : Nat)) ∧ Below w.heap.size w w' := by
  have cA := fun W => specParts_any a W ha
  have cB := fun W => specParts_any b W hb
  unfold partsV at cA cB
  obtain ⟨k1, hk1⟩ : ∃ k, kindN a = k := ⟨_, rfl⟩
  obtain ⟨k2, hk2⟩ : ∃ k, kindN b = k := ⟨_, rfl⟩
  obtain ⟨s1, hs1⟩ : ∃ k, belowN a = k := ⟨_, rfl⟩
  obtain ⟨s2, hs2⟩ : ∃ k, belowN b = k := ⟨_, rfl⟩
  obtain ⟨m1, hm1⟩ : ∃ k, mantN a = k := ⟨_, rfl⟩
  obtain ⟨m2, hm2⟩ : ∃ k, mantN b = k := ⟨_, rfl⟩
  obtain ⟨e1, he1⟩ : ∃ k, expN a = k := ⟨_, rfl⟩
  obtain ⟨e2, he2⟩ : ∃ k, expN b = k := ⟨_, rfl⟩
  have HD : Hid (Unit → remN a b = remP a k1 k2 s1 m1 m2 e1 e2) := fun _ => by rw [remN, hk1, hk2, hs1, hm1, hm2, he1, he2]
  rw [hk1, hs1, hm1, he1] at cA
  rw [hk2, hs2, hm2, he2] at cB
  have HA : Hid (Unit → signN s1 (roundN m1 e1 false) = a) := fun _ => by rw [← hs1, ← hm1, ← he1]; exact round_parts false ka ha
  have HF1 : Hid (Unit → Fin1 k1 m1 e1) := fun _ => by rw [← hk1, ← hm1, ← he1]; exact fin1_of a
  have HF2 : Hid (Unit → Fin1 k2 m2 e2) := fun _ => by rw [← hk2, ← hm2, ← he2]; exact fin1_of b
  obtain ⟨R, hR⟩ : ∃ R, remN a b = R := ⟨_, rfl⟩
  rw [hR] at HD ⊢
  have HK1 : Hid (Unit → k1 = 4) := fun _ => hk1.symm.trans ka
  have HK2 : Hid (Unit → k2 = 4) := fun _ => hk2.symm.trans kb
  clear hR hk1 hk2 ka kb hs1 hs2 hm1 hm2 he1 he2 ha hb
  go_enter Tryz.func40, Tryz.ntmps40
  go_wp2_with fail
  refine (cA _).mono ?_
  rintro e w1 ⟨rfl, hb1⟩
  clear cA
  go_wp2_with fail
  refine (cB _).mono ?_
  rintro e w2 ⟨rfl, hb2⟩
  clear cB
  go_upto_region 3 with fail
  have hlt : w1.heap.size < w2.heap.size := by have := hb2.size; simp at this; omega
  obtain ⟨wq, hwq⟩ : ∃ wq, w2.alloc (.cells #[.int .i64 k2, .bool s2, .int .u64 m2, .int .i64 e2] 62) = wq := ⟨_, rfl⟩
  have hQ : wq.heap[w2.heap.size]? = some (.cells #[.int .i64 k2, .bool s2, .int .u64 m2, .int .i64 e2] 62) := by rw [← hwq]; exact heap_alloc_new _ _
  have hP : wq.heap[w1.heap.size]? = some (.cells #[.int .i64 k1, .bool s1, .int .u64 m1, .int .i64 e1] 62) := by rw [← hwq]; exact (Below.heap_alloc w2 _ _ hlt).trans (alloc_kept hb2)
  have hBb : Below w.heap.size w wq := by
    have hb3 : Below w.heap.size w w2 := (hb1.alloc hb1.size _).trans (hb2.mono (by simp; exact Nat.le_succ_of_le hb1.size))
    rw [← hwq]; exact hb3.alloc hb3.size _
  obtain ⟨gq, hgq⟩ : ∃ g, w2.heap.size = g := ⟨_, rfl⟩
  obtain ⟨gp, hgp2⟩ : ∃ g, w1.heap.size = g := ⟨_, rfl⟩
  simp only [hwq, hgq, hgp2]
  rw [hgq] at hQ hlt
  rw [hgp2] at hP hlt
  clear hwq hgq hgp2 hb1 hb2
  clear w1 w2
  obtain ⟨p0, p1, p2, p3⟩ := cells_four hP
  obtain ⟨q0, q1, q2, q3⟩ := cells_four hQ
  clear hP hQ
  have hk1 := HK1.out ()
  have hk2 := HK2.out ()
  subst hk1 hk2
  clear HK1 HK2
  have HE : Hid (Unit → R = signN s1 (restN m1 e1 m2 e2)) := fun _ => by rw [HD.out ()]; simp [remP]
  have f1 := HF1.out ()
  have f2 := HF2.out ()
  have b1 := f1.lo
  have b2 := f1.hi
  have b3 := f2.lo
  have b4 := f2.hi
  have M1 : (m1 : Int) < 9007199254740992 := by have := f1.lt; omega
  have M2 : (m2 : Int) < 9007199254740992 := by have := f2.lt; omega
  have hp2 := f2.pos rfl
  have HP2 : Hid (Unit → m2 ≠ 0) := fun _ => hp2
  have z2 : ((m2 : Int) == 0) = false := by rw [beq_eq_false_iff_ne]; omega
  clear HD HF1 HF2 f1 f2
  by_cases hle : e2 ≤ e1
  · obtain ⟨D, hD⟩ : ∃ D : Nat, e1 = e2 + D := ⟨(e1 - e2).toNat, by omega⟩
    have HR : Hid (Unit → R = signN s1 (roundN (m1 * 2 ^ D % m2) e2 false)) := fun _ => by rw [HE.out (), rest_up hD]
    have HDD : Hid (Unit → e1 = e2 + D) := fun _ => hD
    clear hD HE
    go_upto_region 11 with fail
    go_loop [7, 8] (fun x7 x8 => ∃ (j X : Nat) (I : Int), x7 = .int .u64 X ∧ x8 = .int .i64 I ∧ (X : Int) < 9007199254740992 ∧ e2 ≤ I ∧ I ≤ e1 ∧ Hid (Unit → X = m1 * 2 ^ j % m2 ∧ I = e2 + j)) (fun _ x8 => (e1 - intOf x8).toNat)
    case atStart => exact ⟨0, m1 % m2, e2, by go_num, rfl, by have := Nat.mod_lt m1 (by have := HP2.out (); omega : 0 < m2); omega, by omega, hle, fun _ => ⟨by simp, by simp⟩⟩
    case round =>
      obtain ⟨j, X, I, rfl, rfl, hX, I1, I2, HI⟩ := hrel
      by_cases hlt : I < e1
      · go_wp2
        go_round
        case rel => exact ⟨j + 1, X * 2 % m2, I + 1, by go_num, by go_num, by have := Nat.mod_lt (X * 2) (by have := HP2.out (); omega : 0 < m2); omega, by omega, by omega, fun _ => ⟨by rw [(HI.out ()).1, rest_more], by have := (HI.out ()).2; omega⟩⟩
        case measure => simp [intOf]; omega
      · have hlt' : decide (I < e1) = false := by simp; omega
        have cR : ∀ W, Calls Tryz.prog 57 #[.bool s1, .int .u64 X, .int .i64 e2, .bool false] W fun e w' => e = .returned (.int .u64 (R : Nat)) ∧ W = w' := fun W => by
          obtain ⟨x1, x2⟩ := HI.out ()
          have hD := HDD.out ()
          have hj : j = D := by omega
          subst hj
          have h := specRound_any s1 false X e2 W (by omega) (by omega) (by omega)
          rw [Bool.false_and, x1, ← HR.out (), ← x1] at h
          exact h
        clear HI
        go_wp2_with (go_at_call 57; refine (cR _).mono ?_; rintro e w' ⟨rfl, rfl⟩)
        go_ret
        exact ⟨rfl, hBb⟩
  · have hle' : decide (e2 ≤ e1) = false := by simp; omega
    obtain ⟨D, hD⟩ : ∃ D : Nat, e2 = e1 + D := ⟨(e2 - e1).toNat, by omega⟩
    have HR : Hid (Unit → R = signN s1 (roundN (m1 % (m2 * 2 ^ D)) e1 false)) := fun _ => by rw [HE.out (), rest_down hD]
    have HDD : Hid (Unit → e2 = e1 + D) := fun _ => hD
    have hle2 : e1 ≤ e2 := by omega
    clear hD HE hle
    go_upto_region 17 with fail
    go_loop [9, 10] (fun x9 x10 => ∃ (j X : Nat) (I : Int), x9 = .int .u64 X ∧ x10 = .int .i64 I ∧ (X : Int) < 18014398509481984 ∧ e1 ≤ I ∧ I ≤ e2 ∧ Hid (Unit → X = m2 * 2 ^ j ∧ I = e1 + j)) (fun _ x10 => (e2 - intOf x10).toNat)
    case atStart => exact ⟨0, m2, e1, rfl, rfl, by omega, by omega, hle2, fun _ => ⟨by simp, by simp⟩⟩
    case round =>
      obtain ⟨j, X, I, rfl, rfl, hX, I1, I2, HI⟩ := hrel
      by_cases hlt : I < e2
      · by_cases hm : m1 < X
        · have HZ : Hid (Unit → R = a) := fun _ => by
            obtain ⟨x1, x2⟩ := HI.out ()
            have hD := HDD.out ()
            rw [HR.out (), rest_less (j := j) (by omega) (by omega)]
            exact HA.out ()
          clear HI
          go_wp2
          go_ret
          exact ⟨by rw [HZ.out ()]; rfl, hBb⟩
        · have hm' : decide (m1 < X) = false := by simp; omega
          go_wp2
          go_round
          case rel => exact ⟨j + 1, X * 2, I + 1, by go_num, by go_num, by omega, by omega, by omega, fun _ => ⟨by rw [(HI.out ()).1, Nat.pow_succ, Nat.mul_assoc], by have := (HI.out ()).2; omega⟩⟩
          case measure => simp [intOf]; omega
      · have hlt' : decide (I < e2) = false := by simp; omega
        have hX0 : X ≠ 0 := by
          rw [(HI.out ()).1]
          exact Nat.mul_ne_zero (HP2.out ()) (by have := Nat.two_pow_pos j; omega)
        have zX : ((X : Int) == 0) = false := by rw [beq_eq_false_iff_ne]; omega
        have cR : ∀ W, Calls Tryz.prog 57 #[.bool s1, .int .u64 ((m1 : Int) % X), .int .i64 e1, .bool false] W fun e w' => e = .returned (.int .u64 (R : Nat)) ∧ W = w' := fun W => by
          obtain ⟨x1, x2⟩ := HI.out ()
          have hD := HDD.out ()
          have hj : j = D := by omega
          subst hj
          have hmod : m1 % X ≤ m1 := Nat.mod_le _ _
          have h := specRound_any s1 false (m1 % X) e1 W (by omega) (by omega) (by omega)
          have x3 : R = signN s1 (roundN (m1 % X) e1 false) := by rw [HR.out (), x1]
          have x4 : ((m1 % X : Nat) : Int) = (m1 : Int) % X := by simp
          rw [Bool.false_and, ← x3, x4] at h
          exact h
        clear HI
        have qR := fun (W : World) (n : Nat) => Calls.quiet_of_same ((cR (W.drewN n)).mono (by rintro e w' ⟨rfl, rfl⟩; exact ⟨rfl, rfl⟩))
        go_wp2_with fail
        go_quiet (exact qR _ _)
        go_wp2
        go_ret
        exact ⟨rfl, below_drewN hBb _⟩
end Go.Proofs.YtcdbifcidaafnaaGreatDoor
namespace Go.Proofs.YtcdbifcidaafnaaGreatDoor
open Go.RowKit
set_option linter.unusedVariables false
set_option maxHeartbeats 4000000 in
set_option maxRecDepth 100000 in
theorem specRem_any (a b : Nat) (w : World) (ha : a < 18446744073709551616) (hb : b < 18446744073709551616) :
    Calls Tryz.prog 40 #[.int .u64 a, .int .u64 b] w fun e w' => e = .returned (.int .u64 (remN a b : Nat)) ∧ Below w.heap.size w w' := by
  by_cases hkk : kindN a = 4 ∧ kindN b = 4
  · exact specRem_fin a b w ha hb hkk.1 hkk.2
  have cA := fun W => specParts_any a W ha
  have cB := fun W => specParts_any b W hb
  unfold partsV at cA cB
  obtain ⟨k1, hk1⟩ : ∃ k, kindN a = k := ⟨_, rfl⟩
  obtain ⟨k2, hk2⟩ : ∃ k, kindN b = k := ⟨_, rfl⟩
  obtain ⟨s1, hs1⟩ : ∃ k, belowN a = k := ⟨_, rfl⟩
  obtain ⟨s2, hs2⟩ : ∃ k, belowN b = k := ⟨_, rfl⟩
  obtain ⟨m1, hm1⟩ : ∃ k, mantN a = k := ⟨_, rfl⟩
  obtain ⟨m2, hm2⟩ : ∃ k, mantN b = k := ⟨_, rfl⟩
  obtain ⟨e1, he1⟩ : ∃ k, expN a = k := ⟨_, rfl⟩
  obtain ⟨e2, he2⟩ : ∃ k, expN b = k := ⟨_, rfl⟩
  have HD : Hid (Unit → remN a b = remP a k1 k2 s1 m1 m2 e1 e2) := fun _ => by rw [remN, hk1, hk2, hs1, hm1, hm2, he1, he2]
  have hK1 := kindN_cases a
  have hK2 := kindN_cases b
  rw [hk1] at hK1
  rw [hk2] at hK2
  rw [hk1, hs1, hm1, he1] at cA
  rw [hk2, hs2, hm2, he2] at cB
  have HF1 : Hid (Unit → Fin1 k1 m1 e1) := fun _ => by rw [← hk1, ← hm1, ← he1]; exact fin1_of a
  have HF2 : Hid (Unit → Fin1 k2 m2 e2) := fun _ => by rw [← hk2, ← hm2, ← he2]; exact fin1_of b
  obtain ⟨R, hR⟩ : ∃ R, remN a b = R := ⟨_, rfl⟩
  rw [hR] at HD ⊢
  have HN : Hid (Unit → k1 = 4 → k2 = 4 → False) := fun _ h1 h2 => hkk ⟨hk1.trans h1, hk2.trans h2⟩
  have HE : Hid (Unit → R = if k1 = 1 ∨ k2 = 1 ∨ k1 = 2 ∨ k2 = 3 then 9221120237041090560 else a) := fun _ => by
    rw [HD.out (), remP]
    split
    · rfl
    · have := HN.out ()
      rw [if_pos (by omega)]
  clear HD HF1 HF2 hkk hR hk1 hk2 hs1 hs2 hm1 hm2 he1 he2 ha hb
  go_enter Tryz.func40, Tryz.ntmps40
  go_wp2_with fail
  refine (cA _).mono ?_
  rintro e w1 ⟨rfl, hb1⟩
  clear cA
  go_wp2_with fail
  refine (cB _).mono ?_
  rintro e w2 ⟨rfl, hb2⟩
  clear cB
  go_upto_region 3 with fail
  have hlt : w1.heap.size < w2.heap.size := by have := hb2.size; simp at this; omega
  obtain ⟨wq, hwq⟩ : ∃ wq, w2.alloc (.cells #[.int .i64 k2, .bool s2, .int .u64 m2, .int .i64 e2] 62) = wq := ⟨_, rfl⟩
  have hQ : wq.heap[w2.heap.size]? = some (.cells #[.int .i64 k2, .bool s2, .int .u64 m2, .int .i64 e2] 62) := by rw [← hwq]; exact heap_alloc_new _ _
  have hP : wq.heap[w1.heap.size]? = some (.cells #[.int .i64 k1, .bool s1, .int .u64 m1, .int .i64 e1] 62) := by rw [← hwq]; exact (Below.heap_alloc w2 _ _ hlt).trans (alloc_kept hb2)
  have hBb : Below w.heap.size w wq := by
    have hb3 : Below w.heap.size w w2 := (hb1.alloc hb1.size _).trans (hb2.mono (by simp; exact Nat.le_succ_of_le hb1.size))
    rw [← hwq]; exact hb3.alloc hb3.size _
  obtain ⟨gq, hgq⟩ : ∃ g, w2.heap.size = g := ⟨_, rfl⟩
  obtain ⟨gp, hgp2⟩ : ∃ g, w1.heap.size = g := ⟨_, rfl⟩
  simp only [hwq, hgq, hgp2]
  rw [hgq] at hQ hlt
  rw [hgp2] at hP hlt
  clear hwq hgq hgp2 hb1 hb2
  clear w1 w2
  obtain ⟨p0, p1, p2, p3⟩ := cells_four hP
  obtain ⟨q0, q1, q2, q3⟩ := cells_four hQ
  clear hP hQ
  rcases hK1 with rfl | rfl | rfl | rfl
  · go_wp2
    go_ret
    exact ⟨by rw [HE.out ()]; simp, hBb⟩
  · rcases hK2 with rfl | rfl | rfl | rfl
    · go_wp2
      go_ret
      exact ⟨by rw [HE.out ()]; simp, hBb⟩
    · go_wp2
      go_ret
      exact ⟨by rw [HE.out ()]; simp, hBb⟩
    · go_wp2
      go_ret
      exact ⟨by rw [HE.out ()]; simp, hBb⟩
    · go_wp2
      go_ret
      exact ⟨by rw [HE.out ()]; simp, hBb⟩
  · rcases hK2 with rfl | rfl | rfl | rfl
    · go_wp2
      go_ret
      exact ⟨by rw [HE.out ()]; simp, hBb⟩
    · go_wp2
      go_ret
      exact ⟨by rw [HE.out ()]; simp, hBb⟩
    · go_wp2
      go_ret
      exact ⟨by rw [HE.out ()]; simp, hBb⟩
    · go_wp2
      go_ret
      exact ⟨by rw [HE.out ()]; simp, hBb⟩
  · rcases hK2 with rfl | rfl | rfl | rfl
    · go_wp2
      go_ret
      exact ⟨by rw [HE.out ()]; simp, hBb⟩
    · go_wp2
      go_ret
      exact ⟨by rw [HE.out ()]; simp, hBb⟩
    · go_wp2
      go_ret
      exact ⟨by rw [HE.out ()]; simp, hBb⟩
    · exact (HN.out () rfl rfl).elim
end Go.Proofs.YtcdbifcidaafnaaGreatDoor
namespace Go.Proofs.YtcdbifcidaafnaaGreatDoor
open Go.RowKit Go.Sort
set_option linter.unusedVariables false
theorem three_made (w : World) (o1 o2 o3 : Obj) : (((w.alloc o1).alloc o2).alloc o3).heap[w.heap.size]? = some o1 ∧ (((w.alloc o1).alloc o2).alloc o3).heap[w.heap.size + 1]? = some o2 ∧ (((w.alloc o1).alloc o2).alloc o3).heap[w.heap.size + 2]? = some o3 ∧ (((w.alloc o1).alloc o2).alloc o3).heap.size = w.heap.size + 3 ∧ Below w.heap.size w (((w.alloc o1).alloc o2).alloc o3) := by
  have z1 : (w.alloc o1).heap.size = w.heap.size + 1 := by simp
  have z2 : ((w.alloc o1).alloc o2).heap.size = w.heap.size + 2 := by simp
  refine ⟨?_, ?_, ?_, by simp, (((Below.refl _ _).alloc (Nat.le_refl _) _).alloc (by simp) _).alloc (by simp; omega) _⟩
  · rw [heap_alloc_old (r := w.heap.size) _ _ (by omega), heap_alloc_old (r := w.heap.size) _ _ (by omega)]
    exact heap_alloc_new _ _
  · rw [heap_alloc_old (r := w.heap.size + 1) _ _ (by omega), ← z1]
    exact heap_alloc_new _ _
  · rw [← z2]
    exact heap_alloc_new _ _
theorem third_ready {w W w1 : World} {a0 a1 a2 a3 b0 b1 b2 b3 : Value} {t : TypeId} (t2 : W.heap[w.heap.size + 2]? = some (.cells #[a0, a1, a2, a3] t)) (tz : W.heap.size = w.heap.size + 3) (tb : Below w.heap.size w W) (h : Below W.heap.size W w1) :
    (w1.cell? ⟨w.heap.size + 1 + 1, 0, none⟩ = some a0 ∧ w1.cell? ⟨w.heap.size + 1 + 1, 1, none⟩ = some a1 ∧ w1.cell? ⟨w.heap.size + 1 + 1, 2, none⟩ = some a2 ∧ w1.cell? ⟨w.heap.size + 1 + 1, 3, none⟩ = some a3) ∧ (∀ j, w1.frozen? ⟨w.heap.size + 1 + 1, j, none⟩ = false) ∧
    (((((w1.setCell ⟨w.heap.size + 1 + 1, 0, none⟩ b0).setCell ⟨w.heap.size + 1 + 1, 1, none⟩ b1).setCell ⟨w.heap.size + 1 + 1, 2, none⟩ b2).setCell ⟨w.heap.size + 1 + 1, 3, none⟩ b3).cell? ⟨w.heap.size + 1 + 1, 0, none⟩ = some b0 ∧ ((((w1.setCell ⟨w.heap.size + 1 + 1, 0, none⟩ b0).setCell ⟨w.heap.size + 1 + 1, 1, none⟩ b1).setCell ⟨w.heap.size + 1 + 1, 2, none⟩ b2).setCell ⟨w.heap.size + 1 + 1, 3, none⟩ b3).cell? ⟨w.heap.size + 1 + 1, 1, none⟩ = some b1 ∧ ((((w1.setCell ⟨w.heap.size + 1 + 1, 0, none⟩ b0).setCell ⟨w.heap.size + 1 + 1, 1, none⟩ b1).setCell ⟨w.heap.size + 1 + 1, 2, none⟩ b2).setCell ⟨w.heap.size + 1 + 1, 3, none⟩ b3).cell? ⟨w.heap.size + 1 + 1, 2, none⟩ = some b2 ∧ ((((w1.setCell ⟨w.heap.size + 1 + 1, 0, none⟩ b0).setCell ⟨w.heap.size + 1 + 1, 1, none⟩ b1).setCell ⟨w.heap.size + 1 + 1, 2, none⟩ b2).setCell ⟨w.heap.size + 1 + 1, 3, none⟩ b3).cell? ⟨w.heap.size + 1 + 1, 3, none⟩ = some b3) ∧
    Below w.heap.size w ((((w1.setCell ⟨w.heap.size + 1 + 1, 0, none⟩ b0).setCell ⟨w.heap.size + 1 + 1, 1, none⟩ b1).setCell ⟨w.heap.size + 1 + 1, 2, none⟩ b2).setCell ⟨w.heap.size + 1 + 1, 3, none⟩ b3) :=
  four_ready (G := w.heap.size + 1 + 1) ((h.block (w.heap.size + 2) (by omega)).trans t2) (tb.trans (h.mono (by omega))) (by omega)
set_option maxHeartbeats 1000000 in
set_option maxRecDepth 100000 in
theorem doB_10 (k k' : Int) (x x' : Nat) (s s' : ByteArray) (r r' : Int) (w : World) (b : Bool) (N : Nat) (hN : bitN (b) = N)
    (cS : ∀ W, Calls Tryz.prog 29 #[.agg #[.int .i64 k, .int .u64 (x : Int), .string s, .int .i64 r], .agg #[.int .i64 k', .int .u64 (x' : Int), .string s', .int .i64 r']] W fun e w' => e = .returned (.bool b) ∧ Below W.heap.size W w') :
    Calls Tryz.prog 11 #[.int .i64 10, .agg #[.int .i64 k, .int .u64 (x : Int), .string s, .int .i64 r], .agg #[.int .i64 k', .int .u64 (x' : Int), .string s', .int .i64 r']] w fun e w' => e = .returned (.tuple #[.agg #[.int .i64 1, .int .u64 (N : Int), .string ⟨#[]⟩, .int .i64 0], .string ⟨#[]⟩]) ∧ Below w.heap.size w w' := by
  have cB := fun W => l17Bool_any (b) W
  simp only [hN] at cB
  clear hN
  obtain ⟨t0, t1, t2, tz, tb⟩ := three_made w (.cells #[.int .i64 k, .int .u64 (x : Int), .string s, .int .i64 r] 26) (.cells #[.int .i64 k', .int .u64 (x' : Int), .string s', .int .i64 r'] 26) (.cells #[.int .i64 0, .int .u64 0, .string ⟨#[]⟩, .int .i64 0] 26)
  go_enter Tryz.func11, Tryz.ntmps11
  go_wp2_with (go_at_call 29; refine (cS _).mono ?_; rintro e w1 ⟨rfl, b1⟩)
  all_goals skip
  refine (cB _).mono ?_
  rintro e w2 ⟨rfl, b2⟩
  obtain ⟨⟨c0, c1, c2, c3⟩, fz, ⟨g0, g1, g2, g3⟩, hbe⟩ := third_ready (w1 := w2) (b0 := .int .i64 1) (b1 := .int .u64 (N : Int)) (b2 := .string ⟨#[]⟩) (b3 := .int .i64 0) t2 tz tb (chain b1 b2)
  clear t0 t1 t2 tz tb
  go_wp2
  refine bodyPost_ret (by simp [results, Tryz.results11, go_sem, g0, g1, g2, g3]; try rfl) rfl ?_
  exact ⟨rfl, hbe⟩
set_option maxHeartbeats 1000000 in
set_option maxRecDepth 100000 in
theorem doB_11 (k k' : Int) (x x' : Nat) (s s' : ByteArray) (r r' : Int) (w : World) (b : Bool) (N : Nat) (hN : bitN (!b) = N)
    (cS : ∀ W, Calls Tryz.prog 29 #[.agg #[.int .i64 k, .int .u64 (x : Int), .string s, .int .i64 r], .agg #[.int .i64 k', .int .u64 (x' : Int), .string s', .int .i64 r']] W fun e w' => e = .returned (.bool b) ∧ Below W.heap.size W w') :
    Calls Tryz.prog 11 #[.int .i64 11, .agg #[.int .i64 k, .int .u64 (x : Int), .string s, .int .i64 r], .agg #[.int .i64 k', .int .u64 (x' : Int), .string s', .int .i64 r']] w fun e w' => e = .returned (.tuple #[.agg #[.int .i64 1, .int .u64 (N : Int), .string ⟨#[]⟩, .int .i64 0], .string ⟨#[]⟩]) ∧ Below w.heap.size w w' := by
  have cB := fun W => l17Bool_any (!b) W
  simp only [hN] at cB
  clear hN
  obtain ⟨t0, t1, t2, tz, tb⟩ := three_made w (.cells #[.int .i64 k, .int .u64 (x : Int), .string s, .int .i64 r] 26) (.cells #[.int .i64 k', .int .u64 (x' : Int), .string s', .int .i64 r'] 26) (.cells #[.int .i64 0, .int .u64 0, .string ⟨#[]⟩, .int .i64 0] 26)
  go_enter Tryz.func11, Tryz.ntmps11
  go_wp2_with (go_at_call 29; refine (cS _).mono ?_; rintro e w1 ⟨rfl, b1⟩)
  all_goals skip
  refine (cB _).mono ?_
  rintro e w2 ⟨rfl, b2⟩
  obtain ⟨⟨c0, c1, c2, c3⟩, fz, ⟨g0, g1, g2, g3⟩, hbe⟩ := third_ready (w1 := w2) (b0 := .int .i64 1) (b1 := .int .u64 (N : Int)) (b2 := .string ⟨#[]⟩) (b3 := .int .i64 0) t2 tz tb (chain b1 b2)
  clear t0 t1 t2 tz tb
  go_wp2
  refine bodyPost_ret (by simp [results, Tryz.results11, go_sem, g0, g1, g2, g3]; try rfl) rfl ?_
  exact ⟨rfl, hbe⟩
set_option maxHeartbeats 1000000 in
set_option maxRecDepth 100000 in
theorem doB_text_order (op : Int) (h10 : ¬ op = 10) (h11 : ¬ op = 11) (x x' : Nat) (s s' : ByteArray) (r r' : Int) (w : World) (ho : inB op 6 9 = true) (N : Nat) (hN : bitN (orderB op (Op.bytesLess s.toList s'.toList) (s.toList == s'.toList) false) = N) :
    Calls Tryz.prog 11 #[.int .i64 op, .agg #[.int .i64 3, .int .u64 (x : Int), .string s, .int .i64 r], .agg #[.int .i64 3, .int .u64 (x' : Int), .string s', .int .i64 r']] w fun e w' => e = .returned (.tuple #[.agg #[.int .i64 1, .int .u64 (N : Int), .string ⟨#[]⟩, .int .i64 0], .string ⟨#[]⟩]) ∧ Below w.heap.size w w' := by
  have cI := fun W => l01In_b op 6 9 W
  simp only [ho] at cI
  clear ho
  have cB := fun W => l17Order_any op (Op.bytesLess s.toList s'.toList) (s.toList == s'.toList) false W
  simp only [hN] at cB
  clear hN
  obtain ⟨t0, t1, t2, tz, tb⟩ := three_made w (.cells #[.int .i64 3, .int .u64 (x : Int), .string s, .int .i64 r] 26) (.cells #[.int .i64 3, .int .u64 (x' : Int), .string s', .int .i64 r'] 26) (.cells #[.int .i64 0, .int .u64 0, .string ⟨#[]⟩, .int .i64 0] 26)
  go_enter Tryz.func11, Tryz.ntmps11
  go_wp2_with (go_at_call 30; with_reducible refine (cI _).mono ?_; rintro e w' ⟨rfl, rfl⟩)
  refine (cB _).mono ?_
  rintro e w2 ⟨rfl, b2⟩
  obtain ⟨⟨c0, c1, c2, c3⟩, fz, ⟨g0, g1, g2, g3⟩, hbe⟩ := third_ready (w1 := w2) (b0 := .int .i64 1) (b1 := .int .u64 (N : Int)) (b2 := .string ⟨#[]⟩) (b3 := .int .i64 0) t2 tz tb (b2)
  clear t0 t1 t2 tz tb
  go_wp2
  refine bodyPost_ret (by simp [results, Tryz.results11, go_sem, g0, g1, g2, g3]; try rfl) rfl ?_
  exact ⟨rfl, hbe⟩
set_option maxHeartbeats 1000000 in
set_option maxRecDepth 100000 in
theorem doB_text_long (x x' : Nat) (s s' : ByteArray) (r r' : Int) (w : World) (hl : 200 < s.size + s'.size) (hs : s.size ≤ 4611686018427387904) (hs' : s'.size ≤ 4611686018427387903) :
    Calls Tryz.prog 11 #[.int .i64 1, .agg #[.int .i64 3, .int .u64 (x : Int), .string s, .int .i64 r], .agg #[.int .i64 3, .int .u64 (x' : Int), .string s', .int .i64 r']] w fun e w' => e = .returned (.tuple #[.agg #[.int .i64 0, .int .u64 0, .string ⟨#[]⟩, .int .i64 0], .string ⟨#[108, 111, 110, 103]⟩]) ∧ Below w.heap.size w w' := by
  have cI := fun W => l01In_b 1 6 9 W
  have ho : inB 1 6 9 = false := by decide
  simp only [ho] at cI
  clear ho
  have z : (200 : Int) < (s.size : Int) + (s'.size : Int) := by omega
  go_enter Tryz.func11, Tryz.ntmps11
  go_wp2_with (go_at_call 30; with_reducible refine (cI _).mono ?_; rintro e w' ⟨rfl, rfl⟩)
  go_returns
  exact ⟨rfl, by go_grown⟩
set_option maxHeartbeats 1000000 in
set_option maxRecDepth 100000 in
theorem doB_text_add (x x' : Nat) (s s' : ByteArray) (r r' : Int) (w : World) (hl : ¬ 200 < s.size + s'.size) :
    Calls Tryz.prog 11 #[.int .i64 1, .agg #[.int .i64 3, .int .u64 (x : Int), .string s, .int .i64 r], .agg #[.int .i64 3, .int .u64 (x' : Int), .string s', .int .i64 r']] w fun e w' => e = .returned (.tuple #[.agg #[.int .i64 3, .int .u64 0, .string (s ++ s'), .int .i64 0], .string ⟨#[]⟩]) ∧ Below w.heap.size w w' := by
  have cI := fun W => l01In_b 1 6 9 W
  have ho : inB 1 6 9 = false := by decide
  simp only [ho] at cI
  clear ho
  have z : ¬ (200 : Int) < (s.size : Int) + (s'.size : Int) := by omega
  have z1 : (s.size : Int) ≤ 200 := by omega
  have z2 : (s'.size : Int) ≤ 200 := by omega
  go_enter Tryz.func11, Tryz.ntmps11
  go_wp2_with (go_at_call 30; with_reducible refine (cI _).mono ?_; rintro e w' ⟨rfl, rfl⟩)
  go_returns
  exact ⟨rfl, by go_grown⟩
set_option maxHeartbeats 1000000 in
set_option maxRecDepth 100000 in
theorem doB_text_type (op : Int) (h10 : ¬ op = 10) (h11 : ¬ op = 11) (h1 : ¬ op = 1) (x x' : Nat) (s s' : ByteArray) (r r' : Int) (w : World) (ho : inB op 6 9 = false) :
    Calls Tryz.prog 11 #[.int .i64 op, .agg #[.int .i64 3, .int .u64 (x : Int), .string s, .int .i64 r], .agg #[.int .i64 3, .int .u64 (x' : Int), .string s', .int .i64 r']] w fun e w' => e = .returned (.tuple #[.agg #[.int .i64 0, .int .u64 0, .string ⟨#[]⟩, .int .i64 0], .string ⟨#[116, 121, 112, 101]⟩]) ∧ Below w.heap.size w w' := by
  have cI := fun W => l01In_b op 6 9 W
  simp only [ho] at cI
  clear ho
  have z1 : (op == 1) = false := by rw [beq_eq_false_iff_ne]; exact h1
  go_enter Tryz.func11, Tryz.ntmps11
  go_wp2_with (go_at_call 30; with_reducible refine (cI _).mono ?_; rintro e w' ⟨rfl, rfl⟩)
  go_returns
  exact ⟨rfl, by go_grown⟩
set_option maxHeartbeats 1000000 in
set_option maxRecDepth 100000 in
theorem doB_type (op : Int) (h10 : ¬ op = 10) (h11 : ¬ op = 11) (k k' : Int) (x x' : Nat) (s s' : ByteArray) (r r' : Int) (w : World) (h3 : ¬ (k = 3 ∧ k' = 3)) (h2 : ¬ (k = 2 ∧ k' = 2)) :
    Calls Tryz.prog 11 #[.int .i64 op, .agg #[.int .i64 k, .int .u64 (x : Int), .string s, .int .i64 r], .agg #[.int .i64 k', .int .u64 (x' : Int), .string s', .int .i64 r']] w fun e w' => e = .returned (.tuple #[.agg #[.int .i64 0, .int .u64 0, .string ⟨#[]⟩, .int .i64 0], .string ⟨#[116, 121, 112, 101]⟩]) ∧ Below w.heap.size w w' := by
  have cI := fun W => l01In_b op 6 9 W
  obtain ⟨bo, ho⟩ : ∃ b, inB op 6 9 = b := ⟨_, rfl⟩
  simp only [ho] at cI
  clear ho
  by_cases a3 : k = 3
  · subst a3
    have b3 : ¬ k' = 3 := fun e => h3 ⟨rfl, e⟩
    clear h3 h2
    go_enter Tryz.func11, Tryz.ntmps11
    go_wp2_with (go_at_call 30; with_reducible refine (cI _).mono ?_; rintro e w' ⟨rfl, rfl⟩)
    go_returns
    exact ⟨rfl, by go_grown⟩
  by_cases a2 : k = 2
  · subst a2
    have b2 : ¬ k' = 2 := fun e => h2 ⟨rfl, e⟩
    clear h3 h2
    go_enter Tryz.func11, Tryz.ntmps11
    go_wp2_with (go_at_call 30; with_reducible refine (cI _).mono ?_; rintro e w' ⟨rfl, rfl⟩)
    go_returns
    exact ⟨rfl, by go_grown⟩
  clear h3 h2
  go_enter Tryz.func11, Tryz.ntmps11
  go_wp2_with (go_at_call 30; with_reducible refine (cI _).mono ?_; rintro e w' ⟨rfl, rfl⟩)
  go_returns
  exact ⟨rfl, by go_grown⟩
set_option maxHeartbeats 1000000 in
set_option maxRecDepth 100000 in
theorem doB_num_1 (x x' : Nat) (s s' : ByteArray) (r r' : Int) (w : World) (N : Nat) (cF : ∀ W, Calls Tryz.prog 36 #[.int .u64 (x : Int), .int .u64 (x' : Int)] W fun e w' => e = .returned (.int .u64 (N : Int)) ∧ Below W.heap.size W w') :
    Calls Tryz.prog 11 #[.int .i64 1, .agg #[.int .i64 2, .int .u64 (x : Int), .string s, .int .i64 r], .agg #[.int .i64 2, .int .u64 (x' : Int), .string s', .int .i64 r']] w fun e w' => e = .returned (.tuple #[.agg #[.int .i64 2, .int .u64 (N : Int), .string ⟨#[]⟩, .int .i64 0], .string ⟨#[]⟩]) ∧ Below w.heap.size w w' := by
  have cI := fun W => l01In_b 1 6 9 W
  have ho : inB 1 6 9 = false := by decide
  simp only [ho] at cI
  clear ho
  have cM := fun W => l17Number_any N W
  obtain ⟨t0, t1, t2, tz, tb⟩ := three_made w (.cells #[.int .i64 2, .int .u64 (x : Int), .string s, .int .i64 r] 26) (.cells #[.int .i64 2, .int .u64 (x' : Int), .string s', .int .i64 r'] 26) (.cells #[.int .i64 0, .int .u64 0, .string ⟨#[]⟩, .int .i64 0] 26)
  go_enter Tryz.func11, Tryz.ntmps11
  go_wp2_with (go_at_call 30; with_reducible refine (cI _).mono ?_; rintro e w' ⟨rfl, rfl⟩)
  refine (cF _).mono ?_
  rintro e w1 ⟨rfl, b1⟩
  go_wp2_with fail
  refine (cM _).mono ?_
  rintro e w2 ⟨rfl, b2⟩
  obtain ⟨⟨c0, c1, c2, c3⟩, fz, ⟨g0, g1, g2, g3⟩, hbe⟩ := third_ready (w1 := w2) (b0 := .int .i64 2) (b1 := .int .u64 (N : Int)) (b2 := .string ⟨#[]⟩) (b3 := .int .i64 0) t2 tz tb (chain b1 b2)
  clear t0 t1 t2 tz tb
  go_wp2
  refine bodyPost_ret (by simp [results, Tryz.results11, go_sem, g0, g1, g2, g3]; try rfl) rfl ?_
  exact ⟨rfl, hbe⟩
set_option maxHeartbeats 1000000 in
set_option maxRecDepth 100000 in
theorem doB_num_2 (x x' : Nat) (s s' : ByteArray) (r r' : Int) (w : World) (N : Nat) (cF : ∀ W, Calls Tryz.prog 37 #[.int .u64 (x : Int), .int .u64 (x' : Int)] W fun e w' => e = .returned (.int .u64 (N : Int)) ∧ Below W.heap.size W w') :
    Calls Tryz.prog 11 #[.int .i64 2, .agg #[.int .i64 2, .int .u64 (x : Int), .string s, .int .i64 r], .agg #[.int .i64 2, .int .u64 (x' : Int), .string s', .int .i64 r']] w fun e w' => e = .returned (.tuple #[.agg #[.int .i64 2, .int .u64 (N : Int), .string ⟨#[]⟩, .int .i64 0], .string ⟨#[]⟩]) ∧ Below w.heap.size w w' := by
  have cI := fun W => l01In_b 2 6 9 W
  have ho : inB 2 6 9 = false := by decide
  simp only [ho] at cI
  clear ho
  have cM := fun W => l17Number_any N W
  obtain ⟨t0, t1, t2, tz, tb⟩ := three_made w (.cells #[.int .i64 2, .int .u64 (x : Int), .string s, .int .i64 r] 26) (.cells #[.int .i64 2, .int .u64 (x' : Int), .string s', .int .i64 r'] 26) (.cells #[.int .i64 0, .int .u64 0, .string ⟨#[]⟩, .int .i64 0] 26)
  go_enter Tryz.func11, Tryz.ntmps11
  go_wp2_with (go_at_call 30; with_reducible refine (cI _).mono ?_; rintro e w' ⟨rfl, rfl⟩)
  refine (cF _).mono ?_
  rintro e w1 ⟨rfl, b1⟩
  go_wp2_with fail
  refine (cM _).mono ?_
  rintro e w2 ⟨rfl, b2⟩
  obtain ⟨⟨c0, c1, c2, c3⟩, fz, ⟨g0, g1, g2, g3⟩, hbe⟩ := third_ready (w1 := w2) (b0 := .int .i64 2) (b1 := .int .u64 (N : Int)) (b2 := .string ⟨#[]⟩) (b3 := .int .i64 0) t2 tz tb (chain b1 b2)
  clear t0 t1 t2 tz tb
  go_wp2
  refine bodyPost_ret (by simp [results, Tryz.results11, go_sem, g0, g1, g2, g3]; try rfl) rfl ?_
  exact ⟨rfl, hbe⟩
set_option maxHeartbeats 1000000 in
set_option maxRecDepth 100000 in
theorem doB_num_3 (x x' : Nat) (s s' : ByteArray) (r r' : Int) (w : World) (N : Nat) (cF : ∀ W, Calls Tryz.prog 38 #[.int .u64 (x : Int), .int .u64 (x' : Int)] W fun e w' => e = .returned (.int .u64 (N : Int)) ∧ Below W.heap.size W w') :
    Calls Tryz.prog 11 #[.int .i64 3, .agg #[.int .i64 2, .int .u64 (x : Int), .string s, .int .i64 r], .agg #[.int .i64 2, .int .u64 (x' : Int), .string s', .int .i64 r']] w fun e w' => e = .returned (.tuple #[.agg #[.int .i64 2, .int .u64 (N : Int), .string ⟨#[]⟩, .int .i64 0], .string ⟨#[]⟩]) ∧ Below w.heap.size w w' := by
  have cI := fun W => l01In_b 3 6 9 W
  have ho : inB 3 6 9 = false := by decide
  simp only [ho] at cI
  clear ho
  have cM := fun W => l17Number_any N W
  obtain ⟨t0, t1, t2, tz, tb⟩ := three_made w (.cells #[.int .i64 2, .int .u64 (x : Int), .string s, .int .i64 r] 26) (.cells #[.int .i64 2, .int .u64 (x' : Int), .string s', .int .i64 r'] 26) (.cells #[.int .i64 0, .int .u64 0, .string ⟨#[]⟩, .int .i64 0] 26)
  go_enter Tryz.func11, Tryz.ntmps11
  go_wp2_with (go_at_call 30; with_reducible refine (cI _).mono ?_; rintro e w' ⟨rfl, rfl⟩)
  refine (cF _).mono ?_
  rintro e w1 ⟨rfl, b1⟩
  go_wp2_with fail
  refine (cM _).mono ?_
  rintro e w2 ⟨rfl, b2⟩
  obtain ⟨⟨c0, c1, c2, c3⟩, fz, ⟨g0, g1, g2, g3⟩, hbe⟩ := third_ready (w1 := w2) (b0 := .int .i64 2) (b1 := .int .u64 (N : Int)) (b2 := .string ⟨#[]⟩) (b3 := .int .i64 0) t2 tz tb (chain b1 b2)
  clear t0 t1 t2 tz tb
  go_wp2
  refine bodyPost_ret (by simp [results, Tryz.results11, go_sem, g0, g1, g2, g3]; try rfl) rfl ?_
  exact ⟨rfl, hbe⟩
set_option maxHeartbeats 1000000 in
set_option maxRecDepth 100000 in
theorem doB_num_4 (x x' : Nat) (s s' : ByteArray) (r r' : Int) (w : World) (N : Nat) (cF : ∀ W, Calls Tryz.prog 39 #[.int .u64 (x : Int), .int .u64 (x' : Int)] W fun e w' => e = .returned (.int .u64 (N : Int)) ∧ Below W.heap.size W w') :
    Calls Tryz.prog 11 #[.int .i64 4, .agg #[.int .i64 2, .int .u64 (x : Int), .string s, .int .i64 r], .agg #[.int .i64 2, .int .u64 (x' : Int), .string s', .int .i64 r']] w fun e w' => e = .returned (.tuple #[.agg #[.int .i64 2, .int .u64 (N : Int), .string ⟨#[]⟩, .int .i64 0], .string ⟨#[]⟩]) ∧ Below w.heap.size w w' := by
  have cI := fun W => l01In_b 4 6 9 W
  have ho : inB 4 6 9 = false := by decide
  simp only [ho] at cI
  clear ho
  have cM := fun W => l17Number_any N W
  obtain ⟨t0, t1, t2, tz, tb⟩ := three_made w (.cells #[.int .i64 2, .int .u64 (x : Int), .string s, .int .i64 r] 26) (.cells #[.int .i64 2, .int .u64 (x' : Int), .string s', .int .i64 r'] 26) (.cells #[.int .i64 0, .int .u64 0, .string ⟨#[]⟩, .int .i64 0] 26)
  go_enter Tryz.func11, Tryz.ntmps11
  go_wp2_with (go_at_call 30; with_reducible refine (cI _).mono ?_; rintro e w' ⟨rfl, rfl⟩)
  refine (cF _).mono ?_
  rintro e w1 ⟨rfl, b1⟩
  go_wp2_with fail
  refine (cM _).mono ?_
  rintro e w2 ⟨rfl, b2⟩
  obtain ⟨⟨c0, c1, c2, c3⟩, fz, ⟨g0, g1, g2, g3⟩, hbe⟩ := third_ready (w1 := w2) (b0 := .int .i64 2) (b1 := .int .u64 (N : Int)) (b2 := .string ⟨#[]⟩) (b3 := .int .i64 0) t2 tz tb (chain b1 b2)
  clear t0 t1 t2 tz tb
  go_wp2
  refine bodyPost_ret (by simp [results, Tryz.results11, go_sem, g0, g1, g2, g3]; try rfl) rfl ?_
  exact ⟨rfl, hbe⟩
set_option maxHeartbeats 1000000 in
set_option maxRecDepth 100000 in
theorem doB_num_5 (x x' : Nat) (s s' : ByteArray) (r r' : Int) (w : World) (N : Nat) (cF : ∀ W, Calls Tryz.prog 40 #[.int .u64 (x : Int), .int .u64 (x' : Int)] W fun e w' => e = .returned (.int .u64 (N : Int)) ∧ Below W.heap.size W w') :
    Calls Tryz.prog 11 #[.int .i64 5, .agg #[.int .i64 2, .int .u64 (x : Int), .string s, .int .i64 r], .agg #[.int .i64 2, .int .u64 (x' : Int), .string s', .int .i64 r']] w fun e w' => e = .returned (.tuple #[.agg #[.int .i64 2, .int .u64 (N : Int), .string ⟨#[]⟩, .int .i64 0], .string ⟨#[]⟩]) ∧ Below w.heap.size w w' := by
  have cI := fun W => l01In_b 5 6 9 W
  have ho : inB 5 6 9 = false := by decide
  simp only [ho] at cI
  clear ho
  have cM := fun W => l17Number_any N W
  obtain ⟨t0, t1, t2, tz, tb⟩ := three_made w (.cells #[.int .i64 2, .int .u64 (x : Int), .string s, .int .i64 r] 26) (.cells #[.int .i64 2, .int .u64 (x' : Int), .string s', .int .i64 r'] 26) (.cells #[.int .i64 0, .int .u64 0, .string ⟨#[]⟩, .int .i64 0] 26)
  go_enter Tryz.func11, Tryz.ntmps11
  go_wp2_with (go_at_call 30; with_reducible refine (cI _).mono ?_; rintro e w' ⟨rfl, rfl⟩)
  refine (cF _).mono ?_
  rintro e w1 ⟨rfl, b1⟩
  go_wp2_with fail
  refine (cM _).mono ?_
  rintro e w2 ⟨rfl, b2⟩
  obtain ⟨⟨c0, c1, c2, c3⟩, fz, ⟨g0, g1, g2, g3⟩, hbe⟩ := third_ready (w1 := w2) (b0 := .int .i64 2) (b1 := .int .u64 (N : Int)) (b2 := .string ⟨#[]⟩) (b3 := .int .i64 0) t2 tz tb (chain b1 b2)
  clear t0 t1 t2 tz tb
  go_wp2
  refine bodyPost_ret (by simp [results, Tryz.results11, go_sem, g0, g1, g2, g3]; try rfl) rfl ?_
  exact ⟨rfl, hbe⟩
set_option maxHeartbeats 1000000 in
set_option maxRecDepth 100000 in
theorem doB_num_type (op : Int) (h10 : ¬ op = 10) (h11 : ¬ op = 11) (h1 : ¬ op = 1) (h2 : ¬ op = 2) (h3 : ¬ op = 3) (h4 : ¬ op = 4) (h5 : ¬ op = 5) (x x' : Nat) (s s' : ByteArray) (r r' : Int) (w : World) (ho : inB op 6 9 = false) :
    Calls Tryz.prog 11 #[.int .i64 op, .agg #[.int .i64 2, .int .u64 (x : Int), .string s, .int .i64 r], .agg #[.int .i64 2, .int .u64 (x' : Int), .string s', .int .i64 r']] w fun e w' => e = .returned (.tuple #[.agg #[.int .i64 0, .int .u64 0, .string ⟨#[]⟩, .int .i64 0], .string ⟨#[116, 121, 112, 101]⟩]) ∧ Below w.heap.size w w' := by
  have cI := fun W => l01In_b op 6 9 W
  simp only [ho] at cI
  clear ho
  go_enter Tryz.func11, Tryz.ntmps11
  go_wp2_with (go_at_call 30; with_reducible refine (cI _).mono ?_; rintro e w' ⟨rfl, rfl⟩)
  go_returns
  exact ⟨rfl, by go_grown⟩
end Go.Proofs.YtcdbifcidaafnaaGreatDoor
namespace Go.Proofs.YtcdbifcidaafnaaGreatDoor
open Go.RowKit Go.Sort
set_option linter.unusedVariables false
theorem put_other {w1 : World} {D g j : Nat} {b0 b1 b2 b3 : Value} (h : g ≠ D) : ((((w1.setCell ⟨D, 0, none⟩ b0).setCell ⟨D, 1, none⟩ b1).setCell ⟨D, 2, none⟩ b2).setCell ⟨D, 3, none⟩ b3).cell? ⟨g, j, none⟩ = w1.cell? ⟨g, j, none⟩ := by
  have e : ((((w1.setCell ⟨D, 0, none⟩ b0).setCell ⟨D, 1, none⟩ b1).setCell ⟨D, 2, none⟩ b2).setCell ⟨D, 3, none⟩ b3).heap[g]? = w1.heap[g]? := by
    rw [heap_setCell_other _ _ _ _ h, heap_setCell_other _ _ _ _ h, heap_setCell_other _ _ _ _ h, heap_setCell_other _ _ _ _ h]
  unfold World.cell?
  simp only [e]
set_option maxHeartbeats 4000000 in
set_option maxRecDepth 100000 in
theorem doB_num_order_false (op : Int) (h10 : ¬ op = 10) (h11 : ¬ op = 11) (x x' : Nat) (s s' : ByteArray) (r r' : Int) (w : World) (ho : inB op 6 9 = true) (bl be : Bool) (nb : Bool) (N : Nat) (hN : bitN (orderB op bl be nb) = N)
    (cL : ∀ W, Calls Tryz.prog 32 #[.int .u64 (x : Int), .int .u64 (x' : Int)] W fun e w' => e = .returned (.bool bl) ∧ Below W.heap.size W w')
    (cE : ∀ W, Calls Tryz.prog 33 #[.int .u64 (x : Int), .int .u64 (x' : Int)] W fun e w' => e = .returned (.bool be) ∧ Below W.heap.size W w')
    (cU : ∀ W, Calls Tryz.prog 34 #[.int .u64 (x : Int)] W fun e w' => e = .returned (.bool false) ∧ Below W.heap.size W w')
    (cV : ∀ W, Calls Tryz.prog 34 #[.int .u64 (x' : Int)] W fun e w' => e = .returned (.bool nb) ∧ Below W.heap.size W w') :
    Calls Tryz.prog 11 #[.int .i64 op, .agg #[.int .i64 2, .int .u64 (x : Int), .string s, .int .i64 r], .agg #[.int .i64 2, .int .u64 (x' : Int), .string s', .int .i64 r']] w fun e w' => e = .returned (.tuple #[.agg #[.int .i64 1, .int .u64 (N : Int), .string ⟨#[]⟩, .int .i64 0], .string ⟨#[]⟩]) ∧ Below w.heap.size w w' := by
  have cI := fun W => l01In_b op 6 9 W
  simp only [ho] at cI
  clear ho
  have cB := fun W => l17Order_any op bl be nb W
  simp only [hN] at cB
  clear hN
  obtain ⟨t0, t1, t2, tz, tb⟩ := three_made w (.cells #[.int .i64 2, .int .u64 (x : Int), .string s, .int .i64 r] 26) (.cells #[.int .i64 2, .int .u64 (x' : Int), .string s', .int .i64 r'] 26) (.cells #[.int .i64 0, .int .u64 0, .string ⟨#[]⟩, .int .i64 0] 26)
  obtain ⟨W3, hW3⟩ : ∃ W, (((w.alloc (.cells #[.int .i64 2, .int .u64 (x : Int), .string s, .int .i64 r] 26)).alloc (.cells #[.int .i64 2, .int .u64 (x' : Int), .string s', .int .i64 r'] 26)).alloc (.cells #[.int .i64 0, .int .u64 0, .string ⟨#[]⟩, .int .i64 0] 26)) = W := ⟨_, rfl⟩
  rw [hW3] at t0 t1 t2 tz tb
  have HW : Hid ((((w.alloc (.cells #[.int .i64 2, .int .u64 (x : Int), .string s, .int .i64 r] 26)).alloc (.cells #[.int .i64 2, .int .u64 (x' : Int), .string s', .int .i64 r'] 26)).alloc (.cells #[.int .i64 0, .int .u64 0, .string ⟨#[]⟩, .int .i64 0] 26)) = W3) := hW3
  clear hW3
  have HK : Hid (∀ W, Below W3.heap.size W3 W → W.cell? ⟨w.heap.size, 1, none⟩ = some (.int .u64 (x : Int)) ∧ W.cell? ⟨w.heap.size + 1, 1, none⟩ = some (.int .u64 (x' : Int))) := fun W h => ⟨(four_cells ((h.block w.heap.size (by omega)).trans t0)).2.1, (four_cells ((h.block (w.heap.size + 1) (by omega)).trans t1)).2.1⟩
  go_enter Tryz.func11, Tryz.ntmps11
  go_upto_region 16 with (go_at_call 30; with_reducible refine (cI _).mono ?_; rintro e w' ⟨rfl, rfl⟩)
  rw [HW.out]
  clear HW cI
  have HM0 : RowKit.Below W3.heap.size W3 W3 := RowKit.Below.refl _ _
  have HT : Hid _ := t2
  obtain ⟨c0, c1⟩ := HK.out W3 (Below.refl _ _)
  go_region_held3 (fun W => W.cell? ⟨w.heap.size, 1, none⟩ = some (.int .u64 (x : Int)) ∧ W.cell? ⟨w.heap.size + 1, 1, none⟩ = some (.int .u64 (x' : Int))) (first | exact HK.out _ (by first | with_reducible exact HM5 | with_reducible exact RowKit.Below.drew HM5 | with_reducible exact below_drewN HM5 _ | with_reducible exact HM4 | with_reducible exact RowKit.Below.drew HM4 | with_reducible exact below_drewN HM4 _ | with_reducible exact HM3 | with_reducible exact RowKit.Below.drew HM3 | with_reducible exact below_drewN HM3 _ | with_reducible exact HM2 | with_reducible exact RowKit.Below.drew HM2 | with_reducible exact below_drewN HM2 _ | with_reducible exact HM1 | with_reducible exact RowKit.Below.drew HM1 | with_reducible exact below_drewN HM1 _ | with_reducible exact HM0 | with_reducible exact RowKit.Below.drew HM0 | with_reducible exact below_drewN HM0 _) | exact HS | go_keep) (first
    | (go_at_call 32; with_reducible refine (cL _).mono ?_; rintro e w1 ⟨rfl, b1⟩; (first | have HM1 := chain (RowKit.Below.drew HM0) b1 | have HM1 := chain HM0 b1 | have HM1 := chain (below_drewN HM0 _) b1))
    | (go_at_call 33; with_reducible refine (cE _).mono ?_; rintro e w1 ⟨rfl, b1⟩; (first | have HM2 := chain (RowKit.Below.drew HM1) b1 | have HM2 := chain HM1 b1 | have HM2 := chain (below_drewN HM1 _) b1 | have HM2 := chain (RowKit.Below.drew HM0) b1 | have HM2 := chain HM0 b1 | have HM2 := chain (below_drewN HM0 _) b1))
    | (go_at_call 34; with_reducible refine (cU _).mono ?_; rintro e w1 ⟨rfl, b1⟩; (first | have HM3 := chain (RowKit.Below.drew HM2) b1 | have HM3 := chain HM2 b1 | have HM3 := chain (below_drewN HM2 _) b1 | have HM3 := chain (RowKit.Below.drew HM1) b1 | have HM3 := chain HM1 b1 | have HM3 := chain (below_drewN HM1 _) b1 | have HM3 := chain (RowKit.Below.drew HM0) b1 | have HM3 := chain HM0 b1 | have HM3 := chain (below_drewN HM0 _) b1))
    | (go_at_call 34; with_reducible refine (cV _).mono ?_; rintro e w1 ⟨rfl, b1⟩; (first | have HM4 := chain (RowKit.Below.drew HM3) b1 | have HM4 := chain HM3 b1 | have HM4 := chain (below_drewN HM3 _) b1 | have HM4 := chain (RowKit.Below.drew HM2) b1 | have HM4 := chain HM2 b1 | have HM4 := chain (below_drewN HM2 _) b1 | have HM4 := chain (RowKit.Below.drew HM1) b1 | have HM4 := chain HM1 b1 | have HM4 := chain (below_drewN HM1 _) b1 | have HM4 := chain (RowKit.Below.drew HM0) b1 | have HM4 := chain HM0 b1 | have HM4 := chain (below_drewN HM0 _) b1))
    | (go_at_call 31; with_reducible refine (cB _).mono ?_; rintro e w1 ⟨rfl, b1⟩; (first | have HM5 := chain (RowKit.Below.drew HM4) b1 | have HM5 := chain HM4 b1 | have HM5 := chain (below_drewN HM4 _) b1 | have HM5 := chain (RowKit.Below.drew HM3) b1 | have HM5 := chain HM3 b1 | have HM5 := chain (below_drewN HM3 _) b1 | have HM5 := chain (RowKit.Below.drew HM2) b1 | have HM5 := chain HM2 b1 | have HM5 := chain (below_drewN HM2 _) b1 | have HM5 := chain (RowKit.Below.drew HM1) b1 | have HM5 := chain HM1 b1 | have HM5 := chain (below_drewN HM1 _) b1 | have HM5 := chain (RowKit.Below.drew HM0) b1 | have HM5 := chain HM0 b1 | have HM5 := chain (below_drewN HM0 _) b1); obtain ⟨⟨c0, c1, c2, c3⟩, fz, ⟨g0, g1, g2, g3⟩, hbe⟩ := third_ready (w1 := w1) (b0 := .int .i64 1) (b1 := .int .u64 (N : Int)) (b2 := .string ⟨#[]⟩) (b3 := .int .i64 0) t2 tz tb HM5; have hx := HK.out w1 HM5; have HS := And.intro ((put_other (D := w.heap.size + 1 + 1) (b0 := .int .i64 1) (b1 := .int .u64 (N : Int)) (b2 := .string ⟨#[]⟩) (b3 := .int .i64 0) (by omega)).trans hx.1) ((put_other (D := w.heap.size + 1 + 1) (b0 := .int .i64 1) (b1 := .int .u64 (N : Int)) (b2 := .string ⟨#[]⟩) (b3 := .int .i64 0) (by omega)).trans hx.2))
    )
  go_wp2
  refine bodyPost_ret (by simp [results, Tryz.results11, go_sem, g0, g1, g2, g3]; try rfl) rfl ?_
  exact ⟨rfl, hbe⟩
end Go.Proofs.YtcdbifcidaafnaaGreatDoor
