/-
  The walk of the specification's Mul.
-/
import Derived.Test.YtepfjeamiokgnaaMulF
namespace Go.Proofs.Ytepfjeamiokgnaa
open Go.RowKit
set_option linter.unusedVariables false

set_option maxHeartbeats 4000000 in
set_option maxRecDepth 100000 in
theorem specMul_any (a b : Nat) (w : World) (ha : a < 18446744073709551616) (hb : b < 18446744073709551616) :
    Calls Try.prog 10 #[.int .u64 a, .int .u64 b] w fun e w' => e = .returned (.int .u64 (mulN a b : Nat)) ∧ Below w.heap.size w w' := by
  by_cases hkk : kindN a = 4 ∧ kindN b = 4
  · exact specMul_fin a b w ha hb hkk.1 hkk.2
  have cA := fun W => specParts_any a W ha
  have cB := fun W => specParts_any b W hb
  unfold partsV at cA cB
  obtain ⟨k1, hk1⟩ : ∃ k, kindN a = k := ⟨_, rfl⟩
  obtain ⟨k2, hk2⟩ : ∃ k, kindN b = k := ⟨_, rfl⟩
  obtain ⟨s1, hs1⟩ : ∃ k, belowN a = k := ⟨_, rfl⟩
  obtain ⟨s2, hs2⟩ : ∃ k, belowN b = k := ⟨_, rfl⟩
  obtain ⟨m1, hm1⟩ : ∃ k, mantN a = k := ⟨_, rfl⟩
  obtain ⟨m2, hm2⟩ : ∃ k, mantN b = k := ⟨_, rfl⟩
  obtain ⟨e1, he1⟩ : ∃ k, expN a = k := ⟨_, rfl⟩
  obtain ⟨e2, he2⟩ : ∃ k, expN b = k := ⟨_, rfl⟩
  have HD : Hid (Unit → mulN a b = mulP k1 k2 s1 s2 m1 m2 e1 e2) := fun _ => by rw [mulN, hk1, hk2, hs1, hs2, hm1, hm2, he1, he2]
  have hK1 := kindN_cases a
  have hK2 := kindN_cases b
  rw [hk1] at hK1
  rw [hk2] at hK2
  rw [hk1, hs1, hm1, he1] at cA
  rw [hk2, hs2, hm2, he2] at cB
  have HF1 : Hid (Unit → Fin1 k1 m1 e1) := fun _ => by rw [← hk1, ← hm1, ← he1]; exact fin1_of a
  have HF2 : Hid (Unit → Fin1 k2 m2 e2) := fun _ => by rw [← hk2, ← hm2, ← he2]; exact fin1_of b
  obtain ⟨R, hR⟩ : ∃ R, mulN a b = R := ⟨_, rfl⟩
  rw [hR] at HD ⊢
  have HN : Hid (Unit → k1 = 4 → k2 = 4 → False) := fun _ h1 h2 => hkk ⟨hk1.trans h1, hk2.trans h2⟩
  have HE : Hid (Unit → R = if k1 = 1 ∨ k2 = 1 ∨ (k1 = 2 ∧ k2 = 3) ∨ (k1 = 3 ∧ k2 = 2) then 9221120237041090560 else if k1 = 2 ∨ k2 = 2 then signN (s1 != s2) 9218868437227405312 else signN (s1 != s2) 0) := fun _ => by
    rw [HD.out (), mulP]
    split
    · rfl
    · split
      · rfl
      · have := HN.out ()
        rw [if_pos (by omega)]
  clear HD HF1 HF2 hkk hR hk1 hk2 hs1 hs2 hm1 hm2 he1 he2 ha hb
  go_enter Try.func10, Try.ntmps10
  go_wp2_with fail
  refine (cA _).mono ?_
  rintro e w1 ⟨rfl, hb1⟩
  clear cA
  go_wp2_with fail
  refine (cB _).mono ?_
  rintro e w2 ⟨rfl, hb2⟩
  clear cB
  go_upto_region 3 with fail
  have hlt : w1.heap.size < w2.heap.size := by have := hb2.size; simp at this; omega
  obtain ⟨wq, hwq⟩ : ∃ wq, w2.alloc (.cells #[.int .i64 k2, .bool s2, .int .u64 m2, .int .i64 e2] 30) = wq := ⟨_, rfl⟩
  have hQ : wq.heap[w2.heap.size]? = some (.cells #[.int .i64 k2, .bool s2, .int .u64 m2, .int .i64 e2] 30) := by rw [← hwq]; exact heap_alloc_new _ _
  have hP : wq.heap[w1.heap.size]? = some (.cells #[.int .i64 k1, .bool s1, .int .u64 m1, .int .i64 e1] 30) := by rw [← hwq]; exact (Below.heap_alloc w2 _ _ hlt).trans (alloc_kept hb2)
  have hBb : Below w.heap.size w wq := by
    have hb3 : Below w.heap.size w w2 := (hb1.alloc hb1.size _).trans (hb2.mono (by simp; exact Nat.le_succ_of_le hb1.size))
    rw [← hwq]; exact hb3.alloc hb3.size _
  obtain ⟨gq, hgq⟩ : ∃ g, w2.heap.size = g := ⟨_, rfl⟩
  obtain ⟨gp, hgp2⟩ : ∃ g, w1.heap.size = g := ⟨_, rfl⟩
  simp only [hwq, hgq, hgp2]
  rw [hgq] at hQ hlt
  rw [hgp2] at hP hlt
  clear hwq hgq hgp2 hb1 hb2
  clear w1 w2
  obtain ⟨p0, p1, p2, p3⟩ := cells_four hP
  obtain ⟨q0, q1, q2, q3⟩ := cells_four hQ
  clear hP hQ
  obtain ⟨s, hs⟩ : ∃ s, (!(s1 == s2)) = s := ⟨_, rfl⟩
  have hs' : (s1 != s2) = s := hs
  rw [hs'] at HE
  clear hs'
  have cS0 := fun W => sign_zero s W
  have cS1 := fun W => sign_inf s W
  obtain ⟨z0, hz0⟩ : ∃ z, signN s 0 = z := ⟨_, rfl⟩
  obtain ⟨z1, hz1⟩ : ∃ z, signN s 9218868437227405312 = z := ⟨_, rfl⟩
  rw [hz0] at cS0 HE
  rw [hz1] at cS1 HE
  clear hz0 hz1
  rcases hK1 with rfl | rfl | rfl | rfl
  · go_wp2
    go_ret
    exact ⟨by rw [HE.out ()]; simp, hBb⟩
  · rcases hK2 with rfl | rfl | rfl | rfl
    · go_wp2
      go_ret
      exact ⟨by rw [HE.out ()]; simp, hBb⟩
    · go_wp2_with (go_at_call 30; refine (cS1 _).mono ?_; rintro e w' ⟨rfl, rfl⟩)
      go_ret
      exact ⟨by rw [HE.out ()]; simp, hBb⟩
    · go_wp2
      go_ret
      exact ⟨by rw [HE.out ()]; simp, hBb⟩
    · go_wp2_with (go_at_call 30; refine (cS1 _).mono ?_; rintro e w' ⟨rfl, rfl⟩)
      go_ret
      exact ⟨by rw [HE.out ()]; simp, hBb⟩
  · rcases hK2 with rfl | rfl | rfl | rfl
    · go_wp2
      go_ret
      exact ⟨by rw [HE.out ()]; simp, hBb⟩
    · go_wp2
      go_ret
      exact ⟨by rw [HE.out ()]; simp, hBb⟩
    · go_wp2_with (go_at_call 30; refine (cS0 _).mono ?_; rintro e w' ⟨rfl, rfl⟩)
      go_ret
      exact ⟨by rw [HE.out ()]; simp, hBb⟩
    · go_wp2_with (go_at_call 30; refine (cS0 _).mono ?_; rintro e w' ⟨rfl, rfl⟩)
      go_ret
      exact ⟨by rw [HE.out ()]; simp, hBb⟩
  · rcases hK2 with rfl | rfl | rfl | rfl
    · go_wp2
      go_ret
      exact ⟨by rw [HE.out ()]; simp, hBb⟩
    · go_wp2_with (go_at_call 30; refine (cS1 _).mono ?_; rintro e w' ⟨rfl, rfl⟩)
      go_ret
      exact ⟨by rw [HE.out ()]; simp, hBb⟩
    · go_wp2_with (go_at_call 30; refine (cS0 _).mono ?_; rintro e w' ⟨rfl, rfl⟩)
      go_ret
      exact ⟨by rw [HE.out ()]; simp, hBb⟩
    · exact (HN.out () rfl rfl).elim

end Go.Proofs.Ytepfjeamiokgnaa
