/-
  The walk of the specification's Div at finite numbers.
-/
import Derived.Test.YtilhcfnennfofaaUp
import Derived.Test.YtilhcfnennfofaaKept
namespace Go.Proofs.Ytilhcfnennfofaa
open Go.RowKit
set_option linter.unusedVariables false

/-- a quotient, bit by bit: behind i places -/
structure DivAt (P Q i n l : Nat) : Prop where
  eq : P * 2 ^ i = 2 * (n * Q) + l
  lt : l < 2 * Q
theorem div_start {P Q : Nat} (h : P < 2 * Q) : DivAt P Q 0 0 P := ⟨by simp, h⟩
theorem div_hit {P Q i n l : Nat} (h : DivAt P Q i n l) (hl : Q ≤ l) : DivAt P Q (i + 1) (n * 2 + 1) ((l - Q) * 2) := by
  refine ⟨?_, by have := h.lt; omega⟩
  have e1 : (n * 2 + 1) * Q = 2 * (n * Q) + Q := by rw [Nat.add_mul, Nat.mul_right_comm, Nat.one_mul, Nat.mul_comm 2]
  rw [Nat.pow_succ, ← Nat.mul_assoc, h.eq, e1]
  omega
theorem div_miss {P Q i n l : Nat} (h : DivAt P Q i n l) (hl : l < Q) : DivAt P Q (i + 1) (n * 2) (l * 2) := by
  refine ⟨?_, by omega⟩
  have e1 : n * 2 * Q = 2 * (n * Q) := by rw [Nat.mul_right_comm, Nat.mul_comm 2]
  rw [Nat.pow_succ, ← Nat.mul_assoc, h.eq, e1]
  omega
theorem div_bound {P Q i n l : Nat} (h : DivAt P Q i n l) (hP : P < 2 * Q) : n < 2 ^ i := by
  have h1 := h.eq
  rcases Nat.lt_or_ge n (2 ^ i) with h' | h'
  · exact h'
  · have h2 : 2 ^ i * Q ≤ n * Q := Nat.mul_le_mul_right _ h'
    have h3 : P * 2 ^ i < 2 * Q * 2 ^ i := Nat.mul_lt_mul_of_pos_right hP (Nat.two_pow_pos i)
    have h4 : 2 * Q * 2 ^ i = 2 * (2 ^ i * Q) := by rw [Nat.mul_assoc, Nat.mul_comm Q]
    omega
theorem div_end {P Q n l j : Nat} (h : DivAt P Q (j + 1) n l) (hQ : Q ≠ 0) : P * 2 ^ j / Q = n ∧ (0 < l ↔ P * 2 ^ j % Q ≠ 0) := by
  have h1 := h.eq
  rw [Nat.pow_succ, ← Nat.mul_assoc] at h1
  obtain ⟨X, hX⟩ : ∃ X, P * 2 ^ j = X := ⟨_, rfl⟩
  rw [hX] at h1 ⊢
  obtain ⟨r, hr⟩ : ∃ r, l = 2 * r := ⟨X - n * Q, by omega⟩
  have h3 : X = Q * n + r := by rw [Nat.mul_comm Q]; omega
  have h4 : r < Q := by have := h.lt; omega
  have h5 : X / Q = n := by rw [h3, Nat.mul_add_div (by omega), Nat.div_eq_of_lt h4, Nat.add_zero]
  have h6 : X % Q = r := by rw [h3, Nat.mul_add_mod, Nat.mod_eq_of_lt h4]
  exact ⟨h5, by omega⟩

/-- a struct of four written whole -/
theorem four_stores {w : World} {g : Nat} {a b c d a' b' c' d' : Value} {t : TypeId} (h : w.heap[g]? = some (.cells #[a, b, c, d] t)) :
    ((((w.setCell ⟨g, 0, none⟩ a').setCell ⟨g, 1, none⟩ b').setCell ⟨g, 2, none⟩ c').setCell ⟨g, 3, none⟩ d').heap[g]? = some (.cells #[a', b', c', d'] t) := by
  rw [heap_setCell_same _ _ _ _ _ _ (heap_setCell_same _ _ _ _ _ _ (heap_setCell_same _ _ _ _ _ _ (heap_setCell_same _ _ _ _ _ _ h)))]
  simp
theorem four_other {w : World} {g k : Nat} {a' b' c' d' : Value} (hk : k ≠ g) :
    ((((w.setCell ⟨g, 0, none⟩ a').setCell ⟨g, 1, none⟩ b').setCell ⟨g, 2, none⟩ c').setCell ⟨g, 3, none⟩ d').heap[k]? = w.heap[k]? := by
  rw [heap_setCell_other _ _ _ _ hk, heap_setCell_other _ _ _ _ hk, heap_setCell_other _ _ _ _ hk, heap_setCell_other _ _ _ _ hk]
theorem four_below {B : Nat} {a w : World} {g : Nat} {a' b' c' d' : Value} (h : Below B a w) (hg : B ≤ g) :
    Below B a ((((w.setCell ⟨g, 0, none⟩ a').setCell ⟨g, 1, none⟩ b').setCell ⟨g, 2, none⟩ c').setCell ⟨g, 3, none⟩ d') :=
  (((h.setCell (p := ⟨g, 0, none⟩) hg _).setCell (p := ⟨g, 1, none⟩) hg _).setCell (p := ⟨g, 2, none⟩) hg _).setCell (p := ⟨g, 3, none⟩) hg _

set_option maxHeartbeats 4000000 in
set_option maxRecDepth 100000 in
theorem specDiv_fin (a b : Nat) (w : World) (ha : a < 18446744073709551616) (hb : b < 18446744073709551616) (ka : kindN a = 4) (kb : kindN b = 4) :
    Calls Try.prog 15 #[.int .u64 a, .int .u64 b] w fun e w' => e = .returned (.int .u64 (divN a b : Nat)) ∧ Below w.heap.size w w' := by
  have cA := fun W => specParts_any a W ha
  have cB := fun W => specParts_any b W hb
  unfold partsV at cA cB
  obtain ⟨k1, hk1⟩ : ∃ k, kindN a = k := ⟨_, rfl⟩
  obtain ⟨k2, hk2⟩ : ∃ k, kindN b = k := ⟨_, rfl⟩
  obtain ⟨s1, hs1⟩ : ∃ k, belowN a = k := ⟨_, rfl⟩
  obtain ⟨s2, hs2⟩ : ∃ k, belowN b = k := ⟨_, rfl⟩
  obtain ⟨m1, hm1⟩ : ∃ k, mantN a = k := ⟨_, rfl⟩
  obtain ⟨m2, hm2⟩ : ∃ k, mantN b = k := ⟨_, rfl⟩
  obtain ⟨e1, he1⟩ : ∃ k, expN a = k := ⟨_, rfl⟩
  obtain ⟨e2, he2⟩ : ∃ k, expN b = k := ⟨_, rfl⟩
  have HD : Hid (Unit → divN a b = divP k1 k2 s1 s2 m1 m2 e1 e2) := fun _ => by rw [divN, hk1, hk2, hs1, hs2, hm1, hm2, he1, he2]
  rw [hk1, hs1, hm1, he1] at cA
  rw [hk2, hs2, hm2, he2] at cB
  have HF1 : Hid (Unit → Fin1 k1 m1 e1) := fun _ => by rw [← hk1, ← hm1, ← he1]; exact fin1_of a
  have HF2 : Hid (Unit → Fin1 k2 m2 e2) := fun _ => by rw [← hk2, ← hm2, ← he2]; exact fin1_of b
  obtain ⟨R, hR⟩ : ∃ R, divN a b = R := ⟨_, rfl⟩
  rw [hR] at HD ⊢
  have HK1 : Hid (Unit → k1 = 4) := fun _ => hk1.symm.trans ka
  have HK2 : Hid (Unit → k2 = 4) := fun _ => hk2.symm.trans kb
  clear hR hk1 hk2 ka kb hs1 hs2 hm1 hm2 he1 he2 ha hb
  go_enter Try.func15, Try.ntmps15
  go_wp2_with fail
  refine (cA _).mono ?_
  rintro e w1 ⟨rfl, hb1⟩
  clear cA
  go_wp2_with fail
  refine (cB _).mono ?_
  rintro e w2 ⟨rfl, hb2⟩
  clear cB
  go_upto_region 3 with fail
  have hlt : w1.heap.size < w2.heap.size := by have := hb2.size; simp at this; omega
  obtain ⟨wq, hwq⟩ : ∃ wq, w2.alloc (.cells #[.int .i64 k2, .bool s2, .int .u64 m2, .int .i64 e2] 40) = wq := ⟨_, rfl⟩
  have hQ : wq.heap[w2.heap.size]? = some (.cells #[.int .i64 k2, .bool s2, .int .u64 m2, .int .i64 e2] 40) := by rw [← hwq]; exact heap_alloc_new _ _
  have hP : wq.heap[w1.heap.size]? = some (.cells #[.int .i64 k1, .bool s1, .int .u64 m1, .int .i64 e1] 40) := by rw [← hwq]; exact (Below.heap_alloc w2 _ _ hlt).trans (alloc_kept hb2)
  have hBb : Below w.heap.size w wq := by
    have hb3 : Below w.heap.size w w2 := (hb1.alloc hb1.size _).trans (hb2.mono (by simp; exact Nat.le_succ_of_le hb1.size))
    rw [← hwq]; exact hb3.alloc hb3.size _
  have hgp : w.heap.size ≤ w1.heap.size := hb1.size
  obtain ⟨gq, hgq⟩ : ∃ g, w2.heap.size = g := ⟨_, rfl⟩
  obtain ⟨gp, hgp2⟩ : ∃ g, w1.heap.size = g := ⟨_, rfl⟩
  simp only [hwq, hgq, hgp2]
  rw [hgq] at hQ hlt
  rw [hgp2] at hP hlt hgp
  clear hwq hgq hgp2 hb1 hb2
  clear w1 w2
  obtain ⟨p0, p1, p2, p3⟩ := cells_four hP
  obtain ⟨q0, q1, q2, q3⟩ := cells_four hQ
  have hk1 := HK1.out ()
  have hk2 := HK2.out ()
  subst hk1 hk2
  clear HK1 HK2
  obtain ⟨s, hs⟩ : ∃ s, (!(s1 == s2)) = s := ⟨_, rfl⟩
  have HE : Hid (Unit → R = signN s (quoN m1 m2 (e1 - e2))) := fun _ => by rw [HD.out (), ← hs]; simp [divP, bne]
  have f1 := HF1.out ()
  have f2 := HF2.out ()
  have cU := fun W => l05Up_any 4 m1 s1 e1 W (f1.pos rfl) f1.lt f1.lo f1.hi
  have cV := fun W => l05Up_any 4 m2 s2 e2 W (f2.pos rfl) f2.lt f2.lo f2.hi
  have b1 := f1.lo
  have b2 := f1.hi
  have b3 := f2.lo
  have b4 := f2.hi
  clear HD f1 f2
  go_wp2_with fail
  refine (cU _).mono ?_
  rintro e w3 ⟨u, P, F, rfl, HPu, hb3⟩
  have hP3 := kept_block hb3 hP
  have hQ3 := kept_block hb3 hQ
  have hB3 : Below w.heap.size w w3 := chain hBb hb3
  clear hb3 hP hQ hBb p0 p1 p2 p3 q0 q1 q2 q3 cU
  clear wq
  have fp := fun j => frozen_of_row w3 gp j _ _ hP3
  obtain ⟨p0, p1, p2, p3⟩ := cells_four hP3
  obtain ⟨q0, q1, q2, q3⟩ := cells_four hQ3
  have hne : gp ≠ gq := by omega
  have HPP : Hid (Unit → F = e1 - u ∧ u ≤ 52 ∧ P = m1 * 2 ^ u ∧ 4503599627370496 ≤ P ∧ P < 9007199254740992) := fun _ => HPu
  clear HPu
  go_wp2_with fail
  refine (cV _).mono ?_
  rintro e w5 ⟨v, Q, G, rfl, HQv, hb5⟩
  have hP5 := kept_block hb5 (four_stores hP3)
  have hQ5 := kept_block hb5 ((four_other (Ne.symm hne)).trans hQ3)
  have hB5 : Below w.heap.size w w5 := chain (four_below hB3 hgp) hb5
  clear hb5 hP3 hQ3 hB3 p0 p1 p2 p3 q0 q1 q2 q3 fp cV
  clear w3
  have fq := fun j => frozen_of_row w5 gq j _ _ hQ5
  obtain ⟨p0, p1, p2, p3⟩ := cells_four hP5
  obtain ⟨q0, q1, q2, q3⟩ := cells_four hQ5
  have HQQ : Hid (Unit → G = e2 - v ∧ v ≤ 52 ∧ Q = m2 * 2 ^ v ∧ 4503599627370496 ≤ Q ∧ Q < 9007199254740992) := fun _ => HQv
  clear HQv
  have hne' : gq ≠ gp := Ne.symm hne
  go_upto_region 12 with fail
  obtain ⟨w6, h6⟩ : ∃ w6, ((((w5.setCell ⟨gq, 0, none⟩ (.int .i64 4)).setCell ⟨gq, 1, none⟩ (.bool s2)).setCell ⟨gq, 2, none⟩ (.int .u64 Q)).setCell ⟨gq, 3, none⟩ (.int .i64 G)) = w6 := ⟨_, rfl⟩
  have hP6 : w6.heap[gp]? = some (.cells #[.int .i64 4, .bool s1, .int .u64 P, .int .i64 F] 40) := by rw [← h6]; exact (four_other hne).trans hP5
  have hQ6 : w6.heap[gq]? = some (.cells #[.int .i64 4, .bool s2, .int .u64 Q, .int .i64 G] 40) := by rw [← h6]; exact four_stores hQ5
  have hB6 : Below w.heap.size w w6 := by rw [← h6]; exact four_below hB5 (by omega)
  simp only [h6]
  clear h6 hP5 hQ5 hB5 p0 p1 p2 p3 q0 q1 q2 q3 fq
  clear w5
  obtain ⟨p0, p1, p2, p3⟩ := cells_four hP6
  obtain ⟨q0, q1, q2, q3⟩ := cells_four hQ6
  clear hP6 hQ6
  have hP := HPP.out ()
  have hQ := HQQ.out ()
  obtain ⟨E, hE⟩ : ∃ E, F - G = E := ⟨_, rfl⟩
  have E1 : -2200 ≤ E := by omega
  have E2 : E ≤ 2200 := by omega
  have F1 : -1126 ≤ F := by omega
  have F2 : F ≤ 971 := by omega
  have G1 : -1126 ≤ G := by omega
  have G2 : G ≤ 971 := by omega
  have HR : Hid (Unit → R = signN s (quoN P Q E)) := fun _ => by
    obtain ⟨x1, x2, x3, _⟩ := HPP.out ()
    obtain ⟨y1, y2, y3, _⟩ := HQQ.out ()
    have g1 := HF1.out ()
    have g2 := HF2.out ()
    have hq := quo_scale (m := m1) (n := m2) (u := u) (v := v) (e := e1 - e2) (g1.pos rfl) (g2.pos rfl) g2.lt (by omega) (by omega)
    rw [HE.out (), ← hq, ← x3, ← y3]
    congr 2
    omega
  have HPQ : Hid (Unit → 4503599627370496 ≤ P ∧ P < 9007199254740992 ∧ 4503599627370496 ≤ Q ∧ Q < 9007199254740992) := fun _ => by omega
  have Q1 : (Q : Int) < 9007199254740992 := by omega
  have P1 : (P : Int) < 9007199254740992 := by omega
  clear hP hQ HPP HQQ HE HF1 HF2
  go_upto_region 16 with fail
  go_loop [8, 9, 10, 11] (fun x8 x9 x10 x11 => ∃ (i n l : Nat) (T : Int), x8 = .int .u64 l ∧ x9 = .int .u64 n ∧ x10 = .int .i64 T ∧ x11 = .int .i64 i ∧ (i : Int) ≤ 62 ∧ -2200 - (i : Int) ≤ T ∧ T ≤ 2200 ∧ Hid (Unit → DivAt P Q i n l ∧ T = E - max ((i : Int) - 1) 0)) (fun _ _ _ x11 => (62 - intOf x11).toNat)
  case atStart => exact ⟨0, 0, P, E, rfl, rfl, rfl, rfl, by omega, by omega, by omega, fun _ => ⟨div_start (by have := HPQ.out (); omega), by omega⟩⟩
  case round =>
    obtain ⟨i, n, l, T, rfl, rfl, rfl, rfl, hi, T1, T2, HI⟩ := hrel
    have HL : Hid (Unit → (l : Int) < 18014398509481984) := fun _ => by have := (HI.out ()).1.lt; have := HPQ.out (); omega
    have hL := HL.out ()
    by_cases hi2 : (i : Int) < 62
    · have HN : Hid (Unit → (n : Int) < 2305843009213693952) := fun _ => by
        have h1 := div_bound (HI.out ()).1 (by have := HPQ.out (); omega)
        have h2 : 2 ^ i ≤ 2 ^ 61 := Nat.pow_le_pow_right (by decide) (by omega)
        omega
      have hN := HN.out ()
      have T3 : -2262 ≤ T := by omega
      by_cases hq : (Q : Int) ≤ l
      · have HJ : Hid (Unit → DivAt P Q (i + 1) (n * 2 + 1) ((l - Q) * 2)) := fun _ => div_hit (HI.out ()).1 (by omega)
        by_cases h0 : 0 < i
        · go_wp2
          go_round
          case rel => exact ⟨i + 1, n * 2 + 1, (l - Q) * 2, T - 1, by go_num, by go_num, by go_num, by go_num, by omega, by omega, by omega, fun _ => ⟨HJ.out (), by have := (HI.out ()).2; omega⟩⟩
          case measure => simp [intOf]; omega
        · have h00 : i = 0 := by omega
          subst h00
          go_wp2
          go_round
          case rel => exact ⟨0 + 1, n * 2 + 1, (l - Q) * 2, T, by go_num, by go_num, by go_num, by go_num, by omega, by omega, by omega, fun _ => ⟨HJ.out (), by have := (HI.out ()).2; omega⟩⟩
          case measure => simp [intOf]
      · have hq' : decide ((Q : Int) ≤ l) = false := by simp; omega
        have HJ : Hid (Unit → DivAt P Q (i + 1) (n * 2) (l * 2)) := fun _ => div_miss (HI.out ()).1 (by omega)
        by_cases h0 : 0 < i
        · go_wp2
          go_round
          case rel => exact ⟨i + 1, n * 2, l * 2, T - 1, by go_num, by go_num, by go_num, by go_num, by omega, by omega, by omega, fun _ => ⟨HJ.out (), by have := (HI.out ()).2; omega⟩⟩
          case measure => simp [intOf]; omega
        · have h00 : i = 0 := by omega
          subst h00
          go_wp2
          go_round
          case rel => exact ⟨0 + 1, n * 2, l * 2, T, by go_num, by go_num, by go_num, by go_num, by omega, by omega, by omega, fun _ => ⟨HJ.out (), by have := (HI.out ()).2; omega⟩⟩
          case measure => simp [intOf]
    · have h62 : i = 62 := by omega
      subst h62
      have cR : ∀ W, Calls Try.prog 27 #[.bool s, .int .u64 n, .int .i64 T, .bool (decide (0 < l))] W fun e w' => e = .returned (.int .u64 (R : Nat)) ∧ W = w' := fun W => by
        obtain ⟨x1, x2⟩ := HI.out ()
        obtain ⟨y1, y2⟩ := div_end (j := 61) x1 (by have := HPQ.out (); omega)
        have hpq := HPQ.out ()
        have z1 : 1152921504606846976 ≤ n := by
          rw [← y1, Nat.le_div_iff_mul_le (by omega)]
          omega
        have z2 : n < 2 ^ 62 := div_bound x1 (by omega)
        have h := specRound_any s (decide (0 < l)) n T W (by omega) (by omega) (by omega)
        have z3 : (decide (0 < l) && decide (72057594037927936 ≤ n)) = decide (P * 2 ^ 61 % Q ≠ 0) := by
          rw [decide_eq_true (by omega : 72057594037927936 ≤ n), Bool.and_true, Bool.eq_iff_iff, decide_eq_true_iff, decide_eq_true_iff]
          exact y2
        have z4 := quo_at (m := P) (n := Q) (k := 61) (e := E) (by omega) (by rw [y1]; omega) (by omega)
        rw [y1] at z4
        rw [z3, (by omega : T = E - ((61 : Nat) : Int)), z4, ← HR.out (), (by omega : E - ((61 : Nat) : Int) = T)] at h
        exact h
      clear HI HL hL
      go_wp2_with (go_at_call 27; refine (cR _).mono ?_; rintro e w' ⟨rfl, rfl⟩)
      go_ret
      exact ⟨rfl, hB6⟩

end Go.Proofs.Ytilhcfnennfofaa
