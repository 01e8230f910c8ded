/-
  The program's SameOutcome.
-/
import Derived.Test.YtcjjhakhocgfgaaSameO19
import Derived.Test.YtcjjhakhocgfgaaShelf
namespace Go.Proofs.Ytcjjhakhocgfgaa
open Go.RowKit Go.Sort
set_option linter.unusedVariables false

theorem eqStrs19 (a b : Value) (l m : List ByteArray) (w : World) (ha : ArgStrs w a l) (hb : ArgStrs w b m) :
    Calls Try.prog 11 #[a, b] w fun e w' => e = .returned (.bool (decide (l = m))) ∧ Below w.heap.size w w' := by
  obtain ⟨xa, ca, rfl, hm1, _, oa⟩ := ha
  obtain ⟨xb, cb, rfl, hm2, _, ob⟩ := hb
  unfold maxLen at hm1 hm2
  by_cases hl : l.length = m.length
  · by_cases h0 : l.length = 0
    · have e1 : l = [] := List.eq_nil_of_length_eq_zero h0
      have e2 : m = [] := List.eq_nil_of_length_eq_zero (by omega)
      subst e1 e2
      refine (Try.slices_Equal_string_empty xa xb ca 0 cb w (by omega)).mono ?_
      rintro e w' ⟨rfl, rfl⟩
      exact ⟨by simp, Below.refl _ _⟩
    · obtain ⟨b1, o1, rfl, _, c1⟩ := oa (by omega)
      obtain ⟨b2, o2, rfl, _, c2⟩ := ob (by omega)
      refine (Try.slices_Equal_string b1 o1 l.length ca b2 o2 m.length cb l m w (Nat.le_refl _) (Nat.le_refl _) (by omega) (by omega) c1 c2).mono ?_
      rintro e w' ⟨rfl, q, rfl⟩
      refine ⟨?_, below_drewN (Below.refl _ _) _⟩
      rw [List.take_length, List.take_length]
  · refine (Try.slices_Equal_string_lens xa xb l.length ca m.length cb w hl).mono ?_
    rintro e w' ⟨rfl, rfl⟩
    refine ⟨?_, Below.refl _ _⟩
    rw [decide_eq_false fun h => hl (congrArg List.length h)]

set_option maxHeartbeats 1000000 in
set_option maxRecDepth 100000 in
theorem iSameOutcome_any (p q : POut) (u v : Value) (w : World) (hu : ArgStrs w u p.log) (hv : ArgStrs w v q.log) :
    Calls Try.prog 7 #[.agg #[.int .i64 p.fin, .string p.shown, u, .int .i64 p.fuel], .agg #[.int .i64 q.fin, .string q.shown, v, .int .i64 q.fuel]] w fun e w' => e = .returned (.bool (sameO p q)) ∧ Below w.heap.size w w' := by
  obtain ⟨k0, s, l, k3⟩ := p
  obtain ⟨g0, t, m, g3⟩ := q
  simp only at hu hv ⊢
  have b0 : Below w.heap.size w ((w.alloc (.cells #[.int .i64 k0, .string s, u, .int .i64 k3] 27)).alloc (.cells #[.int .i64 g0, .string t, v, .int .i64 g3] 27)) := ((Below.refl _ _).alloc (Nat.le_refl _) _).alloc (by simp) _
  have cI := fun W (hb : Below w.heap.size w W) => eqStrs19 u v l m W (hu.below hb) (hv.below hb)
  have T0 : ((w.alloc (.cells #[.int .i64 k0, .string s, u, .int .i64 k3] 27)).alloc (.cells #[.int .i64 g0, .string t, v, .int .i64 g3] 27)).heap[w.heap.size]? = some (.cells #[.int .i64 k0, .string s, u, .int .i64 k3] 27) := by
    rw [heap_alloc_old (r := w.heap.size) _ _ (by simp)]
    exact heap_alloc_new _ _
  have T1 : ((w.alloc (.cells #[.int .i64 k0, .string s, u, .int .i64 k3] 27)).alloc (.cells #[.int .i64 g0, .string t, v, .int .i64 g3] 27)).heap[w.heap.size + 1]? = some (.cells #[.int .i64 g0, .string t, v, .int .i64 g3] 27) := by
    rw [show w.heap.size + 1 = (w.alloc (.cells #[.int .i64 k0, .string s, u, .int .i64 k3] 27)).heap.size by simp]
    exact heap_alloc_new _ _
  have Tz : w.heap.size + 2 ≤ ((w.alloc (.cells #[.int .i64 k0, .string s, u, .int .i64 k3] 27)).alloc (.cells #[.int .i64 g0, .string t, v, .int .i64 g3] 27)).heap.size := by simp
  clear hu hv
  obtain ⟨W2, hW2⟩ : ∃ W, (w.alloc (.cells #[.int .i64 k0, .string s, u, .int .i64 k3] 27)).alloc (.cells #[.int .i64 g0, .string t, v, .int .i64 g3] 27) = W := ⟨_, rfl⟩
  rw [hW2] at b0 T0 T1 Tz
  have HW2 : Hid (_ = W2) := hW2
  obtain ⟨G, hG⟩ : ∃ G, w.heap.size = G := ⟨_, rfl⟩
  have HG : Hid (w.heap.size = G) := hG
  rw [hG] at T0 T1 Tz
  clear hW2
  obtain ⟨F, hF⟩ : ∃ F, sameO ⟨k0, s, l, k3⟩ ⟨g0, t, m, g3⟩ = F := ⟨_, rfl⟩
  have HF : Hid ((decide (k0 = g0) && (decide (s = t) && (decide (k3 = g3) && decide (l = m)))) = F) := hF
  rw [hF]
  clear hF
  go_enter Try.func7, Try.ntmps7
  go_upto_region 1 with fail
  rw [HW2.out]
  try simp only [HG.out]
  obtain ⟨i0, i1, i2, i3⟩ := four_box19 T0
  obtain ⟨j0, j1, j2, j3⟩ := four_box19 T1
  have HT0 : Hid (W2.heap[G]? = _) := T0
  have HT1 : Hid (W2.heap[G + 1]? = _) := T1
  have HTz : Hid (G + 2 ≤ W2.heap.size) := Tz
  clear T0 T1 Tz
  by_cases h0 : ¬ k0 = g0
  · have hne : ((k0 : Int) == (g0 : Int)) = false := by rw [beq_eq_false_iff_ne]; exact h0
    have HFf : Hid (F = false) := by
      show _ = _
      rw [← HF.out, decide_eq_false h0]
      rfl
    clear HF HT0 HT1 cI h0
    go_wp2
    go_ret
    rw [HFf.out]
    exact ⟨rfl, b0⟩
  rw [Decidable.not_not] at h0
  subst h0
  by_cases h1 : ¬ s = t
  · have hne := text_ne19 h1
    have HFf : Hid (F = false) := by
      show _ = _
      rw [← HF.out, decide_eq_false h1]
      simp
    clear HF HT0 HT1 cI h1
    go_wp2
    go_ret
    rw [HFf.out]
    exact ⟨rfl, b0⟩
  rw [Decidable.not_not] at h1
  subst h1
  go_wp2_with fail
  refine (cI W2 b0).mono ?_
  rintro e w3 ⟨rfl, b3⟩
  obtain ⟨i0, i1, i2, i3⟩ := four_box19 ((b3.block G (by have := HTz.out; omega)).trans HT0.out)
  obtain ⟨j0, j1, j2, j3⟩ := four_box19 ((b3.block (G + 1) (by have := HTz.out; omega)).trans HT1.out)
  have b4 := b0.trans (b3.mono (by have := HTz.out; omega))
  clear cI HT0 HT1
  by_cases hlm : l = m
  · have hd : decide (l = m) = true := decide_eq_true hlm
    rw [hd]
    by_cases h3 : k3 = g3
    · subst h3
      have HFf : Hid (F = true) := by
        show _ = _
        rw [← HF.out, hd]
        simp
      clear HF
      go_wp2
      go_ret
      rw [HFf.out]
      exact ⟨by simp, b4⟩
    · have hne : ((k3 : Int) == (g3 : Int)) = false := by rw [beq_eq_false_iff_ne]; exact h3
      have HFf : Hid (F = false) := by
        show _ = _
        rw [← HF.out, decide_eq_false h3]
        simp
      clear HF
      go_wp2
      go_ret
      rw [HFf.out]
      exact ⟨rfl, b4⟩
  · have hd : decide (l = m) = false := decide_eq_false hlm
    rw [hd]
    have HFf : Hid (F = false) := by
      show _ = _
      rw [← HF.out, hd]
      simp
    clear HF
    go_wp2
    go_ret
    rw [HFf.out]
    exact ⟨rfl, b4⟩

end Go.Proofs.Ytcjjhakhocgfgaa
