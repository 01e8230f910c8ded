/-
  The specification's Prefix.
-/
import Derived.Test.YtbgdapdenbldmaaSameO19
namespace Go.Proofs.Ytbgdapdenbldmaa
open Go.RowKit Go.Sort
set_option linter.unusedVariables false

def preO (p q : POut) : Bool := decide (q.log.take p.log.length = p.log)
theorem pre_yes {l m : List ByteArray} (hn : l.length ≤ m.length) (h : ∀ j, j < l.length → l[j]? = m[j]?) : m.take l.length = l := by
  apply List.ext_getElem?
  intro j
  rw [List.getElem?_take]
  by_cases hj : j < l.length
  · rw [if_pos hj, h j hj]
  · rw [if_neg hj, List.getElem?_eq_none (by omega)]
theorem pre_no {l m : List ByteArray} {j : Nat} (hj : j < l.length) (h : ¬ l[j]? = m[j]?) : ¬ m.take l.length = l := by
  intro e
  apply h
  have h2 : (m.take l.length)[j]? = l[j]? := by rw [e]
  rw [List.getElem?_take, if_pos hj] at h2
  exact h2.symm
theorem pre_long {l m : List ByteArray} (h : m.length < l.length) : ¬ m.take l.length = l := by
  intro e
  have := congrArg List.length e
  rw [List.length_take] at this
  omega

set_option maxHeartbeats 1000000 in
set_option maxRecDepth 100000 in
theorem specPrefix_any (p q : POut) (u v : Value) (w : World) (hu : ArgStrs w u p.log) (hv : ArgStrs w v q.log) :
    Calls Try.prog 18 #[.agg #[.int .i64 p.fin, .string p.shown, u, .int .i64 p.fuel], .agg #[.int .i64 q.fin, .string q.shown, v, .int .i64 q.fuel]] w fun e w' => e = .returned (.bool (preO p q)) ∧ Below w.heap.size w w' := by
  obtain ⟨k0, s, l, k3⟩ := p
  obtain ⟨g0, t, m, g3⟩ := q
  simp only at hu hv ⊢
  obtain ⟨xa, ca, rfl, hma, _, oa⟩ := hu
  obtain ⟨xb, cb, rfl, hmb, _, ob⟩ := hv
  unfold maxLen at hma hmb
  obtain ⟨F, hF⟩ : ∃ F, preO ⟨k0, s, l, k3⟩ ⟨g0, t, m, g3⟩ = F := ⟨_, rfl⟩
  have HF : Hid (decide (m.take l.length = l) = F) := hF
  rw [hF]
  clear hF
  obtain ⟨n, hn⟩ : ∃ n, l.length = n := ⟨_, rfl⟩
  obtain ⟨n', hn'⟩ : ∃ n, m.length = n := ⟨_, rfl⟩
  simp only [hn] at oa hma ⊢
  simp only [hn'] at ob hmb ⊢
  have HN : Hid (l.length = n) := hn
  have HN' : Hid (m.length = n') := hn'
  have HA : Hid (0 < n → ∃ b o, xa = some ⟨b, o, none⟩ ∧ b < w.heap.size ∧ ∀ j, j < n → w.cell? ⟨b, o + j, none⟩ = some (.string (l.getD j ByteArray.empty))) := oa
  have HB : Hid (0 < n' → ∃ b o, xb = some ⟨b, o, none⟩ ∧ b < w.heap.size ∧ ∀ j, j < n' → w.cell? ⟨b, o + j, none⟩ = some (.string (m.getD j ByteArray.empty))) := ob
  clear oa ob hn hn'
  have b0 : Below w.heap.size w ((w.alloc (.cells #[.int .i64 k0, .string s, .slice xa n ca, .int .i64 k3] 44)).alloc (.cells #[.int .i64 g0, .string t, .slice xb n' cb, .int .i64 g3] 44)) := ((Below.refl _ _).alloc (Nat.le_refl _) _).alloc (by simp) _
  have T0 : ((w.alloc (.cells #[.int .i64 k0, .string s, .slice xa n ca, .int .i64 k3] 44)).alloc (.cells #[.int .i64 g0, .string t, .slice xb n' cb, .int .i64 g3] 44)).heap[w.heap.size]? = some (.cells #[.int .i64 k0, .string s, .slice xa n ca, .int .i64 k3] 44) := by
    rw [heap_alloc_old (r := w.heap.size) _ _ (by simp)]
    exact heap_alloc_new _ _
  have T1 : ((w.alloc (.cells #[.int .i64 k0, .string s, .slice xa n ca, .int .i64 k3] 44)).alloc (.cells #[.int .i64 g0, .string t, .slice xb n' cb, .int .i64 g3] 44)).heap[w.heap.size + 1]? = some (.cells #[.int .i64 g0, .string t, .slice xb n' cb, .int .i64 g3] 44) := by
    rw [show w.heap.size + 1 = (w.alloc (.cells #[.int .i64 k0, .string s, .slice xa n ca, .int .i64 k3] 44)).heap.size by simp]
    exact heap_alloc_new _ _
  have Tz : w.heap.size + 2 ≤ ((w.alloc (.cells #[.int .i64 k0, .string s, .slice xa n ca, .int .i64 k3] 44)).alloc (.cells #[.int .i64 g0, .string t, .slice xb n' cb, .int .i64 g3] 44)).heap.size := by simp
  obtain ⟨W2, hW2⟩ : ∃ W, (w.alloc (.cells #[.int .i64 k0, .string s, .slice xa n ca, .int .i64 k3] 44)).alloc (.cells #[.int .i64 g0, .string t, .slice xb n' cb, .int .i64 g3] 44) = W := ⟨_, rfl⟩
  rw [hW2] at b0 T0 T1 Tz
  have HW2 : Hid (_ = W2) := hW2
  obtain ⟨G, hG⟩ : ∃ G, w.heap.size = G := ⟨_, rfl⟩
  have HG : Hid (w.heap.size = G) := hG
  rw [hG] at T0 T1 Tz
  clear hW2
  go_enter Try.func18, Try.ntmps18
  go_upto_region 1 with fail
  rw [HW2.out]
  try simp only [HG.out]
  obtain ⟨i0, i1, i2, i3⟩ := four_box19 T0
  obtain ⟨j0, j1, j2, j3⟩ := four_box19 T1
  have HT0 : Hid (W2.heap[G]? = _) := T0
  have HT1 : Hid (W2.heap[G + 1]? = _) := T1
  have HTz : Hid (G + 2 ≤ W2.heap.size) := Tz
  clear T0 T1 Tz
  by_cases hlong : n' < n
  · have hl : (n' : Int) < (n : Int) := by omega
    have HFf : Hid (F = false) := by
      show _ = _
      rw [← HF.out, decide_eq_false (pre_long (by rw [HN.out, HN'.out]; exact hlong))]
    clear HF HA HB
    go_wp2
    go_ret
    rw [HFf.out]
    exact ⟨rfl, b0⟩
  have hl : ¬ (n' : Int) < (n : Int) := by omega
  go_upto_region 4 with fail
  clear i0 i1 i2 i3 j0 j1 j2 j3
  go_loopw [5] (fun i wr => ∃ k : Nat, k ≤ n ∧ i = .int .i64 k ∧ Hid (∀ j, j < k → l[j]? = m[j]?) ∧ Below W2.heap.size W2 wr) (fun i _ => n - (intOf i).toNat)
  case atStart => exact ⟨0, Nat.zero_le _, rfl, fun j hj => absurd hj (Nat.not_lt_zero _), Below.refl _ _⟩
  case round =>
    obtain ⟨k, hk, rfl, HS, hb⟩ := hrel
    obtain ⟨i0, i1, i2, i3⟩ := four_box19 ((hb.block G (by have := HTz.out; omega)).trans HT0.out)
    obtain ⟨j0, j1, j2, j3⟩ := four_box19 ((hb.block (G + 1) (by have := HTz.out; omega)).trans HT1.out)
    by_cases hkn : k < n
    · obtain ⟨ba, oa, rfl, ha, hca⟩ := HA.out (by omega)
      obtain ⟨bb, ob, rfl, hbb, hcb⟩ := HB.out (by omega)
      have hz := HTz.out
      have h1 : wr.cell? ⟨ba, oa + k, none⟩ = some (.string (l.getD k ByteArray.empty)) := (hb.cell (p := ⟨ba, oa + k, none⟩) (by show ba < _; omega)).trans ((b0.cell (p := ⟨ba, oa + k, none⟩) ha).trans (hca k hkn))
      have h2 : wr.cell? ⟨bb, ob + k, none⟩ = some (.string (m.getD k ByteArray.empty)) := (hb.cell (p := ⟨bb, ob + k, none⟩) (by show bb < _; omega)).trans ((b0.cell (p := ⟨bb, ob + k, none⟩) hbb).trans (hcb k (by omega)))
      have HL : Hid (l[k]? = some (l.getD k ByteArray.empty)) := by
        show _ = _
        rw [List.getD_eq_getElem?_getD, List.getElem?_eq_getElem (by have := HN.out; omega)]
        rfl
      have HM : Hid (m[k]? = some (m.getD k ByteArray.empty)) := by
        show _ = _
        rw [List.getD_eq_getElem?_getD, List.getElem?_eq_getElem (by have := HN'.out; omega)]
        rfl
      obtain ⟨y1, hy1⟩ : ∃ y, l.getD k ByteArray.empty = y := ⟨_, rfl⟩
      obtain ⟨y2, hy2⟩ : ∃ y, m.getD k ByteArray.empty = y := ⟨_, rfl⟩
      rw [hy1] at h1 HL
      rw [hy2] at h2 HM
      have hki : (k : Int) < (n : Int) := by omega
      have hki' : (k : Int) < (n' : Int) := by omega
      have hk0 : (0 : Int) ≤ (k : Int) := by omega
      clear hca hcb HA HB hy1 hy2 hz
      by_cases hy : y1 = y2
      · subst hy
        go_wp2
        go_quiet (fail)
        go_wp2
        go_roundw
        case rel => exact ⟨k + 1, by omega, by go_num, fun j hj => by
          by_cases e : j = k
          · subst e; rw [HL.out, HM.out]
          · exact HS.out j (by omega), below_drewN hb _⟩
        case measure => simp [intOf]; omega
      · have hne := text_ne19 hy
        have HFf : Hid (F = false) := by
          show _ = _
          rw [← HF.out, decide_eq_false]
          refine pre_no (j := k) (by rw [HN.out]; exact hkn) ?_
          intro e
          rw [HL.out, HM.out] at e
          exact hy (by injection e)
        go_wp2
        go_quiet (fail)
        go_wp2
        go_ret
        rw [HFf.out]
        exact ⟨rfl, chain b0 (below_drewN hb _)⟩
    · have hke : k = n := by omega
      subst hke
      have HFt : Hid (F = true) := by
        show _ = _
        rw [← HF.out, decide_eq_true]
        exact pre_yes (by rw [HN.out, HN'.out]; omega) (fun j hj => HS.out j (by rw [HN.out] at hj; exact hj))
      clear HF HA HB
      go_wp2
      go_ret
      rw [HFt.out]
      exact ⟨rfl, chain b0 hb⟩

end Go.Proofs.Ytbgdapdenbldmaa
