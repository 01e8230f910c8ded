/-
  The program's Prefix.
-/
import Derived.Test.YtbgdapdenbldmaaPreO20
import Derived.Test.YtbgdapdenbldmaaISameO19
import Derived.BigQuiet
import Derived.Deep.RegionHeld3
namespace Go.Proofs.Ytbgdapdenbldmaa
open Go.RowKit Go.Sort
set_option linter.unusedVariables false

theorem strs_head {w : World} {x : Option Addr} {n c : Nat} {m : List ByteArray} (h : ArgStrs w (.slice x m.length c) m) (hn : n ≤ m.length) : ArgStrs w (.slice x n c) (m.take n) := by
  obtain ⟨x1, c1, e, hm, hs, ho⟩ := h
  injection e with e1 e2 e3
  subst e1 e3
  have hl : (m.take n).length = n := by rw [List.length_take]; omega
  refine ⟨x, c, by rw [hl], by rw [hl]; omega, fun s hs' => hs s (List.mem_of_mem_take hs'), fun h0 => ?_⟩
  rw [hl] at h0
  obtain ⟨b, o, e, hb, hc⟩ := ho (by omega)
  refine ⟨b, o, e, hb, fun j hj => ?_⟩
  rw [hl] at hj
  rw [hc j (by omega)]
  congr 2
  rw [List.getD_eq_getElem?_getD, List.getD_eq_getElem?_getD, List.getElem?_take, if_pos hj]

theorem own_cap20 {w : World} {B n c : Nat} {x : Option Addr} {l : List ByteArray} (h : OwnStrs w B (.slice x n c) l) : n ≤ c := by
  rcases h with ⟨_, ⟨e, _⟩ | ⟨_, _, _, e, _, _, h, _⟩⟩ <;> injection e with e1 e2 e3 <;> omega

set_option maxHeartbeats 2000000 in
set_option maxRecDepth 100000 in
theorem iPrefix_any (p q : POut) (u : Value) (xb : Option Addr) (cb : Nat) (w : World) (hu : ArgStrs w u p.log) (hv : ArgStrs w (.slice xb q.log.length cb) q.log) (hcap : q.log.length ≤ cb) :
    Calls Try.prog 20 #[.agg #[.int .i64 p.fin, .string p.shown, u, .int .i64 p.fuel], .agg #[.int .i64 q.fin, .string q.shown, .slice xb q.log.length cb, .int .i64 q.fuel]] w fun e w' => e = .returned (.bool (preO p q)) ∧ Below w.heap.size w w' := by
  obtain ⟨k0, s, l, k3⟩ := p
  obtain ⟨g0, t, m, g3⟩ := q
  simp only at hu hv hcap ⊢
  have cE := fun W (hb : Below w.heap.size w W) (hn : l.length ≤ m.length) => eqStrs19 u (.slice xb l.length cb) l (m.take l.length) W (hu.below hb) (strs_head (hv.below hb) hn)
  have hm2 : m.length ≤ maxLen := by
    obtain ⟨_, _, _, h, _⟩ := hv
    exact h
  have hxb : 0 < m.length → ∃ b o, xb = some ⟨b, o, none⟩ := by
    intro h
    obtain ⟨x1, c1, e, _, _, ho⟩ := hv
    injection e with e1 e2 e3
    subst e1
    obtain ⟨b, o, e, _⟩ := ho h
    exact ⟨b, o, e⟩
  obtain ⟨xa, ca, rfl, hma, _, _⟩ := hu
  unfold maxLen at hma hm2
  obtain ⟨F, hF⟩ : ∃ F, preO ⟨k0, s, l, k3⟩ ⟨g0, t, m, g3⟩ = F := ⟨_, rfl⟩
  have HF : Hid (decide (m.take l.length = l) = F) := hF
  rw [hF]
  clear hF hv
  have HE : Hid (∀ W, Below w.heap.size w W → l.length ≤ m.length → Calls Try.prog 43 #[.slice xa l.length ca, .slice xb l.length cb] W fun e w' => e = .returned (.bool F) ∧ Below W.heap.size W w') := fun W hb hn => (cE W hb hn).mono (by
    rintro e w' ⟨rfl, b⟩
    refine ⟨?_, b⟩
    rw [← HF.out, decide_eq_decide.2 (show l = m.take l.length ↔ m.take l.length = l from ⟨Eq.symm, Eq.symm⟩)])
  clear cE
  obtain ⟨n, hn⟩ : ∃ n, l.length = n := ⟨_, rfl⟩
  obtain ⟨n', hn'⟩ : ∃ n, m.length = n := ⟨_, rfl⟩
  simp only [hn, hn'] at hma hm2 hcap hxb HE ⊢
  have HN : Hid (l.length = n) := hn
  have HN' : Hid (m.length = n') := hn'
  clear hn hn'
  have b0 : Below w.heap.size w ((w.alloc (.cells #[.int .i64 k0, .string s, .slice xa n ca, .int .i64 k3] 44)).alloc (.cells #[.int .i64 g0, .string t, .slice xb n' cb, .int .i64 g3] 44)) := ((Below.refl _ _).alloc (Nat.le_refl _) _).alloc (by simp) _
  have T0 : ((w.alloc (.cells #[.int .i64 k0, .string s, .slice xa n ca, .int .i64 k3] 44)).alloc (.cells #[.int .i64 g0, .string t, .slice xb n' cb, .int .i64 g3] 44)).heap[w.heap.size]? = some (.cells #[.int .i64 k0, .string s, .slice xa n ca, .int .i64 k3] 44) := by
    rw [heap_alloc_old (r := w.heap.size) _ _ (by simp)]
    exact heap_alloc_new _ _
  have T1 : ((w.alloc (.cells #[.int .i64 k0, .string s, .slice xa n ca, .int .i64 k3] 44)).alloc (.cells #[.int .i64 g0, .string t, .slice xb n' cb, .int .i64 g3] 44)).heap[w.heap.size + 1]? = some (.cells #[.int .i64 g0, .string t, .slice xb n' cb, .int .i64 g3] 44) := by
    rw [show w.heap.size + 1 = (w.alloc (.cells #[.int .i64 k0, .string s, .slice xa n ca, .int .i64 k3] 44)).heap.size by simp]
    exact heap_alloc_new _ _
  have Tz : w.heap.size + 2 ≤ ((w.alloc (.cells #[.int .i64 k0, .string s, .slice xa n ca, .int .i64 k3] 44)).alloc (.cells #[.int .i64 g0, .string t, .slice xb n' cb, .int .i64 g3] 44)).heap.size := by simp
  obtain ⟨W2, hW2⟩ : ∃ W, (w.alloc (.cells #[.int .i64 k0, .string s, .slice xa n ca, .int .i64 k3] 44)).alloc (.cells #[.int .i64 g0, .string t, .slice xb n' cb, .int .i64 g3] 44) = W := ⟨_, rfl⟩
  rw [hW2] at b0 T0 T1 Tz
  have HW2 : Hid (_ = W2) := hW2
  obtain ⟨G, hG⟩ : ∃ G, w.heap.size = G := ⟨_, rfl⟩
  have HG : Hid (w.heap.size = G) := hG
  rw [hG] at T0 T1 Tz
  clear hW2
  go_enter Try.func20, Try.ntmps20
  go_upto_region 1 with fail
  rw [HW2.out]
  try simp only [HG.out]
  have HK : Hid (∀ W, Below W2.heap.size W2 W → W.cell? ⟨G, 2, none⟩ = some (.slice xa n ca) ∧ W.cell? ⟨G + 1, 2, none⟩ = some (.slice xb n' cb)) := fun W hb => ⟨(four_box19 ((hb.block G (by omega)).trans T0)).2.2.1, (four_box19 ((hb.block (G + 1) (by omega)).trans T1)).2.2.1⟩
  obtain ⟨i2, j2⟩ := HK.out W2 (Below.refl _ _)
  clear T0 T1 HW2 Tz
  by_cases hlong : n ≤ n'
  · have hle : (n : Int) ≤ (n' : Int) := by omega
    have hd : decide ((n : Int) ≤ (n' : Int)) = true := decide_eq_true hle
    have hn0 : (0 : Int) ≤ (n : Int) := by omega
    have hnc : (n : Int) ≤ (cb : Int) := by omega
    have hE := fun W hb => HE.out W hb hlong
    have HE2 : Hid (∀ W, Below w.heap.size w W → Calls Try.prog 43 #[.slice xa n ca, .slice xb n cb] W fun e w' => e = .returned (.bool F) ∧ Below W.heap.size W w') := hE
    clear hE HE
    have H2 : Hid (Below w.heap.size w W2) := b0
    rcases xb with _ | ⟨bb, ob, kb⟩
    · have hz : n' = 0 := by
        rcases Nat.eq_zero_or_pos n' with h | h
        · exact h
        · obtain ⟨_, _, e⟩ := hxb h
          cases e
      subst hz
      have hz2 : n = 0 := by omega
      subst hz2
      go_region_held3 (fun W => W.cell? ⟨G, 2, none⟩ = some (.slice xa 0 ca) ∧ W.cell? ⟨G + 1, 2, none⟩ = some (.slice none 0 cb)) (first | exact HK.out _ (by first | with_reducible exact Below.refl _ _ | with_reducible exact (Below.refl _ _).drew | with_reducible exact HM.out | with_reducible exact HM.out.drew) | go_keep)
        (first | (go_at_call 43; (with_reducible refine (HE2.out _ (by first | with_reducible exact H2.out | with_reducible exact H2.out.drew)).mono ?_); rintro e w3 ⟨rfl, b3⟩; have HM : Hid (Below W2.heap.size W2 w3) := (by first | exact b3 | exact chain (Below.refl _ _).drew b3)))
      all_goals
        go_wp2
        go_ret
        exact ⟨rfl, by first | exact chain b0 HM.out | exact chain b0 HM.out.drew⟩
    · go_region_held3 (fun W => W.cell? ⟨G, 2, none⟩ = some (.slice xa n ca) ∧ W.cell? ⟨G + 1, 2, none⟩ = some (.slice (some ⟨bb, ob, kb⟩) n' cb)) (first | exact HK.out _ (by first | with_reducible exact Below.refl _ _ | with_reducible exact (Below.refl _ _).drew | with_reducible exact HM.out | with_reducible exact HM.out.drew) | go_keep)
        (first | (go_at_call 43; (with_reducible refine (HE2.out _ (by first | with_reducible exact H2.out | with_reducible exact H2.out.drew)).mono ?_); rintro e w3 ⟨rfl, b3⟩; have HM : Hid (Below W2.heap.size W2 w3) := (by first | exact b3 | exact chain (Below.refl _ _).drew b3)))
      all_goals
        go_wp2
        go_ret
        exact ⟨rfl, by first | exact chain b0 HM.out | exact chain b0 HM.out.drew⟩
  · have hle : ¬ (n : Int) ≤ (n' : Int) := by omega
    have hd : decide ((n : Int) ≤ (n' : Int)) = false := decide_eq_false hle
    have HFf : Hid (F = false) := by
      show _ = _
      rw [← HF.out, decide_eq_false (pre_long (by rw [HN.out, HN'.out]; omega))]
    clear HF HE HK HN HN' hxb
    go_quiet (fail)
    go_wp2
    go_ret
    rw [HFf.out]
    exact ⟨rfl, by first | exact b0 | exact below_drewN b0 _ | (rw [← HG.out]; exact below_drewN b0 _) | (rw [← HG.out]; exact b0)⟩

end Go.Proofs.Ytbgdapdenbldmaa
