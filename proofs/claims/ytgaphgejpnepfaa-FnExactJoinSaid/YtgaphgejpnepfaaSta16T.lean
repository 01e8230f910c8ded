/-
  The law's own helpers over states: copied, held against each other, marked.
-/
import Derived.Test.YtgaphgejpnepfaaSta16J
namespace Go.Proofs.Ytgaphgejpnepfaa
open Go.RowKit Go.Sort
set_option linter.unusedVariables false

set_option maxHeartbeats 1000000 in
set_option maxRecDepth 100000 in
theorem toState_any (p : PSta) (v : Value) (w : World) (h : ArgI w v p.regs) (hf : p.regs.length ≤ 1048576) :
    Calls Try.prog 24 #[.agg #[.int .i64 p.acc, v]] w fun e w' => ∃ v', e = .returned (.agg #[.int .i64 p.acc, v']) ∧ OwnI w' w.heap.size v' p.regs ∧ Below w.heap.size w w' := by
  have cI := fun W (hb : Below w.heap.size w W) => toIntS_f v p.regs W (h.below hb) hf
  clear h hf
  go_enter Try.func24, Try.ntmps24
  go_wp2_with fail
  have T := made_three w (Obj.cells #[Value.int IntKind.i64 p.acc, v] 49) (Obj.cells #[Value.int IntKind.i64 0, Value.slice none 0 0] 26) (Obj.cells #[Value.int IntKind.i64 p.acc, Value.slice none 0 0] 26)
  obtain ⟨W3, hW3⟩ : ∃ W, (((w.alloc (Obj.cells #[Value.int IntKind.i64 p.acc, v] 49)).alloc (Obj.cells #[Value.int IntKind.i64 0, Value.slice none 0 0] 26)).alloc (Obj.cells #[Value.int IntKind.i64 p.acc, Value.slice none 0 0] 26)) = W := ⟨_, rfl⟩
  rw [hW3] at T ⊢
  clear hW3
  obtain ⟨t0, t1, t2, tz, tb⟩ := T
  obtain ⟨G, hG⟩ : ∃ G, w.heap.size = G := ⟨_, rfl⟩
  obtain ⟨D, hD⟩ : ∃ D, G + 1 + 1 = D := ⟨_, rfl⟩
  rw [hG] at t0 t1 tz
  rw [show w.heap.size + 2 = D by omega] at t2
  have hsz : D + 1 ≤ W3.heap.size := by omega
  have hB : w.heap.size ≤ G := by omega
  clear tz
  refine (cI W3 tb).mono ?_
  rintro e w1 ⟨v1, rfl, own1, b1⟩
  obtain ⟨x1, y1, rfl⟩ := row_slice own1
  obtain ⟨u0, u1, u2, ub, us⟩ := kept_three hD t0 t1 t2 tb hB hsz b1
  have own1' := row_low own1 (B' := D + 1) hsz
  obtain ⟨d0, d1⟩ := two_cells_of u0
  obtain ⟨e0, e1⟩ := two_cells_of u2
  have fD := fun j => frozen_of_row w1 D j _ _ u2
  obtain ⟨s0, s1, s2, sb, ss⟩ := put_field (k := 1) (v := .slice x1 p.regs.length y1) (m' := #[.int .i64 p.acc, .slice x1 p.regs.length y1]) hD u0 u1 u2 ub hB us rfl
  have o1 := ownsRow_setCell_below own1' (a := ⟨D, 1, none⟩) (by show D < D + 1; omega) (.slice x1 p.regs.length y1)
  clear t0 t1 t2 tb hsz b1 own1 u0 u1 u2 ub us own1'
  try simp only [hG, hD]
  go_upto_region 4 with fail
  obtain ⟨V1, hV⟩ : ∃ W, w1.setCell ⟨D, 1, none⟩ (.slice x1 p.regs.length y1) = W := ⟨_, rfl⟩
  simp only [hV] at s0 s1 s2 sb ss o1 ⊢
  clear hV d0 d1 e0 e1 fD
  obtain ⟨e0, e1⟩ := two_cells_of s2
  obtain ⟨i0, i1⟩ := two_cells_of s1
  have fG := fun j => frozen_of_row V1 (G + 1) j _ _ s1
  have z0 : (V1.setCell ⟨G + 1, 0, none⟩ (.int .i64 p.acc)).heap[G + 1]? = some (.cells #[.int .i64 p.acc, .slice none 0 0] 26) := heap_setCell_same _ _ _ _ _ _ s1
  have z1 : ((V1.setCell ⟨G + 1, 0, none⟩ (.int .i64 p.acc)).setCell ⟨G + 1, 1, none⟩ (.slice x1 p.regs.length y1)).heap[G + 1]? = some (.cells #[.int .i64 p.acc, .slice x1 p.regs.length y1] 26) := heap_setCell_same _ _ 1 _ _ _ z0
  obtain ⟨g0, g1⟩ := two_cells_of z1
  have HT : Hid (Below w.heap.size w ((V1.setCell ⟨G + 1, 0, none⟩ (.int .i64 p.acc)).setCell ⟨G + 1, 1, none⟩ (.slice x1 p.regs.length y1)) ∧ OwnI ((V1.setCell ⟨G + 1, 0, none⟩ (.int .i64 p.acc)).setCell ⟨G + 1, 1, none⟩ (.slice x1 p.regs.length y1)) w.heap.size (.slice x1 p.regs.length y1) p.regs) := by
    have q : ∀ (W : World) (j : Nat) (u : Value), Below w.heap.size w W → Below w.heap.size w (W.setCell ⟨G + 1, j, none⟩ u) := fun W j u h => h.setCell (p := ⟨G + 1, j, none⟩) (by show _ ≤ G + 1; omega) u
    exact ⟨q _ _ _ (q _ _ _ sb), row_low (ownsRow_setCell_below (ownsRow_setCell_below o1 (a := ⟨G + 1, 0, none⟩) (by show G + 1 < D + 1; omega) _) (a := ⟨G + 1, 1, none⟩) (by show G + 1 < D + 1; omega) _) (by omega)⟩
  have HTG : Hid (Below G w ((V1.setCell ⟨G + 1, 0, none⟩ (.int .i64 p.acc)).setCell ⟨G + 1, 1, none⟩ (.slice x1 p.regs.length y1)) ∧ OwnI ((V1.setCell ⟨G + 1, 0, none⟩ (.int .i64 p.acc)).setCell ⟨G + 1, 1, none⟩ (.slice x1 p.regs.length y1)) G (.slice x1 p.regs.length y1) p.regs) := by
    have h := HT.out
    rw [hG] at h
    exact h
  clear s0 s1 s2 z0 z1 sb o1 cI
  go_wp2
  refine bodyPost_ret (by simp [results, Try.results24, go_sem, g0, g1]; try rfl) rfl ?_
  first | exact ⟨_, rfl, HT.out.2, HT.out.1⟩ | exact ⟨_, rfl, HTG.out.2, HTG.out.1⟩ | exact ⟨_, rfl, HTG.out.2, HT.out.1⟩

set_option maxHeartbeats 1000000 in
set_option maxRecDepth 100000 in
theorem eqState_any (p q : PSta) (u v : Value) (w : World) (hu : ArgI w u p.regs) (hv : ArgI w v q.regs) :
    Calls Try.prog 25 #[.agg #[.int .i64 p.acc, u], .agg #[.int .i64 q.acc, v]] w fun e w' => e = .returned (.bool (decide (p.acc = q.acc) && decide (p.regs = q.regs))) ∧ Below w.heap.size w w' := by
  have b0 : Below w.heap.size w ((w.alloc (.cells #[.int .i64 p.acc, u] 26)).alloc (.cells #[.int .i64 q.acc, v] 26)) := ((Below.refl _ _).alloc (Nat.le_refl _) _).alloc (by simp) _
  have cE := eqIntS_f u v p.regs q.regs _ (hu.below b0) (hv.below b0)
  clear hu hv
  obtain ⟨E, hE⟩ : ∃ E, decide (p.regs = q.regs) = E := ⟨_, rfl⟩
  simp only [hE] at cE ⊢
  clear hE
  by_cases h : p.acc = q.acc
  · rw [h, decide_eq_true rfl, Bool.true_and]
    rw [h] at cE b0
    cases E
    all_goals
      go_enter Try.func25, Try.ntmps25
      go_wp2_with fail
      refine cE.mono ?_
      rintro e w' ⟨rfl, hb⟩
      go_wp2
      go_ret
      exact ⟨rfl, chain b0 hb⟩
  · rw [decide_eq_false h, Bool.false_and]
    have z : (p.acc == q.acc) = false := by rw [beq_eq_false_iff_ne]; exact h
    clear cE
    go_enter Try.func25, Try.ntmps25
    go_wp2
    go_ret
    exact ⟨rfl, b0⟩

end Go.Proofs.Ytgaphgejpnepfaa
