/-
  The law's own helper that copies a function of an image.
-/
import Derived.Test.YtojmmmfboahkgaaDoorImg13T
import Derived.Deep.DeepCutAuto
namespace Go.Proofs.YtojmmmfboahkgaaDoor
open Go.RowKit
set_option linter.unusedVariables false

theorem cells_five {w : World} {g : Nat} {a0 a1 a2 a3 a4 : Value} {t : TypeId} {r : Nat × Nat} (h : w.heap[g]? = some (.cells #[a0, a1, a2, a3, a4] t r)) :
    w.cell? ⟨g, 0, none⟩ = some a0 ∧ w.cell? ⟨g, 1, none⟩ = some a1 ∧ w.cell? ⟨g, 2, none⟩ = some a2 ∧ w.cell? ⟨g, 3, none⟩ = some a3 ∧ w.cell? ⟨g, 4, none⟩ = some a4 := by
  refine ⟨?_, ?_, ?_, ?_, ?_⟩ <;> (rw [cell_of_row _ _ _ _ _ _ h]; rfl)
theorem five_put {w : World} {g : Nat} {a0 a1 a2 a3 a4 b0 b1 b2 b3 b4 : Value} {t : TypeId} (h : w.heap[g]? = some (.cells #[a0, a1, a2, a3, a4] t)) :
    (((((w.setCell ⟨g, 0, none⟩ b0).setCell ⟨g, 1, none⟩ b1).setCell ⟨g, 2, none⟩ b2).setCell ⟨g, 3, none⟩ b3).setCell ⟨g, 4, none⟩ b4).heap[g]? = some (.cells #[b0, b1, b2, b3, b4] t) := by
  have k0 : (w.setCell ⟨g, 0, none⟩ b0).heap[g]? = some (.cells #[b0, a1, a2, a3, a4] t) := heap_setCell_same _ _ _ _ _ _ h
  have k1 := heap_setCell_same _ _ 1 _ _ b1 k0
  have k2 : _ = some (Obj.cells #[b0, b1, b2, a3, a4] t) := heap_setCell_same _ _ 2 _ _ b2 k1
  have k3 := heap_setCell_same _ _ 3 _ _ b3 k2
  exact heap_setCell_same _ _ 4 _ _ b4 k3
/-- three blocks made one behind another -/
theorem made_three (w : World) (o1 o2 o3 : Obj) : (((w.alloc o1).alloc o2).alloc o3).heap[w.heap.size]? = some o1 ∧ (((w.alloc o1).alloc o2).alloc o3).heap[w.heap.size + 1]? = some o2 ∧ (((w.alloc o1).alloc o2).alloc o3).heap[w.heap.size + 2]? = some o3 ∧ (((w.alloc o1).alloc o2).alloc o3).heap.size = w.heap.size + 3 ∧ Below w.heap.size w (((w.alloc o1).alloc o2).alloc o3) := by
  have z1 : (w.alloc o1).heap.size = w.heap.size + 1 := by simp
  have z2 : ((w.alloc o1).alloc o2).heap.size = w.heap.size + 2 := by simp
  refine ⟨?_, ?_, ?_, by simp, (((Below.refl _ _).alloc (Nat.le_refl _) _).alloc (by simp) _).alloc (by simp; omega) _⟩
  · rw [heap_alloc_old (r := w.heap.size) _ _ (by omega), heap_alloc_old (r := w.heap.size) _ _ (by omega)]
    exact heap_alloc_new _ _
  · rw [heap_alloc_old (r := w.heap.size + 1) _ _ (by omega), ← z1]
    exact heap_alloc_new _ _
  · rw [← z2]
    exact heap_alloc_new _ _
/-- three blocks of a copying call: what came in, the result, what is made; a row is stored into a field of the last one -/
theorem put_field {w0 w1 : World} {G D k : Nat} {i r m m' : Array Value} {ti tr tm : TypeId} {B : Nat} {v : Value} (hD : G + 1 + 1 = D) (h0 : w1.heap[G]? = some (.cells i ti)) (h1 : w1.heap[G + 1]? = some (.cells r tr)) (h2 : w1.heap[D]? = some (.cells m tm)) (hb : Below B w0 w1) (hB : B ≤ G) (hs : D + 1 ≤ w1.heap.size) (hm : m.set! k v = m') :
    (w1.setCell ⟨D, k, none⟩ v).heap[G]? = some (.cells i ti) ∧ (w1.setCell ⟨D, k, none⟩ v).heap[G + 1]? = some (.cells r tr) ∧ (w1.setCell ⟨D, k, none⟩ v).heap[D]? = some (.cells m' tm) ∧ Below B w0 (w1.setCell ⟨D, k, none⟩ v) ∧ D + 1 ≤ (w1.setCell ⟨D, k, none⟩ v).heap.size := by
  refine ⟨(heap_setCell_other w1 ⟨D, k, none⟩ G v (by show G ≠ D; omega)).trans h0, (heap_setCell_other w1 ⟨D, k, none⟩ (G + 1) v (by show G + 1 ≠ D; omega)).trans h1, ?_, hb.setCell (p := ⟨D, k, none⟩) (by show B ≤ D; omega) v, by simp; omega⟩
  rw [← hm]
  exact heap_setCell_same w1 D k _ _ v h2
/-- .. kept behind a call -/
theorem kept_three {w0 w1 w2 : World} {G D : Nat} {i r m : Array Value} {ti tr tm : TypeId} {B : Nat} (hD : G + 1 + 1 = D) (h0 : w1.heap[G]? = some (.cells i ti)) (h1 : w1.heap[G + 1]? = some (.cells r tr)) (h2 : w1.heap[D]? = some (.cells m tm)) (hb : Below B w0 w1) (hB : B ≤ G) (hs : D + 1 ≤ w1.heap.size) (b : Below w1.heap.size w1 w2) :
    w2.heap[G]? = some (.cells i ti) ∧ w2.heap[G + 1]? = some (.cells r tr) ∧ w2.heap[D]? = some (.cells m tm) ∧ Below B w0 w2 ∧ D + 1 ≤ w2.heap.size :=
  ⟨(b.block G (by omega)).trans h0, (b.block (G + 1) (by omega)).trans h1, (b.block D (by omega)).trans h2, hb.trans (b.mono (by omega)), Nat.le_trans hs b.size⟩

set_option maxHeartbeats 1000000 in
set_option maxRecDepth 100000 in
theorem toFunc_any (p : PFun) (cv kv hv : Value) (w : World) (h2 : ArgFlat w cv 2 p.caps.length (p.caps.flatMap capC)) (h3 : ArgFlat w kv 3 p.code.length (p.code.flatMap insC)) (h4 : ArgFlat w hv 3 p.hnds.length (p.hnds.flatMap hndC)) (hf : p.caps.length ≤ 1048576 ∧ p.code.length ≤ 1048576 ∧ p.hnds.length ≤ 1048576) :
    Calls Tryd.prog 34 #[.agg #[.int .i64 p.params, .int .i64 p.regs, cv, kv, hv]] w fun e w' => ∃ cv' kv' hv', e = .returned (.agg #[.int .i64 p.params, .int .i64 p.regs, cv', kv', hv']) ∧ w'.ownsRow w.heap.size 94 2 cv' p.caps.length (p.caps.flatMap capC) ∧ w'.ownsRow w.heap.size 25 3 kv' p.code.length (p.code.flatMap insC) ∧ w'.ownsRow w.heap.size 96 3 hv' p.hnds.length (p.hnds.flatMap hndC) ∧ Below w.heap.size w w' := by
  have cC := fun W (hb : Below w.heap.size w W) => toCapS_any cv p.caps W (h2.below hb) hf.1
  have cK := fun W (hb : Below w.heap.size w W) => toInsS_any kv p.code W (h3.below hb) hf.2.1
  have cH := fun W (hb : Below w.heap.size w W) => toHandlerS_any hv p.hnds W (h4.below hb) hf.2.2
  clear h2 h3 h4 hf
  go_enter Tryd.func34, Tryd.ntmps34
  go_wp2_with fail
  have T := made_three w (Obj.cells #[Value.int IntKind.i64 p.params, Value.int IntKind.i64 p.regs, cv, kv, hv] 75) (Obj.cells #[Value.int IntKind.i64 0, Value.int IntKind.i64 0, Value.slice none 0 0, Value.slice none 0 0, Value.slice none 0 0] 54) (Obj.cells #[Value.int IntKind.i64 p.params, Value.int IntKind.i64 p.regs, Value.slice none 0 0, Value.slice none 0 0, Value.slice none 0 0] 54)
  obtain ⟨W3, hW3⟩ : ∃ W, (((w.alloc (Obj.cells #[Value.int IntKind.i64 p.params, Value.int IntKind.i64 p.regs, cv, kv, hv] 75)).alloc (Obj.cells #[Value.int IntKind.i64 0, Value.int IntKind.i64 0, Value.slice none 0 0, Value.slice none 0 0, Value.slice none 0 0] 54)).alloc (Obj.cells #[Value.int IntKind.i64 p.params, Value.int IntKind.i64 p.regs, Value.slice none 0 0, Value.slice none 0 0, Value.slice none 0 0] 54)) = W := ⟨_, rfl⟩
  rw [hW3] at T ⊢
  clear hW3
  obtain ⟨t0, t1, t2, tz, tb⟩ := T
  obtain ⟨G, hG⟩ : ∃ G, w.heap.size = G := ⟨_, rfl⟩
  obtain ⟨D, hD⟩ : ∃ D, G + 1 + 1 = D := ⟨_, rfl⟩
  rw [hG] at t0 t1 tz
  rw [show w.heap.size + 2 = D by omega] at t2
  have hsz : D + 1 ≤ W3.heap.size := by omega
  have HG : Hid (w.heap.size = G) := hG
  have hB : w.heap.size ≤ G := by omega
  clear tz
  refine (cC W3 tb).mono ?_
  rintro e w1 ⟨v1, rfl, own1, b1⟩
  obtain ⟨x1, y1, rfl⟩ := row_slice own1
  obtain ⟨u0, u1, u2, ub, us⟩ := kept_three hD t0 t1 t2 tb hB hsz b1
  have own1' : w1.ownsRow (D + 1) 94 2 (.slice x1 p.caps.length y1) p.caps.length (p.caps.flatMap capC) := row_low own1 hsz
  obtain ⟨d0, d1, d2, d3, d4⟩ := cells_five u0
  obtain ⟨e0, e1, e2, e3, e4⟩ := cells_five u2
  have fD := fun j => frozen_of_row w1 D j _ _ u2
  obtain ⟨s0, s1, s2, sb, ss⟩ := put_field (k := 2) (v := .slice x1 p.caps.length y1) (m' := #[.int .i64 p.params, .int .i64 p.regs, .slice x1 p.caps.length y1, .slice none 0 0, .slice none 0 0]) hD u0 u1 u2 ub hB us rfl
  have own1'' : (w1.setCell ⟨D, 2, none⟩ (.slice x1 p.caps.length y1)).ownsRow (D + 1) 94 2 (.slice x1 p.caps.length y1) p.caps.length (p.caps.flatMap capC) := ownsRow_setCell_below own1' (a := ⟨D, 2, none⟩) (by show D < D + 1; omega) _
  clear t0 t1 t2 tb hsz b1 own1 u0 u1 u2 ub us own1'
  try simp only [hG, hD]
  go_upto_region 5 with fail
  obtain ⟨V1, hV⟩ : ∃ W, w1.setCell ⟨D, 2, none⟩ (.slice x1 p.caps.length y1) = W := ⟨_, rfl⟩
  simp only [hV] at s0 s1 s2 sb ss own1'' ⊢
  clear hV d0 d1 d2 d3 d4 e0 e1 e2 e3 e4 fD
  have own1' := own1''
  clear own1''
  have t0 := s0
  have t1 := s1
  have t2 := s2
  have tb := sb
  have hsz := ss
  clear s0 s1 s2 sb ss
  obtain ⟨d0, d1, d2, d3, d4⟩ := cells_five t0
  go_wp2_with fail
  refine (cK V1 tb).mono ?_
  rintro e w2 ⟨v2, rfl, own2, b2⟩
  clear d0 d1 d2 d3 d4
  obtain ⟨x2, y2, rfl⟩ := row_slice own2
  obtain ⟨u0, u1, u2, ub, us⟩ := kept_three hD t0 t1 t2 tb hB hsz b2
  have own2' : w2.ownsRow (D + 1) 25 3 (.slice x2 p.code.length y2) p.code.length (p.code.flatMap insC) := row_low own2 hsz
  have own1' := row_keep own1' b2
  obtain ⟨d0, d1, d2, d3, d4⟩ := cells_five u0
  obtain ⟨e0, e1, e2, e3, e4⟩ := cells_five u2
  have fD := fun j => frozen_of_row w2 D j _ _ u2
  obtain ⟨s0, s1, s2, sb, ss⟩ := put_field (k := 3) (v := .slice x2 p.code.length y2) (m' := #[.int .i64 p.params, .int .i64 p.regs, .slice x1 p.caps.length y1, .slice x2 p.code.length y2, .slice none 0 0]) hD u0 u1 u2 ub hB us rfl
  have own1'' : (w2.setCell ⟨D, 3, none⟩ (.slice x2 p.code.length y2)).ownsRow (D + 1) 94 2 (.slice x1 p.caps.length y1) p.caps.length (p.caps.flatMap capC) := ownsRow_setCell_below own1' (a := ⟨D, 3, none⟩) (by show D < D + 1; omega) _
  have own2'' : (w2.setCell ⟨D, 3, none⟩ (.slice x2 p.code.length y2)).ownsRow (D + 1) 25 3 (.slice x2 p.code.length y2) p.code.length (p.code.flatMap insC) := ownsRow_setCell_below own2' (a := ⟨D, 3, none⟩) (by show D < D + 1; omega) _
  clear t0 t1 t2 tb hsz b2 own2 u0 u1 u2 ub us own1' own2'
  go_upto_region 6 with fail
  obtain ⟨V2, hV⟩ : ∃ W, w2.setCell ⟨D, 3, none⟩ (.slice x2 p.code.length y2) = W := ⟨_, rfl⟩
  simp only [hV] at s0 s1 s2 sb ss own1'' own2'' ⊢
  clear hV d0 d1 d2 d3 d4 e0 e1 e2 e3 e4 fD
  have own1' := own1''
  have own2' := own2''
  clear own1'' own2''
  have t0 := s0
  have t1 := s1
  have t2 := s2
  have tb := sb
  have hsz := ss
  clear s0 s1 s2 sb ss
  obtain ⟨d0, d1, d2, d3, d4⟩ := cells_five t0
  go_wp2_with fail
  refine (cH V2 tb).mono ?_
  rintro e w3 ⟨v3, rfl, own3, b3⟩
  clear d0 d1 d2 d3 d4
  obtain ⟨x3, y3, rfl⟩ := row_slice own3
  obtain ⟨u0, u1, u2, ub, us⟩ := kept_three hD t0 t1 t2 tb hB hsz b3
  have own3' : w3.ownsRow (D + 1) 96 3 (.slice x3 p.hnds.length y3) p.hnds.length (p.hnds.flatMap hndC) := row_low own3 hsz
  have own1' := row_keep own1' b3
  have own2' := row_keep own2' b3
  obtain ⟨d0, d1, d2, d3, d4⟩ := cells_five u0
  obtain ⟨e0, e1, e2, e3, e4⟩ := cells_five u2
  have fD := fun j => frozen_of_row w3 D j _ _ u2
  obtain ⟨s0, s1, s2, sb, ss⟩ := put_field (k := 4) (v := .slice x3 p.hnds.length y3) (m' := #[.int .i64 p.params, .int .i64 p.regs, .slice x1 p.caps.length y1, .slice x2 p.code.length y2, .slice x3 p.hnds.length y3]) hD u0 u1 u2 ub hB us rfl
  have own1'' : (w3.setCell ⟨D, 4, none⟩ (.slice x3 p.hnds.length y3)).ownsRow (D + 1) 94 2 (.slice x1 p.caps.length y1) p.caps.length (p.caps.flatMap capC) := ownsRow_setCell_below own1' (a := ⟨D, 4, none⟩) (by show D < D + 1; omega) _
  have own2'' : (w3.setCell ⟨D, 4, none⟩ (.slice x3 p.hnds.length y3)).ownsRow (D + 1) 25 3 (.slice x2 p.code.length y2) p.code.length (p.code.flatMap insC) := ownsRow_setCell_below own2' (a := ⟨D, 4, none⟩) (by show D < D + 1; omega) _
  have own3'' : (w3.setCell ⟨D, 4, none⟩ (.slice x3 p.hnds.length y3)).ownsRow (D + 1) 96 3 (.slice x3 p.hnds.length y3) p.hnds.length (p.hnds.flatMap hndC) := ownsRow_setCell_below own3' (a := ⟨D, 4, none⟩) (by show D < D + 1; omega) _
  clear t0 t1 t2 tb hsz b3 own3 u0 u1 u2 ub us own1' own2' own3'
  go_upto_region 7 with fail
  obtain ⟨V3, hV⟩ : ∃ W, w3.setCell ⟨D, 4, none⟩ (.slice x3 p.hnds.length y3) = W := ⟨_, rfl⟩
  simp only [hV] at s0 s1 s2 sb ss own1'' own2'' own3'' ⊢
  clear hV d0 d1 d2 d3 d4 e0 e1 e2 e3 e4 fD
  have own1' := own1''
  have own2' := own2''
  have own3' := own3''
  clear own1'' own2'' own3''
  have t0 := s0
  have t1 := s1
  have t2 := s2
  have tb := sb
  have hsz := ss
  clear s0 s1 s2 sb ss
  obtain ⟨e0, e1, e2, e3, e4⟩ := cells_five t2
  obtain ⟨i0, i1, i2, i3, i4⟩ := cells_five t1
  have fG := fun j => frozen_of_row V3 (G + 1) j _ _ t1
  have z1 := five_put (b0 := .int .i64 p.params) (b1 := .int .i64 p.regs) (b2 := .slice x1 p.caps.length y1) (b3 := .slice x2 p.code.length y2) (b4 := .slice x3 p.hnds.length y3) t1
  obtain ⟨g0, g1, g2, g3, g4⟩ := cells_five z1
  have HT : Hid (Below w.heap.size w (((((V3.setCell ⟨G + 1, 0, none⟩ (.int .i64 p.params)).setCell ⟨G + 1, 1, none⟩ (.int .i64 p.regs)).setCell ⟨G + 1, 2, none⟩ (.slice x1 p.caps.length y1)).setCell ⟨G + 1, 3, none⟩ (.slice x2 p.code.length y2)).setCell ⟨G + 1, 4, none⟩ (.slice x3 p.hnds.length y3)) ∧ (((((V3.setCell ⟨G + 1, 0, none⟩ (.int .i64 p.params)).setCell ⟨G + 1, 1, none⟩ (.int .i64 p.regs)).setCell ⟨G + 1, 2, none⟩ (.slice x1 p.caps.length y1)).setCell ⟨G + 1, 3, none⟩ (.slice x2 p.code.length y2)).setCell ⟨G + 1, 4, none⟩ (.slice x3 p.hnds.length y3)).ownsRow w.heap.size 94 2 (.slice x1 p.caps.length y1) p.caps.length (p.caps.flatMap capC) ∧ (((((V3.setCell ⟨G + 1, 0, none⟩ (.int .i64 p.params)).setCell ⟨G + 1, 1, none⟩ (.int .i64 p.regs)).setCell ⟨G + 1, 2, none⟩ (.slice x1 p.caps.length y1)).setCell ⟨G + 1, 3, none⟩ (.slice x2 p.code.length y2)).setCell ⟨G + 1, 4, none⟩ (.slice x3 p.hnds.length y3)).ownsRow w.heap.size 25 3 (.slice x2 p.code.length y2) p.code.length (p.code.flatMap insC) ∧ (((((V3.setCell ⟨G + 1, 0, none⟩ (.int .i64 p.params)).setCell ⟨G + 1, 1, none⟩ (.int .i64 p.regs)).setCell ⟨G + 1, 2, none⟩ (.slice x1 p.caps.length y1)).setCell ⟨G + 1, 3, none⟩ (.slice x2 p.code.length y2)).setCell ⟨G + 1, 4, none⟩ (.slice x3 p.hnds.length y3)).ownsRow w.heap.size 96 3 (.slice x3 p.hnds.length y3) p.hnds.length (p.hnds.flatMap hndC)) := by
    have q : ∀ (W : World) (j : Nat) (u : Value), Below w.heap.size w W → Below w.heap.size w (W.setCell ⟨G + 1, j, none⟩ u) := fun W j u h => h.setCell (p := ⟨G + 1, j, none⟩) (by show _ ≤ G + 1; omega) u
    have r : ∀ (W : World) (j : Nat) (u : Value) (e : TypeId) (k : Nat) (v : Value) (n : Nat) (xs : List Value), W.ownsRow (D + 1) e k v n xs → (W.setCell ⟨G + 1, j, none⟩ u).ownsRow (D + 1) e k v n xs := fun W j u e k v n xs h => ownsRow_setCell_below h (by show G + 1 < D + 1; omega) u
    exact ⟨q _ _ _ (q _ _ _ (q _ _ _ (q _ _ _ (q _ _ _ tb)))),
      row_low (r _ _ _ _ _ _ _ _ (r _ _ _ _ _ _ _ _ (r _ _ _ _ _ _ _ _ (r _ _ _ _ _ _ _ _ (r _ _ _ _ _ _ _ _ own1'))))) (by omega),
      row_low (r _ _ _ _ _ _ _ _ (r _ _ _ _ _ _ _ _ (r _ _ _ _ _ _ _ _ (r _ _ _ _ _ _ _ _ (r _ _ _ _ _ _ _ _ own2'))))) (by omega),
      row_low (r _ _ _ _ _ _ _ _ (r _ _ _ _ _ _ _ _ (r _ _ _ _ _ _ _ _ (r _ _ _ _ _ _ _ _ (r _ _ _ _ _ _ _ _ own3'))))) (by omega)⟩
  clear t0 t1 t2 z1 tb own1' own2' own3' cC cK cH
  go_wp2
  refine bodyPost_ret (by simp [results, Tryd.results34, go_sem, g0, g1, g2, g3, g4]; try rfl) rfl ?_
  exact ⟨_, _, _, rfl, HT.out.2.1, HT.out.2.2.1, HT.out.2.2.2, HT.out.1⟩

end Go.Proofs.YtojmmmfboahkgaaDoor
