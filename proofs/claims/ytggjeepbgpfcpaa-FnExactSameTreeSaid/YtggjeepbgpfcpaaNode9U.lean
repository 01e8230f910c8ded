/-
  The law's own helper that copies a node.
-/
import Derived.Test.YtggjeepbgpfcpaaNode9T
import Derived.Deep.DeepCutAuto
namespace Go.Proofs.Ytggjeepbgpfcpaa
open Go.RowKit
set_option linter.unusedVariables false

theorem bcell {W w1 : World} (hb : Below W.heap.size W w1) : (∀ b o, b < W.heap.size → w1.cell? ⟨b, o, none⟩ = W.cell? ⟨b, o, none⟩) ∧ (∀ b o, b < W.heap.size → w1.frozen? ⟨b, o, none⟩ = W.frozen? ⟨b, o, none⟩) :=
  ⟨fun b o h => hb.cell (p := ⟨b, o, none⟩) h, fun b o h => hb.frozen (p := ⟨b, o, none⟩) h⟩

theorem own_slice {w : World} {B : Nat} {e : TypeId} {size : Nat} {v : Value} {n : Nat} {xs : List Value} (h : w.ownsRow B e size v n xs) : ∃ x c, v = .slice x n c := by
  obtain ⟨_, ⟨rfl, rfl⟩ | ⟨g, cap, cur, rfl, _⟩⟩ := h
  · exact ⟨_, _, rfl⟩
  · exact ⟨_, _, rfl⟩

theorem own_keep {w w' : World} {B : Nat} {e : TypeId} {size : Nat} {v : Value} {n : Nat} {xs : List Value} (h : w.ownsRow B e size v n xs) (hb : Below w.heap.size w w') : w'.ownsRow B e size v n xs :=
  h.kept (row := none) ⟨hb.os, hb.tape, hb.output, hb.size, fun k hk _ => hb.block k hk⟩ (by cases h2 : v.ownBlock <;> simp)
theorem eight_put {w : World} {g : Nat} {a0 a1 a2 a3 a4 a5 a6 a7 b0 b1 b2 b3 b4 b5 b6 b7 : Value} {t : TypeId} (h : w.heap[g]? = some (.cells #[a0, a1, a2, a3, a4, a5, a6, a7] t)) :
    ((((((((w.setCell ⟨g, 0, none⟩ b0).setCell ⟨g, 1, none⟩ b1).setCell ⟨g, 2, none⟩ b2).setCell ⟨g, 3, none⟩ b3).setCell ⟨g, 4, none⟩ b4).setCell ⟨g, 5, none⟩ b5).setCell ⟨g, 6, none⟩ b6).setCell ⟨g, 7, none⟩ b7).heap[g]? = some (.cells #[b0, b1, b2, b3, b4, b5, b6, b7] t) := by
  have k0 : (w.setCell ⟨g, 0, none⟩ b0).heap[g]? = some (.cells #[b0, a1, a2, a3, a4, a5, a6, a7] t) := heap_setCell_same _ _ _ _ _ _ h
  have k1 := heap_setCell_same _ _ 1 _ _ b1 k0
  have k2 : _ = some (Obj.cells #[b0, b1, b2, a3, a4, a5, a6, a7] t) := heap_setCell_same _ _ 2 _ _ b2 k1
  have k3 := heap_setCell_same _ _ 3 _ _ b3 k2
  have k4 : _ = some (Obj.cells #[b0, b1, b2, b3, b4, a5, a6, a7] t) := heap_setCell_same _ _ 4 _ _ b4 k3
  have k5 := heap_setCell_same _ _ 5 _ _ b5 k4
  have k6 : _ = some (Obj.cells #[b0, b1, b2, b3, b4, b5, b6, a7] t) := heap_setCell_same _ _ 6 _ _ b6 k5
  exact heap_setCell_same _ _ 7 _ _ b7 k6
theorem cells_eight {w : World} {g : Nat} {a0 a1 a2 a3 a4 a5 a6 a7 : Value} {t : TypeId} {r : Nat × Nat} (h : w.heap[g]? = some (.cells #[a0, a1, a2, a3, a4, a5, a6, a7] t r)) :
    w.cell? ⟨g, 0, none⟩ = some a0 ∧ w.cell? ⟨g, 1, none⟩ = some a1 ∧ w.cell? ⟨g, 2, none⟩ = some a2 ∧ w.cell? ⟨g, 3, none⟩ = some a3 ∧ w.cell? ⟨g, 4, none⟩ = some a4 ∧ w.cell? ⟨g, 5, none⟩ = some a5 ∧ w.cell? ⟨g, 6, none⟩ = some a6 ∧ w.cell? ⟨g, 7, none⟩ = some a7 := by
  refine ⟨?_, ?_, ?_, ?_, ?_, ?_, ?_, ?_⟩ <;> (rw [cell_of_row _ _ _ _ _ _ h]; rfl)

/-- three blocks made one behind another -/
theorem three_new (w : World) (o1 o2 o3 : Obj) : (((w.alloc o1).alloc o2).alloc o3).heap[w.heap.size]? = some o1 ∧ (((w.alloc o1).alloc o2).alloc o3).heap[w.heap.size + 1]? = some o2 ∧ (((w.alloc o1).alloc o2).alloc o3).heap[w.heap.size + 2]? = some o3 ∧ (((w.alloc o1).alloc o2).alloc o3).heap.size = w.heap.size + 3 ∧ Below w.heap.size w (((w.alloc o1).alloc o2).alloc o3) := by
  have z1 : (w.alloc o1).heap.size = w.heap.size + 1 := by simp
  have z2 : ((w.alloc o1).alloc o2).heap.size = w.heap.size + 2 := by simp
  refine ⟨?_, ?_, ?_, by simp, (((Below.refl _ _).alloc (Nat.le_refl _) _).alloc (by simp) _).alloc (by simp; omega) _⟩
  · rw [heap_alloc_old (r := w.heap.size) _ _ (by omega), heap_alloc_old (r := w.heap.size) _ _ (by omega)]
    exact heap_alloc_new _ _
  · rw [heap_alloc_old (r := w.heap.size + 1) _ _ (by omega), ← z1]
    exact heap_alloc_new _ _
  · rw [← z2]
    exact heap_alloc_new _ _

set_option maxHeartbeats 1000000 in
set_option maxRecDepth 100000 in
theorem toNode_any (p : PNode) (lv nv : Value) (w : World) (hl : ArgInts w lv p.list) (hn : ArgStrs w nv p.names) (h1 : p.list.length ≤ 1048576) (h2 : p.names.length ≤ 1048576) :
    Calls Try.prog 18 #[.agg (nodeC p lv nv).toArray] w fun e w' => ∃ lv' nv', e = .returned (.agg (nodeC p lv' nv').toArray) ∧ w'.ownsRow w.heap.size 3 1 lv' p.list.length (p.list.map (Value.int .i64)) ∧ w'.ownsRow w.heap.size 9 1 nv' p.names.length (p.names.map Value.string) ∧ Below w.heap.size w w' := by
  have cI := fun W (hb : Below w.heap.size w W) => toIntS_any lv p.list W (hl.below hb) h1
  have cS := fun W (hb : Below w.heap.size w W) => toStringS_any nv p.names W (hn.below hb) h2
  clear hl hn
  unfold nodeC
  go_enter Try.func18, Try.ntmps18
  go_wp2_with fail
  have T := three_new w (Obj.cells #[Value.int IntKind.i64 p.kind, Value.int IntKind.i64 p.a, Value.int IntKind.i64 p.b, Value.int IntKind.i64 p.c, lv, nv, Value.int IntKind.u64 ↑p.num, Value.int IntKind.i64 p.pos] 36) (Obj.cells #[Value.int IntKind.i64 0, Value.int IntKind.i64 0, Value.int IntKind.i64 0, Value.int IntKind.i64 0, Value.slice none 0 0, Value.slice none 0 0, Value.int IntKind.u64 0, Value.int IntKind.i64 0] 38) (Obj.cells #[Value.int IntKind.i64 p.kind, Value.int IntKind.i64 p.a, Value.int IntKind.i64 p.b, Value.int IntKind.i64 p.c, Value.slice none 0 0, Value.slice none 0 0, Value.int IntKind.u64 0, Value.int IntKind.i64 0] 38)
  obtain ⟨W3, hW3⟩ : ∃ W, (((w.alloc (Obj.cells #[Value.int IntKind.i64 p.kind, Value.int IntKind.i64 p.a, Value.int IntKind.i64 p.b, Value.int IntKind.i64 p.c, lv, nv, Value.int IntKind.u64 ↑p.num, Value.int IntKind.i64 p.pos] 36)).alloc (Obj.cells #[Value.int IntKind.i64 0, Value.int IntKind.i64 0, Value.int IntKind.i64 0, Value.int IntKind.i64 0, Value.slice none 0 0, Value.slice none 0 0, Value.int IntKind.u64 0, Value.int IntKind.i64 0] 38)).alloc (Obj.cells #[Value.int IntKind.i64 p.kind, Value.int IntKind.i64 p.a, Value.int IntKind.i64 p.b, Value.int IntKind.i64 p.c, Value.slice none 0 0, Value.slice none 0 0, Value.int IntKind.u64 0, Value.int IntKind.i64 0] 38)) = W := ⟨_, rfl⟩
  rw [hW3] at T ⊢
  clear hW3
  obtain ⟨t0, t1, t2, tz, tb⟩ := T
  refine (cI W3 tb).mono ?_
  rintro e w2 ⟨lv1, rfl, own1, b2⟩
  obtain ⟨xa, xc, rfl⟩ := own_slice own1
  have s2 := b2.size
  obtain ⟨G, hG⟩ : ∃ G, w.heap.size = G := ⟨_, rfl⟩
  obtain ⟨D, hD⟩ : ∃ D, G + 1 + 1 = D := ⟨_, rfl⟩
  have u0 := (b2.block G (by omega)).trans (hG ▸ t0)
  have u1 := (b2.block (G + 1) (by omega)).trans (hG ▸ t1)
  rw [show w.heap.size + 2 = D by omega] at t2
  have u2 := (b2.block D (by omega)).trans t2
  have d5 := cell_of_row w2 G 5 _ _ _ u0
  have f4 := frozen_of_row w2 D 4 _ _ u2
  have e4 := cell_of_row w2 D 4 _ _ _ u2
  simp at d5 e4
  have tb2 : Below w.heap.size w (w2.setCell ⟨D, 4, none⟩ (.slice xa p.list.length xc)) := (tb.trans (b2.mono (by omega))).setCell (p := ⟨D, 4, none⟩) (by show _ ≤ D; omega) _
  have own1' : (w2.setCell ⟨D, 4, none⟩ (.slice xa p.list.length xc)).ownsRow (D + 1) 3 1 (.slice xa p.list.length xc) p.list.length (p.list.map (Value.int .i64)) := ownsRow_setCell_below (by rw [tz, hG, show G + 3 = D + 1 by omega] at own1; exact own1) (by show D < D + 1; omega) _
  have v0 := (heap_setCell_other w2 ⟨D, 4, none⟩ G (.slice xa p.list.length xc) (by show G ≠ D; omega)).trans u0
  have v1 := (heap_setCell_other w2 ⟨D, 4, none⟩ (G + 1) (.slice xa p.list.length xc) (by show G + 1 ≠ D; omega)).trans u1
  have v2 := heap_setCell_same w2 D 4 _ _ (.slice xa p.list.length xc) u2
  have hz2 : D + 1 ≤ (w2.setCell ⟨D, 4, none⟩ (.slice xa p.list.length xc)).heap.size := by simp; omega
  clear own1 b2 s2 tb tz t0 t1 t2 u0 u1 u2 cI
  try simp only [hG, hD]
  go_upto_region 7 with fail
  obtain ⟨W4, hW4⟩ : ∃ W, w2.setCell ⟨D, 4, none⟩ (.slice xa p.list.length xc) = W := ⟨_, rfl⟩
  simp only [hW4] at tb2 own1' v0 v1 v2 hz2 ⊢
  clear hW4 d5 e4 f4
  have d5 := cell_of_row W4 G 5 _ _ _ v0
  simp at d5
  go_wp2_with fail
  refine (cS W4 tb2).mono ?_
  rintro e w5 ⟨nv1, rfl, own2, b5⟩
  obtain ⟨ya, yc, rfl⟩ := own_slice own2
  have s5 := b5.size
  have x0 := (b5.block G (by omega)).trans v0
  have x1 := (b5.block (G + 1) (by omega)).trans v1
  have x2 : w5.heap[D]? = some (.cells #[Value.int IntKind.i64 p.kind, Value.int IntKind.i64 p.a, Value.int IntKind.i64 p.b, Value.int IntKind.i64 p.c, .slice xa p.list.length xc, Value.slice none 0 0, Value.int IntKind.u64 0, Value.int IntKind.i64 0] 38) := (b5.block D (by omega)).trans v2
  have own3 := own_keep own1' b5
  have tb5 := tb2.trans (b5.mono (by omega))
  have own4 : w5.ownsRow (D + 1) 9 1 (.slice ya p.names.length yc) p.names.length (p.names.map Value.string) := by
    obtain ⟨e1, e2⟩ := own2
    refine ⟨e1, e2.imp id ?_⟩
    rintro ⟨g, cap, cur, h1, h2, h3⟩
    exact ⟨g, cap, cur, h1, by omega, h3⟩
  clear v0 v1 v2 b5 own1' own2 tb2 d5
  have d6 := cell_of_row w5 G 6 _ _ _ x0
  have d7 := cell_of_row w5 G 7 _ _ _ x0
  obtain ⟨e0, e1, e2, e3, e4, e5, e6, e7⟩ := cells_eight x2
  have fD := fun j => frozen_of_row w5 D j _ _ x2
  simp at d6 d7
  have hDG : D ≠ G := by omega
  have y2 : (((w5.setCell ⟨D, 5, none⟩ (.slice ya p.names.length yc)).setCell ⟨D, 6, none⟩ (.int .u64 (p.num : Int))).setCell ⟨D, 7, none⟩ (.int .i64 p.pos)).heap[D]? = some (.cells #[Value.int IntKind.i64 p.kind, Value.int IntKind.i64 p.a, Value.int IntKind.i64 p.b, Value.int IntKind.i64 p.c, .slice xa p.list.length xc, .slice ya p.names.length yc, .int .u64 (p.num : Int), .int .i64 p.pos] 38) := by
    rw [heap_setCell_same _ _ _ _ _ _ (heap_setCell_same _ _ _ _ _ _ (heap_setCell_same _ _ _ _ _ _ x2))]
    rfl
  have y1 : (((w5.setCell ⟨D, 5, none⟩ (.slice ya p.names.length yc)).setCell ⟨D, 6, none⟩ (.int .u64 (p.num : Int))).setCell ⟨D, 7, none⟩ (.int .i64 p.pos)).heap[G + 1]? = some (Obj.cells #[Value.int IntKind.i64 0, Value.int IntKind.i64 0, Value.int IntKind.i64 0, Value.int IntKind.i64 0, Value.slice none 0 0, Value.slice none 0 0, Value.int IntKind.u64 0, Value.int IntKind.i64 0] 38) := by
    rw [heap_setCell_other _ _ _ _ (by show G + 1 ≠ D; omega), heap_setCell_other _ _ _ _ (by show G + 1 ≠ D; omega), heap_setCell_other _ _ _ _ (by show G + 1 ≠ D; omega)]
    exact x1
  have tb6 : Below w.heap.size w (((w5.setCell ⟨D, 5, none⟩ (.slice ya p.names.length yc)).setCell ⟨D, 6, none⟩ (.int .u64 (p.num : Int))).setCell ⟨D, 7, none⟩ (.int .i64 p.pos)) := ((tb5.setCell (p := ⟨D, 5, none⟩) (by show _ ≤ D; omega) _).setCell (p := ⟨D, 6, none⟩) (by show _ ≤ D; omega) _).setCell (p := ⟨D, 7, none⟩) (by show _ ≤ D; omega) _
  have own5 := ownsRow_setCell_below (ownsRow_setCell_below (ownsRow_setCell_below own3 (a := ⟨D, 5, none⟩) (by show D < D + 1; omega) (.slice ya p.names.length yc)) (a := ⟨D, 6, none⟩) (by show D < D + 1; omega) (.int .u64 (p.num : Int))) (a := ⟨D, 7, none⟩) (by show D < D + 1; omega) (.int .i64 p.pos)
  have own6 := ownsRow_setCell_below (ownsRow_setCell_below (ownsRow_setCell_below own4 (a := ⟨D, 5, none⟩) (by show D < D + 1; omega) (.slice ya p.names.length yc)) (a := ⟨D, 6, none⟩) (by show D < D + 1; omega) (.int .u64 (p.num : Int))) (a := ⟨D, 7, none⟩) (by show D < D + 1; omega) (.int .i64 p.pos)
  clear x0 x1 x2 own3 own4 tb5
  go_upto_region 10 with fail
  obtain ⟨W6, hW6⟩ : ∃ W, (((w5.setCell ⟨D, 5, none⟩ (.slice ya p.names.length yc)).setCell ⟨D, 6, none⟩ (.int .u64 (p.num : Int))).setCell ⟨D, 7, none⟩ (.int .i64 p.pos)) = W := ⟨_, rfl⟩
  simp only [hW6] at y1 y2 tb6 own5 own6 ⊢
  clear hW6 d6 d7 e0 e1 e2 e3 e4 e5 e6 e7 fD
  obtain ⟨e0, e1, e2, e3, e4, e5, e6, e7⟩ := cells_eight y2
  have fG := fun j => frozen_of_row W6 (G + 1) j _ _ y1
  have z1 := eight_put (b0 := .int .i64 p.kind) (b1 := .int .i64 p.a) (b2 := .int .i64 p.b) (b3 := .int .i64 p.c) (b4 := .slice xa p.list.length xc) (b5 := .slice ya p.names.length yc) (b6 := .int .u64 (p.num : Int)) (b7 := .int .i64 p.pos) y1
  obtain ⟨g0, g1, g2, g3, g4, g5, g6, g7⟩ := cells_eight z1
  obtain ⟨i0, i1, i2, i3, i4, i5, i6, i7⟩ := cells_eight y1
  clear y1 y2 z1 cS
  go_wp2
  have HT : Hid (Below w.heap.size w ((((((((W6.setCell ⟨G + 1, 0, none⟩ (.int .i64 p.kind)).setCell ⟨G + 1, 1, none⟩ (.int .i64 p.a)).setCell ⟨G + 1, 2, none⟩ (.int .i64 p.b)).setCell ⟨G + 1, 3, none⟩ (.int .i64 p.c)).setCell ⟨G + 1, 4, none⟩ (.slice xa p.list.length xc)).setCell ⟨G + 1, 5, none⟩ (.slice ya p.names.length yc)).setCell ⟨G + 1, 6, none⟩ (.int .u64 (p.num : Int))).setCell ⟨G + 1, 7, none⟩ (.int .i64 p.pos)) ∧ ((((((((W6.setCell ⟨G + 1, 0, none⟩ (.int .i64 p.kind)).setCell ⟨G + 1, 1, none⟩ (.int .i64 p.a)).setCell ⟨G + 1, 2, none⟩ (.int .i64 p.b)).setCell ⟨G + 1, 3, none⟩ (.int .i64 p.c)).setCell ⟨G + 1, 4, none⟩ (.slice xa p.list.length xc)).setCell ⟨G + 1, 5, none⟩ (.slice ya p.names.length yc)).setCell ⟨G + 1, 6, none⟩ (.int .u64 (p.num : Int))).setCell ⟨G + 1, 7, none⟩ (.int .i64 p.pos)).ownsRow w.heap.size 3 1 (.slice xa p.list.length xc) p.list.length (p.list.map (Value.int .i64)) ∧ ((((((((W6.setCell ⟨G + 1, 0, none⟩ (.int .i64 p.kind)).setCell ⟨G + 1, 1, none⟩ (.int .i64 p.a)).setCell ⟨G + 1, 2, none⟩ (.int .i64 p.b)).setCell ⟨G + 1, 3, none⟩ (.int .i64 p.c)).setCell ⟨G + 1, 4, none⟩ (.slice xa p.list.length xc)).setCell ⟨G + 1, 5, none⟩ (.slice ya p.names.length yc)).setCell ⟨G + 1, 6, none⟩ (.int .u64 (p.num : Int))).setCell ⟨G + 1, 7, none⟩ (.int .i64 p.pos)).ownsRow w.heap.size 9 1 (.slice ya p.names.length yc) p.names.length (p.names.map Value.string)) := by
    have q : ∀ (W : World) (j : Nat) (u : Value), Below w.heap.size w W → Below w.heap.size w (W.setCell ⟨G + 1, j, none⟩ u) := fun W j u h => h.setCell (p := ⟨G + 1, j, none⟩) (by show _ ≤ G + 1; omega) u
    have r : ∀ (W : World) (j : Nat) (u : Value) (e : TypeId) (v : Value) (n : Nat) (xs : List Value), W.ownsRow (D + 1) e 1 v n xs → (W.setCell ⟨G + 1, j, none⟩ u).ownsRow (D + 1) e 1 v n xs := fun W j u e v n xs h => ownsRow_setCell_below h (by show G + 1 < D + 1; omega) u
    have t : ∀ (W : World) (e : TypeId) (v : Value) (n : Nat) (xs : List Value), W.ownsRow (D + 1) e 1 v n xs → W.ownsRow w.heap.size e 1 v n xs := fun W e v n xs h => by
      obtain ⟨e1, e2⟩ := h
      refine ⟨e1, e2.imp id ?_⟩
      rintro ⟨g, cap, cur, h1, h2, h3⟩
      exact ⟨g, cap, cur, h1, by omega, h3⟩
    exact ⟨q _ _ _ (q _ _ _ (q _ _ _ (q _ _ _ (q _ _ _ (q _ _ _ (q _ _ _ (q _ _ _ tb6))))))),
      t _ _ _ _ _ (r _ _ _ _ _ _ _ (r _ _ _ _ _ _ _ (r _ _ _ _ _ _ _ (r _ _ _ _ _ _ _ (r _ _ _ _ _ _ _ (r _ _ _ _ _ _ _ (r _ _ _ _ _ _ _ (r _ _ _ _ _ _ _ own5)))))))),
      t _ _ _ _ _ (r _ _ _ _ _ _ _ (r _ _ _ _ _ _ _ (r _ _ _ _ _ _ _ (r _ _ _ _ _ _ _ (r _ _ _ _ _ _ _ (r _ _ _ _ _ _ _ (r _ _ _ _ _ _ _ (r _ _ _ _ _ _ _ own6))))))))⟩
  refine bodyPost_ret (by simp [results, Try.results18, go_sem, g0, g1, g2, g3, g4, g5, g6, g7]; try rfl) rfl ?_
  exact ⟨_, _, rfl, HT.out.2.1, HT.out.2.2, HT.out.1⟩

end Go.Proofs.Ytggjeepbgpfcpaa
