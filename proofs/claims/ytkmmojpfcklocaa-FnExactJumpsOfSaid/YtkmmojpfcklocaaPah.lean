/-
  Part 8 of what is proved of drawn right trees.
-/
import Derived.Test.YtkmmojpfcklocaaPac
import Derived.Deep.DeepCutAuto
import Derived.Deep.QuietTactic
import Derived.BigQuiet
import Derived.Lib.QuietBelow

namespace Go.Proofs.Ytkmmojpfcklocaa
open Go.RowKit
set_option linter.unusedVariables false
theorem cells_five {w : World} {g : Nat} {a0 a1 a2 a3 a4 : Value} {t : TypeId} {r : Nat × Nat} (h : w.heap[g]? = some (.cells #[a0, a1, a2, a3, a4] t r)) :
    w.cell? ⟨g, 0, none⟩ = some a0 ∧ w.cell? ⟨g, 1, none⟩ = some a1 ∧ w.cell? ⟨g, 2, none⟩ = some a2 ∧ w.cell? ⟨g, 3, none⟩ = some a3 ∧ w.cell? ⟨g, 4, none⟩ = some a4 := by
  refine ⟨?_, ?_, ?_, ?_, ?_⟩ <;> (rw [cell_of_row _ _ _ _ _ _ h]; rfl)
theorem five_put {w : World} {g : Nat} {a0 a1 a2 a3 a4 b0 b1 b2 b3 b4 : Value} {t : TypeId} (h : w.heap[g]? = some (.cells #[a0, a1, a2, a3, a4] t)) :
    (((((w.setCell ⟨g, 0, none⟩ b0).setCell ⟨g, 1, none⟩ b1).setCell ⟨g, 2, none⟩ b2).setCell ⟨g, 3, none⟩ b3).setCell ⟨g, 4, none⟩ b4).heap[g]? = some (.cells #[b0, b1, b2, b3, b4] t) := by
  have k0 : (w.setCell ⟨g, 0, none⟩ b0).heap[g]? = some (.cells #[b0, a1, a2, a3, a4] t) := heap_setCell_same _ _ _ _ _ _ h
  have k1 := heap_setCell_same _ _ 1 _ _ b1 k0
  have k2 : _ = some (Obj.cells #[b0, b1, b2, a3, a4] t) := heap_setCell_same _ _ 2 _ _ b2 k1
  have k3 := heap_setCell_same _ _ 3 _ _ b3 k2
  exact heap_setCell_same _ _ 4 _ _ b4 k3
theorem made_three (w : World) (o1 o2 o3 : Obj) : (((w.alloc o1).alloc o2).alloc o3).heap[w.heap.size]? = some o1 ∧ (((w.alloc o1).alloc o2).alloc o3).heap[w.heap.size + 1]? = some o2 ∧ (((w.alloc o1).alloc o2).alloc o3).heap[w.heap.size + 2]? = some o3 ∧ (((w.alloc o1).alloc o2).alloc o3).heap.size = w.heap.size + 3 ∧ Below w.heap.size w (((w.alloc o1).alloc o2).alloc o3) := by
  have z1 : (w.alloc o1).heap.size = w.heap.size + 1 := by simp
  have z2 : ((w.alloc o1).alloc o2).heap.size = w.heap.size + 2 := by simp
  refine ⟨?_, ?_, ?_, by simp, (((Below.refl _ _).alloc (Nat.le_refl _) _).alloc (by simp) _).alloc (by simp; omega) _⟩
  · rw [heap_alloc_old (r := w.heap.size) _ _ (by omega), heap_alloc_old (r := w.heap.size) _ _ (by omega)]
    exact heap_alloc_new _ _
  · rw [heap_alloc_old (r := w.heap.size + 1) _ _ (by omega), ← z1]
    exact heap_alloc_new _ _
  · rw [← z2]
    exact heap_alloc_new _ _
theorem put_field {w0 w1 : World} {G D k : Nat} {i r m m' : Array Value} {ti tr tm : TypeId} {B : Nat} {v : Value} (hD : G + 1 + 1 = D) (h0 : w1.heap[G]? = some (.cells i ti)) (h1 : w1.heap[G + 1]? = some (.cells r tr)) (h2 : w1.heap[D]? = some (.cells m tm)) (hb : Below B w0 w1) (hB : B ≤ G) (hs : D + 1 ≤ w1.heap.size) (hm : m.set! k v = m') :
    (w1.setCell ⟨D, k, none⟩ v).heap[G]? = some (.cells i ti) ∧ (w1.setCell ⟨D, k, none⟩ v).heap[G + 1]? = some (.cells r tr) ∧ (w1.setCell ⟨D, k, none⟩ v).heap[D]? = some (.cells m' tm) ∧ Below B w0 (w1.setCell ⟨D, k, none⟩ v) ∧ D + 1 ≤ (w1.setCell ⟨D, k, none⟩ v).heap.size := by
  refine ⟨(heap_setCell_other w1 ⟨D, k, none⟩ G v (by show G ≠ D; omega)).trans h0, (heap_setCell_other w1 ⟨D, k, none⟩ (G + 1) v (by show G + 1 ≠ D; omega)).trans h1, ?_, hb.setCell (p := ⟨D, k, none⟩) (by show B ≤ D; omega) v, by simp; omega⟩
  rw [← hm]
  exact heap_setCell_same w1 D k _ _ v h2
theorem kept_three {w0 w1 w2 : World} {G D : Nat} {i r m : Array Value} {ti tr tm : TypeId} {B : Nat} (hD : G + 1 + 1 = D) (h0 : w1.heap[G]? = some (.cells i ti)) (h1 : w1.heap[G + 1]? = some (.cells r tr)) (h2 : w1.heap[D]? = some (.cells m tm)) (hb : Below B w0 w1) (hB : B ≤ G) (hs : D + 1 ≤ w1.heap.size) (b : Below w1.heap.size w1 w2) :
    w2.heap[G]? = some (.cells i ti) ∧ w2.heap[G + 1]? = some (.cells r tr) ∧ w2.heap[D]? = some (.cells m tm) ∧ Below B w0 w2 ∧ D + 1 ≤ w2.heap.size :=
  ⟨(b.block G (by omega)).trans h0, (b.block (G + 1) (by omega)).trans h1, (b.block D (by omega)).trans h2, hb.trans (b.mono (by omega)), Nat.le_trans hs b.size⟩
set_option maxHeartbeats 1000000 in
set_option maxRecDepth 100000 in
theorem toFunc_any (p : PFun) (cv kv hv : Value) (w : World) (h2 : ArgFlat w cv 2 p.caps.length (p.caps.flatMap capC)) (h3 : ArgFlat w kv 3 p.code.length (p.code.flatMap insC)) (h4 : ArgFlat w hv 3 p.hnds.length (p.hnds.flatMap hndC)) (hf : p.caps.length ≤ 1048576 ∧ p.code.length ≤ 1048576 ∧ p.hnds.length ≤ 1048576) :
    Calls Try.prog 31 #[.agg #[.int .i64 p.params, .int .i64 p.regs, cv, kv, hv]] w fun e w' => ∃ cv' kv' hv', e = .returned (.agg #[.int .i64 p.params, .int .i64 p.regs, cv', kv', hv']) ∧ w'.ownsRow w.heap.size 90 2 cv' p.caps.length (p.caps.flatMap capC) ∧ w'.ownsRow w.heap.size 49 3 kv' p.code.length (p.code.flatMap insC) ∧ w'.ownsRow w.heap.size 92 3 hv' p.hnds.length (p.hnds.flatMap hndC) ∧ Below w.heap.size w w' := by
  have cC := fun W (hb : Below w.heap.size w W) => toCapS_any cv p.caps W (h2.below hb) hf.1
  have cK := fun W (hb : Below w.heap.size w W) => toInsS_any kv p.code W (h3.below hb) hf.2.1
  have cH := fun W (hb : Below w.heap.size w W) => toHandlerS_any hv p.hnds W (h4.below hb) hf.2.2
  clear h2 h3 h4 hf
  go_enter Try.func31, Try.ntmps31
  go_wp2_with fail
  have T := made_three w (Obj.cells #[Value.int IntKind.i64 p.params, Value.int IntKind.i64 p.regs, cv, kv, hv] 65) (Obj.cells #[Value.int IntKind.i64 0, Value.int IntKind.i64 0, Value.slice none 0 0, Value.slice none 0 0, Value.slice none 0 0] 47) (Obj.cells #[Value.int IntKind.i64 p.params, Value.int IntKind.i64 p.regs, Value.slice none 0 0, Value.slice none 0 0, Value.slice none 0 0] 47)
  obtain ⟨W3, hW3⟩ : ∃ W, (((w.alloc (Obj.cells #[Value.int IntKind.i64 p.params, Value.int IntKind.i64 p.regs, cv, kv, hv] 65)).alloc (Obj.cells #[Value.int IntKind.i64 0, Value.int IntKind.i64 0, Value.slice none 0 0, Value.slice none 0 0, Value.slice none 0 0] 47)).alloc (Obj.cells #[Value.int IntKind.i64 p.params, Value.int IntKind.i64 p.regs, Value.slice none 0 0, Value.slice none 0 0, Value.slice none 0 0] 47)) = W := ⟨_, rfl⟩
  rw [hW3] at T ⊢
  clear hW3
  obtain ⟨t0, t1, t2, tz, tb⟩ := T
  obtain ⟨G, hG⟩ : ∃ G, w.heap.size = G := ⟨_, rfl⟩
  obtain ⟨D, hD⟩ : ∃ D, G + 1 + 1 = D := ⟨_, rfl⟩
  rw [hG] at t0 t1 tz
  rw [show w.heap.size + 2 = D by omega] at t2
  have hsz : D + 1 ≤ W3.heap.size := by omega
  have HG : Hid (w.heap.size = G) := hG
  have hB : w.heap.size ≤ G := by omega
  clear tz
  refine (cC W3 tb).mono ?_
  rintro e w1 ⟨v1, rfl, own1, b1⟩
  obtain ⟨x1, y1, rfl⟩ := row_slice own1
  obtain ⟨u0, u1, u2, ub, us⟩ := kept_three hD t0 t1 t2 tb hB hsz b1
  have own1' : w1.ownsRow (D + 1) 90 2 (.slice x1 p.caps.length y1) p.caps.length (p.caps.flatMap capC) := row_low own1 hsz
  obtain ⟨d0, d1, d2, d3, d4⟩ := cells_five u0
  obtain ⟨e0, e1, e2, e3, e4⟩ := cells_five u2
  have fD := fun j => frozen_of_row w1 D j _ _ u2
  obtain ⟨s0, s1, s2, sb, ss⟩ := put_field (k := 2) (v := .slice x1 p.caps.length y1) (m' := #[.int .i64 p.params, .int .i64 p.regs, .slice x1 p.caps.length y1, .slice none 0 0, .slice none 0 0]) hD u0 u1 u2 ub hB us rfl
  have own1'' : (w1.setCell ⟨D, 2, none⟩ (.slice x1 p.caps.length y1)).ownsRow (D + 1) 90 2 (.slice x1 p.caps.length y1) p.caps.length (p.caps.flatMap capC) := ownsRow_setCell_below own1' (a := ⟨D, 2, none⟩) (by show D < D + 1; omega) _
  clear t0 t1 t2 tb hsz b1 own1 u0 u1 u2 ub us own1'
  try simp only [hG, hD]
  go_upto_region 5 with fail
  obtain ⟨V1, hV⟩ : ∃ W, w1.setCell ⟨D, 2, none⟩ (.slice x1 p.caps.length y1) = W := ⟨_, rfl⟩
  simp only [hV] at s0 s1 s2 sb ss own1'' ⊢
  clear hV d0 d1 d2 d3 d4 e0 e1 e2 e3 e4 fD
  have own1' := own1''
  clear own1''
  have t0 := s0
  have t1 := s1
  have t2 := s2
  have tb := sb
  have hsz := ss
  clear s0 s1 s2 sb ss
  obtain ⟨d0, d1, d2, d3, d4⟩ := cells_five t0
  go_wp2_with fail
  refine (cK V1 tb).mono ?_
  rintro e w2 ⟨v2, rfl, own2, b2⟩
  clear d0 d1 d2 d3 d4
  obtain ⟨x2, y2, rfl⟩ := row_slice own2
  obtain ⟨u0, u1, u2, ub, us⟩ := kept_three hD t0 t1 t2 tb hB hsz b2
  have own2' : w2.ownsRow (D + 1) 49 3 (.slice x2 p.code.length y2) p.code.length (p.code.flatMap insC) := row_low own2 hsz
  have own1' := row_keep own1' b2
  obtain ⟨d0, d1, d2, d3, d4⟩ := cells_five u0
  obtain ⟨e0, e1, e2, e3, e4⟩ := cells_five u2
  have fD := fun j => frozen_of_row w2 D j _ _ u2
  obtain ⟨s0, s1, s2, sb, ss⟩ := put_field (k := 3) (v := .slice x2 p.code.length y2) (m' := #[.int .i64 p.params, .int .i64 p.regs, .slice x1 p.caps.length y1, .slice x2 p.code.length y2, .slice none 0 0]) hD u0 u1 u2 ub hB us rfl
  have own1'' : (w2.setCell ⟨D, 3, none⟩ (.slice x2 p.code.length y2)).ownsRow (D + 1) 90 2 (.slice x1 p.caps.length y1) p.caps.length (p.caps.flatMap capC) := ownsRow_setCell_below own1' (a := ⟨D, 3, none⟩) (by show D < D + 1; omega) _
  have own2'' : (w2.setCell ⟨D, 3, none⟩ (.slice x2 p.code.length y2)).ownsRow (D + 1) 49 3 (.slice x2 p.code.length y2) p.code.length (p.code.flatMap insC) := ownsRow_setCell_below own2' (a := ⟨D, 3, none⟩) (by show D < D + 1; omega) _
  clear t0 t1 t2 tb hsz b2 own2 u0 u1 u2 ub us own1' own2'
  go_upto_region 6 with fail
  obtain ⟨V2, hV⟩ : ∃ W, w2.setCell ⟨D, 3, none⟩ (.slice x2 p.code.length y2) = W := ⟨_, rfl⟩
  simp only [hV] at s0 s1 s2 sb ss own1'' own2'' ⊢
  clear hV d0 d1 d2 d3 d4 e0 e1 e2 e3 e4 fD
  have own1' := own1''
  have own2' := own2''
  clear own1'' own2''
  have t0 := s0
  have t1 := s1
  have t2 := s2
  have tb := sb
  have hsz := ss
  clear s0 s1 s2 sb ss
  obtain ⟨d0, d1, d2, d3, d4⟩ := cells_five t0
  go_wp2_with fail
  refine (cH V2 tb).mono ?_
  rintro e w3 ⟨v3, rfl, own3, b3⟩
  clear d0 d1 d2 d3 d4
  obtain ⟨x3, y3, rfl⟩ := row_slice own3
  obtain ⟨u0, u1, u2, ub, us⟩ := kept_three hD t0 t1 t2 tb hB hsz b3
  have own3' : w3.ownsRow (D + 1) 92 3 (.slice x3 p.hnds.length y3) p.hnds.length (p.hnds.flatMap hndC) := row_low own3 hsz
  have own1' := row_keep own1' b3
  have own2' := row_keep own2' b3
  obtain ⟨d0, d1, d2, d3, d4⟩ := cells_five u0
  obtain ⟨e0, e1, e2, e3, e4⟩ := cells_five u2
  have fD := fun j => frozen_of_row w3 D j _ _ u2
  obtain ⟨s0, s1, s2, sb, ss⟩ := put_field (k := 4) (v := .slice x3 p.hnds.length y3) (m' := #[.int .i64 p.params, .int .i64 p.regs, .slice x1 p.caps.length y1, .slice x2 p.code.length y2, .slice x3 p.hnds.length y3]) hD u0 u1 u2 ub hB us rfl
  have own1'' : (w3.setCell ⟨D, 4, none⟩ (.slice x3 p.hnds.length y3)).ownsRow (D + 1) 90 2 (.slice x1 p.caps.length y1) p.caps.length (p.caps.flatMap capC) := ownsRow_setCell_below own1' (a := ⟨D, 4, none⟩) (by show D < D + 1; omega) _
  have own2'' : (w3.setCell ⟨D, 4, none⟩ (.slice x3 p.hnds.length y3)).ownsRow (D + 1) 49 3 (.slice x2 p.code.length y2) p.code.length (p.code.flatMap insC) := ownsRow_setCell_below own2' (a := ⟨D, 4, none⟩) (by show D < D + 1; omega) _
  have own3'' : (w3.setCell ⟨D, 4, none⟩ (.slice x3 p.hnds.length y3)).ownsRow (D + 1) 92 3 (.slice x3 p.hnds.length y3) p.hnds.length (p.hnds.flatMap hndC) := ownsRow_setCell_below own3' (a := ⟨D, 4, none⟩) (by show D < D + 1; omega) _
  clear t0 t1 t2 tb hsz b3 own3 u0 u1 u2 ub us own1' own2' own3'
  go_upto_region 7 with fail
  obtain ⟨V3, hV⟩ : ∃ W, w3.setCell ⟨D, 4, none⟩ (.slice x3 p.hnds.length y3) = W := ⟨_, rfl⟩
  simp only [hV] at s0 s1 s2 sb ss own1'' own2'' own3'' ⊢
  clear hV d0 d1 d2 d3 d4 e0 e1 e2 e3 e4 fD
  have own1' := own1''
  have own2' := own2''
  have own3' := own3''
  clear own1'' own2'' own3''
  have t0 := s0
  have t1 := s1
  have t2 := s2
  have tb := sb
  have hsz := ss
  clear s0 s1 s2 sb ss
  obtain ⟨e0, e1, e2, e3, e4⟩ := cells_five t2
  obtain ⟨i0, i1, i2, i3, i4⟩ := cells_five t1
  have fG := fun j => frozen_of_row V3 (G + 1) j _ _ t1
  have z1 := five_put (b0 := .int .i64 p.params) (b1 := .int .i64 p.regs) (b2 := .slice x1 p.caps.length y1) (b3 := .slice x2 p.code.length y2) (b4 := .slice x3 p.hnds.length y3) t1
  obtain ⟨g0, g1, g2, g3, g4⟩ := cells_five z1
  have HT : Hid (Below w.heap.size w (((((V3.setCell ⟨G + 1, 0, none⟩ (.int .i64 p.params)).setCell ⟨G + 1, 1, none⟩ (.int .i64 p.regs)).setCell ⟨G + 1, 2, none⟩ (.slice x1 p.caps.length y1)).setCell ⟨G + 1, 3, none⟩ (.slice x2 p.code.length y2)).setCell ⟨G + 1, 4, none⟩ (.slice x3 p.hnds.length y3)) ∧ (((((V3.setCell ⟨G + 1, 0, none⟩ (.int .i64 p.params)).setCell ⟨G + 1, 1, none⟩ (.int .i64 p.regs)).setCell ⟨G + 1, 2, none⟩ (.slice x1 p.caps.length y1)).setCell ⟨G + 1, 3, none⟩ (.slice x2 p.code.length y2)).setCell ⟨G + 1, 4, none⟩ (.slice x3 p.hnds.length y3)).ownsRow w.heap.size 90 2 (.slice x1 p.caps.length y1) p.caps.length (p.caps.flatMap capC) ∧ (((((V3.setCell ⟨G + 1, 0, none⟩ (.int .i64 p.params)).setCell ⟨G + 1, 1, none⟩ (.int .i64 p.regs)).setCell ⟨G + 1, 2, none⟩ (.slice x1 p.caps.length y1)).setCell ⟨G + 1, 3, none⟩ (.slice x2 p.code.length y2)).setCell ⟨G + 1, 4, none⟩ (.slice x3 p.hnds.length y3)).ownsRow w.heap.size 49 3 (.slice x2 p.code.length y2) p.code.length (p.code.flatMap insC) ∧ (((((V3.setCell ⟨G + 1, 0, none⟩ (.int .i64 p.params)).setCell ⟨G + 1, 1, none⟩ (.int .i64 p.regs)).setCell ⟨G + 1, 2, none⟩ (.slice x1 p.caps.length y1)).setCell ⟨G + 1, 3, none⟩ (.slice x2 p.code.length y2)).setCell ⟨G + 1, 4, none⟩ (.slice x3 p.hnds.length y3)).ownsRow w.heap.size 92 3 (.slice x3 p.hnds.length y3) p.hnds.length (p.hnds.flatMap hndC)) := by
    have q : ∀ (W : World) (j : Nat) (u : Value), Below w.heap.size w W → Below w.heap.size w (W.setCell ⟨G + 1, j, none⟩ u) := fun W j u h => h.setCell (p := ⟨G + 1, j, none⟩) (by show _ ≤ G + 1; omega) u
    have r : ∀ (W : World) (j : Nat) (u : Value) (e : TypeId) (k : Nat) (v : Value) (n : Nat) (xs : List Value), W.ownsRow (D + 1) e k v n xs → (W.setCell ⟨G + 1, j, none⟩ u).ownsRow (D + 1) e k v n xs := fun W j u e k v n xs h => ownsRow_setCell_below h (by show G + 1 < D + 1; omega) u
    exact ⟨q _ _ _ (q _ _ _ (q _ _ _ (q _ _ _ (q _ _ _ tb)))),
      row_low (r _ _ _ _ _ _ _ _ (r _ _ _ _ _ _ _ _ (r _ _ _ _ _ _ _ _ (r _ _ _ _ _ _ _ _ (r _ _ _ _ _ _ _ _ own1'))))) (by omega),
      row_low (r _ _ _ _ _ _ _ _ (r _ _ _ _ _ _ _ _ (r _ _ _ _ _ _ _ _ (r _ _ _ _ _ _ _ _ (r _ _ _ _ _ _ _ _ own2'))))) (by omega),
      row_low (r _ _ _ _ _ _ _ _ (r _ _ _ _ _ _ _ _ (r _ _ _ _ _ _ _ _ (r _ _ _ _ _ _ _ _ (r _ _ _ _ _ _ _ _ own3'))))) (by omega)⟩
  clear t0 t1 t2 z1 tb own1' own2' own3' cC cK cH
  go_wp2
  refine bodyPost_ret (by simp [results, Try.results31, go_sem, g0, g1, g2, g3, g4]; try rfl) rfl ?_
  exact ⟨_, _, _, rfl, HT.out.2.1, HT.out.2.2.1, HT.out.2.2.2, HT.out.1⟩
end Go.Proofs.Ytkmmojpfcklocaa
namespace Go.Proofs.Ytkmmojpfcklocaa
open Go.RowKit
set_option linter.unusedVariables false
theorem Try.infoFunc13 : (Try.prog.info? 47).map (fun i => (i.zero, i.size, i.bytes)) = some (some (.agg #[.int .i64 0, .int .i64 0, .slice none 0 0, .slice none 0 0, .slice none 0 0]), 5, 88) := by kernel_rfl
theorem made_Func (w : World) (n : Nat) (hn : n ≤ 1048576) : ∃ W1 : World, (Instr.makeSlice 29 (.int .i64 (n : Int)) (.int .i64 (n : Int))).run Try.prog w = .ok (.slice (some ⟨w.heap.size, 0, none⟩) n n) W1 ∧
    (∃ xs, W1.ownsRow w.heap.size 47 5 (.slice (some ⟨w.heap.size, 0, none⟩) n n) n xs) ∧ Below w.heap.size w W1 := by
  obtain ⟨i0, hi, hz0, hz1, hz2⟩ := info_in Try.infoFunc13
  obtain ⟨W, h1, h2, h3⟩ := run_make_full (P := Try.prog) w w.heap.size 29 47 i0 _ 5 Try.underlying29 hi hz0 hz1 .i64 .i64 n (by rw [hz2]; omega) (by unfold maxLen; omega) (Nat.le_refl _)
  exact ⟨W, h1, ⟨_, h2⟩, ⟨h3.os, h3.tape, h3.output, h3.size, fun k hk => h3.block k hk (by simp)⟩⟩
def FunIn (w : World) (B : Nat) (xs : List Value) (q : Nat) (p : PFun) : Prop := ∃ cv kv hv, (∀ c u, (funC p cv kv hv)[c]? = some u → xs[q * 5 + c]? = some u) ∧ w.ownsRow B 90 2 cv p.caps.length (p.caps.flatMap capC) ∧ w.ownsRow B 49 3 kv p.code.length (p.code.flatMap insC) ∧ w.ownsRow B 92 3 hv p.hnds.length (p.hnds.flatMap hndC)
def FunsIn (w : World) (B : Nat) (v : Value) (l : List PFun) : Prop := ∃ xs, w.ownsRow B 47 5 v l.length xs ∧ ∀ q p, l[q]? = some p → FunIn w B xs q p
theorem FunsIn.arg {w : World} {B : Nat} {v : Value} {l : List PFun} (h : FunsIn w B v l) : ArgFuns w v l := by
  obtain ⟨xs, h1, h2⟩ := h
  obtain ⟨x, c, e, hm, hl, hc⟩ := ArgFlat.of_own h1
  refine ⟨x, c, e, hm, fun h0 => ?_⟩
  obtain ⟨b, o, e1, hb, hcell⟩ := hc h0
  refine ⟨b, o, e1, hb, fun j p hj => ?_⟩
  obtain ⟨cv, kv, hv, k1, k2, k3, k4⟩ := h2 j p hj
  have k : ∀ c u, (funC p cv kv hv)[c]? = some u → w.cell? ⟨b, o + j * 5 + c, none⟩ = some u := fun c u hu => by
    rw [Nat.add_assoc]
    exact hcell _ _ (k1 c u hu)
  exact ⟨cv, kv, hv, ArgFlat.of_own k2, ArgFlat.of_own k3, ArgFlat.of_own k4, k 0 _ rfl, k 1 _ rfl, k 2 _ rfl, k 3 _ rfl, k 4 _ rfl⟩
end Go.Proofs.Ytkmmojpfcklocaa
namespace Go.Proofs.Ytkmmojpfcklocaa
open Go.RowKit
set_option linter.unusedVariables false
def ImgIn (w : World) (B : Nat) (fv cv : Value) (p : PImg) : Prop := FunsIn w B fv p.funcs ∧ w.ownsRow B 71 3 cv p.consts.length (p.consts.flatMap conC)
theorem ImgIn.arg {w : World} {B : Nat} {fv cv : Value} {p : PImg} (h : ImgIn w B fv cv p) : ArgImg w fv cv p := ⟨h.1.arg, ArgFlat.of_own h.2⟩
theorem cells_pair {w : World} {g : Nat} {a b : Value} {t : TypeId} {r : Nat × Nat} (h : w.heap[g]? = some (.cells #[a, b] t r)) : w.cell? ⟨g, 0, none⟩ = some a ∧ w.cell? ⟨g, 1, none⟩ = some b := by
  refine ⟨?_, ?_⟩ <;> (rw [cell_of_row _ _ _ _ _ _ h]; rfl)
end Go.Proofs.Ytkmmojpfcklocaa
namespace Go.Proofs.Ytkmmojpfcklocaa
open Go.RowKit Go.Sort
set_option linter.unusedVariables false
theorem made_two (w : World) (o1 o2 : Obj) : ((w.alloc o1).alloc o2).heap[w.heap.size]? = some o1 ∧ ((w.alloc o1).alloc o2).heap[w.heap.size + 1]? = some o2 ∧ ((w.alloc o1).alloc o2).heap.size = w.heap.size + 2 ∧ Below w.heap.size w ((w.alloc o1).alloc o2) := by
  have z1 : (w.alloc o1).heap.size = w.heap.size + 1 := by simp
  refine ⟨?_, ?_, by simp, ((Below.refl _ _).alloc (Nat.le_refl _) _).alloc (by simp) _⟩
  · rw [heap_alloc_old (r := w.heap.size) _ _ (by omega)]
    exact heap_alloc_new _ _
  · rw [← z1]
    exact heap_alloc_new _ _
set_option maxHeartbeats 400000 in
set_option maxRecDepth 100000 in
theorem eqIns_same (p : PIns) (w : World) :
    Calls Try.prog 89 #[.agg #[.int .i64 p.op, .int .i64 p.a, .int .i64 p.b], .agg #[.int .i64 p.op, .int .i64 p.a, .int .i64 p.b]] w fun e w' => e = .returned (.bool true) ∧ Below w.heap.size w w' := by
  go_enter Try.func89, Try.ntmps89
  go_wp2
  go_ret
  exact ⟨rfl, by go_grown⟩
set_option maxHeartbeats 4000000 in
set_option maxRecDepth 100000 in
theorem eqInsS_same (a b : Value) (l : List PIns) (w : World) (ha : ArgFlat w a 3 l.length (l.flatMap insC)) (hb : ArgFlat w b 3 l.length (l.flatMap insC)) :
    Calls Try.prog 68 #[a, b] w fun e w' => e = .returned (.bool true) ∧ Below w.heap.size w w' := by
  obtain ⟨xa, ca, rfl, hm, oa⟩ := ha.opened insC_len
  obtain ⟨xb, cb, rfl, _, ob⟩ := hb.opened insC_len
  clear ha hb
  unfold maxLen at hm
  obtain ⟨n, hn⟩ : ∃ n, l.length = n := ⟨_, rfl⟩
  have HN : Hid (l.length = n) := hn
  rw [hn] at hm oa ob ⊢
  clear hn
  have HA : Hid (0 < n → ∃ b o, xa = some ⟨b, o, none⟩ ∧ b < w.heap.size ∧ ∀ j p, l[j]? = some p → ∀ c u, (insC p)[c]? = some u → w.cell? ⟨b, o + j * 3 + c, none⟩ = some u) := oa
  have HB : Hid (0 < n → ∃ b o, xb = some ⟨b, o, none⟩ ∧ b < w.heap.size ∧ ∀ j p, l[j]? = some p → ∀ c u, (insC p)[c]? = some u → w.cell? ⟨b, o + j * 3 + c, none⟩ = some u) := ob
  clear oa ob
  go_enter Try.func68, Try.ntmps68
  go_wp2
  go_loopw [5] (fun i wr => ∃ k : Nat, k ≤ n ∧ i = .int .i64 k ∧ Below w.heap.size w wr) (fun i _ => n - (intOf i).toNat)
  case atStart => exact ⟨0, Nat.zero_le _, rfl, Below.refl _ _⟩
  case round =>
    obtain ⟨k, hk, rfl, hbel⟩ := hrel
    by_cases hlt : k < n
    · obtain ⟨ga, sa, rfl, hga, hca⟩ := HA.out (by omega)
      obtain ⟨gb, sb, rfl, hgb, hcb⟩ := HB.out (by omega)
      obtain ⟨p, hp⟩ : ∃ p, l[k]? = some p := ⟨_, List.getElem?_eq_getElem (by have := HN.out; omega)⟩
      have cQ := fun d os => Calls.regrown_of (w := wr) (d := d) (os := os) (eqIns_same p (grow (redrawn wr d) os))
      have c0' : wr.cell? ⟨ga, sa + k * 3, none⟩ = some (.int .i64 p.op) := (hbel.cell hga).trans (hca k p hp 0 _ rfl)
      have c1' : wr.cell? ⟨ga, sa + k * 3 + 1, none⟩ = some (.int .i64 p.a) := (hbel.cell hga).trans (hca k p hp 1 _ rfl)
      have c2' : wr.cell? ⟨ga, sa + k * 3 + 2, none⟩ = some (.int .i64 p.b) := (hbel.cell hga).trans (hca k p hp 2 _ rfl)
      have d0' : wr.cell? ⟨gb, sb + k * 3, none⟩ = some (.int .i64 p.op) := (hbel.cell hgb).trans (hcb k p hp 0 _ rfl)
      have d1' : wr.cell? ⟨gb, sb + k * 3 + 1, none⟩ = some (.int .i64 p.a) := (hbel.cell hgb).trans (hcb k p hp 1 _ rfl)
      have d2' : wr.cell? ⟨gb, sb + k * 3 + 2, none⟩ = some (.int .i64 p.b) := (hbel.cell hgb).trans (hcb k p hp 2 _ rfl)
      have c0 := cell_regrown c0'
      have c1 := cell_regrown c1'
      have c2 := cell_regrown c2'
      have d0 := cell_regrown d0'
      have d1 := cell_regrown d1'
      have d2 := cell_regrown d2'
      have hki : (k : Int) < (n : Int) := by omega
      have hk0 : (0 : Int) ≤ (k : Int) := by omega
      clear hca hcb hp HA HB c0' c1' c2' d0' d1' d2'
      go_wp2
      refine wp_region_quiet_below (by kernel_rfl) (by kernel_rfl) ?_
      repeat (first | go_big_quiet_step (exact cQ _ _) | quiet_step (exact cQ _ _))
      refine wpQuiet_nil ?_
      intro _ hw'
      obtain ⟨⟨dq, osq⟩, hw''⟩ := hw'
      subst hw''
      go_wp2
      go_roundw
      case rel => exact ⟨k + 1, by omega, by go_num, chain hbel (below_regrown wr dq osq)⟩
      case measure => simp [intOf]; omega
    · go_wp2
      go_ret
      exact ⟨rfl, hbel⟩
set_option maxHeartbeats 400000 in
set_option maxRecDepth 100000 in
theorem eqCap_same (p : PCap) (w : World) :
    Calls Try.prog 88 #[.agg #[.bool p.reg, .int .i64 p.index], .agg #[.bool p.reg, .int .i64 p.index]] w fun e w' => e = .returned (.bool true) ∧ Below w.heap.size w w' := by
  go_enter Try.func88, Try.ntmps88
  go_wp2
  go_ret
  exact ⟨rfl, by go_grown⟩
set_option maxHeartbeats 4000000 in
set_option maxRecDepth 100000 in
theorem eqCapS_same (a b : Value) (l : List PCap) (w : World) (ha : ArgFlat w a 2 l.length (l.flatMap capC)) (hb : ArgFlat w b 2 l.length (l.flatMap capC)) :
    Calls Try.prog 67 #[a, b] w fun e w' => e = .returned (.bool true) ∧ Below w.heap.size w w' := by
  obtain ⟨xa, ca, rfl, hm, oa⟩ := ha.opened capC_len
  obtain ⟨xb, cb, rfl, _, ob⟩ := hb.opened capC_len
  clear ha hb
  unfold maxLen at hm
  obtain ⟨n, hn⟩ : ∃ n, l.length = n := ⟨_, rfl⟩
  have HN : Hid (l.length = n) := hn
  rw [hn] at hm oa ob ⊢
  clear hn
  have HA : Hid (0 < n → ∃ b o, xa = some ⟨b, o, none⟩ ∧ b < w.heap.size ∧ ∀ j p, l[j]? = some p → ∀ c u, (capC p)[c]? = some u → w.cell? ⟨b, o + j * 2 + c, none⟩ = some u) := oa
  have HB : Hid (0 < n → ∃ b o, xb = some ⟨b, o, none⟩ ∧ b < w.heap.size ∧ ∀ j p, l[j]? = some p → ∀ c u, (capC p)[c]? = some u → w.cell? ⟨b, o + j * 2 + c, none⟩ = some u) := ob
  clear oa ob
  go_enter Try.func67, Try.ntmps67
  go_wp2
  go_loopw [5] (fun i wr => ∃ k : Nat, k ≤ n ∧ i = .int .i64 k ∧ Below w.heap.size w wr) (fun i _ => n - (intOf i).toNat)
  case atStart => exact ⟨0, Nat.zero_le _, rfl, Below.refl _ _⟩
  case round =>
    obtain ⟨k, hk, rfl, hbel⟩ := hrel
    by_cases hlt : k < n
    · obtain ⟨ga, sa, rfl, hga, hca⟩ := HA.out (by omega)
      obtain ⟨gb, sb, rfl, hgb, hcb⟩ := HB.out (by omega)
      obtain ⟨p, hp⟩ : ∃ p, l[k]? = some p := ⟨_, List.getElem?_eq_getElem (by have := HN.out; omega)⟩
      have cQ := fun d os => Calls.regrown_of (w := wr) (d := d) (os := os) (eqCap_same p (grow (redrawn wr d) os))
      have c0' : wr.cell? ⟨ga, sa + k * 2, none⟩ = some (.bool p.reg) := (hbel.cell hga).trans (hca k p hp 0 _ rfl)
      have c1' : wr.cell? ⟨ga, sa + k * 2 + 1, none⟩ = some (.int .i64 p.index) := (hbel.cell hga).trans (hca k p hp 1 _ rfl)
      have d0' : wr.cell? ⟨gb, sb + k * 2, none⟩ = some (.bool p.reg) := (hbel.cell hgb).trans (hcb k p hp 0 _ rfl)
      have d1' : wr.cell? ⟨gb, sb + k * 2 + 1, none⟩ = some (.int .i64 p.index) := (hbel.cell hgb).trans (hcb k p hp 1 _ rfl)
      have c0 := cell_regrown c0'
      have c1 := cell_regrown c1'
      have d0 := cell_regrown d0'
      have d1 := cell_regrown d1'
      have hki : (k : Int) < (n : Int) := by omega
      have hk0 : (0 : Int) ≤ (k : Int) := by omega
      clear hca hcb hp HA HB c0' c1' d0' d1'
      go_wp2
      refine wp_region_quiet_below (by kernel_rfl) (by kernel_rfl) ?_
      repeat (first | go_big_quiet_step (exact cQ _ _) | quiet_step (exact cQ _ _))
      refine wpQuiet_nil ?_
      intro _ hw'
      obtain ⟨⟨dq, osq⟩, hw''⟩ := hw'
      subst hw''
      go_wp2
      go_roundw
      case rel => exact ⟨k + 1, by omega, by go_num, chain hbel (below_regrown wr dq osq)⟩
      case measure => simp [intOf]; omega
    · go_wp2
      go_ret
      exact ⟨rfl, hbel⟩
set_option maxHeartbeats 400000 in
set_option maxRecDepth 100000 in
theorem eqHandler_same (p : PHnd) (w : World) :
    Calls Try.prog 90 #[.agg #[.int .i64 p.lo, .int .i64 p.hi, .int .i64 p.target], .agg #[.int .i64 p.lo, .int .i64 p.hi, .int .i64 p.target]] w fun e w' => e = .returned (.bool true) ∧ Below w.heap.size w w' := by
  go_enter Try.func90, Try.ntmps90
  go_wp2
  go_ret
  exact ⟨rfl, by go_grown⟩
set_option maxHeartbeats 4000000 in
set_option maxRecDepth 100000 in
theorem eqHandlerS_same (a b : Value) (l : List PHnd) (w : World) (ha : ArgFlat w a 3 l.length (l.flatMap hndC)) (hb : ArgFlat w b 3 l.length (l.flatMap hndC)) :
    Calls Try.prog 69 #[a, b] w fun e w' => e = .returned (.bool true) ∧ Below w.heap.size w w' := by
  obtain ⟨xa, ca, rfl, hm, oa⟩ := ha.opened hndC_len
  obtain ⟨xb, cb, rfl, _, ob⟩ := hb.opened hndC_len
  clear ha hb
  unfold maxLen at hm
  obtain ⟨n, hn⟩ : ∃ n, l.length = n := ⟨_, rfl⟩
  have HN : Hid (l.length = n) := hn
  rw [hn] at hm oa ob ⊢
  clear hn
  have HA : Hid (0 < n → ∃ b o, xa = some ⟨b, o, none⟩ ∧ b < w.heap.size ∧ ∀ j p, l[j]? = some p → ∀ c u, (hndC p)[c]? = some u → w.cell? ⟨b, o + j * 3 + c, none⟩ = some u) := oa
  have HB : Hid (0 < n → ∃ b o, xb = some ⟨b, o, none⟩ ∧ b < w.heap.size ∧ ∀ j p, l[j]? = some p → ∀ c u, (hndC p)[c]? = some u → w.cell? ⟨b, o + j * 3 + c, none⟩ = some u) := ob
  clear oa ob
  go_enter Try.func69, Try.ntmps69
  go_wp2
  go_loopw [5] (fun i wr => ∃ k : Nat, k ≤ n ∧ i = .int .i64 k ∧ Below w.heap.size w wr) (fun i _ => n - (intOf i).toNat)
  case atStart => exact ⟨0, Nat.zero_le _, rfl, Below.refl _ _⟩
  case round =>
    obtain ⟨k, hk, rfl, hbel⟩ := hrel
    by_cases hlt : k < n
    · obtain ⟨ga, sa, rfl, hga, hca⟩ := HA.out (by omega)
      obtain ⟨gb, sb, rfl, hgb, hcb⟩ := HB.out (by omega)
      obtain ⟨p, hp⟩ : ∃ p, l[k]? = some p := ⟨_, List.getElem?_eq_getElem (by have := HN.out; omega)⟩
      have cQ := fun d os => Calls.regrown_of (w := wr) (d := d) (os := os) (eqHandler_same p (grow (redrawn wr d) os))
      have c0' : wr.cell? ⟨ga, sa + k * 3, none⟩ = some (.int .i64 p.lo) := (hbel.cell hga).trans (hca k p hp 0 _ rfl)
      have c1' : wr.cell? ⟨ga, sa + k * 3 + 1, none⟩ = some (.int .i64 p.hi) := (hbel.cell hga).trans (hca k p hp 1 _ rfl)
      have c2' : wr.cell? ⟨ga, sa + k * 3 + 2, none⟩ = some (.int .i64 p.target) := (hbel.cell hga).trans (hca k p hp 2 _ rfl)
      have d0' : wr.cell? ⟨gb, sb + k * 3, none⟩ = some (.int .i64 p.lo) := (hbel.cell hgb).trans (hcb k p hp 0 _ rfl)
      have d1' : wr.cell? ⟨gb, sb + k * 3 + 1, none⟩ = some (.int .i64 p.hi) := (hbel.cell hgb).trans (hcb k p hp 1 _ rfl)
      have d2' : wr.cell? ⟨gb, sb + k * 3 + 2, none⟩ = some (.int .i64 p.target) := (hbel.cell hgb).trans (hcb k p hp 2 _ rfl)
      have c0 := cell_regrown c0'
      have c1 := cell_regrown c1'
      have c2 := cell_regrown c2'
      have d0 := cell_regrown d0'
      have d1 := cell_regrown d1'
      have d2 := cell_regrown d2'
      have hki : (k : Int) < (n : Int) := by omega
      have hk0 : (0 : Int) ≤ (k : Int) := by omega
      clear hca hcb hp HA HB c0' c1' c2' d0' d1' d2'
      go_wp2
      refine wp_region_quiet_below (by kernel_rfl) (by kernel_rfl) ?_
      repeat (first | go_big_quiet_step (exact cQ _ _) | quiet_step (exact cQ _ _))
      refine wpQuiet_nil ?_
      intro _ hw'
      obtain ⟨⟨dq, osq⟩, hw''⟩ := hw'
      subst hw''
      go_wp2
      go_roundw
      case rel => exact ⟨k + 1, by omega, by go_num, chain hbel (below_regrown wr dq osq)⟩
      case measure => simp [intOf]; omega
    · go_wp2
      go_ret
      exact ⟨rfl, hbel⟩
set_option maxHeartbeats 400000 in
set_option maxRecDepth 100000 in
theorem eqConst_same (p : PCon) (w : World) :
    Calls Try.prog 38 #[.agg #[.int .i64 p.kind, .int .u64 (p.num : Int), .string p.text], .agg #[.int .i64 p.kind, .int .u64 (p.num : Int), .string p.text]] w fun e w' => e = .returned (.bool true) ∧ Below w.heap.size w w' := by
  go_enter Try.func38, Try.ntmps38
  go_wp2
  go_ret
  exact ⟨rfl, by go_grown⟩
set_option maxHeartbeats 4000000 in
set_option maxRecDepth 100000 in
theorem eqConstS_same (a b : Value) (l : List PCon) (w : World) (ha : ArgFlat w a 3 l.length (l.flatMap conC)) (hb : ArgFlat w b 3 l.length (l.flatMap conC)) :
    Calls Try.prog 24 #[a, b] w fun e w' => e = .returned (.bool true) ∧ Below w.heap.size w w' := by
  obtain ⟨xa, ca, rfl, hm, oa⟩ := ha.opened conC_len
  obtain ⟨xb, cb, rfl, _, ob⟩ := hb.opened conC_len
  clear ha hb
  unfold maxLen at hm
  obtain ⟨n, hn⟩ : ∃ n, l.length = n := ⟨_, rfl⟩
  have HN : Hid (l.length = n) := hn
  rw [hn] at hm oa ob ⊢
  clear hn
  have HA : Hid (0 < n → ∃ b o, xa = some ⟨b, o, none⟩ ∧ b < w.heap.size ∧ ∀ j p, l[j]? = some p → ∀ c u, (conC p)[c]? = some u → w.cell? ⟨b, o + j * 3 + c, none⟩ = some u) := oa
  have HB : Hid (0 < n → ∃ b o, xb = some ⟨b, o, none⟩ ∧ b < w.heap.size ∧ ∀ j p, l[j]? = some p → ∀ c u, (conC p)[c]? = some u → w.cell? ⟨b, o + j * 3 + c, none⟩ = some u) := ob
  clear oa ob
  go_enter Try.func24, Try.ntmps24
  go_wp2
  go_loopw [5] (fun i wr => ∃ k : Nat, k ≤ n ∧ i = .int .i64 k ∧ Below w.heap.size w wr) (fun i _ => n - (intOf i).toNat)
  case atStart => exact ⟨0, Nat.zero_le _, rfl, Below.refl _ _⟩
  case round =>
    obtain ⟨k, hk, rfl, hbel⟩ := hrel
    by_cases hlt : k < n
    · obtain ⟨ga, sa, rfl, hga, hca⟩ := HA.out (by omega)
      obtain ⟨gb, sb, rfl, hgb, hcb⟩ := HB.out (by omega)
      obtain ⟨p, hp⟩ : ∃ p, l[k]? = some p := ⟨_, List.getElem?_eq_getElem (by have := HN.out; omega)⟩
      have cQ := fun d os => Calls.regrown_of (w := wr) (d := d) (os := os) (eqConst_same p (grow (redrawn wr d) os))
      have c0' : wr.cell? ⟨ga, sa + k * 3, none⟩ = some (.int .i64 p.kind) := (hbel.cell hga).trans (hca k p hp 0 _ rfl)
      have c1' : wr.cell? ⟨ga, sa + k * 3 + 1, none⟩ = some (.int .u64 (p.num : Int)) := (hbel.cell hga).trans (hca k p hp 1 _ rfl)
      have c2' : wr.cell? ⟨ga, sa + k * 3 + 2, none⟩ = some (.string p.text) := (hbel.cell hga).trans (hca k p hp 2 _ rfl)
      have d0' : wr.cell? ⟨gb, sb + k * 3, none⟩ = some (.int .i64 p.kind) := (hbel.cell hgb).trans (hcb k p hp 0 _ rfl)
      have d1' : wr.cell? ⟨gb, sb + k * 3 + 1, none⟩ = some (.int .u64 (p.num : Int)) := (hbel.cell hgb).trans (hcb k p hp 1 _ rfl)
      have d2' : wr.cell? ⟨gb, sb + k * 3 + 2, none⟩ = some (.string p.text) := (hbel.cell hgb).trans (hcb k p hp 2 _ rfl)
      have c0 := cell_regrown c0'
      have c1 := cell_regrown c1'
      have c2 := cell_regrown c2'
      have d0 := cell_regrown d0'
      have d1 := cell_regrown d1'
      have d2 := cell_regrown d2'
      have hki : (k : Int) < (n : Int) := by omega
      have hk0 : (0 : Int) ≤ (k : Int) := by omega
      clear hca hcb hp HA HB c0' c1' c2' d0' d1' d2'
      go_wp2
      refine wp_region_quiet_below (by kernel_rfl) (by kernel_rfl) ?_
      repeat (first | go_big_quiet_step (exact cQ _ _) | quiet_step (exact cQ _ _))
      refine wpQuiet_nil ?_
      intro _ hw'
      obtain ⟨⟨dq, osq⟩, hw''⟩ := hw'
      subst hw''
      go_wp2
      go_roundw
      case rel => exact ⟨k + 1, by omega, by go_num, chain hbel (below_regrown wr dq osq)⟩
      case measure => simp [intOf]; omega
    · go_wp2
      go_ret
      exact ⟨rfl, hbel⟩
set_option maxHeartbeats 1000000 in
set_option maxRecDepth 100000 in
theorem eqFunc_same (p : PFun) (c1 k1 h1 c2 k2 h2 : Value) (w : World) (a1 : ArgFlat w c1 2 p.caps.length (p.caps.flatMap capC)) (a2 : ArgFlat w k1 3 p.code.length (p.code.flatMap insC)) (a3 : ArgFlat w h1 3 p.hnds.length (p.hnds.flatMap hndC))
    (b1 : ArgFlat w c2 2 p.caps.length (p.caps.flatMap capC)) (b2 : ArgFlat w k2 3 p.code.length (p.code.flatMap insC)) (b3 : ArgFlat w h2 3 p.hnds.length (p.hnds.flatMap hndC)) :
    Calls Try.prog 37 #[.agg #[.int .i64 p.params, .int .i64 p.regs, c1, k1, h1], .agg #[.int .i64 p.params, .int .i64 p.regs, c2, k2, h2]] w fun e w' => e = .returned (.bool true) ∧ Below w.heap.size w w' := by
  have T := made_two w (.cells #[.int .i64 p.params, .int .i64 p.regs, c1, k1, h1] 47) (.cells #[.int .i64 p.params, .int .i64 p.regs, c2, k2, h2] 47)
  obtain ⟨W2, hW2⟩ : ∃ W, ((w.alloc (.cells #[.int .i64 p.params, .int .i64 p.regs, c1, k1, h1] 47)).alloc (.cells #[.int .i64 p.params, .int .i64 p.regs, c2, k2, h2] 47)) = W := ⟨_, rfl⟩
  rw [hW2] at T
  obtain ⟨t0, t1, tz, tb⟩ := T
  have cC := fun W (hb : Below w.heap.size w W) => eqCapS_same c1 c2 p.caps W (a1.below hb) (b1.below hb)
  have cK := fun W (hb : Below w.heap.size w W) => eqInsS_same k1 k2 p.code W (a2.below hb) (b2.below hb)
  have cH := fun W (hb : Below w.heap.size w W) => eqHandlerS_same h1 h2 p.hnds W (a3.below hb) (b3.below hb)
  clear a1 a2 a3 b1 b2 b3
  obtain ⟨G, hG⟩ : ∃ G, w.heap.size = G := ⟨_, rfl⟩
  rw [hG] at t0 t1 tz
  obtain ⟨e0, e1, e2, e3, e4⟩ := cells_five t0
  obtain ⟨f0, f1, f2, f3, f4⟩ := cells_five t1
  go_enter Try.func37, Try.ntmps37
  go_upto_region 1 with fail
  try simp only [hW2, hG]
  clear hW2
  go_wp2_with fail
  refine (cC W2 tb).mono ?_
  rintro e w3 ⟨rfl, b3⟩
  have x0 := (b3.block G (by omega)).trans t0
  have x1 := (b3.block (G + 1) (by omega)).trans t1
  have tb3 := tb.trans (b3.mono (by omega))
  have s3 := b3.size
  clear e0 e1 e2 e3 e4 f0 f1 f2 f3 f4 t0 t1 cC b3
  obtain ⟨e0, e1, e2, e3, e4⟩ := cells_five x0
  obtain ⟨f0, f1, f2, f3, f4⟩ := cells_five x1
  go_wp2_with fail
  refine (cK w3 tb3).mono ?_
  rintro e w4 ⟨rfl, b4⟩
  have y0 := (b4.block G (by omega)).trans x0
  have y1 := (b4.block (G + 1) (by omega)).trans x1
  have tb4 := tb3.trans (b4.mono (by omega))
  have s4 := b4.size
  clear e0 e1 e2 e3 e4 f0 f1 f2 f3 f4 x0 x1 cK b4 tb3
  obtain ⟨e0, e1, e2, e3, e4⟩ := cells_five y0
  obtain ⟨f0, f1, f2, f3, f4⟩ := cells_five y1
  go_wp2_with fail
  refine (cH w4 tb4).mono ?_
  rintro e w5 ⟨rfl, b5⟩
  have tb5 := tb4.trans (b5.mono (by omega))
  clear e0 e1 e2 e3 e4 f0 f1 f2 f3 f4 y0 y1 cH b5 tb4
  go_wp2
  go_ret
  exact ⟨rfl, tb5⟩
set_option maxHeartbeats 4000000 in
set_option maxRecDepth 100000 in
theorem eqFuncS_same (a b : Value) (l : List PFun) (w : World) (ha : ArgFuns w a l) (hb : ArgFuns w b l) :
    Calls Try.prog 23 #[a, b] w fun e w' => e = .returned (.bool true) ∧ Below w.heap.size w w' := by
  obtain ⟨xa, ca, rfl, hm, oa⟩ := ha
  obtain ⟨xb, cb, rfl, _, ob⟩ := hb
  unfold maxLen at hm
  obtain ⟨n, hn⟩ : ∃ n, l.length = n := ⟨_, rfl⟩
  have HN : Hid (l.length = n) := hn
  rw [hn] at hm oa ob ⊢
  clear hn
  have HA : Hid (0 < n → ∃ b o, xa = some ⟨b, o, none⟩ ∧ b < w.heap.size ∧ ∀ j p, l[j]? = some p → ∃ cv kv hv, FunAt w b (o + j * 5) p cv kv hv) := oa
  have HB : Hid (0 < n → ∃ b o, xb = some ⟨b, o, none⟩ ∧ b < w.heap.size ∧ ∀ j p, l[j]? = some p → ∃ cv kv hv, FunAt w b (o + j * 5) p cv kv hv) := ob
  clear oa ob
  go_enter Try.func23, Try.ntmps23
  go_wp2
  go_loopw [5] (fun i wr => ∃ k : Nat, k ≤ n ∧ i = .int .i64 k ∧ Below w.heap.size w wr) (fun i _ => n - (intOf i).toNat)
  case atStart => exact ⟨0, Nat.zero_le _, rfl, Below.refl _ _⟩
  case round =>
    obtain ⟨k, hk, rfl, hbel⟩ := hrel
    by_cases hlt : k < n
    · obtain ⟨ga, sa, rfl, _, hca⟩ := HA.out (by omega)
      obtain ⟨gb, sb, rfl, _, hcb⟩ := HB.out (by omega)
      obtain ⟨p, hp⟩ : ∃ p, l[k]? = some p := ⟨_, List.getElem?_eq_getElem (by have := HN.out; omega)⟩
      obtain ⟨c1, k1, h1, hA⟩ := hca k p hp
      obtain ⟨c2, k2, h2, hB⟩ := hcb k p hp
      have hA' := hA.below hbel
      have hB' := hB.below hbel
      have cQ := fun d os => Calls.regrown_of (w := wr) (d := d) (os := os) (eqFunc_same p c1 k1 h1 c2 k2 h2 (grow (redrawn wr d) os) (hA'.below (below_regrown wr d os)).caps (hA'.below (below_regrown wr d os)).code (hA'.below (below_regrown wr d os)).hnds (hB'.below (below_regrown wr d os)).caps (hB'.below (below_regrown wr d os)).code (hB'.below (below_regrown wr d os)).hnds)
      have c0 := cell_regrown hA'.c0
      have c1' := cell_regrown hA'.c1
      have c2' := cell_regrown hA'.c2
      have c3 := cell_regrown hA'.c3
      have c4 := cell_regrown hA'.c4
      have d0 := cell_regrown hB'.c0
      have d1 := cell_regrown hB'.c1
      have d2 := cell_regrown hB'.c2
      have d3 := cell_regrown hB'.c3
      have d4 := cell_regrown hB'.c4
      have hki : (k : Int) < (n : Int) := by omega
      have hk0 : (0 : Int) ≤ (k : Int) := by omega
      clear hca hcb hp hA hB hA' hB' HA HB
      go_wp2
      refine wp_region_quiet_below (by kernel_rfl) (by kernel_rfl) ?_
      repeat (first | go_big_quiet_step (exact cQ _ _) | quiet_step (exact cQ _ _))
      refine wpQuiet_nil ?_
      intro _ hw'
      obtain ⟨⟨dq, osq⟩, hw''⟩ := hw'
      subst hw''
      go_wp2
      go_roundw
      case rel => exact ⟨k + 1, by omega, by go_num, chain hbel (below_regrown wr dq osq)⟩
      case measure => simp [intOf]; omega
    · go_wp2
      go_ret
      exact ⟨rfl, hbel⟩
set_option maxHeartbeats 1000000 in
set_option maxRecDepth 100000 in
theorem eqImage_same (p : PImg) (f1 c1 f2 c2 : Value) (w : World) (ha : ArgImg w f1 c1 p) (hb : ArgImg w f2 c2 p) :
    Calls Try.prog 9 #[.agg #[f1, c1], .agg #[f2, c2]] w fun e w' => e = .returned (.bool true) ∧ Below w.heap.size w w' := by
  have T := made_two w (.cells #[f1, c1] 32) (.cells #[f2, c2] 32)
  obtain ⟨W2, hW2⟩ : ∃ W, ((w.alloc (.cells #[f1, c1] 32)).alloc (.cells #[f2, c2] 32)) = W := ⟨_, rfl⟩
  rw [hW2] at T
  obtain ⟨t0, t1, tz, tb⟩ := T
  have cF := fun W (hb' : Below w.heap.size w W) => eqFuncS_same f1 f2 p.funcs W (ha.1.below hb') (hb.1.below hb')
  have cC := fun W (hb' : Below w.heap.size w W) => eqConstS_same c1 c2 p.consts W (ha.2.below hb') (hb.2.below hb')
  clear ha hb
  obtain ⟨G, hG⟩ : ∃ G, w.heap.size = G := ⟨_, rfl⟩
  rw [hG] at t0 t1 tz
  obtain ⟨e0, e1⟩ := cells_pair t0
  obtain ⟨d0, d1⟩ := cells_pair t1
  go_enter Try.func9, Try.ntmps9
  go_upto_region 1 with fail
  try simp only [hW2, hG]
  clear hW2
  go_wp2_with fail
  refine (cF W2 tb).mono ?_
  rintro e w3 ⟨rfl, b3⟩
  have x0 := (b3.block G (by omega)).trans t0
  have x1 := (b3.block (G + 1) (by omega)).trans t1
  have tb3 := tb.trans (b3.mono (by omega))
  clear e0 e1 d0 d1 t0 t1 cF b3
  obtain ⟨e0, e1⟩ := cells_pair x0
  obtain ⟨d0, d1⟩ := cells_pair x1
  go_wp2_with fail
  refine (cC w3 tb3).mono ?_
  rintro e w4 ⟨rfl, b4⟩
  have tb4 := tb3.trans (b4.mono (by have := tb3.size; omega))
  clear e0 e1 d0 d1 x0 x1 cC
  go_wp2
  go_ret
  exact ⟨rfl, tb4⟩
end Go.Proofs.Ytkmmojpfcklocaa
