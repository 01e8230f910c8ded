/-
  The law's own helper that copies a function of an image.
-/
import Derived.Test.YtcjjhakhocgfgaaImg13T
import Derived.Deep.DeepCutAuto
namespace Go.Proofs.Ytcjjhakhocgfgaa
open Go.RowKit
set_option linter.unusedVariables false

theorem cells_five {w : World} {g : Nat} {a0 a1 a2 a3 a4 : Value} {t : TypeId} {r : Nat × Nat} (h : w.heap[g]? = some (.cells #[a0, a1, a2, a3, a4] t r)) :
    w.cell? ⟨g, 0, none⟩ = some a0 ∧ w.cell? ⟨g, 1, none⟩ = some a1 ∧ w.cell? ⟨g, 2, none⟩ = some a2 ∧ w.cell? ⟨g, 3, none⟩ = some a3 ∧ w.cell? ⟨g, 4, none⟩ = some a4 := by
  refine ⟨?_, ?_, ?_, ?_, ?_⟩ <;> (rw [cell_of_row _ _ _ _ _ _ h]; rfl)
theorem five_put {w : World} {g : Nat} {a0 a1 a2 a3 a4 b0 b1 b2 b3 b4 : Value} {t : TypeId} (h : w.heap[g]? = some (.cells #[a0, a1, a2, a3, a4] t)) :
    (((((w.setCell ⟨g, 0, none⟩ b0).setCell ⟨g, 1, none⟩ b1).setCell ⟨g, 2, none⟩ b2).setCell ⟨g, 3, none⟩ b3).setCell ⟨g, 4, none⟩ b4).heap[g]? = some (.cells #[b0, b1, b2, b3, b4] t) := by
  have k0 : (w.setCell ⟨g, 0, none⟩ b0).heap[g]? = some (.cells #[b0, a1, a2, a3, a4] t) := heap_setCell_same _ _ _ _ _ _ h
  have k1 := heap_setCell_same _ _ 1 _ _ b1 k0
  have k2 : _ = some (Obj.cells #[b0, b1, b2, a3, a4] t) := heap_setCell_same _ _ 2 _ _ b2 k1
  have k3 := heap_setCell_same _ _ 3 _ _ b3 k2
  exact heap_setCell_same _ _ 4 _ _ b4 k3
/-- three blocks made one behind another -/
theorem made_three (w : World) (o1 o2 o3 : Obj) : (((w.alloc o1).alloc o2).alloc o3).heap[w.heap.size]? = some o1 ∧ (((w.alloc o1).alloc o2).alloc o3).heap[w.heap.size + 1]? = some o2 ∧ (((w.alloc o1).alloc o2).alloc o3).heap[w.heap.size + 2]? = some o3 ∧ (((w.alloc o1).alloc o2).alloc o3).heap.size = w.heap.size + 3 ∧ Below w.heap.size w (((w.alloc o1).alloc o2).alloc o3) := by
  have z1 : (w.alloc o1).heap.size = w.heap.size + 1 := by simp
  have z2 : ((w.alloc o1).alloc o2).heap.size = w.heap.size + 2 := by simp
  refine ⟨?_, ?_, ?_, by simp, (((Below.refl _ _).alloc (Nat.le_refl _) _).alloc (by simp) _).alloc (by simp; omega) _⟩
  · rw [heap_alloc_old (r := w.heap.size) _ _ (by omega), heap_alloc_old (r := w.heap.size) _ _ (by omega)]
    exact heap_alloc_new _ _
  · rw [heap_alloc_old (r := w.heap.size + 1) _ _ (by omega), ← z1]
    exact heap_alloc_new _ _
  · rw [← z2]
    exact heap_alloc_new _ _
/-- three blocks of a copying call: what came in, the result, what is made; a row is stored into a field of the last one -/
theorem put_field {w0 w1 : World} {G D k : Nat} {i r m m' : Array Value} {ti tr tm : TypeId} {B : Nat} {v : Value} (hD : G + 1 + 1 = D) (h0 : w1.heap[G]? = some (.cells i ti)) (h1 : w1.heap[G + 1]? = some (.cells r tr)) (h2 : w1.heap[D]? = some (.cells m tm)) (hb : Below B w0 w1) (hB : B ≤ G) (hs : D + 1 ≤ w1.heap.size) (hm : m.set! k v = m') :
    (w1.setCell ⟨D, k, none⟩ v).heap[G]? = some (.cells i ti) ∧ (w1.setCell ⟨D, k, none⟩ v).heap[G + 1]? = some (.cells r tr) ∧ (w1.setCell ⟨D, k, none⟩ v).heap[D]? = some (.cells m' tm) ∧ Below B w0 (w1.setCell ⟨D, k, none⟩ v) ∧ D + 1 ≤ (w1.setCell ⟨D, k, none⟩ v).heap.size := by
  refine ⟨(heap_setCell_other w1 ⟨D, k, none⟩ G v (by show G ≠ D; omega)).trans h0, (heap_setCell_other w1 ⟨D, k, none⟩ (G + 1) v (by show G + 1 ≠ D; omega)).trans h1, ?_, hb.setCell (p := ⟨D, k, none⟩) (by show B ≤ D; omega) v, by simp; omega⟩
  rw [← hm]
  exact heap_setCell_same w1 D k _ _ v h2
/-- .. kept behind a call -/
theorem kept_three {w0 w1 w2 : World} {G D : Nat} {i r m : Array Value} {ti tr tm : TypeId} {B : Nat} (hD : G + 1 + 1 = D) (h0 : w1.heap[G]? = some (.cells i ti)) (h1 : w1.heap[G + 1]? = some (.cells r tr)) (h2 : w1.heap[D]? = some (.cells m tm)) (hb : Below B w0 w1) (hB : B ≤ G) (hs : D + 1 ≤ w1.heap.size) (b : Below w1.heap.size w1 w2) :
    w2.heap[G]? = some (.cells i ti) ∧ w2.heap[G + 1]? = some (.cells r tr) ∧ w2.heap[D]? = some (.cells m tm) ∧ Below B w0 w2 ∧ D + 1 ≤ w2.heap.size :=
  ⟨(b.block G (by omega)).trans h0, (b.block (G + 1) (by omega)).trans h1, (b.block D (by omega)).trans h2, hb.trans (b.mono (by omega)), Nat.le_trans hs b.size⟩

end Go.Proofs.Ytcjjhakhocgfgaa
