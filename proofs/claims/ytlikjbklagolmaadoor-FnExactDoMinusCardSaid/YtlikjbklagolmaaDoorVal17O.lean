/-
  The specification's comparisons of values, and DoMinus.
-/
import Derived.Test.YtlikjbklagolmaaDoorVal17T
namespace Go.Proofs.YtlikjbklagolmaaDoor
open Go.RowKit Go.Sort
set_option linter.unusedVariables false

theorem four_cells {w : World} {g : Nat} {a0 a1 a2 a3 : Value} {t : TypeId} {r : Nat × Nat} (h : w.heap[g]? = some (.cells #[a0, a1, a2, a3] t r)) :
    w.cell? ⟨g, 0, none⟩ = some a0 ∧ w.cell? ⟨g, 1, none⟩ = some a1 ∧ w.cell? ⟨g, 2, none⟩ = some a2 ∧ w.cell? ⟨g, 3, none⟩ = some a3 := by
  refine ⟨?_, ?_, ?_, ?_⟩ <;> (rw [cell_of_row _ _ _ _ _ _ h]; rfl)

theorem four_put {w : World} {g : Nat} {a0 a1 a2 a3 b0 b1 b2 b3 : Value} {t : TypeId} (h : w.heap[g]? = some (.cells #[a0, a1, a2, a3] t)) :
    ((((w.setCell ⟨g, 0, none⟩ b0).setCell ⟨g, 1, none⟩ b1).setCell ⟨g, 2, none⟩ b2).setCell ⟨g, 3, none⟩ b3).heap[g]? = some (.cells #[b0, b1, b2, b3] t) := by
  have k0 : (w.setCell ⟨g, 0, none⟩ b0).heap[g]? = some (.cells #[b0, a1, a2, a3] t) := heap_setCell_same _ _ _ _ _ _ h
  have k1 := heap_setCell_same _ _ 1 _ _ b1 k0
  have k2 : _ = some (Obj.cells #[b0, b1, b2, a3] t) := heap_setCell_same _ _ 2 _ _ b2 k1
  exact heap_setCell_same _ _ 3 _ _ b3 k2

/-- what a call is about to store into its own result: all that the walk asks -/
theorem four_ready {w w1 : World} {G : Nat} {B : Nat} {a0 a1 a2 a3 b0 b1 b2 b3 : Value} {t : TypeId} (u : w1.heap[G]? = some (.cells #[a0, a1, a2, a3] t)) (hb : Below B w w1) (hG : B ≤ G) :
    (w1.cell? ⟨G, 0, none⟩ = some a0 ∧ w1.cell? ⟨G, 1, none⟩ = some a1 ∧ w1.cell? ⟨G, 2, none⟩ = some a2 ∧ w1.cell? ⟨G, 3, none⟩ = some a3) ∧ (∀ j, w1.frozen? ⟨G, j, none⟩ = false) ∧
    (((((w1.setCell ⟨G, 0, none⟩ b0).setCell ⟨G, 1, none⟩ b1).setCell ⟨G, 2, none⟩ b2).setCell ⟨G, 3, none⟩ b3).cell? ⟨G, 0, none⟩ = some b0 ∧ ((((w1.setCell ⟨G, 0, none⟩ b0).setCell ⟨G, 1, none⟩ b1).setCell ⟨G, 2, none⟩ b2).setCell ⟨G, 3, none⟩ b3).cell? ⟨G, 1, none⟩ = some b1 ∧ ((((w1.setCell ⟨G, 0, none⟩ b0).setCell ⟨G, 1, none⟩ b1).setCell ⟨G, 2, none⟩ b2).setCell ⟨G, 3, none⟩ b3).cell? ⟨G, 2, none⟩ = some b2 ∧ ((((w1.setCell ⟨G, 0, none⟩ b0).setCell ⟨G, 1, none⟩ b1).setCell ⟨G, 2, none⟩ b2).setCell ⟨G, 3, none⟩ b3).cell? ⟨G, 3, none⟩ = some b3) ∧
    Below B w ((((w1.setCell ⟨G, 0, none⟩ b0).setCell ⟨G, 1, none⟩ b1).setCell ⟨G, 2, none⟩ b2).setCell ⟨G, 3, none⟩ b3) :=
  ⟨four_cells u, fun j => frozen_of_row w1 G j _ _ u, four_cells (four_put u), (((hb.setCell (p := ⟨G, 0, none⟩) hG b0).setCell (p := ⟨G, 1, none⟩) hG b1).setCell (p := ⟨G, 2, none⟩) hG b2).setCell (p := ⟨G, 3, none⟩) hG b3⟩

/-- what a comparison says, by whether the first is less, whether they are the same, whether one is none -/
def orderB (op : Int) (less same none : Bool) : Bool := if op = 6 then less else if op = 7 then less || same else if op = 8 then !none && (!less && !same) else !none && !less

theorem two_made (w : World) (o1 o2 : Obj) : ((w.alloc o1).alloc o2).heap[w.heap.size]? = some o1 ∧ ((w.alloc o1).alloc o2).heap[w.heap.size + 1]? = some o2 ∧ ((w.alloc o1).alloc o2).heap.size = w.heap.size + 2 ∧ Below w.heap.size w ((w.alloc o1).alloc o2) := by
  have z1 : (w.alloc o1).heap.size = w.heap.size + 1 := by simp
  refine ⟨?_, ?_, by simp, ((Below.refl _ _).alloc (Nat.le_refl _) _).alloc (by simp) _⟩
  · rw [heap_alloc_old (r := w.heap.size) _ _ (by omega)]
    exact heap_alloc_new _ _
  · rw [← z1]
    exact heap_alloc_new _ _

set_option maxHeartbeats 1000000 in
set_option maxRecDepth 100000 in
theorem specDoMinus_any (p : PVal) (w : World) (hp : valW p) :
    Calls Tryd.prog 5 #[.agg #[.int .i64 p.kind, .int .u64 (p.num : Int), .string p.text, .int .i64 p.ref]] w fun e w' => e = .returned (if p.kind = 2 then .tuple #[.agg #[.int .i64 2, .int .u64 ((negN p.num : Nat) : Int), .string ⟨#[]⟩, .int .i64 0], .string ⟨#[]⟩] else .tuple #[.agg #[.int .i64 0, .int .u64 0, .string ⟨#[]⟩, .int .i64 0], .string ⟨#[116, 121, 112, 101]⟩]) ∧ Below w.heap.size w w' := by
  have cN := fun W => specNegate_any p.num W hp.2.1
  clear hp
  obtain ⟨k, x, s, r⟩ := p
  simp only at cN ⊢
  have cM := fun W => l17Number_any (negN x) W
  obtain ⟨N, hN⟩ : ∃ N, negN x = N := ⟨_, rfl⟩
  simp only [hN] at cN cM ⊢
  clear hN
  by_cases h : k = 2
  · subst h
    rw [if_pos rfl]
    have T := (two_made w (.cells #[.int .i64 2, .int .u64 (x : Int), .string s, .int .i64 r] 26) (.cells #[.int .i64 0, .int .u64 0, .string ⟨#[]⟩, .int .i64 0] 26))
    obtain ⟨t0, t1, tz, tb⟩ := T
    go_enter Tryd.func5, Tryd.ntmps5
    go_wp2_with fail
    refine (cN _).mono ?_
    rintro e w1 ⟨rfl, b1⟩
    go_wp2_with fail
    refine (cM _).mono ?_
    rintro e w2 ⟨rfl, b2⟩
    have hz := b1.size
    obtain ⟨⟨c0, c1, c2, c3⟩, fz, ⟨g0, g1, g2, g3⟩, hbe⟩ := four_ready (G := w.heap.size + 1) (b0 := .int .i64 2) (b1 := .int .u64 (N : Int)) (b2 := .string ⟨#[]⟩) (b3 := .int .i64 0) ((b2.block (w.heap.size + 1) (by omega)).trans ((b1.block (w.heap.size + 1) (by omega)).trans t1)) (chain (chain tb b1) b2) (by omega)
    clear t0 t1 tz tb
    go_wp2
    refine bodyPost_ret (by simp [results, Tryd.results5, go_sem, g0, g1, g2, g3]; try rfl) rfl ?_
    exact ⟨rfl, hbe⟩
  · rw [if_neg h]
    have z : (k == 2) = false := by rw [beq_eq_false_iff_ne]; exact h
    clear cN cM
    go_enter Tryd.func5, Tryd.ntmps5
    go_wp2
    go_returns
    exact ⟨rfl, by go_grown⟩

end Go.Proofs.YtlikjbklagolmaaDoor
