/-
  The tracer, new: what trace begins with, in whatever order it is made.
-/
import Derived.Test.YtlplljgcgohonaaIVer16N
import Derived.Test.YtlplljgcgohonaaVer16L
namespace Go.Proofs.Ytlplljgcgohonaa
open Go.RowKit Go.Sort
set_option linter.unusedVariables false
set_option linter.unusedSimpArgs false

/-- the tracer, new -/
structure TNew (X S H L K n Z : Nat) (fv cv : Value) (PA RE : Int) (qc qk qh : Value) (W3 wr : World) : Prop where
  box : wr.heap[X]? = some (.cells #[fv, cv, .int .i64 PA, .int .i64 RE, qc, qk, qh, .slice (some ⟨S, 0, none⟩) n n, .slice (some ⟨H, 0, none⟩) n n, .slice (some ⟨L, 0, none⟩) n n, .int .i64 0, .int .i64 0, .slice (some ⟨K, 0, none⟩) n n, .bool false] 123 (0, 0))
  bs : wr.heap[S]? = some (.cells (madeCells #[.int .i64 0, .slice none 0 0] (n * 2)) 26 (0, 0))
  bh : wr.heap[H]? = some (.cells (madeCells #[.bool false] (n * 1)) 4 (0, 0))
  bl : wr.heap[L]? = some (.cells (madeCells #[.nilIface] (n * 1)) 20 (0, 0))
  bk : wr.heap[K]? = some (.cells (madeCells #[.bool false] (n * 1)) 4 (0, 0))
  ne : H ≠ K
  lo : Z ≤ X ∧ Z ≤ S ∧ Z ≤ H ∧ Z ≤ L ∧ Z ≤ K
  bel : Below W3.heap.size W3 wr

theorem made_all (z : Value) (n j : Nat) (h : j < n) : (madeCells #[z] (n * 1))[j]? = some z := by
  rw [Nat.mul_one]
  simp [madeCells, h, Nat.mod_one]

theorem TNew.at_ {X S H L K n Z B : Nat} {fv cv : Value} {PA RE : Int} {qc qk qh : Value} {W3 wr : World} (f : PFun) (h : TNew X S H L K n Z fv cv PA RE qc qk qh W3 wr) (hn : f.code.length = n) (h0 : 0 < n) (hB : B ≤ Z) : TAt X S H L K n B fv cv PA RE qc qk qh (noneP f) 0 wr := by
  have ht : (noneP f).todo = [] := rfl
  refine ⟨?_, ⟨_, h.bs, by rw [size_madeCells], fun q s hs => ?_, fun q q' g v v' hne hq hq' hg => ?_⟩, ⟨_, h.bh, by rw [size_madeCells, Nat.mul_one], fun q b hb => ?_⟩, ⟨_, h.bl, by rw [size_madeCells, Nat.mul_one], fun j hj => ?_⟩, ⟨_, h.bk, by rw [size_madeCells, Nat.mul_one], fun q hq => ?_⟩, by simp [noneP, hn], by simp [noneP, hn], h.ne, h0, by rw [ht]; simp, (fun q hq => by rw [ht] at hq; cases hq), by have := h.lo; omega⟩
  · have h1 := h.box
    rw [ht]
    simp only [List.length_nil, Nat.add_zero, Nat.zero_mod]
    exact h1
  · have hs' : (List.replicate f.code.length (PSta.mk 0 []))[q]? = some s := hs
    rw [List.getElem?_replicate] at hs'
    split at hs'
    · rename_i hq
      injection hs' with hs'
      subst hs'
      have hqn : q < n := by omega
      refine ⟨.slice none 0 0, ?_, ?_, ⟨rfl, .inl ⟨rfl, rfl⟩⟩⟩
      · simp [madeCells, show q * 2 < n * 2 by omega]
      · simp [madeCells, show q * 2 + 1 < n * 2 by omega]
    · cases hs'
  · have e : v = .slice none 0 0 := by
      by_cases hq1 : q * 2 + 1 < n * 2
      · simp [madeCells, hq1] at hq
        exact hq.symm
      · simp [madeCells, hq1] at hq
    rw [e] at hg
    cases hg
  · have hb' : (List.replicate f.code.length false)[q]? = some b := hb
    rw [List.getElem?_replicate] at hb'
    split at hb'
    · injection hb' with hb'
      subst hb'
      exact made_all _ n q (by omega)
    · cases hb'
  · rw [ht]
    exact made_all _ n _ (Nat.mod_lt _ h0)
  · rw [ht, made_all _ n q hq]
    simp

theorem drew_size (V : World) : V.drew.heap.size = V.heap.size := rfl
theorem alloc_size (V : World) (o : Obj) : (V.alloc o).heap.size = V.heap.size + 1 := by simp
theorem mem_new (V : World) (o : Obj) (k : Nat) (h : V.heap.size = k) : (V.alloc o).heap[k]? = some o := by rw [← h]; exact heap_alloc_new V o
theorem mem_old (V : World) (o o' : Obj) (k : Nat) (h : V.heap[k]? = some o') : (V.alloc o).heap[k]? = some o' := by rw [heap_alloc_old (r := k) _ _ (lt16 h)]; exact h
theorem cell_far (V : World) (o : Obj) (k j : Nat) (o' : Obj) (h : V.heap[k]? = some o') : (V.alloc o).cell? ⟨k, j, none⟩ = V.cell? ⟨k, j, none⟩ := by
  have e : (V.alloc o).heap[k]? = V.heap[k]? := (mem_old V o o' k h).trans h.symm
  unfold World.cell?
  simp only [e]
theorem cell_far2 (V : World) (o o1 : Obj) (k j : Nat) (o' : Obj) (h : V.heap[k]? = some o') : ((V.alloc o).alloc o1).cell? ⟨k, j, none⟩ = V.cell? ⟨k, j, none⟩ := (cell_far _ o1 k j o' (mem_old V o o' k h)).trans (cell_far V o k j o' h)
theorem froz_far (V : World) (o : Obj) (k j : Nat) (cs : Array Value) (t : TypeId) (h : V.heap[k]? = some (.cells cs t (0, 0))) : (V.alloc o).frozen? ⟨k, j, none⟩ = false := frozen_of_row _ k j _ _ (mem_old V o _ k h)
theorem froz_far2 (V : World) (o o1 : Obj) (k j : Nat) (cs : Array Value) (t : TypeId) (h : V.heap[k]? = some (.cells cs t (0, 0))) : ((V.alloc o).alloc o1).frozen? ⟨k, j, none⟩ = false := frozen_of_row _ k j _ _ (mem_old _ o1 _ k (mem_old V o _ k h))
theorem mem_drew (V : World) (o' : Obj) (k : Nat) (h : V.heap[k]? = some o') : V.drew.heap[k]? = some o' := h
theorem mem_bel {V V' : World} (hb : Below V.heap.size V V') (o' : Obj) (k : Nat) (h : V.heap[k]? = some o') : V'.heap[k]? = some o' := (hb.block k (lt16 h)).trans h

theorem cells14 {w : World} {X : Nat} {a0 a1 a2 a3 a4 a5 a6 a7 a8 a9 a10 a11 a12 a13 : Value} {t : TypeId} {r : Nat × Nat} (h : w.heap[X]? = some (.cells #[a0, a1, a2, a3, a4, a5, a6, a7, a8, a9, a10, a11, a12, a13] t r)) : w.cell? ⟨X, 0, none⟩ = some a0 ∧ w.cell? ⟨X, 1, none⟩ = some a1 ∧ w.cell? ⟨X, 2, none⟩ = some a2 ∧ w.cell? ⟨X, 3, none⟩ = some a3 ∧ w.cell? ⟨X, 4, none⟩ = some a4 ∧ w.cell? ⟨X, 5, none⟩ = some a5 ∧ w.cell? ⟨X, 6, none⟩ = some a6 ∧ w.cell? ⟨X, 7, none⟩ = some a7 ∧ w.cell? ⟨X, 8, none⟩ = some a8 ∧ w.cell? ⟨X, 9, none⟩ = some a9 ∧ w.cell? ⟨X, 10, none⟩ = some a10 ∧ w.cell? ⟨X, 11, none⟩ = some a11 ∧ w.cell? ⟨X, 12, none⟩ = some a12 ∧ w.cell? ⟨X, 13, none⟩ = some a13 := by
  refine ⟨?_, ?_, ?_, ?_, ?_, ?_, ?_, ?_, ?_, ?_, ?_, ?_, ?_, ?_⟩ <;> (rw [cell_of_row _ _ _ _ _ _ h]; rfl)
/-- a box of fourteen cells is written whole -/
theorem set14 {V : World} {X : Nat} {a0 a1 a2 a3 a4 a5 a6 a7 a8 a9 a10 a11 a12 a13 : Value} {t : TypeId} (h : V.heap[X]? = some (.cells #[a0, a1, a2, a3, a4, a5, a6, a7, a8, a9, a10, a11, a12, a13] t (0, 0))) (b0 b1 b2 b3 b4 b5 b6 b7 b8 b9 b10 b11 b12 b13 : Value) : ((((((((((((((V.setCell ⟨X, 0, none⟩ b0).setCell ⟨X, 1, none⟩ b1).setCell ⟨X, 2, none⟩ b2).setCell ⟨X, 3, none⟩ b3).setCell ⟨X, 4, none⟩ b4).setCell ⟨X, 5, none⟩ b5).setCell ⟨X, 6, none⟩ b6).setCell ⟨X, 7, none⟩ b7).setCell ⟨X, 8, none⟩ b8).setCell ⟨X, 9, none⟩ b9).setCell ⟨X, 10, none⟩ b10).setCell ⟨X, 11, none⟩ b11).setCell ⟨X, 12, none⟩ b12).setCell ⟨X, 13, none⟩ b13).heap[X]? = some (.cells #[b0, b1, b2, b3, b4, b5, b6, b7, b8, b9, b10, b11, b12, b13] t (0, 0)) := by
  have k0 : (V.setCell ⟨X, 0, none⟩ b0).heap[X]? = some (.cells #[b0, a1, a2, a3, a4, a5, a6, a7, a8, a9, a10, a11, a12, a13] t (0, 0)) := heap_setCell_same _ X 0 _ _ b0 h
  have k1 : ((V.setCell ⟨X, 0, none⟩ b0).setCell ⟨X, 1, none⟩ b1).heap[X]? = some (.cells #[b0, b1, a2, a3, a4, a5, a6, a7, a8, a9, a10, a11, a12, a13] t (0, 0)) := heap_setCell_same _ X 1 _ _ b1 k0
  have k2 : (((V.setCell ⟨X, 0, none⟩ b0).setCell ⟨X, 1, none⟩ b1).setCell ⟨X, 2, none⟩ b2).heap[X]? = some (.cells #[b0, b1, b2, a3, a4, a5, a6, a7, a8, a9, a10, a11, a12, a13] t (0, 0)) := heap_setCell_same _ X 2 _ _ b2 k1
  have k3 : ((((V.setCell ⟨X, 0, none⟩ b0).setCell ⟨X, 1, none⟩ b1).setCell ⟨X, 2, none⟩ b2).setCell ⟨X, 3, none⟩ b3).heap[X]? = some (.cells #[b0, b1, b2, b3, a4, a5, a6, a7, a8, a9, a10, a11, a12, a13] t (0, 0)) := heap_setCell_same _ X 3 _ _ b3 k2
  have k4 : (((((V.setCell ⟨X, 0, none⟩ b0).setCell ⟨X, 1, none⟩ b1).setCell ⟨X, 2, none⟩ b2).setCell ⟨X, 3, none⟩ b3).setCell ⟨X, 4, none⟩ b4).heap[X]? = some (.cells #[b0, b1, b2, b3, b4, a5, a6, a7, a8, a9, a10, a11, a12, a13] t (0, 0)) := heap_setCell_same _ X 4 _ _ b4 k3
  have k5 : ((((((V.setCell ⟨X, 0, none⟩ b0).setCell ⟨X, 1, none⟩ b1).setCell ⟨X, 2, none⟩ b2).setCell ⟨X, 3, none⟩ b3).setCell ⟨X, 4, none⟩ b4).setCell ⟨X, 5, none⟩ b5).heap[X]? = some (.cells #[b0, b1, b2, b3, b4, b5, a6, a7, a8, a9, a10, a11, a12, a13] t (0, 0)) := heap_setCell_same _ X 5 _ _ b5 k4
  have k6 : (((((((V.setCell ⟨X, 0, none⟩ b0).setCell ⟨X, 1, none⟩ b1).setCell ⟨X, 2, none⟩ b2).setCell ⟨X, 3, none⟩ b3).setCell ⟨X, 4, none⟩ b4).setCell ⟨X, 5, none⟩ b5).setCell ⟨X, 6, none⟩ b6).heap[X]? = some (.cells #[b0, b1, b2, b3, b4, b5, b6, a7, a8, a9, a10, a11, a12, a13] t (0, 0)) := heap_setCell_same _ X 6 _ _ b6 k5
  have k7 : ((((((((V.setCell ⟨X, 0, none⟩ b0).setCell ⟨X, 1, none⟩ b1).setCell ⟨X, 2, none⟩ b2).setCell ⟨X, 3, none⟩ b3).setCell ⟨X, 4, none⟩ b4).setCell ⟨X, 5, none⟩ b5).setCell ⟨X, 6, none⟩ b6).setCell ⟨X, 7, none⟩ b7).heap[X]? = some (.cells #[b0, b1, b2, b3, b4, b5, b6, b7, a8, a9, a10, a11, a12, a13] t (0, 0)) := heap_setCell_same _ X 7 _ _ b7 k6
  have k8 : (((((((((V.setCell ⟨X, 0, none⟩ b0).setCell ⟨X, 1, none⟩ b1).setCell ⟨X, 2, none⟩ b2).setCell ⟨X, 3, none⟩ b3).setCell ⟨X, 4, none⟩ b4).setCell ⟨X, 5, none⟩ b5).setCell ⟨X, 6, none⟩ b6).setCell ⟨X, 7, none⟩ b7).setCell ⟨X, 8, none⟩ b8).heap[X]? = some (.cells #[b0, b1, b2, b3, b4, b5, b6, b7, b8, a9, a10, a11, a12, a13] t (0, 0)) := heap_setCell_same _ X 8 _ _ b8 k7
  have k9 : ((((((((((V.setCell ⟨X, 0, none⟩ b0).setCell ⟨X, 1, none⟩ b1).setCell ⟨X, 2, none⟩ b2).setCell ⟨X, 3, none⟩ b3).setCell ⟨X, 4, none⟩ b4).setCell ⟨X, 5, none⟩ b5).setCell ⟨X, 6, none⟩ b6).setCell ⟨X, 7, none⟩ b7).setCell ⟨X, 8, none⟩ b8).setCell ⟨X, 9, none⟩ b9).heap[X]? = some (.cells #[b0, b1, b2, b3, b4, b5, b6, b7, b8, b9, a10, a11, a12, a13] t (0, 0)) := heap_setCell_same _ X 9 _ _ b9 k8
  have k10 : (((((((((((V.setCell ⟨X, 0, none⟩ b0).setCell ⟨X, 1, none⟩ b1).setCell ⟨X, 2, none⟩ b2).setCell ⟨X, 3, none⟩ b3).setCell ⟨X, 4, none⟩ b4).setCell ⟨X, 5, none⟩ b5).setCell ⟨X, 6, none⟩ b6).setCell ⟨X, 7, none⟩ b7).setCell ⟨X, 8, none⟩ b8).setCell ⟨X, 9, none⟩ b9).setCell ⟨X, 10, none⟩ b10).heap[X]? = some (.cells #[b0, b1, b2, b3, b4, b5, b6, b7, b8, b9, b10, a11, a12, a13] t (0, 0)) := heap_setCell_same _ X 10 _ _ b10 k9
  have k11 : ((((((((((((V.setCell ⟨X, 0, none⟩ b0).setCell ⟨X, 1, none⟩ b1).setCell ⟨X, 2, none⟩ b2).setCell ⟨X, 3, none⟩ b3).setCell ⟨X, 4, none⟩ b4).setCell ⟨X, 5, none⟩ b5).setCell ⟨X, 6, none⟩ b6).setCell ⟨X, 7, none⟩ b7).setCell ⟨X, 8, none⟩ b8).setCell ⟨X, 9, none⟩ b9).setCell ⟨X, 10, none⟩ b10).setCell ⟨X, 11, none⟩ b11).heap[X]? = some (.cells #[b0, b1, b2, b3, b4, b5, b6, b7, b8, b9, b10, b11, a12, a13] t (0, 0)) := heap_setCell_same _ X 11 _ _ b11 k10
  have k12 : (((((((((((((V.setCell ⟨X, 0, none⟩ b0).setCell ⟨X, 1, none⟩ b1).setCell ⟨X, 2, none⟩ b2).setCell ⟨X, 3, none⟩ b3).setCell ⟨X, 4, none⟩ b4).setCell ⟨X, 5, none⟩ b5).setCell ⟨X, 6, none⟩ b6).setCell ⟨X, 7, none⟩ b7).setCell ⟨X, 8, none⟩ b8).setCell ⟨X, 9, none⟩ b9).setCell ⟨X, 10, none⟩ b10).setCell ⟨X, 11, none⟩ b11).setCell ⟨X, 12, none⟩ b12).heap[X]? = some (.cells #[b0, b1, b2, b3, b4, b5, b6, b7, b8, b9, b10, b11, b12, a13] t (0, 0)) := heap_setCell_same _ X 12 _ _ b12 k11
  have k13 : ((((((((((((((V.setCell ⟨X, 0, none⟩ b0).setCell ⟨X, 1, none⟩ b1).setCell ⟨X, 2, none⟩ b2).setCell ⟨X, 3, none⟩ b3).setCell ⟨X, 4, none⟩ b4).setCell ⟨X, 5, none⟩ b5).setCell ⟨X, 6, none⟩ b6).setCell ⟨X, 7, none⟩ b7).setCell ⟨X, 8, none⟩ b8).setCell ⟨X, 9, none⟩ b9).setCell ⟨X, 10, none⟩ b10).setCell ⟨X, 11, none⟩ b11).setCell ⟨X, 12, none⟩ b12).setCell ⟨X, 13, none⟩ b13).heap[X]? = some (.cells #[b0, b1, b2, b3, b4, b5, b6, b7, b8, b9, b10, b11, b12, b13] t (0, 0)) := heap_setCell_same _ X 13 _ _ b13 k12
  exact k13
theorem mem_set14 {V : World} {X k : Nat} {cs c : Array Value} {t t' : TypeId} (h : V.heap[X]? = some (.cells cs t (0, 0))) (b0 b1 b2 b3 b4 b5 b6 b7 b8 b9 b10 b11 b12 b13 : Value) (hk : V.heap[k]? = some (.cells c t' (0, 0))) (ne : t' ≠ t) : ((((((((((((((V.setCell ⟨X, 0, none⟩ b0).setCell ⟨X, 1, none⟩ b1).setCell ⟨X, 2, none⟩ b2).setCell ⟨X, 3, none⟩ b3).setCell ⟨X, 4, none⟩ b4).setCell ⟨X, 5, none⟩ b5).setCell ⟨X, 6, none⟩ b6).setCell ⟨X, 7, none⟩ b7).setCell ⟨X, 8, none⟩ b8).setCell ⟨X, 9, none⟩ b9).setCell ⟨X, 10, none⟩ b10).setCell ⟨X, 11, none⟩ b11).setCell ⟨X, 12, none⟩ b12).setCell ⟨X, 13, none⟩ b13).heap[k]? = some (.cells c t' (0, 0)) := by
  have hne : k ≠ X := blk_ne hk h ne
  rw [heap_setCell_other _ ⟨X, 13, none⟩ k _ hne, heap_setCell_other _ ⟨X, 12, none⟩ k _ hne, heap_setCell_other _ ⟨X, 11, none⟩ k _ hne, heap_setCell_other _ ⟨X, 10, none⟩ k _ hne, heap_setCell_other _ ⟨X, 9, none⟩ k _ hne, heap_setCell_other _ ⟨X, 8, none⟩ k _ hne, heap_setCell_other _ ⟨X, 7, none⟩ k _ hne, heap_setCell_other _ ⟨X, 6, none⟩ k _ hne, heap_setCell_other _ ⟨X, 5, none⟩ k _ hne, heap_setCell_other _ ⟨X, 4, none⟩ k _ hne, heap_setCell_other _ ⟨X, 3, none⟩ k _ hne, heap_setCell_other _ ⟨X, 2, none⟩ k _ hne, heap_setCell_other _ ⟨X, 1, none⟩ k _ hne, heap_setCell_other _ ⟨X, 0, none⟩ k _ hne]
  exact hk
theorem bel_set14 {V W : World} {X B : Nat} (h : Below B W V) (hX : B ≤ X) (b0 b1 b2 b3 b4 b5 b6 b7 b8 b9 b10 b11 b12 b13 : Value) : Below B W ((((((((((((((V.setCell ⟨X, 0, none⟩ b0).setCell ⟨X, 1, none⟩ b1).setCell ⟨X, 2, none⟩ b2).setCell ⟨X, 3, none⟩ b3).setCell ⟨X, 4, none⟩ b4).setCell ⟨X, 5, none⟩ b5).setCell ⟨X, 6, none⟩ b6).setCell ⟨X, 7, none⟩ b7).setCell ⟨X, 8, none⟩ b8).setCell ⟨X, 9, none⟩ b9).setCell ⟨X, 10, none⟩ b10).setCell ⟨X, 11, none⟩ b11).setCell ⟨X, 12, none⟩ b12).setCell ⟨X, 13, none⟩ b13) := by
  have q : ∀ (U : World) (j : Nat) (u : Value), Below B W U → Below B W (U.setCell ⟨X, j, none⟩ u) := fun U j u h => h.setCell (p := ⟨X, j, none⟩) hX u
  exact q _ _ _ (q _ _ _ (q _ _ _ (q _ _ _ (q _ _ _ (q _ _ _ (q _ _ _ (q _ _ _ (q _ _ _ (q _ _ _ (q _ _ _ (q _ _ _ (q _ _ _ (q _ _ _ h)))))))))))))

theorem other14 {V : World} {X k : Nat} (hne : k ≠ X) (b0 b1 b2 b3 b4 b5 b6 b7 b8 b9 b10 b11 b12 b13 : Value) : ((((((((((((((V.setCell ⟨X, 0, none⟩ b0).setCell ⟨X, 1, none⟩ b1).setCell ⟨X, 2, none⟩ b2).setCell ⟨X, 3, none⟩ b3).setCell ⟨X, 4, none⟩ b4).setCell ⟨X, 5, none⟩ b5).setCell ⟨X, 6, none⟩ b6).setCell ⟨X, 7, none⟩ b7).setCell ⟨X, 8, none⟩ b8).setCell ⟨X, 9, none⟩ b9).setCell ⟨X, 10, none⟩ b10).setCell ⟨X, 11, none⟩ b11).setCell ⟨X, 12, none⟩ b12).setCell ⟨X, 13, none⟩ b13).heap[k]? = V.heap[k]? := by
  rw [heap_setCell_other _ ⟨X, 13, none⟩ k _ hne, heap_setCell_other _ ⟨X, 12, none⟩ k _ hne, heap_setCell_other _ ⟨X, 11, none⟩ k _ hne, heap_setCell_other _ ⟨X, 10, none⟩ k _ hne, heap_setCell_other _ ⟨X, 9, none⟩ k _ hne, heap_setCell_other _ ⟨X, 8, none⟩ k _ hne, heap_setCell_other _ ⟨X, 7, none⟩ k _ hne, heap_setCell_other _ ⟨X, 6, none⟩ k _ hne, heap_setCell_other _ ⟨X, 5, none⟩ k _ hne, heap_setCell_other _ ⟨X, 4, none⟩ k _ hne, heap_setCell_other _ ⟨X, 3, none⟩ k _ hne, heap_setCell_other _ ⟨X, 2, none⟩ k _ hne, heap_setCell_other _ ⟨X, 1, none⟩ k _ hne, heap_setCell_other _ ⟨X, 0, none⟩ k _ hne]
theorem TAt.keep {X S H L K n B : Nat} {fv cv : Value} {PA RE : Int} {qc qk qh : Value} {r : RunP} {fi : Nat} {w w' : World} (h : TAt X S H L K n B fv cv PA RE qc qk qh r fi w) (hk : ∀ k, Own5 X S H L K k → w'.heap[k]? = w.heap[k]?) (hr : ∀ (v : Value) (l : List Int), OwnI w B v l → OwnI w' B v l) : TAt X S H L K n B fv cv PA RE qc qk qh r fi w' := by
  obtain ⟨c1, s1, s2, s3, s4⟩ := h.st
  obtain ⟨c2, t1, t2⟩ := h.ht
  obtain ⟨c3, u1, u2⟩ := h.sl
  obtain ⟨c4, v1, v2⟩ := h.wa
  refine ⟨(hk X (.inl rfl)).trans h.box, ⟨c1, (hk S (.inr (.inl rfl))).trans s1, s2, fun q s hs => ?_, s4⟩, ⟨c2, (hk H (.inr (.inr (.inl rfl)))).trans t1, t2⟩, ⟨c3, (hk L (.inr (.inr (.inr (.inl rfl))))).trans u1, u2⟩, ⟨c4, (hk K (.inr (.inr (.inr (.inr rfl))))).trans v1, v2⟩, h.ll, h.hl, h.ne, h.fl, h.nd, h.tl, h.lo⟩
  obtain ⟨v, k1, k2, k3⟩ := s3 q s hs
  exact ⟨v, k1, k2, hr v _ k3⟩
/-- the tracer is handed back: its box is copied into another -/
theorem TAt.out14 {X S H L K n B Y : Nat} {fv cv : Value} {PA RE : Int} {qc qk qh : Value} {r : RunP} {fi : Nat} {V : World} {cs : Array Value} (h : TAt X S H L K n B fv cv PA RE qc qk qh r fi V) (hY : V.heap[Y]? = some (.cells cs 123 (0, 0))) (hn : ¬ Own5 X S H L K Y) (b0 b1 b2 b3 b4 b5 b6 b7 b8 b9 b10 b11 b12 b13 : Value) : TAt X S H L K n B fv cv PA RE qc qk qh r fi ((((((((((((((V.setCell ⟨Y, 0, none⟩ b0).setCell ⟨Y, 1, none⟩ b1).setCell ⟨Y, 2, none⟩ b2).setCell ⟨Y, 3, none⟩ b3).setCell ⟨Y, 4, none⟩ b4).setCell ⟨Y, 5, none⟩ b5).setCell ⟨Y, 6, none⟩ b6).setCell ⟨Y, 7, none⟩ b7).setCell ⟨Y, 8, none⟩ b8).setCell ⟨Y, 9, none⟩ b9).setCell ⟨Y, 10, none⟩ b10).setCell ⟨Y, 11, none⟩ b11).setCell ⟨Y, 12, none⟩ b12).setCell ⟨Y, 13, none⟩ b13) := by
  refine h.keep (fun k hk => other14 (fun e => hn (by rw [← e]; exact hk)) _ _ _ _ _ _ _ _ _ _ _ _ _ _) (fun v l ho => own_step ho (by simp) (fun g hg => other14 (fun e => ?_) _ _ _ _ _ _ _ _ _ _ _ _ _ _))
  subst e
  exact apart16 ho hY (by decide) hg

set_option maxHeartbeats 1000000 in
theorem trace_leaf0 {n n1 n2 nc nh Z c1 c2 cc ck ch L5 K5 : Nat} {PA RE : Int} {x1 x2 xc xk xh : Option Addr} {W3 w5 : World} {CS CB : Array Value} (HCS : Hid (madeCells #[.int .i64 0, .slice none 0 0] (n * 2) = CS ∧ madeCells #[.bool false] (n * 1) = CB)) (hZ : W3.heap.size = Z) (HR5 : RingNew n L5 K5 ((W3.alloc (.cells CS 26)).alloc (.cells CB 4)).drew w5) (HB5 : Hid (Below W3.heap.size W3 w5)) :
    ∃ (X S H L K : Nat), Value.pointer (some ⟨w5.heap.size, 0, none⟩) = .pointer (some ⟨X, 0, none⟩) ∧ Hid (TNew X S H L K n Z (.slice x1 n1 c1) (.slice x2 n2 c2) PA RE (.slice xc nc cc) (.slice xk n ck) (.slice xh nh ch) W3 ((w5.alloc (.cells #[.slice x1 n1 c1, .slice x2 n2 c2, .int .i64 PA, .int .i64 RE, .slice xc nc cc, .slice xk n ck, .slice xh nh ch, .slice (some ⟨Z, 0, none⟩) n n, .slice (some ⟨Z + 1, 0, none⟩) n n, .slice (some ⟨L5, 0, none⟩) n n, .int .i64 0, .int .i64 0, .slice (some ⟨K5, 0, none⟩) n n, .bool false] 123)))) := by
  have hH : ∀ {p : Prop}, p → Hid p := fun h => h
  have bS : ∀ {W : World} (o : Obj), Below W3.heap.size W3 W → Below W3.heap.size W3 (W.alloc o) := fun o h => h.alloc h.size o
  apply Exists.intro
  apply Exists.intro
  apply Exists.intro
  apply Exists.intro
  apply Exists.intro
  apply And.intro rfl
  apply hH
  apply TNew.mk
  case box => repeat (first | with_reducible exact mem_new _ _ _ (by first | rfl | exact hZ | (simp only [drew_size, alloc_size] <;> omega)) | (with_reducible refine mem_old _ _ _ _ ?_) | with_reducible exact set14 (by repeat (first | with_reducible exact HU5.out | (with_reducible refine mem_old _ _ _ _ ?_))) _ _ _ _ _ _ _ _ _ _ _ _ _ _)
  case bs => rw [HCS.out.1]; repeat (first | with_reducible exact mem_new _ _ _ (by first | rfl | exact hZ | (simp only [drew_size, alloc_size] <;> omega)) | with_reducible exact HR5.bl | with_reducible exact HR5.bk | (with_reducible refine mem_drew _ _ _ ?_) | (with_reducible refine mem_old _ _ _ _ ?_) | (with_reducible refine mem_set14 (by repeat (first | with_reducible exact HU5.out | (with_reducible refine mem_old _ _ _ _ ?_))) _ _ _ _ _ _ _ _ _ _ _ _ _ _ ?_ (by decide)) | (with_reducible refine mem_bel HR5.bel _ _ ?_))
  case bh => rw [HCS.out.2]; repeat (first | with_reducible exact mem_new _ _ _ (by first | rfl | exact hZ | (simp only [drew_size, alloc_size] <;> omega)) | with_reducible exact HR5.bl | with_reducible exact HR5.bk | (with_reducible refine mem_drew _ _ _ ?_) | (with_reducible refine mem_old _ _ _ _ ?_) | (with_reducible refine mem_set14 (by repeat (first | with_reducible exact HU5.out | (with_reducible refine mem_old _ _ _ _ ?_))) _ _ _ _ _ _ _ _ _ _ _ _ _ _ ?_ (by decide)) | (with_reducible refine mem_bel HR5.bel _ _ ?_))
  case bl => repeat (first | with_reducible exact mem_new _ _ _ (by first | rfl | exact hZ | (simp only [drew_size, alloc_size] <;> omega)) | with_reducible exact HR5.bl | with_reducible exact HR5.bk | (with_reducible refine mem_drew _ _ _ ?_) | (with_reducible refine mem_old _ _ _ _ ?_) | (with_reducible refine mem_set14 (by repeat (first | with_reducible exact HU5.out | (with_reducible refine mem_old _ _ _ _ ?_))) _ _ _ _ _ _ _ _ _ _ _ _ _ _ ?_ (by decide)) | (with_reducible refine mem_bel HR5.bel _ _ ?_))
  case bk => repeat (first | with_reducible exact mem_new _ _ _ (by first | rfl | exact hZ | (simp only [drew_size, alloc_size] <;> omega)) | with_reducible exact HR5.bl | with_reducible exact HR5.bk | (with_reducible refine mem_drew _ _ _ ?_) | (with_reducible refine mem_old _ _ _ _ ?_) | (with_reducible refine mem_set14 (by repeat (first | with_reducible exact HU5.out | (with_reducible refine mem_old _ _ _ _ ?_))) _ _ _ _ _ _ _ _ _ _ _ _ _ _ ?_ (by decide)) | (with_reducible refine mem_bel HR5.bel _ _ ?_))
  case ne =>
    have l1 := lt16 HR5.bk
    have l2 := HR5.lo.2
    try simp only [drew_size, alloc_size, hZ] at l2
    omega
  case lo =>
    have l1 := HB5.out.size
    have l2 := HR5.lo
    try simp only [drew_size, alloc_size, hZ] at l1 l2
    omega
  case bel => repeat (first | with_reducible exact HB5.out | (with_reducible refine bS _ ?_) | (with_reducible refine bel_set14 ?_ (by omega) _ _ _ _ _ _ _ _ _ _ _ _ _ _))

set_option maxHeartbeats 1000000 in
theorem trace_leaf1 {n n1 n2 nc nh Z c1 c2 cc ck ch L5 K5 : Nat} {PA RE : Int} {x1 x2 xc xk xh : Option Addr} {W3 w5 : World} {CS CB : Array Value} (HCS : Hid (madeCells #[.int .i64 0, .slice none 0 0] (n * 2) = CS ∧ madeCells #[.bool false] (n * 1) = CB)) (hZ : W3.heap.size = Z) (HR5 : RingNew n L5 K5 (((W3.alloc (.cells CS 26)).alloc (.cells CB 4)).alloc (.cells #[.slice none 0 0, .slice none 0 0, .int .i64 0, .int .i64 0, .slice none 0 0, .slice none 0 0, .slice none 0 0, .slice none 0 0, .slice none 0 0, .slice none 0 0, .int .i64 0, .int .i64 0, .slice none 0 0, .bool false] 123)).drew w5) (HB5 : Hid (Below W3.heap.size W3 w5)) (HU5 : Hid (w5.heap[Z + 1 + 1]? = some (.cells #[.slice none 0 0, .slice none 0 0, .int .i64 0, .int .i64 0, .slice none 0 0, .slice none 0 0, .slice none 0 0, .slice none 0 0, .slice none 0 0, .slice none 0 0, .int .i64 0, .int .i64 0, .slice none 0 0, .bool false] 123 (0, 0)))) :
    ∃ (X S H L K : Nat), Value.pointer (some ⟨Z + 1 + 1, 0, none⟩) = .pointer (some ⟨X, 0, none⟩) ∧ Hid (TNew X S H L K n Z (.slice x1 n1 c1) (.slice x2 n2 c2) PA RE (.slice xc nc cc) (.slice xk n ck) (.slice xh nh ch) W3 (((((((((((((((w5.setCell ⟨Z + 1 + 1, 0, none⟩ (.slice x1 n1 c1)).setCell ⟨Z + 1 + 1, 1, none⟩ (.slice x2 n2 c2)).setCell ⟨Z + 1 + 1, 2, none⟩ (.int .i64 PA)).setCell ⟨Z + 1 + 1, 3, none⟩ (.int .i64 RE)).setCell ⟨Z + 1 + 1, 4, none⟩ (.slice xc nc cc)).setCell ⟨Z + 1 + 1, 5, none⟩ (.slice xk n ck)).setCell ⟨Z + 1 + 1, 6, none⟩ (.slice xh nh ch)).setCell ⟨Z + 1 + 1, 7, none⟩ (.slice (some ⟨Z, 0, none⟩) n n)).setCell ⟨Z + 1 + 1, 8, none⟩ (.slice (some ⟨Z + 1, 0, none⟩) n n)).setCell ⟨Z + 1 + 1, 9, none⟩ (.slice (some ⟨L5, 0, none⟩) n n)).setCell ⟨Z + 1 + 1, 10, none⟩ (.int .i64 0)).setCell ⟨Z + 1 + 1, 11, none⟩ (.int .i64 0)).setCell ⟨Z + 1 + 1, 12, none⟩ (.slice (some ⟨K5, 0, none⟩) n n)).setCell ⟨Z + 1 + 1, 13, none⟩ (.bool false)))) := by
  have hH : ∀ {p : Prop}, p → Hid p := fun h => h
  have bS : ∀ {W : World} (o : Obj), Below W3.heap.size W3 W → Below W3.heap.size W3 (W.alloc o) := fun o h => h.alloc h.size o
  apply Exists.intro
  apply Exists.intro
  apply Exists.intro
  apply Exists.intro
  apply Exists.intro
  apply And.intro rfl
  apply hH
  apply TNew.mk
  case box => repeat (first | with_reducible exact mem_new _ _ _ (by first | rfl | exact hZ | (simp only [drew_size, alloc_size] <;> omega)) | (with_reducible refine mem_old _ _ _ _ ?_) | with_reducible exact set14 (by repeat (first | with_reducible exact HU5.out | (with_reducible refine mem_old _ _ _ _ ?_))) _ _ _ _ _ _ _ _ _ _ _ _ _ _)
  case bs => rw [HCS.out.1]; repeat (first | with_reducible exact mem_new _ _ _ (by first | rfl | exact hZ | (simp only [drew_size, alloc_size] <;> omega)) | with_reducible exact HR5.bl | with_reducible exact HR5.bk | (with_reducible refine mem_drew _ _ _ ?_) | (with_reducible refine mem_old _ _ _ _ ?_) | (with_reducible refine mem_set14 (by repeat (first | with_reducible exact HU5.out | (with_reducible refine mem_old _ _ _ _ ?_))) _ _ _ _ _ _ _ _ _ _ _ _ _ _ ?_ (by decide)) | (with_reducible refine mem_bel HR5.bel _ _ ?_))
  case bh => rw [HCS.out.2]; repeat (first | with_reducible exact mem_new _ _ _ (by first | rfl | exact hZ | (simp only [drew_size, alloc_size] <;> omega)) | with_reducible exact HR5.bl | with_reducible exact HR5.bk | (with_reducible refine mem_drew _ _ _ ?_) | (with_reducible refine mem_old _ _ _ _ ?_) | (with_reducible refine mem_set14 (by repeat (first | with_reducible exact HU5.out | (with_reducible refine mem_old _ _ _ _ ?_))) _ _ _ _ _ _ _ _ _ _ _ _ _ _ ?_ (by decide)) | (with_reducible refine mem_bel HR5.bel _ _ ?_))
  case bl => repeat (first | with_reducible exact mem_new _ _ _ (by first | rfl | exact hZ | (simp only [drew_size, alloc_size] <;> omega)) | with_reducible exact HR5.bl | with_reducible exact HR5.bk | (with_reducible refine mem_drew _ _ _ ?_) | (with_reducible refine mem_old _ _ _ _ ?_) | (with_reducible refine mem_set14 (by repeat (first | with_reducible exact HU5.out | (with_reducible refine mem_old _ _ _ _ ?_))) _ _ _ _ _ _ _ _ _ _ _ _ _ _ ?_ (by decide)) | (with_reducible refine mem_bel HR5.bel _ _ ?_))
  case bk => repeat (first | with_reducible exact mem_new _ _ _ (by first | rfl | exact hZ | (simp only [drew_size, alloc_size] <;> omega)) | with_reducible exact HR5.bl | with_reducible exact HR5.bk | (with_reducible refine mem_drew _ _ _ ?_) | (with_reducible refine mem_old _ _ _ _ ?_) | (with_reducible refine mem_set14 (by repeat (first | with_reducible exact HU5.out | (with_reducible refine mem_old _ _ _ _ ?_))) _ _ _ _ _ _ _ _ _ _ _ _ _ _ ?_ (by decide)) | (with_reducible refine mem_bel HR5.bel _ _ ?_))
  case ne =>
    have l1 := lt16 HR5.bk
    have l2 := HR5.lo.2
    try simp only [drew_size, alloc_size, hZ] at l2
    omega
  case lo =>
    have l1 := HB5.out.size
    have l2 := HR5.lo
    try simp only [drew_size, alloc_size, hZ] at l1 l2
    omega
  case bel => repeat (first | with_reducible exact HB5.out | (with_reducible refine bS _ ?_) | (with_reducible refine bel_set14 ?_ (by omega) _ _ _ _ _ _ _ _ _ _ _ _ _ _))

set_option maxHeartbeats 1000000 in
theorem trace_leaf2 {n n1 n2 nc nh Z c1 c2 cc ck ch L5 K5 : Nat} {PA RE : Int} {x1 x2 xc xk xh : Option Addr} {W3 w5 : World} {CS CB : Array Value} (HCS : Hid (madeCells #[.int .i64 0, .slice none 0 0] (n * 2) = CS ∧ madeCells #[.bool false] (n * 1) = CB)) (hZ : W3.heap.size = Z) (HR5 : RingNew n L5 K5 (W3.alloc (.cells CS 26)).drew w5) (HB5 : Hid (Below W3.heap.size W3 w5)) :
    ∃ (X S H L K : Nat), Value.pointer (some ⟨w5.heap.size + 1, 0, none⟩) = .pointer (some ⟨X, 0, none⟩) ∧ Hid (TNew X S H L K n Z (.slice x1 n1 c1) (.slice x2 n2 c2) PA RE (.slice xc nc cc) (.slice xk n ck) (.slice xh nh ch) W3 (((w5.alloc (.cells CB 4)).alloc (.cells #[.slice x1 n1 c1, .slice x2 n2 c2, .int .i64 PA, .int .i64 RE, .slice xc nc cc, .slice xk n ck, .slice xh nh ch, .slice (some ⟨Z, 0, none⟩) n n, .slice (some ⟨w5.heap.size, 0, none⟩) n n, .slice (some ⟨L5, 0, none⟩) n n, .int .i64 0, .int .i64 0, .slice (some ⟨K5, 0, none⟩) n n, .bool false] 123)))) := by
  have hH : ∀ {p : Prop}, p → Hid p := fun h => h
  have bS : ∀ {W : World} (o : Obj), Below W3.heap.size W3 W → Below W3.heap.size W3 (W.alloc o) := fun o h => h.alloc h.size o
  apply Exists.intro
  apply Exists.intro
  apply Exists.intro
  apply Exists.intro
  apply Exists.intro
  apply And.intro rfl
  apply hH
  apply TNew.mk
  case box => repeat (first | with_reducible exact mem_new _ _ _ (by first | rfl | exact hZ | (simp only [drew_size, alloc_size] <;> omega)) | (with_reducible refine mem_old _ _ _ _ ?_) | with_reducible exact set14 (by repeat (first | with_reducible exact HU5.out | (with_reducible refine mem_old _ _ _ _ ?_))) _ _ _ _ _ _ _ _ _ _ _ _ _ _)
  case bs => rw [HCS.out.1]; repeat (first | with_reducible exact mem_new _ _ _ (by first | rfl | exact hZ | (simp only [drew_size, alloc_size] <;> omega)) | with_reducible exact HR5.bl | with_reducible exact HR5.bk | (with_reducible refine mem_drew _ _ _ ?_) | (with_reducible refine mem_old _ _ _ _ ?_) | (with_reducible refine mem_set14 (by repeat (first | with_reducible exact HU5.out | (with_reducible refine mem_old _ _ _ _ ?_))) _ _ _ _ _ _ _ _ _ _ _ _ _ _ ?_ (by decide)) | (with_reducible refine mem_bel HR5.bel _ _ ?_))
  case bh => rw [HCS.out.2]; repeat (first | with_reducible exact mem_new _ _ _ (by first | rfl | exact hZ | (simp only [drew_size, alloc_size] <;> omega)) | with_reducible exact HR5.bl | with_reducible exact HR5.bk | (with_reducible refine mem_drew _ _ _ ?_) | (with_reducible refine mem_old _ _ _ _ ?_) | (with_reducible refine mem_set14 (by repeat (first | with_reducible exact HU5.out | (with_reducible refine mem_old _ _ _ _ ?_))) _ _ _ _ _ _ _ _ _ _ _ _ _ _ ?_ (by decide)) | (with_reducible refine mem_bel HR5.bel _ _ ?_))
  case bl => repeat (first | with_reducible exact mem_new _ _ _ (by first | rfl | exact hZ | (simp only [drew_size, alloc_size] <;> omega)) | with_reducible exact HR5.bl | with_reducible exact HR5.bk | (with_reducible refine mem_drew _ _ _ ?_) | (with_reducible refine mem_old _ _ _ _ ?_) | (with_reducible refine mem_set14 (by repeat (first | with_reducible exact HU5.out | (with_reducible refine mem_old _ _ _ _ ?_))) _ _ _ _ _ _ _ _ _ _ _ _ _ _ ?_ (by decide)) | (with_reducible refine mem_bel HR5.bel _ _ ?_))
  case bk => repeat (first | with_reducible exact mem_new _ _ _ (by first | rfl | exact hZ | (simp only [drew_size, alloc_size] <;> omega)) | with_reducible exact HR5.bl | with_reducible exact HR5.bk | (with_reducible refine mem_drew _ _ _ ?_) | (with_reducible refine mem_old _ _ _ _ ?_) | (with_reducible refine mem_set14 (by repeat (first | with_reducible exact HU5.out | (with_reducible refine mem_old _ _ _ _ ?_))) _ _ _ _ _ _ _ _ _ _ _ _ _ _ ?_ (by decide)) | (with_reducible refine mem_bel HR5.bel _ _ ?_))
  case ne =>
    have l1 := lt16 HR5.bk
    have l2 := HR5.lo.2
    try simp only [drew_size, alloc_size, hZ] at l2
    omega
  case lo =>
    have l1 := HB5.out.size
    have l2 := HR5.lo
    try simp only [drew_size, alloc_size, hZ] at l1 l2
    omega
  case bel => repeat (first | with_reducible exact HB5.out | (with_reducible refine bS _ ?_) | (with_reducible refine bel_set14 ?_ (by omega) _ _ _ _ _ _ _ _ _ _ _ _ _ _))

set_option maxHeartbeats 1000000 in
theorem trace_leaf3 {n n1 n2 nc nh Z c1 c2 cc ck ch L5 K5 : Nat} {PA RE : Int} {x1 x2 xc xk xh : Option Addr} {W3 w5 : World} {CS CB : Array Value} (HCS : Hid (madeCells #[.int .i64 0, .slice none 0 0] (n * 2) = CS ∧ madeCells #[.bool false] (n * 1) = CB)) (hZ : W3.heap.size = Z) (HR5 : RingNew n L5 K5 (W3.alloc (.cells CS 26)).drew w5) (HB5 : Hid (Below W3.heap.size W3 w5)) :
    ∃ (X S H L K : Nat), Value.pointer (some ⟨w5.heap.size, 0, none⟩) = .pointer (some ⟨X, 0, none⟩) ∧ Hid (TNew X S H L K n Z (.slice x1 n1 c1) (.slice x2 n2 c2) PA RE (.slice xc nc cc) (.slice xk n ck) (.slice xh nh ch) W3 (((w5.alloc (.cells #[.slice x1 n1 c1, .slice x2 n2 c2, .int .i64 PA, .int .i64 RE, .slice xc nc cc, .slice xk n ck, .slice xh nh ch, .slice (some ⟨Z, 0, none⟩) n n, .slice (some ⟨w5.heap.size + 1, 0, none⟩) n n, .slice (some ⟨L5, 0, none⟩) n n, .int .i64 0, .int .i64 0, .slice (some ⟨K5, 0, none⟩) n n, .bool false] 123)).alloc (.cells CB 4)))) := by
  have hH : ∀ {p : Prop}, p → Hid p := fun h => h
  have bS : ∀ {W : World} (o : Obj), Below W3.heap.size W3 W → Below W3.heap.size W3 (W.alloc o) := fun o h => h.alloc h.size o
  apply Exists.intro
  apply Exists.intro
  apply Exists.intro
  apply Exists.intro
  apply Exists.intro
  apply And.intro rfl
  apply hH
  apply TNew.mk
  case box => repeat (first | with_reducible exact mem_new _ _ _ (by first | rfl | exact hZ | (simp only [drew_size, alloc_size] <;> omega)) | (with_reducible refine mem_old _ _ _ _ ?_) | with_reducible exact set14 (by repeat (first | with_reducible exact HU5.out | (with_reducible refine mem_old _ _ _ _ ?_))) _ _ _ _ _ _ _ _ _ _ _ _ _ _)
  case bs => rw [HCS.out.1]; repeat (first | with_reducible exact mem_new _ _ _ (by first | rfl | exact hZ | (simp only [drew_size, alloc_size] <;> omega)) | with_reducible exact HR5.bl | with_reducible exact HR5.bk | (with_reducible refine mem_drew _ _ _ ?_) | (with_reducible refine mem_old _ _ _ _ ?_) | (with_reducible refine mem_set14 (by repeat (first | with_reducible exact HU5.out | (with_reducible refine mem_old _ _ _ _ ?_))) _ _ _ _ _ _ _ _ _ _ _ _ _ _ ?_ (by decide)) | (with_reducible refine mem_bel HR5.bel _ _ ?_))
  case bh => rw [HCS.out.2]; repeat (first | with_reducible exact mem_new _ _ _ (by first | rfl | exact hZ | (simp only [drew_size, alloc_size] <;> omega)) | with_reducible exact HR5.bl | with_reducible exact HR5.bk | (with_reducible refine mem_drew _ _ _ ?_) | (with_reducible refine mem_old _ _ _ _ ?_) | (with_reducible refine mem_set14 (by repeat (first | with_reducible exact HU5.out | (with_reducible refine mem_old _ _ _ _ ?_))) _ _ _ _ _ _ _ _ _ _ _ _ _ _ ?_ (by decide)) | (with_reducible refine mem_bel HR5.bel _ _ ?_))
  case bl => repeat (first | with_reducible exact mem_new _ _ _ (by first | rfl | exact hZ | (simp only [drew_size, alloc_size] <;> omega)) | with_reducible exact HR5.bl | with_reducible exact HR5.bk | (with_reducible refine mem_drew _ _ _ ?_) | (with_reducible refine mem_old _ _ _ _ ?_) | (with_reducible refine mem_set14 (by repeat (first | with_reducible exact HU5.out | (with_reducible refine mem_old _ _ _ _ ?_))) _ _ _ _ _ _ _ _ _ _ _ _ _ _ ?_ (by decide)) | (with_reducible refine mem_bel HR5.bel _ _ ?_))
  case bk => repeat (first | with_reducible exact mem_new _ _ _ (by first | rfl | exact hZ | (simp only [drew_size, alloc_size] <;> omega)) | with_reducible exact HR5.bl | with_reducible exact HR5.bk | (with_reducible refine mem_drew _ _ _ ?_) | (with_reducible refine mem_old _ _ _ _ ?_) | (with_reducible refine mem_set14 (by repeat (first | with_reducible exact HU5.out | (with_reducible refine mem_old _ _ _ _ ?_))) _ _ _ _ _ _ _ _ _ _ _ _ _ _ ?_ (by decide)) | (with_reducible refine mem_bel HR5.bel _ _ ?_))
  case ne =>
    have l1 := lt16 HR5.bk
    have l2 := HR5.lo.2
    try simp only [drew_size, alloc_size, hZ] at l2
    omega
  case lo =>
    have l1 := HB5.out.size
    have l2 := HR5.lo
    try simp only [drew_size, alloc_size, hZ] at l1 l2
    omega
  case bel => repeat (first | with_reducible exact HB5.out | (with_reducible refine bS _ ?_) | (with_reducible refine bel_set14 ?_ (by omega) _ _ _ _ _ _ _ _ _ _ _ _ _ _))

set_option maxHeartbeats 1000000 in
theorem trace_leaf4 {n n1 n2 nc nh Z c1 c2 cc ck ch L5 K5 : Nat} {PA RE : Int} {x1 x2 xc xk xh : Option Addr} {W3 w5 : World} {CS CB : Array Value} (HCS : Hid (madeCells #[.int .i64 0, .slice none 0 0] (n * 2) = CS ∧ madeCells #[.bool false] (n * 1) = CB)) (hZ : W3.heap.size = Z) (HR5 : RingNew n L5 K5 (((W3.alloc (.cells CS 26)).alloc (.cells #[.slice none 0 0, .slice none 0 0, .int .i64 0, .int .i64 0, .slice none 0 0, .slice none 0 0, .slice none 0 0, .slice none 0 0, .slice none 0 0, .slice none 0 0, .int .i64 0, .int .i64 0, .slice none 0 0, .bool false] 123)).alloc (.cells CB 4)).drew w5) (HB5 : Hid (Below W3.heap.size W3 w5)) (HU5 : Hid (w5.heap[Z + 1]? = some (.cells #[.slice none 0 0, .slice none 0 0, .int .i64 0, .int .i64 0, .slice none 0 0, .slice none 0 0, .slice none 0 0, .slice none 0 0, .slice none 0 0, .slice none 0 0, .int .i64 0, .int .i64 0, .slice none 0 0, .bool false] 123 (0, 0)))) :
    ∃ (X S H L K : Nat), Value.pointer (some ⟨Z + 1, 0, none⟩) = .pointer (some ⟨X, 0, none⟩) ∧ Hid (TNew X S H L K n Z (.slice x1 n1 c1) (.slice x2 n2 c2) PA RE (.slice xc nc cc) (.slice xk n ck) (.slice xh nh ch) W3 (((((((((((((((w5.setCell ⟨Z + 1, 0, none⟩ (.slice x1 n1 c1)).setCell ⟨Z + 1, 1, none⟩ (.slice x2 n2 c2)).setCell ⟨Z + 1, 2, none⟩ (.int .i64 PA)).setCell ⟨Z + 1, 3, none⟩ (.int .i64 RE)).setCell ⟨Z + 1, 4, none⟩ (.slice xc nc cc)).setCell ⟨Z + 1, 5, none⟩ (.slice xk n ck)).setCell ⟨Z + 1, 6, none⟩ (.slice xh nh ch)).setCell ⟨Z + 1, 7, none⟩ (.slice (some ⟨Z, 0, none⟩) n n)).setCell ⟨Z + 1, 8, none⟩ (.slice (some ⟨Z + 1 + 1, 0, none⟩) n n)).setCell ⟨Z + 1, 9, none⟩ (.slice (some ⟨L5, 0, none⟩) n n)).setCell ⟨Z + 1, 10, none⟩ (.int .i64 0)).setCell ⟨Z + 1, 11, none⟩ (.int .i64 0)).setCell ⟨Z + 1, 12, none⟩ (.slice (some ⟨K5, 0, none⟩) n n)).setCell ⟨Z + 1, 13, none⟩ (.bool false)))) := by
  have hH : ∀ {p : Prop}, p → Hid p := fun h => h
  have bS : ∀ {W : World} (o : Obj), Below W3.heap.size W3 W → Below W3.heap.size W3 (W.alloc o) := fun o h => h.alloc h.size o
  apply Exists.intro
  apply Exists.intro
  apply Exists.intro
  apply Exists.intro
  apply Exists.intro
  apply And.intro rfl
  apply hH
  apply TNew.mk
  case box => repeat (first | with_reducible exact mem_new _ _ _ (by first | rfl | exact hZ | (simp only [drew_size, alloc_size] <;> omega)) | (with_reducible refine mem_old _ _ _ _ ?_) | with_reducible exact set14 (by repeat (first | with_reducible exact HU5.out | (with_reducible refine mem_old _ _ _ _ ?_))) _ _ _ _ _ _ _ _ _ _ _ _ _ _)
  case bs => rw [HCS.out.1]; repeat (first | with_reducible exact mem_new _ _ _ (by first | rfl | exact hZ | (simp only [drew_size, alloc_size] <;> omega)) | with_reducible exact HR5.bl | with_reducible exact HR5.bk | (with_reducible refine mem_drew _ _ _ ?_) | (with_reducible refine mem_old _ _ _ _ ?_) | (with_reducible refine mem_set14 (by repeat (first | with_reducible exact HU5.out | (with_reducible refine mem_old _ _ _ _ ?_))) _ _ _ _ _ _ _ _ _ _ _ _ _ _ ?_ (by decide)) | (with_reducible refine mem_bel HR5.bel _ _ ?_))
  case bh => rw [HCS.out.2]; repeat (first | with_reducible exact mem_new _ _ _ (by first | rfl | exact hZ | (simp only [drew_size, alloc_size] <;> omega)) | with_reducible exact HR5.bl | with_reducible exact HR5.bk | (with_reducible refine mem_drew _ _ _ ?_) | (with_reducible refine mem_old _ _ _ _ ?_) | (with_reducible refine mem_set14 (by repeat (first | with_reducible exact HU5.out | (with_reducible refine mem_old _ _ _ _ ?_))) _ _ _ _ _ _ _ _ _ _ _ _ _ _ ?_ (by decide)) | (with_reducible refine mem_bel HR5.bel _ _ ?_))
  case bl => repeat (first | with_reducible exact mem_new _ _ _ (by first | rfl | exact hZ | (simp only [drew_size, alloc_size] <;> omega)) | with_reducible exact HR5.bl | with_reducible exact HR5.bk | (with_reducible refine mem_drew _ _ _ ?_) | (with_reducible refine mem_old _ _ _ _ ?_) | (with_reducible refine mem_set14 (by repeat (first | with_reducible exact HU5.out | (with_reducible refine mem_old _ _ _ _ ?_))) _ _ _ _ _ _ _ _ _ _ _ _ _ _ ?_ (by decide)) | (with_reducible refine mem_bel HR5.bel _ _ ?_))
  case bk => repeat (first | with_reducible exact mem_new _ _ _ (by first | rfl | exact hZ | (simp only [drew_size, alloc_size] <;> omega)) | with_reducible exact HR5.bl | with_reducible exact HR5.bk | (with_reducible refine mem_drew _ _ _ ?_) | (with_reducible refine mem_old _ _ _ _ ?_) | (with_reducible refine mem_set14 (by repeat (first | with_reducible exact HU5.out | (with_reducible refine mem_old _ _ _ _ ?_))) _ _ _ _ _ _ _ _ _ _ _ _ _ _ ?_ (by decide)) | (with_reducible refine mem_bel HR5.bel _ _ ?_))
  case ne =>
    have l1 := lt16 HR5.bk
    have l2 := HR5.lo.2
    try simp only [drew_size, alloc_size, hZ] at l2
    omega
  case lo =>
    have l1 := HB5.out.size
    have l2 := HR5.lo
    try simp only [drew_size, alloc_size, hZ] at l1 l2
    omega
  case bel => repeat (first | with_reducible exact HB5.out | (with_reducible refine bS _ ?_) | (with_reducible refine bel_set14 ?_ (by omega) _ _ _ _ _ _ _ _ _ _ _ _ _ _))

set_option maxHeartbeats 1000000 in
theorem trace_leaf5 {n n1 n2 nc nh Z c1 c2 cc ck ch L5 K5 : Nat} {PA RE : Int} {x1 x2 xc xk xh : Option Addr} {W3 w5 : World} {CS CB : Array Value} (HCS : Hid (madeCells #[.int .i64 0, .slice none 0 0] (n * 2) = CS ∧ madeCells #[.bool false] (n * 1) = CB)) (hZ : W3.heap.size = Z) (HR5 : RingNew n L5 K5 ((W3.alloc (.cells CS 26)).alloc (.cells #[.slice none 0 0, .slice none 0 0, .int .i64 0, .int .i64 0, .slice none 0 0, .slice none 0 0, .slice none 0 0, .slice none 0 0, .slice none 0 0, .slice none 0 0, .int .i64 0, .int .i64 0, .slice none 0 0, .bool false] 123)).drew w5) (HB5 : Hid (Below W3.heap.size W3 w5)) (HU5 : Hid (w5.heap[Z + 1]? = some (.cells #[.slice none 0 0, .slice none 0 0, .int .i64 0, .int .i64 0, .slice none 0 0, .slice none 0 0, .slice none 0 0, .slice none 0 0, .slice none 0 0, .slice none 0 0, .int .i64 0, .int .i64 0, .slice none 0 0, .bool false] 123 (0, 0)))) :
    ∃ (X S H L K : Nat), Value.pointer (some ⟨Z + 1, 0, none⟩) = .pointer (some ⟨X, 0, none⟩) ∧ Hid (TNew X S H L K n Z (.slice x1 n1 c1) (.slice x2 n2 c2) PA RE (.slice xc nc cc) (.slice xk n ck) (.slice xh nh ch) W3 ((((((((((((((((w5.alloc (.cells CB 4)).setCell ⟨Z + 1, 0, none⟩ (.slice x1 n1 c1)).setCell ⟨Z + 1, 1, none⟩ (.slice x2 n2 c2)).setCell ⟨Z + 1, 2, none⟩ (.int .i64 PA)).setCell ⟨Z + 1, 3, none⟩ (.int .i64 RE)).setCell ⟨Z + 1, 4, none⟩ (.slice xc nc cc)).setCell ⟨Z + 1, 5, none⟩ (.slice xk n ck)).setCell ⟨Z + 1, 6, none⟩ (.slice xh nh ch)).setCell ⟨Z + 1, 7, none⟩ (.slice (some ⟨Z, 0, none⟩) n n)).setCell ⟨Z + 1, 8, none⟩ (.slice (some ⟨w5.heap.size, 0, none⟩) n n)).setCell ⟨Z + 1, 9, none⟩ (.slice (some ⟨L5, 0, none⟩) n n)).setCell ⟨Z + 1, 10, none⟩ (.int .i64 0)).setCell ⟨Z + 1, 11, none⟩ (.int .i64 0)).setCell ⟨Z + 1, 12, none⟩ (.slice (some ⟨K5, 0, none⟩) n n)).setCell ⟨Z + 1, 13, none⟩ (.bool false)))) := by
  have hH : ∀ {p : Prop}, p → Hid p := fun h => h
  have bS : ∀ {W : World} (o : Obj), Below W3.heap.size W3 W → Below W3.heap.size W3 (W.alloc o) := fun o h => h.alloc h.size o
  apply Exists.intro
  apply Exists.intro
  apply Exists.intro
  apply Exists.intro
  apply Exists.intro
  apply And.intro rfl
  apply hH
  apply TNew.mk
  case box => repeat (first | with_reducible exact mem_new _ _ _ (by first | rfl | exact hZ | (simp only [drew_size, alloc_size] <;> omega)) | (with_reducible refine mem_old _ _ _ _ ?_) | with_reducible exact set14 (by repeat (first | with_reducible exact HU5.out | (with_reducible refine mem_old _ _ _ _ ?_))) _ _ _ _ _ _ _ _ _ _ _ _ _ _)
  case bs => rw [HCS.out.1]; repeat (first | with_reducible exact mem_new _ _ _ (by first | rfl | exact hZ | (simp only [drew_size, alloc_size] <;> omega)) | with_reducible exact HR5.bl | with_reducible exact HR5.bk | (with_reducible refine mem_drew _ _ _ ?_) | (with_reducible refine mem_old _ _ _ _ ?_) | (with_reducible refine mem_set14 (by repeat (first | with_reducible exact HU5.out | (with_reducible refine mem_old _ _ _ _ ?_))) _ _ _ _ _ _ _ _ _ _ _ _ _ _ ?_ (by decide)) | (with_reducible refine mem_bel HR5.bel _ _ ?_))
  case bh => rw [HCS.out.2]; repeat (first | with_reducible exact mem_new _ _ _ (by first | rfl | exact hZ | (simp only [drew_size, alloc_size] <;> omega)) | with_reducible exact HR5.bl | with_reducible exact HR5.bk | (with_reducible refine mem_drew _ _ _ ?_) | (with_reducible refine mem_old _ _ _ _ ?_) | (with_reducible refine mem_set14 (by repeat (first | with_reducible exact HU5.out | (with_reducible refine mem_old _ _ _ _ ?_))) _ _ _ _ _ _ _ _ _ _ _ _ _ _ ?_ (by decide)) | (with_reducible refine mem_bel HR5.bel _ _ ?_))
  case bl => repeat (first | with_reducible exact mem_new _ _ _ (by first | rfl | exact hZ | (simp only [drew_size, alloc_size] <;> omega)) | with_reducible exact HR5.bl | with_reducible exact HR5.bk | (with_reducible refine mem_drew _ _ _ ?_) | (with_reducible refine mem_old _ _ _ _ ?_) | (with_reducible refine mem_set14 (by repeat (first | with_reducible exact HU5.out | (with_reducible refine mem_old _ _ _ _ ?_))) _ _ _ _ _ _ _ _ _ _ _ _ _ _ ?_ (by decide)) | (with_reducible refine mem_bel HR5.bel _ _ ?_))
  case bk => repeat (first | with_reducible exact mem_new _ _ _ (by first | rfl | exact hZ | (simp only [drew_size, alloc_size] <;> omega)) | with_reducible exact HR5.bl | with_reducible exact HR5.bk | (with_reducible refine mem_drew _ _ _ ?_) | (with_reducible refine mem_old _ _ _ _ ?_) | (with_reducible refine mem_set14 (by repeat (first | with_reducible exact HU5.out | (with_reducible refine mem_old _ _ _ _ ?_))) _ _ _ _ _ _ _ _ _ _ _ _ _ _ ?_ (by decide)) | (with_reducible refine mem_bel HR5.bel _ _ ?_))
  case ne =>
    have l1 := lt16 HR5.bk
    have l2 := HR5.lo.2
    try simp only [drew_size, alloc_size, hZ] at l2
    omega
  case lo =>
    have l1 := HB5.out.size
    have l2 := HR5.lo
    try simp only [drew_size, alloc_size, hZ] at l1 l2
    omega
  case bel => repeat (first | with_reducible exact HB5.out | (with_reducible refine bS _ ?_) | (with_reducible refine bel_set14 ?_ (by omega) _ _ _ _ _ _ _ _ _ _ _ _ _ _))

set_option maxHeartbeats 1000000 in
theorem trace_leaf6 {n n1 n2 nc nh Z c1 c2 cc ck ch L5 K5 : Nat} {PA RE : Int} {x1 x2 xc xk xh : Option Addr} {W3 w5 : World} {CS CB : Array Value} (HCS : Hid (madeCells #[.int .i64 0, .slice none 0 0] (n * 2) = CS ∧ madeCells #[.bool false] (n * 1) = CB)) (hZ : W3.heap.size = Z) (HR5 : RingNew n L5 K5 ((W3.alloc (.cells CB 4)).alloc (.cells CS 26)).drew w5) (HB5 : Hid (Below W3.heap.size W3 w5)) :
    ∃ (X S H L K : Nat), Value.pointer (some ⟨w5.heap.size, 0, none⟩) = .pointer (some ⟨X, 0, none⟩) ∧ Hid (TNew X S H L K n Z (.slice x1 n1 c1) (.slice x2 n2 c2) PA RE (.slice xc nc cc) (.slice xk n ck) (.slice xh nh ch) W3 ((w5.alloc (.cells #[.slice x1 n1 c1, .slice x2 n2 c2, .int .i64 PA, .int .i64 RE, .slice xc nc cc, .slice xk n ck, .slice xh nh ch, .slice (some ⟨Z + 1, 0, none⟩) n n, .slice (some ⟨Z, 0, none⟩) n n, .slice (some ⟨L5, 0, none⟩) n n, .int .i64 0, .int .i64 0, .slice (some ⟨K5, 0, none⟩) n n, .bool false] 123)))) := by
  have hH : ∀ {p : Prop}, p → Hid p := fun h => h
  have bS : ∀ {W : World} (o : Obj), Below W3.heap.size W3 W → Below W3.heap.size W3 (W.alloc o) := fun o h => h.alloc h.size o
  apply Exists.intro
  apply Exists.intro
  apply Exists.intro
  apply Exists.intro
  apply Exists.intro
  apply And.intro rfl
  apply hH
  apply TNew.mk
  case box => repeat (first | with_reducible exact mem_new _ _ _ (by first | rfl | exact hZ | (simp only [drew_size, alloc_size] <;> omega)) | (with_reducible refine mem_old _ _ _ _ ?_) | with_reducible exact set14 (by repeat (first | with_reducible exact HU5.out | (with_reducible refine mem_old _ _ _ _ ?_))) _ _ _ _ _ _ _ _ _ _ _ _ _ _)
  case bs => rw [HCS.out.1]; repeat (first | with_reducible exact mem_new _ _ _ (by first | rfl | exact hZ | (simp only [drew_size, alloc_size] <;> omega)) | with_reducible exact HR5.bl | with_reducible exact HR5.bk | (with_reducible refine mem_drew _ _ _ ?_) | (with_reducible refine mem_old _ _ _ _ ?_) | (with_reducible refine mem_set14 (by repeat (first | with_reducible exact HU5.out | (with_reducible refine mem_old _ _ _ _ ?_))) _ _ _ _ _ _ _ _ _ _ _ _ _ _ ?_ (by decide)) | (with_reducible refine mem_bel HR5.bel _ _ ?_))
  case bh => rw [HCS.out.2]; repeat (first | with_reducible exact mem_new _ _ _ (by first | rfl | exact hZ | (simp only [drew_size, alloc_size] <;> omega)) | with_reducible exact HR5.bl | with_reducible exact HR5.bk | (with_reducible refine mem_drew _ _ _ ?_) | (with_reducible refine mem_old _ _ _ _ ?_) | (with_reducible refine mem_set14 (by repeat (first | with_reducible exact HU5.out | (with_reducible refine mem_old _ _ _ _ ?_))) _ _ _ _ _ _ _ _ _ _ _ _ _ _ ?_ (by decide)) | (with_reducible refine mem_bel HR5.bel _ _ ?_))
  case bl => repeat (first | with_reducible exact mem_new _ _ _ (by first | rfl | exact hZ | (simp only [drew_size, alloc_size] <;> omega)) | with_reducible exact HR5.bl | with_reducible exact HR5.bk | (with_reducible refine mem_drew _ _ _ ?_) | (with_reducible refine mem_old _ _ _ _ ?_) | (with_reducible refine mem_set14 (by repeat (first | with_reducible exact HU5.out | (with_reducible refine mem_old _ _ _ _ ?_))) _ _ _ _ _ _ _ _ _ _ _ _ _ _ ?_ (by decide)) | (with_reducible refine mem_bel HR5.bel _ _ ?_))
  case bk => repeat (first | with_reducible exact mem_new _ _ _ (by first | rfl | exact hZ | (simp only [drew_size, alloc_size] <;> omega)) | with_reducible exact HR5.bl | with_reducible exact HR5.bk | (with_reducible refine mem_drew _ _ _ ?_) | (with_reducible refine mem_old _ _ _ _ ?_) | (with_reducible refine mem_set14 (by repeat (first | with_reducible exact HU5.out | (with_reducible refine mem_old _ _ _ _ ?_))) _ _ _ _ _ _ _ _ _ _ _ _ _ _ ?_ (by decide)) | (with_reducible refine mem_bel HR5.bel _ _ ?_))
  case ne =>
    have l1 := lt16 HR5.bk
    have l2 := HR5.lo.2
    try simp only [drew_size, alloc_size, hZ] at l2
    omega
  case lo =>
    have l1 := HB5.out.size
    have l2 := HR5.lo
    try simp only [drew_size, alloc_size, hZ] at l1 l2
    omega
  case bel => repeat (first | with_reducible exact HB5.out | (with_reducible refine bS _ ?_) | (with_reducible refine bel_set14 ?_ (by omega) _ _ _ _ _ _ _ _ _ _ _ _ _ _))

set_option maxHeartbeats 1000000 in
theorem trace_leaf7 {n n1 n2 nc nh Z c1 c2 cc ck ch L5 K5 : Nat} {PA RE : Int} {x1 x2 xc xk xh : Option Addr} {W3 w5 : World} {CS CB : Array Value} (HCS : Hid (madeCells #[.int .i64 0, .slice none 0 0] (n * 2) = CS ∧ madeCells #[.bool false] (n * 1) = CB)) (hZ : W3.heap.size = Z) (HR5 : RingNew n L5 K5 (((W3.alloc (.cells CB 4)).alloc (.cells CS 26)).alloc (.cells #[.slice none 0 0, .slice none 0 0, .int .i64 0, .int .i64 0, .slice none 0 0, .slice none 0 0, .slice none 0 0, .slice none 0 0, .slice none 0 0, .slice none 0 0, .int .i64 0, .int .i64 0, .slice none 0 0, .bool false] 123)).drew w5) (HB5 : Hid (Below W3.heap.size W3 w5)) (HU5 : Hid (w5.heap[Z + 1 + 1]? = some (.cells #[.slice none 0 0, .slice none 0 0, .int .i64 0, .int .i64 0, .slice none 0 0, .slice none 0 0, .slice none 0 0, .slice none 0 0, .slice none 0 0, .slice none 0 0, .int .i64 0, .int .i64 0, .slice none 0 0, .bool false] 123 (0, 0)))) :
    ∃ (X S H L K : Nat), Value.pointer (some ⟨Z + 1 + 1, 0, none⟩) = .pointer (some ⟨X, 0, none⟩) ∧ Hid (TNew X S H L K n Z (.slice x1 n1 c1) (.slice x2 n2 c2) PA RE (.slice xc nc cc) (.slice xk n ck) (.slice xh nh ch) W3 (((((((((((((((w5.setCell ⟨Z + 1 + 1, 0, none⟩ (.slice x1 n1 c1)).setCell ⟨Z + 1 + 1, 1, none⟩ (.slice x2 n2 c2)).setCell ⟨Z + 1 + 1, 2, none⟩ (.int .i64 PA)).setCell ⟨Z + 1 + 1, 3, none⟩ (.int .i64 RE)).setCell ⟨Z + 1 + 1, 4, none⟩ (.slice xc nc cc)).setCell ⟨Z + 1 + 1, 5, none⟩ (.slice xk n ck)).setCell ⟨Z + 1 + 1, 6, none⟩ (.slice xh nh ch)).setCell ⟨Z + 1 + 1, 7, none⟩ (.slice (some ⟨Z + 1, 0, none⟩) n n)).setCell ⟨Z + 1 + 1, 8, none⟩ (.slice (some ⟨Z, 0, none⟩) n n)).setCell ⟨Z + 1 + 1, 9, none⟩ (.slice (some ⟨L5, 0, none⟩) n n)).setCell ⟨Z + 1 + 1, 10, none⟩ (.int .i64 0)).setCell ⟨Z + 1 + 1, 11, none⟩ (.int .i64 0)).setCell ⟨Z + 1 + 1, 12, none⟩ (.slice (some ⟨K5, 0, none⟩) n n)).setCell ⟨Z + 1 + 1, 13, none⟩ (.bool false)))) := by
  have hH : ∀ {p : Prop}, p → Hid p := fun h => h
  have bS : ∀ {W : World} (o : Obj), Below W3.heap.size W3 W → Below W3.heap.size W3 (W.alloc o) := fun o h => h.alloc h.size o
  apply Exists.intro
  apply Exists.intro
  apply Exists.intro
  apply Exists.intro
  apply Exists.intro
  apply And.intro rfl
  apply hH
  apply TNew.mk
  case box => repeat (first | with_reducible exact mem_new _ _ _ (by first | rfl | exact hZ | (simp only [drew_size, alloc_size] <;> omega)) | (with_reducible refine mem_old _ _ _ _ ?_) | with_reducible exact set14 (by repeat (first | with_reducible exact HU5.out | (with_reducible refine mem_old _ _ _ _ ?_))) _ _ _ _ _ _ _ _ _ _ _ _ _ _)
  case bs => rw [HCS.out.1]; repeat (first | with_reducible exact mem_new _ _ _ (by first | rfl | exact hZ | (simp only [drew_size, alloc_size] <;> omega)) | with_reducible exact HR5.bl | with_reducible exact HR5.bk | (with_reducible refine mem_drew _ _ _ ?_) | (with_reducible refine mem_old _ _ _ _ ?_) | (with_reducible refine mem_set14 (by repeat (first | with_reducible exact HU5.out | (with_reducible refine mem_old _ _ _ _ ?_))) _ _ _ _ _ _ _ _ _ _ _ _ _ _ ?_ (by decide)) | (with_reducible refine mem_bel HR5.bel _ _ ?_))
  case bh => rw [HCS.out.2]; repeat (first | with_reducible exact mem_new _ _ _ (by first | rfl | exact hZ | (simp only [drew_size, alloc_size] <;> omega)) | with_reducible exact HR5.bl | with_reducible exact HR5.bk | (with_reducible refine mem_drew _ _ _ ?_) | (with_reducible refine mem_old _ _ _ _ ?_) | (with_reducible refine mem_set14 (by repeat (first | with_reducible exact HU5.out | (with_reducible refine mem_old _ _ _ _ ?_))) _ _ _ _ _ _ _ _ _ _ _ _ _ _ ?_ (by decide)) | (with_reducible refine mem_bel HR5.bel _ _ ?_))
  case bl => repeat (first | with_reducible exact mem_new _ _ _ (by first | rfl | exact hZ | (simp only [drew_size, alloc_size] <;> omega)) | with_reducible exact HR5.bl | with_reducible exact HR5.bk | (with_reducible refine mem_drew _ _ _ ?_) | (with_reducible refine mem_old _ _ _ _ ?_) | (with_reducible refine mem_set14 (by repeat (first | with_reducible exact HU5.out | (with_reducible refine mem_old _ _ _ _ ?_))) _ _ _ _ _ _ _ _ _ _ _ _ _ _ ?_ (by decide)) | (with_reducible refine mem_bel HR5.bel _ _ ?_))
  case bk => repeat (first | with_reducible exact mem_new _ _ _ (by first | rfl | exact hZ | (simp only [drew_size, alloc_size] <;> omega)) | with_reducible exact HR5.bl | with_reducible exact HR5.bk | (with_reducible refine mem_drew _ _ _ ?_) | (with_reducible refine mem_old _ _ _ _ ?_) | (with_reducible refine mem_set14 (by repeat (first | with_reducible exact HU5.out | (with_reducible refine mem_old _ _ _ _ ?_))) _ _ _ _ _ _ _ _ _ _ _ _ _ _ ?_ (by decide)) | (with_reducible refine mem_bel HR5.bel _ _ ?_))
  case ne =>
    have l1 := lt16 HR5.bk
    have l2 := HR5.lo.2
    try simp only [drew_size, alloc_size, hZ] at l2
    omega
  case lo =>
    have l1 := HB5.out.size
    have l2 := HR5.lo
    try simp only [drew_size, alloc_size, hZ] at l1 l2
    omega
  case bel => repeat (first | with_reducible exact HB5.out | (with_reducible refine bS _ ?_) | (with_reducible refine bel_set14 ?_ (by omega) _ _ _ _ _ _ _ _ _ _ _ _ _ _))

set_option maxHeartbeats 1000000 in
theorem trace_leaf8 {n n1 n2 nc nh Z c1 c2 cc ck ch L5 K5 : Nat} {PA RE : Int} {x1 x2 xc xk xh : Option Addr} {W3 w5 : World} {CS CB : Array Value} (HCS : Hid (madeCells #[.int .i64 0, .slice none 0 0] (n * 2) = CS ∧ madeCells #[.bool false] (n * 1) = CB)) (hZ : W3.heap.size = Z) (HR5 : RingNew n L5 K5 (W3.alloc (.cells CB 4)).drew w5) (HB5 : Hid (Below W3.heap.size W3 w5)) :
    ∃ (X S H L K : Nat), Value.pointer (some ⟨w5.heap.size + 1, 0, none⟩) = .pointer (some ⟨X, 0, none⟩) ∧ Hid (TNew X S H L K n Z (.slice x1 n1 c1) (.slice x2 n2 c2) PA RE (.slice xc nc cc) (.slice xk n ck) (.slice xh nh ch) W3 (((w5.alloc (.cells CS 26)).alloc (.cells #[.slice x1 n1 c1, .slice x2 n2 c2, .int .i64 PA, .int .i64 RE, .slice xc nc cc, .slice xk n ck, .slice xh nh ch, .slice (some ⟨w5.heap.size, 0, none⟩) n n, .slice (some ⟨Z, 0, none⟩) n n, .slice (some ⟨L5, 0, none⟩) n n, .int .i64 0, .int .i64 0, .slice (some ⟨K5, 0, none⟩) n n, .bool false] 123)))) := by
  have hH : ∀ {p : Prop}, p → Hid p := fun h => h
  have bS : ∀ {W : World} (o : Obj), Below W3.heap.size W3 W → Below W3.heap.size W3 (W.alloc o) := fun o h => h.alloc h.size o
  apply Exists.intro
  apply Exists.intro
  apply Exists.intro
  apply Exists.intro
  apply Exists.intro
  apply And.intro rfl
  apply hH
  apply TNew.mk
  case box => repeat (first | with_reducible exact mem_new _ _ _ (by first | rfl | exact hZ | (simp only [drew_size, alloc_size] <;> omega)) | (with_reducible refine mem_old _ _ _ _ ?_) | with_reducible exact set14 (by repeat (first | with_reducible exact HU5.out | (with_reducible refine mem_old _ _ _ _ ?_))) _ _ _ _ _ _ _ _ _ _ _ _ _ _)
  case bs => rw [HCS.out.1]; repeat (first | with_reducible exact mem_new _ _ _ (by first | rfl | exact hZ | (simp only [drew_size, alloc_size] <;> omega)) | with_reducible exact HR5.bl | with_reducible exact HR5.bk | (with_reducible refine mem_drew _ _ _ ?_) | (with_reducible refine mem_old _ _ _ _ ?_) | (with_reducible refine mem_set14 (by repeat (first | with_reducible exact HU5.out | (with_reducible refine mem_old _ _ _ _ ?_))) _ _ _ _ _ _ _ _ _ _ _ _ _ _ ?_ (by decide)) | (with_reducible refine mem_bel HR5.bel _ _ ?_))
  case bh => rw [HCS.out.2]; repeat (first | with_reducible exact mem_new _ _ _ (by first | rfl | exact hZ | (simp only [drew_size, alloc_size] <;> omega)) | with_reducible exact HR5.bl | with_reducible exact HR5.bk | (with_reducible refine mem_drew _ _ _ ?_) | (with_reducible refine mem_old _ _ _ _ ?_) | (with_reducible refine mem_set14 (by repeat (first | with_reducible exact HU5.out | (with_reducible refine mem_old _ _ _ _ ?_))) _ _ _ _ _ _ _ _ _ _ _ _ _ _ ?_ (by decide)) | (with_reducible refine mem_bel HR5.bel _ _ ?_))
  case bl => repeat (first | with_reducible exact mem_new _ _ _ (by first | rfl | exact hZ | (simp only [drew_size, alloc_size] <;> omega)) | with_reducible exact HR5.bl | with_reducible exact HR5.bk | (with_reducible refine mem_drew _ _ _ ?_) | (with_reducible refine mem_old _ _ _ _ ?_) | (with_reducible refine mem_set14 (by repeat (first | with_reducible exact HU5.out | (with_reducible refine mem_old _ _ _ _ ?_))) _ _ _ _ _ _ _ _ _ _ _ _ _ _ ?_ (by decide)) | (with_reducible refine mem_bel HR5.bel _ _ ?_))
  case bk => repeat (first | with_reducible exact mem_new _ _ _ (by first | rfl | exact hZ | (simp only [drew_size, alloc_size] <;> omega)) | with_reducible exact HR5.bl | with_reducible exact HR5.bk | (with_reducible refine mem_drew _ _ _ ?_) | (with_reducible refine mem_old _ _ _ _ ?_) | (with_reducible refine mem_set14 (by repeat (first | with_reducible exact HU5.out | (with_reducible refine mem_old _ _ _ _ ?_))) _ _ _ _ _ _ _ _ _ _ _ _ _ _ ?_ (by decide)) | (with_reducible refine mem_bel HR5.bel _ _ ?_))
  case ne =>
    have l1 := lt16 HR5.bk
    have l2 := HR5.lo.2
    try simp only [drew_size, alloc_size, hZ] at l2
    omega
  case lo =>
    have l1 := HB5.out.size
    have l2 := HR5.lo
    try simp only [drew_size, alloc_size, hZ] at l1 l2
    omega
  case bel => repeat (first | with_reducible exact HB5.out | (with_reducible refine bS _ ?_) | (with_reducible refine bel_set14 ?_ (by omega) _ _ _ _ _ _ _ _ _ _ _ _ _ _))

set_option maxHeartbeats 1000000 in
theorem trace_leaf9 {n n1 n2 nc nh Z c1 c2 cc ck ch L5 K5 : Nat} {PA RE : Int} {x1 x2 xc xk xh : Option Addr} {W3 w5 : World} {CS CB : Array Value} (HCS : Hid (madeCells #[.int .i64 0, .slice none 0 0] (n * 2) = CS ∧ madeCells #[.bool false] (n * 1) = CB)) (hZ : W3.heap.size = Z) (HR5 : RingNew n L5 K5 (W3.alloc (.cells CB 4)).drew w5) (HB5 : Hid (Below W3.heap.size W3 w5)) :
    ∃ (X S H L K : Nat), Value.pointer (some ⟨w5.heap.size, 0, none⟩) = .pointer (some ⟨X, 0, none⟩) ∧ Hid (TNew X S H L K n Z (.slice x1 n1 c1) (.slice x2 n2 c2) PA RE (.slice xc nc cc) (.slice xk n ck) (.slice xh nh ch) W3 (((w5.alloc (.cells #[.slice x1 n1 c1, .slice x2 n2 c2, .int .i64 PA, .int .i64 RE, .slice xc nc cc, .slice xk n ck, .slice xh nh ch, .slice (some ⟨w5.heap.size + 1, 0, none⟩) n n, .slice (some ⟨Z, 0, none⟩) n n, .slice (some ⟨L5, 0, none⟩) n n, .int .i64 0, .int .i64 0, .slice (some ⟨K5, 0, none⟩) n n, .bool false] 123)).alloc (.cells CS 26)))) := by
  have hH : ∀ {p : Prop}, p → Hid p := fun h => h
  have bS : ∀ {W : World} (o : Obj), Below W3.heap.size W3 W → Below W3.heap.size W3 (W.alloc o) := fun o h => h.alloc h.size o
  apply Exists.intro
  apply Exists.intro
  apply Exists.intro
  apply Exists.intro
  apply Exists.intro
  apply And.intro rfl
  apply hH
  apply TNew.mk
  case box => repeat (first | with_reducible exact mem_new _ _ _ (by first | rfl | exact hZ | (simp only [drew_size, alloc_size] <;> omega)) | (with_reducible refine mem_old _ _ _ _ ?_) | with_reducible exact set14 (by repeat (first | with_reducible exact HU5.out | (with_reducible refine mem_old _ _ _ _ ?_))) _ _ _ _ _ _ _ _ _ _ _ _ _ _)
  case bs => rw [HCS.out.1]; repeat (first | with_reducible exact mem_new _ _ _ (by first | rfl | exact hZ | (simp only [drew_size, alloc_size] <;> omega)) | with_reducible exact HR5.bl | with_reducible exact HR5.bk | (with_reducible refine mem_drew _ _ _ ?_) | (with_reducible refine mem_old _ _ _ _ ?_) | (with_reducible refine mem_set14 (by repeat (first | with_reducible exact HU5.out | (with_reducible refine mem_old _ _ _ _ ?_))) _ _ _ _ _ _ _ _ _ _ _ _ _ _ ?_ (by decide)) | (with_reducible refine mem_bel HR5.bel _ _ ?_))
  case bh => rw [HCS.out.2]; repeat (first | with_reducible exact mem_new _ _ _ (by first | rfl | exact hZ | (simp only [drew_size, alloc_size] <;> omega)) | with_reducible exact HR5.bl | with_reducible exact HR5.bk | (with_reducible refine mem_drew _ _ _ ?_) | (with_reducible refine mem_old _ _ _ _ ?_) | (with_reducible refine mem_set14 (by repeat (first | with_reducible exact HU5.out | (with_reducible refine mem_old _ _ _ _ ?_))) _ _ _ _ _ _ _ _ _ _ _ _ _ _ ?_ (by decide)) | (with_reducible refine mem_bel HR5.bel _ _ ?_))
  case bl => repeat (first | with_reducible exact mem_new _ _ _ (by first | rfl | exact hZ | (simp only [drew_size, alloc_size] <;> omega)) | with_reducible exact HR5.bl | with_reducible exact HR5.bk | (with_reducible refine mem_drew _ _ _ ?_) | (with_reducible refine mem_old _ _ _ _ ?_) | (with_reducible refine mem_set14 (by repeat (first | with_reducible exact HU5.out | (with_reducible refine mem_old _ _ _ _ ?_))) _ _ _ _ _ _ _ _ _ _ _ _ _ _ ?_ (by decide)) | (with_reducible refine mem_bel HR5.bel _ _ ?_))
  case bk => repeat (first | with_reducible exact mem_new _ _ _ (by first | rfl | exact hZ | (simp only [drew_size, alloc_size] <;> omega)) | with_reducible exact HR5.bl | with_reducible exact HR5.bk | (with_reducible refine mem_drew _ _ _ ?_) | (with_reducible refine mem_old _ _ _ _ ?_) | (with_reducible refine mem_set14 (by repeat (first | with_reducible exact HU5.out | (with_reducible refine mem_old _ _ _ _ ?_))) _ _ _ _ _ _ _ _ _ _ _ _ _ _ ?_ (by decide)) | (with_reducible refine mem_bel HR5.bel _ _ ?_))
  case ne =>
    have l1 := lt16 HR5.bk
    have l2 := HR5.lo.2
    try simp only [drew_size, alloc_size, hZ] at l2
    omega
  case lo =>
    have l1 := HB5.out.size
    have l2 := HR5.lo
    try simp only [drew_size, alloc_size, hZ] at l1 l2
    omega
  case bel => repeat (first | with_reducible exact HB5.out | (with_reducible refine bS _ ?_) | (with_reducible refine bel_set14 ?_ (by omega) _ _ _ _ _ _ _ _ _ _ _ _ _ _))

set_option maxHeartbeats 1000000 in
theorem trace_leaf10 {n n1 n2 nc nh Z c1 c2 cc ck ch L5 K5 : Nat} {PA RE : Int} {x1 x2 xc xk xh : Option Addr} {W3 w5 : World} {CS CB : Array Value} (HCS : Hid (madeCells #[.int .i64 0, .slice none 0 0] (n * 2) = CS ∧ madeCells #[.bool false] (n * 1) = CB)) (hZ : W3.heap.size = Z) (HR5 : RingNew n L5 K5 (((W3.alloc (.cells CB 4)).alloc (.cells #[.slice none 0 0, .slice none 0 0, .int .i64 0, .int .i64 0, .slice none 0 0, .slice none 0 0, .slice none 0 0, .slice none 0 0, .slice none 0 0, .slice none 0 0, .int .i64 0, .int .i64 0, .slice none 0 0, .bool false] 123)).alloc (.cells CS 26)).drew w5) (HB5 : Hid (Below W3.heap.size W3 w5)) (HU5 : Hid (w5.heap[Z + 1]? = some (.cells #[.slice none 0 0, .slice none 0 0, .int .i64 0, .int .i64 0, .slice none 0 0, .slice none 0 0, .slice none 0 0, .slice none 0 0, .slice none 0 0, .slice none 0 0, .int .i64 0, .int .i64 0, .slice none 0 0, .bool false] 123 (0, 0)))) :
    ∃ (X S H L K : Nat), Value.pointer (some ⟨Z + 1, 0, none⟩) = .pointer (some ⟨X, 0, none⟩) ∧ Hid (TNew X S H L K n Z (.slice x1 n1 c1) (.slice x2 n2 c2) PA RE (.slice xc nc cc) (.slice xk n ck) (.slice xh nh ch) W3 (((((((((((((((w5.setCell ⟨Z + 1, 0, none⟩ (.slice x1 n1 c1)).setCell ⟨Z + 1, 1, none⟩ (.slice x2 n2 c2)).setCell ⟨Z + 1, 2, none⟩ (.int .i64 PA)).setCell ⟨Z + 1, 3, none⟩ (.int .i64 RE)).setCell ⟨Z + 1, 4, none⟩ (.slice xc nc cc)).setCell ⟨Z + 1, 5, none⟩ (.slice xk n ck)).setCell ⟨Z + 1, 6, none⟩ (.slice xh nh ch)).setCell ⟨Z + 1, 7, none⟩ (.slice (some ⟨Z + 1 + 1, 0, none⟩) n n)).setCell ⟨Z + 1, 8, none⟩ (.slice (some ⟨Z, 0, none⟩) n n)).setCell ⟨Z + 1, 9, none⟩ (.slice (some ⟨L5, 0, none⟩) n n)).setCell ⟨Z + 1, 10, none⟩ (.int .i64 0)).setCell ⟨Z + 1, 11, none⟩ (.int .i64 0)).setCell ⟨Z + 1, 12, none⟩ (.slice (some ⟨K5, 0, none⟩) n n)).setCell ⟨Z + 1, 13, none⟩ (.bool false)))) := by
  have hH : ∀ {p : Prop}, p → Hid p := fun h => h
  have bS : ∀ {W : World} (o : Obj), Below W3.heap.size W3 W → Below W3.heap.size W3 (W.alloc o) := fun o h => h.alloc h.size o
  apply Exists.intro
  apply Exists.intro
  apply Exists.intro
  apply Exists.intro
  apply Exists.intro
  apply And.intro rfl
  apply hH
  apply TNew.mk
  case box => repeat (first | with_reducible exact mem_new _ _ _ (by first | rfl | exact hZ | (simp only [drew_size, alloc_size] <;> omega)) | (with_reducible refine mem_old _ _ _ _ ?_) | with_reducible exact set14 (by repeat (first | with_reducible exact HU5.out | (with_reducible refine mem_old _ _ _ _ ?_))) _ _ _ _ _ _ _ _ _ _ _ _ _ _)
  case bs => rw [HCS.out.1]; repeat (first | with_reducible exact mem_new _ _ _ (by first | rfl | exact hZ | (simp only [drew_size, alloc_size] <;> omega)) | with_reducible exact HR5.bl | with_reducible exact HR5.bk | (with_reducible refine mem_drew _ _ _ ?_) | (with_reducible refine mem_old _ _ _ _ ?_) | (with_reducible refine mem_set14 (by repeat (first | with_reducible exact HU5.out | (with_reducible refine mem_old _ _ _ _ ?_))) _ _ _ _ _ _ _ _ _ _ _ _ _ _ ?_ (by decide)) | (with_reducible refine mem_bel HR5.bel _ _ ?_))
  case bh => rw [HCS.out.2]; repeat (first | with_reducible exact mem_new _ _ _ (by first | rfl | exact hZ | (simp only [drew_size, alloc_size] <;> omega)) | with_reducible exact HR5.bl | with_reducible exact HR5.bk | (with_reducible refine mem_drew _ _ _ ?_) | (with_reducible refine mem_old _ _ _ _ ?_) | (with_reducible refine mem_set14 (by repeat (first | with_reducible exact HU5.out | (with_reducible refine mem_old _ _ _ _ ?_))) _ _ _ _ _ _ _ _ _ _ _ _ _ _ ?_ (by decide)) | (with_reducible refine mem_bel HR5.bel _ _ ?_))
  case bl => repeat (first | with_reducible exact mem_new _ _ _ (by first | rfl | exact hZ | (simp only [drew_size, alloc_size] <;> omega)) | with_reducible exact HR5.bl | with_reducible exact HR5.bk | (with_reducible refine mem_drew _ _ _ ?_) | (with_reducible refine mem_old _ _ _ _ ?_) | (with_reducible refine mem_set14 (by repeat (first | with_reducible exact HU5.out | (with_reducible refine mem_old _ _ _ _ ?_))) _ _ _ _ _ _ _ _ _ _ _ _ _ _ ?_ (by decide)) | (with_reducible refine mem_bel HR5.bel _ _ ?_))
  case bk => repeat (first | with_reducible exact mem_new _ _ _ (by first | rfl | exact hZ | (simp only [drew_size, alloc_size] <;> omega)) | with_reducible exact HR5.bl | with_reducible exact HR5.bk | (with_reducible refine mem_drew _ _ _ ?_) | (with_reducible refine mem_old _ _ _ _ ?_) | (with_reducible refine mem_set14 (by repeat (first | with_reducible exact HU5.out | (with_reducible refine mem_old _ _ _ _ ?_))) _ _ _ _ _ _ _ _ _ _ _ _ _ _ ?_ (by decide)) | (with_reducible refine mem_bel HR5.bel _ _ ?_))
  case ne =>
    have l1 := lt16 HR5.bk
    have l2 := HR5.lo.2
    try simp only [drew_size, alloc_size, hZ] at l2
    omega
  case lo =>
    have l1 := HB5.out.size
    have l2 := HR5.lo
    try simp only [drew_size, alloc_size, hZ] at l1 l2
    omega
  case bel => repeat (first | with_reducible exact HB5.out | (with_reducible refine bS _ ?_) | (with_reducible refine bel_set14 ?_ (by omega) _ _ _ _ _ _ _ _ _ _ _ _ _ _))

set_option maxHeartbeats 1000000 in
theorem trace_leaf11 {n n1 n2 nc nh Z c1 c2 cc ck ch L5 K5 : Nat} {PA RE : Int} {x1 x2 xc xk xh : Option Addr} {W3 w5 : World} {CS CB : Array Value} (HCS : Hid (madeCells #[.int .i64 0, .slice none 0 0] (n * 2) = CS ∧ madeCells #[.bool false] (n * 1) = CB)) (hZ : W3.heap.size = Z) (HR5 : RingNew n L5 K5 ((W3.alloc (.cells CB 4)).alloc (.cells #[.slice none 0 0, .slice none 0 0, .int .i64 0, .int .i64 0, .slice none 0 0, .slice none 0 0, .slice none 0 0, .slice none 0 0, .slice none 0 0, .slice none 0 0, .int .i64 0, .int .i64 0, .slice none 0 0, .bool false] 123)).drew w5) (HB5 : Hid (Below W3.heap.size W3 w5)) (HU5 : Hid (w5.heap[Z + 1]? = some (.cells #[.slice none 0 0, .slice none 0 0, .int .i64 0, .int .i64 0, .slice none 0 0, .slice none 0 0, .slice none 0 0, .slice none 0 0, .slice none 0 0, .slice none 0 0, .int .i64 0, .int .i64 0, .slice none 0 0, .bool false] 123 (0, 0)))) :
    ∃ (X S H L K : Nat), Value.pointer (some ⟨Z + 1, 0, none⟩) = .pointer (some ⟨X, 0, none⟩) ∧ Hid (TNew X S H L K n Z (.slice x1 n1 c1) (.slice x2 n2 c2) PA RE (.slice xc nc cc) (.slice xk n ck) (.slice xh nh ch) W3 ((((((((((((((((w5.alloc (.cells CS 26)).setCell ⟨Z + 1, 0, none⟩ (.slice x1 n1 c1)).setCell ⟨Z + 1, 1, none⟩ (.slice x2 n2 c2)).setCell ⟨Z + 1, 2, none⟩ (.int .i64 PA)).setCell ⟨Z + 1, 3, none⟩ (.int .i64 RE)).setCell ⟨Z + 1, 4, none⟩ (.slice xc nc cc)).setCell ⟨Z + 1, 5, none⟩ (.slice xk n ck)).setCell ⟨Z + 1, 6, none⟩ (.slice xh nh ch)).setCell ⟨Z + 1, 7, none⟩ (.slice (some ⟨w5.heap.size, 0, none⟩) n n)).setCell ⟨Z + 1, 8, none⟩ (.slice (some ⟨Z, 0, none⟩) n n)).setCell ⟨Z + 1, 9, none⟩ (.slice (some ⟨L5, 0, none⟩) n n)).setCell ⟨Z + 1, 10, none⟩ (.int .i64 0)).setCell ⟨Z + 1, 11, none⟩ (.int .i64 0)).setCell ⟨Z + 1, 12, none⟩ (.slice (some ⟨K5, 0, none⟩) n n)).setCell ⟨Z + 1, 13, none⟩ (.bool false)))) := by
  have hH : ∀ {p : Prop}, p → Hid p := fun h => h
  have bS : ∀ {W : World} (o : Obj), Below W3.heap.size W3 W → Below W3.heap.size W3 (W.alloc o) := fun o h => h.alloc h.size o
  apply Exists.intro
  apply Exists.intro
  apply Exists.intro
  apply Exists.intro
  apply Exists.intro
  apply And.intro rfl
  apply hH
  apply TNew.mk
  case box => repeat (first | with_reducible exact mem_new _ _ _ (by first | rfl | exact hZ | (simp only [drew_size, alloc_size] <;> omega)) | (with_reducible refine mem_old _ _ _ _ ?_) | with_reducible exact set14 (by repeat (first | with_reducible exact HU5.out | (with_reducible refine mem_old _ _ _ _ ?_))) _ _ _ _ _ _ _ _ _ _ _ _ _ _)
  case bs => rw [HCS.out.1]; repeat (first | with_reducible exact mem_new _ _ _ (by first | rfl | exact hZ | (simp only [drew_size, alloc_size] <;> omega)) | with_reducible exact HR5.bl | with_reducible exact HR5.bk | (with_reducible refine mem_drew _ _ _ ?_) | (with_reducible refine mem_old _ _ _ _ ?_) | (with_reducible refine mem_set14 (by repeat (first | with_reducible exact HU5.out | (with_reducible refine mem_old _ _ _ _ ?_))) _ _ _ _ _ _ _ _ _ _ _ _ _ _ ?_ (by decide)) | (with_reducible refine mem_bel HR5.bel _ _ ?_))
  case bh => rw [HCS.out.2]; repeat (first | with_reducible exact mem_new _ _ _ (by first | rfl | exact hZ | (simp only [drew_size, alloc_size] <;> omega)) | with_reducible exact HR5.bl | with_reducible exact HR5.bk | (with_reducible refine mem_drew _ _ _ ?_) | (with_reducible refine mem_old _ _ _ _ ?_) | (with_reducible refine mem_set14 (by repeat (first | with_reducible exact HU5.out | (with_reducible refine mem_old _ _ _ _ ?_))) _ _ _ _ _ _ _ _ _ _ _ _ _ _ ?_ (by decide)) | (with_reducible refine mem_bel HR5.bel _ _ ?_))
  case bl => repeat (first | with_reducible exact mem_new _ _ _ (by first | rfl | exact hZ | (simp only [drew_size, alloc_size] <;> omega)) | with_reducible exact HR5.bl | with_reducible exact HR5.bk | (with_reducible refine mem_drew _ _ _ ?_) | (with_reducible refine mem_old _ _ _ _ ?_) | (with_reducible refine mem_set14 (by repeat (first | with_reducible exact HU5.out | (with_reducible refine mem_old _ _ _ _ ?_))) _ _ _ _ _ _ _ _ _ _ _ _ _ _ ?_ (by decide)) | (with_reducible refine mem_bel HR5.bel _ _ ?_))
  case bk => repeat (first | with_reducible exact mem_new _ _ _ (by first | rfl | exact hZ | (simp only [drew_size, alloc_size] <;> omega)) | with_reducible exact HR5.bl | with_reducible exact HR5.bk | (with_reducible refine mem_drew _ _ _ ?_) | (with_reducible refine mem_old _ _ _ _ ?_) | (with_reducible refine mem_set14 (by repeat (first | with_reducible exact HU5.out | (with_reducible refine mem_old _ _ _ _ ?_))) _ _ _ _ _ _ _ _ _ _ _ _ _ _ ?_ (by decide)) | (with_reducible refine mem_bel HR5.bel _ _ ?_))
  case ne =>
    have l1 := lt16 HR5.bk
    have l2 := HR5.lo.2
    try simp only [drew_size, alloc_size, hZ] at l2
    omega
  case lo =>
    have l1 := HB5.out.size
    have l2 := HR5.lo
    try simp only [drew_size, alloc_size, hZ] at l1 l2
    omega
  case bel => repeat (first | with_reducible exact HB5.out | (with_reducible refine bS _ ?_) | (with_reducible refine bel_set14 ?_ (by omega) _ _ _ _ _ _ _ _ _ _ _ _ _ _))

set_option maxHeartbeats 1000000 in
theorem trace_leaf12 {n n1 n2 nc nh Z c1 c2 cc ck ch L5 K5 : Nat} {PA RE : Int} {x1 x2 xc xk xh : Option Addr} {W3 w5 : World} {CS CB : Array Value} (HCS : Hid (madeCells #[.int .i64 0, .slice none 0 0] (n * 2) = CS ∧ madeCells #[.bool false] (n * 1) = CB)) (hZ : W3.heap.size = Z) (HR5 : RingNew n L5 K5 W3.drew w5) (HB5 : Hid (Below W3.heap.size W3 w5)) :
    ∃ (X S H L K : Nat), Value.pointer (some ⟨w5.heap.size + 1 + 1, 0, none⟩) = .pointer (some ⟨X, 0, none⟩) ∧ Hid (TNew X S H L K n Z (.slice x1 n1 c1) (.slice x2 n2 c2) PA RE (.slice xc nc cc) (.slice xk n ck) (.slice xh nh ch) W3 ((((w5.alloc (.cells CS 26)).alloc (.cells CB 4)).alloc (.cells #[.slice x1 n1 c1, .slice x2 n2 c2, .int .i64 PA, .int .i64 RE, .slice xc nc cc, .slice xk n ck, .slice xh nh ch, .slice (some ⟨w5.heap.size, 0, none⟩) n n, .slice (some ⟨w5.heap.size + 1, 0, none⟩) n n, .slice (some ⟨L5, 0, none⟩) n n, .int .i64 0, .int .i64 0, .slice (some ⟨K5, 0, none⟩) n n, .bool false] 123)))) := by
  have hH : ∀ {p : Prop}, p → Hid p := fun h => h
  have bS : ∀ {W : World} (o : Obj), Below W3.heap.size W3 W → Below W3.heap.size W3 (W.alloc o) := fun o h => h.alloc h.size o
  apply Exists.intro
  apply Exists.intro
  apply Exists.intro
  apply Exists.intro
  apply Exists.intro
  apply And.intro rfl
  apply hH
  apply TNew.mk
  case box => repeat (first | with_reducible exact mem_new _ _ _ (by first | rfl | exact hZ | (simp only [drew_size, alloc_size] <;> omega)) | (with_reducible refine mem_old _ _ _ _ ?_) | with_reducible exact set14 (by repeat (first | with_reducible exact HU5.out | (with_reducible refine mem_old _ _ _ _ ?_))) _ _ _ _ _ _ _ _ _ _ _ _ _ _)
  case bs => rw [HCS.out.1]; repeat (first | with_reducible exact mem_new _ _ _ (by first | rfl | exact hZ | (simp only [drew_size, alloc_size] <;> omega)) | with_reducible exact HR5.bl | with_reducible exact HR5.bk | (with_reducible refine mem_drew _ _ _ ?_) | (with_reducible refine mem_old _ _ _ _ ?_) | (with_reducible refine mem_set14 (by repeat (first | with_reducible exact HU5.out | (with_reducible refine mem_old _ _ _ _ ?_))) _ _ _ _ _ _ _ _ _ _ _ _ _ _ ?_ (by decide)) | (with_reducible refine mem_bel HR5.bel _ _ ?_))
  case bh => rw [HCS.out.2]; repeat (first | with_reducible exact mem_new _ _ _ (by first | rfl | exact hZ | (simp only [drew_size, alloc_size] <;> omega)) | with_reducible exact HR5.bl | with_reducible exact HR5.bk | (with_reducible refine mem_drew _ _ _ ?_) | (with_reducible refine mem_old _ _ _ _ ?_) | (with_reducible refine mem_set14 (by repeat (first | with_reducible exact HU5.out | (with_reducible refine mem_old _ _ _ _ ?_))) _ _ _ _ _ _ _ _ _ _ _ _ _ _ ?_ (by decide)) | (with_reducible refine mem_bel HR5.bel _ _ ?_))
  case bl => repeat (first | with_reducible exact mem_new _ _ _ (by first | rfl | exact hZ | (simp only [drew_size, alloc_size] <;> omega)) | with_reducible exact HR5.bl | with_reducible exact HR5.bk | (with_reducible refine mem_drew _ _ _ ?_) | (with_reducible refine mem_old _ _ _ _ ?_) | (with_reducible refine mem_set14 (by repeat (first | with_reducible exact HU5.out | (with_reducible refine mem_old _ _ _ _ ?_))) _ _ _ _ _ _ _ _ _ _ _ _ _ _ ?_ (by decide)) | (with_reducible refine mem_bel HR5.bel _ _ ?_))
  case bk => repeat (first | with_reducible exact mem_new _ _ _ (by first | rfl | exact hZ | (simp only [drew_size, alloc_size] <;> omega)) | with_reducible exact HR5.bl | with_reducible exact HR5.bk | (with_reducible refine mem_drew _ _ _ ?_) | (with_reducible refine mem_old _ _ _ _ ?_) | (with_reducible refine mem_set14 (by repeat (first | with_reducible exact HU5.out | (with_reducible refine mem_old _ _ _ _ ?_))) _ _ _ _ _ _ _ _ _ _ _ _ _ _ ?_ (by decide)) | (with_reducible refine mem_bel HR5.bel _ _ ?_))
  case ne =>
    have l1 := lt16 HR5.bk
    have l2 := HR5.lo.2
    try simp only [drew_size, alloc_size, hZ] at l2
    omega
  case lo =>
    have l1 := HB5.out.size
    have l2 := HR5.lo
    try simp only [drew_size, alloc_size, hZ] at l1 l2
    omega
  case bel => repeat (first | with_reducible exact HB5.out | (with_reducible refine bS _ ?_) | (with_reducible refine bel_set14 ?_ (by omega) _ _ _ _ _ _ _ _ _ _ _ _ _ _))

set_option maxHeartbeats 1000000 in
theorem trace_leaf13 {n n1 n2 nc nh Z c1 c2 cc ck ch L5 K5 : Nat} {PA RE : Int} {x1 x2 xc xk xh : Option Addr} {W3 w5 : World} {CS CB : Array Value} (HCS : Hid (madeCells #[.int .i64 0, .slice none 0 0] (n * 2) = CS ∧ madeCells #[.bool false] (n * 1) = CB)) (hZ : W3.heap.size = Z) (HR5 : RingNew n L5 K5 W3.drew w5) (HB5 : Hid (Below W3.heap.size W3 w5)) :
    ∃ (X S H L K : Nat), Value.pointer (some ⟨w5.heap.size + 1, 0, none⟩) = .pointer (some ⟨X, 0, none⟩) ∧ Hid (TNew X S H L K n Z (.slice x1 n1 c1) (.slice x2 n2 c2) PA RE (.slice xc nc cc) (.slice xk n ck) (.slice xh nh ch) W3 ((((w5.alloc (.cells CS 26)).alloc (.cells #[.slice x1 n1 c1, .slice x2 n2 c2, .int .i64 PA, .int .i64 RE, .slice xc nc cc, .slice xk n ck, .slice xh nh ch, .slice (some ⟨w5.heap.size, 0, none⟩) n n, .slice (some ⟨w5.heap.size + 1 + 1, 0, none⟩) n n, .slice (some ⟨L5, 0, none⟩) n n, .int .i64 0, .int .i64 0, .slice (some ⟨K5, 0, none⟩) n n, .bool false] 123)).alloc (.cells CB 4)))) := by
  have hH : ∀ {p : Prop}, p → Hid p := fun h => h
  have bS : ∀ {W : World} (o : Obj), Below W3.heap.size W3 W → Below W3.heap.size W3 (W.alloc o) := fun o h => h.alloc h.size o
  apply Exists.intro
  apply Exists.intro
  apply Exists.intro
  apply Exists.intro
  apply Exists.intro
  apply And.intro rfl
  apply hH
  apply TNew.mk
  case box => repeat (first | with_reducible exact mem_new _ _ _ (by first | rfl | exact hZ | (simp only [drew_size, alloc_size] <;> omega)) | (with_reducible refine mem_old _ _ _ _ ?_) | with_reducible exact set14 (by repeat (first | with_reducible exact HU5.out | (with_reducible refine mem_old _ _ _ _ ?_))) _ _ _ _ _ _ _ _ _ _ _ _ _ _)
  case bs => rw [HCS.out.1]; repeat (first | with_reducible exact mem_new _ _ _ (by first | rfl | exact hZ | (simp only [drew_size, alloc_size] <;> omega)) | with_reducible exact HR5.bl | with_reducible exact HR5.bk | (with_reducible refine mem_drew _ _ _ ?_) | (with_reducible refine mem_old _ _ _ _ ?_) | (with_reducible refine mem_set14 (by repeat (first | with_reducible exact HU5.out | (with_reducible refine mem_old _ _ _ _ ?_))) _ _ _ _ _ _ _ _ _ _ _ _ _ _ ?_ (by decide)) | (with_reducible refine mem_bel HR5.bel _ _ ?_))
  case bh => rw [HCS.out.2]; repeat (first | with_reducible exact mem_new _ _ _ (by first | rfl | exact hZ | (simp only [drew_size, alloc_size] <;> omega)) | with_reducible exact HR5.bl | with_reducible exact HR5.bk | (with_reducible refine mem_drew _ _ _ ?_) | (with_reducible refine mem_old _ _ _ _ ?_) | (with_reducible refine mem_set14 (by repeat (first | with_reducible exact HU5.out | (with_reducible refine mem_old _ _ _ _ ?_))) _ _ _ _ _ _ _ _ _ _ _ _ _ _ ?_ (by decide)) | (with_reducible refine mem_bel HR5.bel _ _ ?_))
  case bl => repeat (first | with_reducible exact mem_new _ _ _ (by first | rfl | exact hZ | (simp only [drew_size, alloc_size] <;> omega)) | with_reducible exact HR5.bl | with_reducible exact HR5.bk | (with_reducible refine mem_drew _ _ _ ?_) | (with_reducible refine mem_old _ _ _ _ ?_) | (with_reducible refine mem_set14 (by repeat (first | with_reducible exact HU5.out | (with_reducible refine mem_old _ _ _ _ ?_))) _ _ _ _ _ _ _ _ _ _ _ _ _ _ ?_ (by decide)) | (with_reducible refine mem_bel HR5.bel _ _ ?_))
  case bk => repeat (first | with_reducible exact mem_new _ _ _ (by first | rfl | exact hZ | (simp only [drew_size, alloc_size] <;> omega)) | with_reducible exact HR5.bl | with_reducible exact HR5.bk | (with_reducible refine mem_drew _ _ _ ?_) | (with_reducible refine mem_old _ _ _ _ ?_) | (with_reducible refine mem_set14 (by repeat (first | with_reducible exact HU5.out | (with_reducible refine mem_old _ _ _ _ ?_))) _ _ _ _ _ _ _ _ _ _ _ _ _ _ ?_ (by decide)) | (with_reducible refine mem_bel HR5.bel _ _ ?_))
  case ne =>
    have l1 := lt16 HR5.bk
    have l2 := HR5.lo.2
    try simp only [drew_size, alloc_size, hZ] at l2
    omega
  case lo =>
    have l1 := HB5.out.size
    have l2 := HR5.lo
    try simp only [drew_size, alloc_size, hZ] at l1 l2
    omega
  case bel => repeat (first | with_reducible exact HB5.out | (with_reducible refine bS _ ?_) | (with_reducible refine bel_set14 ?_ (by omega) _ _ _ _ _ _ _ _ _ _ _ _ _ _))

set_option maxHeartbeats 1000000 in
theorem trace_leaf14 {n n1 n2 nc nh Z c1 c2 cc ck ch L5 K5 : Nat} {PA RE : Int} {x1 x2 xc xk xh : Option Addr} {W3 w5 : World} {CS CB : Array Value} (HCS : Hid (madeCells #[.int .i64 0, .slice none 0 0] (n * 2) = CS ∧ madeCells #[.bool false] (n * 1) = CB)) (hZ : W3.heap.size = Z) (HR5 : RingNew n L5 K5 W3.drew w5) (HB5 : Hid (Below W3.heap.size W3 w5)) :
    ∃ (X S H L K : Nat), Value.pointer (some ⟨w5.heap.size + 1 + 1, 0, none⟩) = .pointer (some ⟨X, 0, none⟩) ∧ Hid (TNew X S H L K n Z (.slice x1 n1 c1) (.slice x2 n2 c2) PA RE (.slice xc nc cc) (.slice xk n ck) (.slice xh nh ch) W3 ((((w5.alloc (.cells CB 4)).alloc (.cells CS 26)).alloc (.cells #[.slice x1 n1 c1, .slice x2 n2 c2, .int .i64 PA, .int .i64 RE, .slice xc nc cc, .slice xk n ck, .slice xh nh ch, .slice (some ⟨w5.heap.size + 1, 0, none⟩) n n, .slice (some ⟨w5.heap.size, 0, none⟩) n n, .slice (some ⟨L5, 0, none⟩) n n, .int .i64 0, .int .i64 0, .slice (some ⟨K5, 0, none⟩) n n, .bool false] 123)))) := by
  have hH : ∀ {p : Prop}, p → Hid p := fun h => h
  have bS : ∀ {W : World} (o : Obj), Below W3.heap.size W3 W → Below W3.heap.size W3 (W.alloc o) := fun o h => h.alloc h.size o
  apply Exists.intro
  apply Exists.intro
  apply Exists.intro
  apply Exists.intro
  apply Exists.intro
  apply And.intro rfl
  apply hH
  apply TNew.mk
  case box => repeat (first | with_reducible exact mem_new _ _ _ (by first | rfl | exact hZ | (simp only [drew_size, alloc_size] <;> omega)) | (with_reducible refine mem_old _ _ _ _ ?_) | with_reducible exact set14 (by repeat (first | with_reducible exact HU5.out | (with_reducible refine mem_old _ _ _ _ ?_))) _ _ _ _ _ _ _ _ _ _ _ _ _ _)
  case bs => rw [HCS.out.1]; repeat (first | with_reducible exact mem_new _ _ _ (by first | rfl | exact hZ | (simp only [drew_size, alloc_size] <;> omega)) | with_reducible exact HR5.bl | with_reducible exact HR5.bk | (with_reducible refine mem_drew _ _ _ ?_) | (with_reducible refine mem_old _ _ _ _ ?_) | (with_reducible refine mem_set14 (by repeat (first | with_reducible exact HU5.out | (with_reducible refine mem_old _ _ _ _ ?_))) _ _ _ _ _ _ _ _ _ _ _ _ _ _ ?_ (by decide)) | (with_reducible refine mem_bel HR5.bel _ _ ?_))
  case bh => rw [HCS.out.2]; repeat (first | with_reducible exact mem_new _ _ _ (by first | rfl | exact hZ | (simp only [drew_size, alloc_size] <;> omega)) | with_reducible exact HR5.bl | with_reducible exact HR5.bk | (with_reducible refine mem_drew _ _ _ ?_) | (with_reducible refine mem_old _ _ _ _ ?_) | (with_reducible refine mem_set14 (by repeat (first | with_reducible exact HU5.out | (with_reducible refine mem_old _ _ _ _ ?_))) _ _ _ _ _ _ _ _ _ _ _ _ _ _ ?_ (by decide)) | (with_reducible refine mem_bel HR5.bel _ _ ?_))
  case bl => repeat (first | with_reducible exact mem_new _ _ _ (by first | rfl | exact hZ | (simp only [drew_size, alloc_size] <;> omega)) | with_reducible exact HR5.bl | with_reducible exact HR5.bk | (with_reducible refine mem_drew _ _ _ ?_) | (with_reducible refine mem_old _ _ _ _ ?_) | (with_reducible refine mem_set14 (by repeat (first | with_reducible exact HU5.out | (with_reducible refine mem_old _ _ _ _ ?_))) _ _ _ _ _ _ _ _ _ _ _ _ _ _ ?_ (by decide)) | (with_reducible refine mem_bel HR5.bel _ _ ?_))
  case bk => repeat (first | with_reducible exact mem_new _ _ _ (by first | rfl | exact hZ | (simp only [drew_size, alloc_size] <;> omega)) | with_reducible exact HR5.bl | with_reducible exact HR5.bk | (with_reducible refine mem_drew _ _ _ ?_) | (with_reducible refine mem_old _ _ _ _ ?_) | (with_reducible refine mem_set14 (by repeat (first | with_reducible exact HU5.out | (with_reducible refine mem_old _ _ _ _ ?_))) _ _ _ _ _ _ _ _ _ _ _ _ _ _ ?_ (by decide)) | (with_reducible refine mem_bel HR5.bel _ _ ?_))
  case ne =>
    have l1 := lt16 HR5.bk
    have l2 := HR5.lo.2
    try simp only [drew_size, alloc_size, hZ] at l2
    omega
  case lo =>
    have l1 := HB5.out.size
    have l2 := HR5.lo
    try simp only [drew_size, alloc_size, hZ] at l1 l2
    omega
  case bel => repeat (first | with_reducible exact HB5.out | (with_reducible refine bS _ ?_) | (with_reducible refine bel_set14 ?_ (by omega) _ _ _ _ _ _ _ _ _ _ _ _ _ _))

set_option maxHeartbeats 1000000 in
theorem trace_leaf15 {n n1 n2 nc nh Z c1 c2 cc ck ch L5 K5 : Nat} {PA RE : Int} {x1 x2 xc xk xh : Option Addr} {W3 w5 : World} {CS CB : Array Value} (HCS : Hid (madeCells #[.int .i64 0, .slice none 0 0] (n * 2) = CS ∧ madeCells #[.bool false] (n * 1) = CB)) (hZ : W3.heap.size = Z) (HR5 : RingNew n L5 K5 W3.drew w5) (HB5 : Hid (Below W3.heap.size W3 w5)) :
    ∃ (X S H L K : Nat), Value.pointer (some ⟨w5.heap.size + 1, 0, none⟩) = .pointer (some ⟨X, 0, none⟩) ∧ Hid (TNew X S H L K n Z (.slice x1 n1 c1) (.slice x2 n2 c2) PA RE (.slice xc nc cc) (.slice xk n ck) (.slice xh nh ch) W3 ((((w5.alloc (.cells CB 4)).alloc (.cells #[.slice x1 n1 c1, .slice x2 n2 c2, .int .i64 PA, .int .i64 RE, .slice xc nc cc, .slice xk n ck, .slice xh nh ch, .slice (some ⟨w5.heap.size + 1 + 1, 0, none⟩) n n, .slice (some ⟨w5.heap.size, 0, none⟩) n n, .slice (some ⟨L5, 0, none⟩) n n, .int .i64 0, .int .i64 0, .slice (some ⟨K5, 0, none⟩) n n, .bool false] 123)).alloc (.cells CS 26)))) := by
  have hH : ∀ {p : Prop}, p → Hid p := fun h => h
  have bS : ∀ {W : World} (o : Obj), Below W3.heap.size W3 W → Below W3.heap.size W3 (W.alloc o) := fun o h => h.alloc h.size o
  apply Exists.intro
  apply Exists.intro
  apply Exists.intro
  apply Exists.intro
  apply Exists.intro
  apply And.intro rfl
  apply hH
  apply TNew.mk
  case box => repeat (first | with_reducible exact mem_new _ _ _ (by first | rfl | exact hZ | (simp only [drew_size, alloc_size] <;> omega)) | (with_reducible refine mem_old _ _ _ _ ?_) | with_reducible exact set14 (by repeat (first | with_reducible exact HU5.out | (with_reducible refine mem_old _ _ _ _ ?_))) _ _ _ _ _ _ _ _ _ _ _ _ _ _)
  case bs => rw [HCS.out.1]; repeat (first | with_reducible exact mem_new _ _ _ (by first | rfl | exact hZ | (simp only [drew_size, alloc_size] <;> omega)) | with_reducible exact HR5.bl | with_reducible exact HR5.bk | (with_reducible refine mem_drew _ _ _ ?_) | (with_reducible refine mem_old _ _ _ _ ?_) | (with_reducible refine mem_set14 (by repeat (first | with_reducible exact HU5.out | (with_reducible refine mem_old _ _ _ _ ?_))) _ _ _ _ _ _ _ _ _ _ _ _ _ _ ?_ (by decide)) | (with_reducible refine mem_bel HR5.bel _ _ ?_))
  case bh => rw [HCS.out.2]; repeat (first | with_reducible exact mem_new _ _ _ (by first | rfl | exact hZ | (simp only [drew_size, alloc_size] <;> omega)) | with_reducible exact HR5.bl | with_reducible exact HR5.bk | (with_reducible refine mem_drew _ _ _ ?_) | (with_reducible refine mem_old _ _ _ _ ?_) | (with_reducible refine mem_set14 (by repeat (first | with_reducible exact HU5.out | (with_reducible refine mem_old _ _ _ _ ?_))) _ _ _ _ _ _ _ _ _ _ _ _ _ _ ?_ (by decide)) | (with_reducible refine mem_bel HR5.bel _ _ ?_))
  case bl => repeat (first | with_reducible exact mem_new _ _ _ (by first | rfl | exact hZ | (simp only [drew_size, alloc_size] <;> omega)) | with_reducible exact HR5.bl | with_reducible exact HR5.bk | (with_reducible refine mem_drew _ _ _ ?_) | (with_reducible refine mem_old _ _ _ _ ?_) | (with_reducible refine mem_set14 (by repeat (first | with_reducible exact HU5.out | (with_reducible refine mem_old _ _ _ _ ?_))) _ _ _ _ _ _ _ _ _ _ _ _ _ _ ?_ (by decide)) | (with_reducible refine mem_bel HR5.bel _ _ ?_))
  case bk => repeat (first | with_reducible exact mem_new _ _ _ (by first | rfl | exact hZ | (simp only [drew_size, alloc_size] <;> omega)) | with_reducible exact HR5.bl | with_reducible exact HR5.bk | (with_reducible refine mem_drew _ _ _ ?_) | (with_reducible refine mem_old _ _ _ _ ?_) | (with_reducible refine mem_set14 (by repeat (first | with_reducible exact HU5.out | (with_reducible refine mem_old _ _ _ _ ?_))) _ _ _ _ _ _ _ _ _ _ _ _ _ _ ?_ (by decide)) | (with_reducible refine mem_bel HR5.bel _ _ ?_))
  case ne =>
    have l1 := lt16 HR5.bk
    have l2 := HR5.lo.2
    try simp only [drew_size, alloc_size, hZ] at l2
    omega
  case lo =>
    have l1 := HB5.out.size
    have l2 := HR5.lo
    try simp only [drew_size, alloc_size, hZ] at l1 l2
    omega
  case bel => repeat (first | with_reducible exact HB5.out | (with_reducible refine bS _ ?_) | (with_reducible refine bel_set14 ?_ (by omega) _ _ _ _ _ _ _ _ _ _ _ _ _ _))

set_option maxHeartbeats 1000000 in
theorem trace_leaf16 {n n1 n2 nc nh Z c1 c2 cc ck ch L5 K5 : Nat} {PA RE : Int} {x1 x2 xc xk xh : Option Addr} {W3 w5 : World} {CS CB : Array Value} (HCS : Hid (madeCells #[.int .i64 0, .slice none 0 0] (n * 2) = CS ∧ madeCells #[.bool false] (n * 1) = CB)) (hZ : W3.heap.size = Z) (HR5 : RingNew n L5 K5 W3.drew w5) (HB5 : Hid (Below W3.heap.size W3 w5)) :
    ∃ (X S H L K : Nat), Value.pointer (some ⟨w5.heap.size, 0, none⟩) = .pointer (some ⟨X, 0, none⟩) ∧ Hid (TNew X S H L K n Z (.slice x1 n1 c1) (.slice x2 n2 c2) PA RE (.slice xc nc cc) (.slice xk n ck) (.slice xh nh ch) W3 ((((w5.alloc (.cells #[.slice x1 n1 c1, .slice x2 n2 c2, .int .i64 PA, .int .i64 RE, .slice xc nc cc, .slice xk n ck, .slice xh nh ch, .slice (some ⟨w5.heap.size + 1, 0, none⟩) n n, .slice (some ⟨w5.heap.size + 1 + 1, 0, none⟩) n n, .slice (some ⟨L5, 0, none⟩) n n, .int .i64 0, .int .i64 0, .slice (some ⟨K5, 0, none⟩) n n, .bool false] 123)).alloc (.cells CS 26)).alloc (.cells CB 4)))) := by
  have hH : ∀ {p : Prop}, p → Hid p := fun h => h
  have bS : ∀ {W : World} (o : Obj), Below W3.heap.size W3 W → Below W3.heap.size W3 (W.alloc o) := fun o h => h.alloc h.size o
  apply Exists.intro
  apply Exists.intro
  apply Exists.intro
  apply Exists.intro
  apply Exists.intro
  apply And.intro rfl
  apply hH
  apply TNew.mk
  case box => repeat (first | with_reducible exact mem_new _ _ _ (by first | rfl | exact hZ | (simp only [drew_size, alloc_size] <;> omega)) | (with_reducible refine mem_old _ _ _ _ ?_) | with_reducible exact set14 (by repeat (first | with_reducible exact HU5.out | (with_reducible refine mem_old _ _ _ _ ?_))) _ _ _ _ _ _ _ _ _ _ _ _ _ _)
  case bs => rw [HCS.out.1]; repeat (first | with_reducible exact mem_new _ _ _ (by first | rfl | exact hZ | (simp only [drew_size, alloc_size] <;> omega)) | with_reducible exact HR5.bl | with_reducible exact HR5.bk | (with_reducible refine mem_drew _ _ _ ?_) | (with_reducible refine mem_old _ _ _ _ ?_) | (with_reducible refine mem_set14 (by repeat (first | with_reducible exact HU5.out | (with_reducible refine mem_old _ _ _ _ ?_))) _ _ _ _ _ _ _ _ _ _ _ _ _ _ ?_ (by decide)) | (with_reducible refine mem_bel HR5.bel _ _ ?_))
  case bh => rw [HCS.out.2]; repeat (first | with_reducible exact mem_new _ _ _ (by first | rfl | exact hZ | (simp only [drew_size, alloc_size] <;> omega)) | with_reducible exact HR5.bl | with_reducible exact HR5.bk | (with_reducible refine mem_drew _ _ _ ?_) | (with_reducible refine mem_old _ _ _ _ ?_) | (with_reducible refine mem_set14 (by repeat (first | with_reducible exact HU5.out | (with_reducible refine mem_old _ _ _ _ ?_))) _ _ _ _ _ _ _ _ _ _ _ _ _ _ ?_ (by decide)) | (with_reducible refine mem_bel HR5.bel _ _ ?_))
  case bl => repeat (first | with_reducible exact mem_new _ _ _ (by first | rfl | exact hZ | (simp only [drew_size, alloc_size] <;> omega)) | with_reducible exact HR5.bl | with_reducible exact HR5.bk | (with_reducible refine mem_drew _ _ _ ?_) | (with_reducible refine mem_old _ _ _ _ ?_) | (with_reducible refine mem_set14 (by repeat (first | with_reducible exact HU5.out | (with_reducible refine mem_old _ _ _ _ ?_))) _ _ _ _ _ _ _ _ _ _ _ _ _ _ ?_ (by decide)) | (with_reducible refine mem_bel HR5.bel _ _ ?_))
  case bk => repeat (first | with_reducible exact mem_new _ _ _ (by first | rfl | exact hZ | (simp only [drew_size, alloc_size] <;> omega)) | with_reducible exact HR5.bl | with_reducible exact HR5.bk | (with_reducible refine mem_drew _ _ _ ?_) | (with_reducible refine mem_old _ _ _ _ ?_) | (with_reducible refine mem_set14 (by repeat (first | with_reducible exact HU5.out | (with_reducible refine mem_old _ _ _ _ ?_))) _ _ _ _ _ _ _ _ _ _ _ _ _ _ ?_ (by decide)) | (with_reducible refine mem_bel HR5.bel _ _ ?_))
  case ne =>
    have l1 := lt16 HR5.bk
    have l2 := HR5.lo.2
    try simp only [drew_size, alloc_size, hZ] at l2
    omega
  case lo =>
    have l1 := HB5.out.size
    have l2 := HR5.lo
    try simp only [drew_size, alloc_size, hZ] at l1 l2
    omega
  case bel => repeat (first | with_reducible exact HB5.out | (with_reducible refine bS _ ?_) | (with_reducible refine bel_set14 ?_ (by omega) _ _ _ _ _ _ _ _ _ _ _ _ _ _))

set_option maxHeartbeats 1000000 in
theorem trace_leaf17 {n n1 n2 nc nh Z c1 c2 cc ck ch L5 K5 : Nat} {PA RE : Int} {x1 x2 xc xk xh : Option Addr} {W3 w5 : World} {CS CB : Array Value} (HCS : Hid (madeCells #[.int .i64 0, .slice none 0 0] (n * 2) = CS ∧ madeCells #[.bool false] (n * 1) = CB)) (hZ : W3.heap.size = Z) (HR5 : RingNew n L5 K5 W3.drew w5) (HB5 : Hid (Below W3.heap.size W3 w5)) :
    ∃ (X S H L K : Nat), Value.pointer (some ⟨w5.heap.size, 0, none⟩) = .pointer (some ⟨X, 0, none⟩) ∧ Hid (TNew X S H L K n Z (.slice x1 n1 c1) (.slice x2 n2 c2) PA RE (.slice xc nc cc) (.slice xk n ck) (.slice xh nh ch) W3 ((((w5.alloc (.cells #[.slice x1 n1 c1, .slice x2 n2 c2, .int .i64 PA, .int .i64 RE, .slice xc nc cc, .slice xk n ck, .slice xh nh ch, .slice (some ⟨w5.heap.size + 1 + 1, 0, none⟩) n n, .slice (some ⟨w5.heap.size + 1, 0, none⟩) n n, .slice (some ⟨L5, 0, none⟩) n n, .int .i64 0, .int .i64 0, .slice (some ⟨K5, 0, none⟩) n n, .bool false] 123)).alloc (.cells CB 4)).alloc (.cells CS 26)))) := by
  have hH : ∀ {p : Prop}, p → Hid p := fun h => h
  have bS : ∀ {W : World} (o : Obj), Below W3.heap.size W3 W → Below W3.heap.size W3 (W.alloc o) := fun o h => h.alloc h.size o
  apply Exists.intro
  apply Exists.intro
  apply Exists.intro
  apply Exists.intro
  apply Exists.intro
  apply And.intro rfl
  apply hH
  apply TNew.mk
  case box => repeat (first | with_reducible exact mem_new _ _ _ (by first | rfl | exact hZ | (simp only [drew_size, alloc_size] <;> omega)) | (with_reducible refine mem_old _ _ _ _ ?_) | with_reducible exact set14 (by repeat (first | with_reducible exact HU5.out | (with_reducible refine mem_old _ _ _ _ ?_))) _ _ _ _ _ _ _ _ _ _ _ _ _ _)
  case bs => rw [HCS.out.1]; repeat (first | with_reducible exact mem_new _ _ _ (by first | rfl | exact hZ | (simp only [drew_size, alloc_size] <;> omega)) | with_reducible exact HR5.bl | with_reducible exact HR5.bk | (with_reducible refine mem_drew _ _ _ ?_) | (with_reducible refine mem_old _ _ _ _ ?_) | (with_reducible refine mem_set14 (by repeat (first | with_reducible exact HU5.out | (with_reducible refine mem_old _ _ _ _ ?_))) _ _ _ _ _ _ _ _ _ _ _ _ _ _ ?_ (by decide)) | (with_reducible refine mem_bel HR5.bel _ _ ?_))
  case bh => rw [HCS.out.2]; repeat (first | with_reducible exact mem_new _ _ _ (by first | rfl | exact hZ | (simp only [drew_size, alloc_size] <;> omega)) | with_reducible exact HR5.bl | with_reducible exact HR5.bk | (with_reducible refine mem_drew _ _ _ ?_) | (with_reducible refine mem_old _ _ _ _ ?_) | (with_reducible refine mem_set14 (by repeat (first | with_reducible exact HU5.out | (with_reducible refine mem_old _ _ _ _ ?_))) _ _ _ _ _ _ _ _ _ _ _ _ _ _ ?_ (by decide)) | (with_reducible refine mem_bel HR5.bel _ _ ?_))
  case bl => repeat (first | with_reducible exact mem_new _ _ _ (by first | rfl | exact hZ | (simp only [drew_size, alloc_size] <;> omega)) | with_reducible exact HR5.bl | with_reducible exact HR5.bk | (with_reducible refine mem_drew _ _ _ ?_) | (with_reducible refine mem_old _ _ _ _ ?_) | (with_reducible refine mem_set14 (by repeat (first | with_reducible exact HU5.out | (with_reducible refine mem_old _ _ _ _ ?_))) _ _ _ _ _ _ _ _ _ _ _ _ _ _ ?_ (by decide)) | (with_reducible refine mem_bel HR5.bel _ _ ?_))
  case bk => repeat (first | with_reducible exact mem_new _ _ _ (by first | rfl | exact hZ | (simp only [drew_size, alloc_size] <;> omega)) | with_reducible exact HR5.bl | with_reducible exact HR5.bk | (with_reducible refine mem_drew _ _ _ ?_) | (with_reducible refine mem_old _ _ _ _ ?_) | (with_reducible refine mem_set14 (by repeat (first | with_reducible exact HU5.out | (with_reducible refine mem_old _ _ _ _ ?_))) _ _ _ _ _ _ _ _ _ _ _ _ _ _ ?_ (by decide)) | (with_reducible refine mem_bel HR5.bel _ _ ?_))
  case ne =>
    have l1 := lt16 HR5.bk
    have l2 := HR5.lo.2
    try simp only [drew_size, alloc_size, hZ] at l2
    omega
  case lo =>
    have l1 := HB5.out.size
    have l2 := HR5.lo
    try simp only [drew_size, alloc_size, hZ] at l1 l2
    omega
  case bel => repeat (first | with_reducible exact HB5.out | (with_reducible refine bS _ ?_) | (with_reducible refine bel_set14 ?_ (by omega) _ _ _ _ _ _ _ _ _ _ _ _ _ _))

set_option maxHeartbeats 1000000 in
theorem trace_leaf18 {n n1 n2 nc nh Z c1 c2 cc ck ch L5 K5 : Nat} {PA RE : Int} {x1 x2 xc xk xh : Option Addr} {W3 w5 : World} {CS CB : Array Value} (HCS : Hid (madeCells #[.int .i64 0, .slice none 0 0] (n * 2) = CS ∧ madeCells #[.bool false] (n * 1) = CB)) (hZ : W3.heap.size = Z) (HR5 : RingNew n L5 K5 (((W3.alloc (.cells #[.slice none 0 0, .slice none 0 0, .int .i64 0, .int .i64 0, .slice none 0 0, .slice none 0 0, .slice none 0 0, .slice none 0 0, .slice none 0 0, .slice none 0 0, .int .i64 0, .int .i64 0, .slice none 0 0, .bool false] 123)).alloc (.cells CS 26)).alloc (.cells CB 4)).drew w5) (HB5 : Hid (Below W3.heap.size W3 w5)) (HU5 : Hid (w5.heap[Z]? = some (.cells #[.slice none 0 0, .slice none 0 0, .int .i64 0, .int .i64 0, .slice none 0 0, .slice none 0 0, .slice none 0 0, .slice none 0 0, .slice none 0 0, .slice none 0 0, .int .i64 0, .int .i64 0, .slice none 0 0, .bool false] 123 (0, 0)))) :
    ∃ (X S H L K : Nat), Value.pointer (some ⟨Z, 0, none⟩) = .pointer (some ⟨X, 0, none⟩) ∧ Hid (TNew X S H L K n Z (.slice x1 n1 c1) (.slice x2 n2 c2) PA RE (.slice xc nc cc) (.slice xk n ck) (.slice xh nh ch) W3 (((((((((((((((w5.setCell ⟨Z, 0, none⟩ (.slice x1 n1 c1)).setCell ⟨Z, 1, none⟩ (.slice x2 n2 c2)).setCell ⟨Z, 2, none⟩ (.int .i64 PA)).setCell ⟨Z, 3, none⟩ (.int .i64 RE)).setCell ⟨Z, 4, none⟩ (.slice xc nc cc)).setCell ⟨Z, 5, none⟩ (.slice xk n ck)).setCell ⟨Z, 6, none⟩ (.slice xh nh ch)).setCell ⟨Z, 7, none⟩ (.slice (some ⟨Z + 1, 0, none⟩) n n)).setCell ⟨Z, 8, none⟩ (.slice (some ⟨Z + 1 + 1, 0, none⟩) n n)).setCell ⟨Z, 9, none⟩ (.slice (some ⟨L5, 0, none⟩) n n)).setCell ⟨Z, 10, none⟩ (.int .i64 0)).setCell ⟨Z, 11, none⟩ (.int .i64 0)).setCell ⟨Z, 12, none⟩ (.slice (some ⟨K5, 0, none⟩) n n)).setCell ⟨Z, 13, none⟩ (.bool false)))) := by
  have hH : ∀ {p : Prop}, p → Hid p := fun h => h
  have bS : ∀ {W : World} (o : Obj), Below W3.heap.size W3 W → Below W3.heap.size W3 (W.alloc o) := fun o h => h.alloc h.size o
  apply Exists.intro
  apply Exists.intro
  apply Exists.intro
  apply Exists.intro
  apply Exists.intro
  apply And.intro rfl
  apply hH
  apply TNew.mk
  case box => repeat (first | with_reducible exact mem_new _ _ _ (by first | rfl | exact hZ | (simp only [drew_size, alloc_size] <;> omega)) | (with_reducible refine mem_old _ _ _ _ ?_) | with_reducible exact set14 (by repeat (first | with_reducible exact HU5.out | (with_reducible refine mem_old _ _ _ _ ?_))) _ _ _ _ _ _ _ _ _ _ _ _ _ _)
  case bs => rw [HCS.out.1]; repeat (first | with_reducible exact mem_new _ _ _ (by first | rfl | exact hZ | (simp only [drew_size, alloc_size] <;> omega)) | with_reducible exact HR5.bl | with_reducible exact HR5.bk | (with_reducible refine mem_drew _ _ _ ?_) | (with_reducible refine mem_old _ _ _ _ ?_) | (with_reducible refine mem_set14 (by repeat (first | with_reducible exact HU5.out | (with_reducible refine mem_old _ _ _ _ ?_))) _ _ _ _ _ _ _ _ _ _ _ _ _ _ ?_ (by decide)) | (with_reducible refine mem_bel HR5.bel _ _ ?_))
  case bh => rw [HCS.out.2]; repeat (first | with_reducible exact mem_new _ _ _ (by first | rfl | exact hZ | (simp only [drew_size, alloc_size] <;> omega)) | with_reducible exact HR5.bl | with_reducible exact HR5.bk | (with_reducible refine mem_drew _ _ _ ?_) | (with_reducible refine mem_old _ _ _ _ ?_) | (with_reducible refine mem_set14 (by repeat (first | with_reducible exact HU5.out | (with_reducible refine mem_old _ _ _ _ ?_))) _ _ _ _ _ _ _ _ _ _ _ _ _ _ ?_ (by decide)) | (with_reducible refine mem_bel HR5.bel _ _ ?_))
  case bl => repeat (first | with_reducible exact mem_new _ _ _ (by first | rfl | exact hZ | (simp only [drew_size, alloc_size] <;> omega)) | with_reducible exact HR5.bl | with_reducible exact HR5.bk | (with_reducible refine mem_drew _ _ _ ?_) | (with_reducible refine mem_old _ _ _ _ ?_) | (with_reducible refine mem_set14 (by repeat (first | with_reducible exact HU5.out | (with_reducible refine mem_old _ _ _ _ ?_))) _ _ _ _ _ _ _ _ _ _ _ _ _ _ ?_ (by decide)) | (with_reducible refine mem_bel HR5.bel _ _ ?_))
  case bk => repeat (first | with_reducible exact mem_new _ _ _ (by first | rfl | exact hZ | (simp only [drew_size, alloc_size] <;> omega)) | with_reducible exact HR5.bl | with_reducible exact HR5.bk | (with_reducible refine mem_drew _ _ _ ?_) | (with_reducible refine mem_old _ _ _ _ ?_) | (with_reducible refine mem_set14 (by repeat (first | with_reducible exact HU5.out | (with_reducible refine mem_old _ _ _ _ ?_))) _ _ _ _ _ _ _ _ _ _ _ _ _ _ ?_ (by decide)) | (with_reducible refine mem_bel HR5.bel _ _ ?_))
  case ne =>
    have l1 := lt16 HR5.bk
    have l2 := HR5.lo.2
    try simp only [drew_size, alloc_size, hZ] at l2
    omega
  case lo =>
    have l1 := HB5.out.size
    have l2 := HR5.lo
    try simp only [drew_size, alloc_size, hZ] at l1 l2
    omega
  case bel => repeat (first | with_reducible exact HB5.out | (with_reducible refine bS _ ?_) | (with_reducible refine bel_set14 ?_ (by omega) _ _ _ _ _ _ _ _ _ _ _ _ _ _))

set_option maxHeartbeats 1000000 in
theorem trace_leaf19 {n n1 n2 nc nh Z c1 c2 cc ck ch L5 K5 : Nat} {PA RE : Int} {x1 x2 xc xk xh : Option Addr} {W3 w5 : World} {CS CB : Array Value} (HCS : Hid (madeCells #[.int .i64 0, .slice none 0 0] (n * 2) = CS ∧ madeCells #[.bool false] (n * 1) = CB)) (hZ : W3.heap.size = Z) (HR5 : RingNew n L5 K5 ((W3.alloc (.cells #[.slice none 0 0, .slice none 0 0, .int .i64 0, .int .i64 0, .slice none 0 0, .slice none 0 0, .slice none 0 0, .slice none 0 0, .slice none 0 0, .slice none 0 0, .int .i64 0, .int .i64 0, .slice none 0 0, .bool false] 123)).alloc (.cells CS 26)).drew w5) (HB5 : Hid (Below W3.heap.size W3 w5)) (HU5 : Hid (w5.heap[Z]? = some (.cells #[.slice none 0 0, .slice none 0 0, .int .i64 0, .int .i64 0, .slice none 0 0, .slice none 0 0, .slice none 0 0, .slice none 0 0, .slice none 0 0, .slice none 0 0, .int .i64 0, .int .i64 0, .slice none 0 0, .bool false] 123 (0, 0)))) :
    ∃ (X S H L K : Nat), Value.pointer (some ⟨Z, 0, none⟩) = .pointer (some ⟨X, 0, none⟩) ∧ Hid (TNew X S H L K n Z (.slice x1 n1 c1) (.slice x2 n2 c2) PA RE (.slice xc nc cc) (.slice xk n ck) (.slice xh nh ch) W3 ((((((((((((((((w5.alloc (.cells CB 4)).setCell ⟨Z, 0, none⟩ (.slice x1 n1 c1)).setCell ⟨Z, 1, none⟩ (.slice x2 n2 c2)).setCell ⟨Z, 2, none⟩ (.int .i64 PA)).setCell ⟨Z, 3, none⟩ (.int .i64 RE)).setCell ⟨Z, 4, none⟩ (.slice xc nc cc)).setCell ⟨Z, 5, none⟩ (.slice xk n ck)).setCell ⟨Z, 6, none⟩ (.slice xh nh ch)).setCell ⟨Z, 7, none⟩ (.slice (some ⟨Z + 1, 0, none⟩) n n)).setCell ⟨Z, 8, none⟩ (.slice (some ⟨w5.heap.size, 0, none⟩) n n)).setCell ⟨Z, 9, none⟩ (.slice (some ⟨L5, 0, none⟩) n n)).setCell ⟨Z, 10, none⟩ (.int .i64 0)).setCell ⟨Z, 11, none⟩ (.int .i64 0)).setCell ⟨Z, 12, none⟩ (.slice (some ⟨K5, 0, none⟩) n n)).setCell ⟨Z, 13, none⟩ (.bool false)))) := by
  have hH : ∀ {p : Prop}, p → Hid p := fun h => h
  have bS : ∀ {W : World} (o : Obj), Below W3.heap.size W3 W → Below W3.heap.size W3 (W.alloc o) := fun o h => h.alloc h.size o
  apply Exists.intro
  apply Exists.intro
  apply Exists.intro
  apply Exists.intro
  apply Exists.intro
  apply And.intro rfl
  apply hH
  apply TNew.mk
  case box => repeat (first | with_reducible exact mem_new _ _ _ (by first | rfl | exact hZ | (simp only [drew_size, alloc_size] <;> omega)) | (with_reducible refine mem_old _ _ _ _ ?_) | with_reducible exact set14 (by repeat (first | with_reducible exact HU5.out | (with_reducible refine mem_old _ _ _ _ ?_))) _ _ _ _ _ _ _ _ _ _ _ _ _ _)
  case bs => rw [HCS.out.1]; repeat (first | with_reducible exact mem_new _ _ _ (by first | rfl | exact hZ | (simp only [drew_size, alloc_size] <;> omega)) | with_reducible exact HR5.bl | with_reducible exact HR5.bk | (with_reducible refine mem_drew _ _ _ ?_) | (with_reducible refine mem_old _ _ _ _ ?_) | (with_reducible refine mem_set14 (by repeat (first | with_reducible exact HU5.out | (with_reducible refine mem_old _ _ _ _ ?_))) _ _ _ _ _ _ _ _ _ _ _ _ _ _ ?_ (by decide)) | (with_reducible refine mem_bel HR5.bel _ _ ?_))
  case bh => rw [HCS.out.2]; repeat (first | with_reducible exact mem_new _ _ _ (by first | rfl | exact hZ | (simp only [drew_size, alloc_size] <;> omega)) | with_reducible exact HR5.bl | with_reducible exact HR5.bk | (with_reducible refine mem_drew _ _ _ ?_) | (with_reducible refine mem_old _ _ _ _ ?_) | (with_reducible refine mem_set14 (by repeat (first | with_reducible exact HU5.out | (with_reducible refine mem_old _ _ _ _ ?_))) _ _ _ _ _ _ _ _ _ _ _ _ _ _ ?_ (by decide)) | (with_reducible refine mem_bel HR5.bel _ _ ?_))
  case bl => repeat (first | with_reducible exact mem_new _ _ _ (by first | rfl | exact hZ | (simp only [drew_size, alloc_size] <;> omega)) | with_reducible exact HR5.bl | with_reducible exact HR5.bk | (with_reducible refine mem_drew _ _ _ ?_) | (with_reducible refine mem_old _ _ _ _ ?_) | (with_reducible refine mem_set14 (by repeat (first | with_reducible exact HU5.out | (with_reducible refine mem_old _ _ _ _ ?_))) _ _ _ _ _ _ _ _ _ _ _ _ _ _ ?_ (by decide)) | (with_reducible refine mem_bel HR5.bel _ _ ?_))
  case bk => repeat (first | with_reducible exact mem_new _ _ _ (by first | rfl | exact hZ | (simp only [drew_size, alloc_size] <;> omega)) | with_reducible exact HR5.bl | with_reducible exact HR5.bk | (with_reducible refine mem_drew _ _ _ ?_) | (with_reducible refine mem_old _ _ _ _ ?_) | (with_reducible refine mem_set14 (by repeat (first | with_reducible exact HU5.out | (with_reducible refine mem_old _ _ _ _ ?_))) _ _ _ _ _ _ _ _ _ _ _ _ _ _ ?_ (by decide)) | (with_reducible refine mem_bel HR5.bel _ _ ?_))
  case ne =>
    have l1 := lt16 HR5.bk
    have l2 := HR5.lo.2
    try simp only [drew_size, alloc_size, hZ] at l2
    omega
  case lo =>
    have l1 := HB5.out.size
    have l2 := HR5.lo
    try simp only [drew_size, alloc_size, hZ] at l1 l2
    omega
  case bel => repeat (first | with_reducible exact HB5.out | (with_reducible refine bS _ ?_) | (with_reducible refine bel_set14 ?_ (by omega) _ _ _ _ _ _ _ _ _ _ _ _ _ _))

set_option maxHeartbeats 1000000 in
theorem trace_leaf20 {n n1 n2 nc nh Z c1 c2 cc ck ch L5 K5 : Nat} {PA RE : Int} {x1 x2 xc xk xh : Option Addr} {W3 w5 : World} {CS CB : Array Value} (HCS : Hid (madeCells #[.int .i64 0, .slice none 0 0] (n * 2) = CS ∧ madeCells #[.bool false] (n * 1) = CB)) (hZ : W3.heap.size = Z) (HR5 : RingNew n L5 K5 (((W3.alloc (.cells #[.slice none 0 0, .slice none 0 0, .int .i64 0, .int .i64 0, .slice none 0 0, .slice none 0 0, .slice none 0 0, .slice none 0 0, .slice none 0 0, .slice none 0 0, .int .i64 0, .int .i64 0, .slice none 0 0, .bool false] 123)).alloc (.cells CB 4)).alloc (.cells CS 26)).drew w5) (HB5 : Hid (Below W3.heap.size W3 w5)) (HU5 : Hid (w5.heap[Z]? = some (.cells #[.slice none 0 0, .slice none 0 0, .int .i64 0, .int .i64 0, .slice none 0 0, .slice none 0 0, .slice none 0 0, .slice none 0 0, .slice none 0 0, .slice none 0 0, .int .i64 0, .int .i64 0, .slice none 0 0, .bool false] 123 (0, 0)))) :
    ∃ (X S H L K : Nat), Value.pointer (some ⟨Z, 0, none⟩) = .pointer (some ⟨X, 0, none⟩) ∧ Hid (TNew X S H L K n Z (.slice x1 n1 c1) (.slice x2 n2 c2) PA RE (.slice xc nc cc) (.slice xk n ck) (.slice xh nh ch) W3 (((((((((((((((w5.setCell ⟨Z, 0, none⟩ (.slice x1 n1 c1)).setCell ⟨Z, 1, none⟩ (.slice x2 n2 c2)).setCell ⟨Z, 2, none⟩ (.int .i64 PA)).setCell ⟨Z, 3, none⟩ (.int .i64 RE)).setCell ⟨Z, 4, none⟩ (.slice xc nc cc)).setCell ⟨Z, 5, none⟩ (.slice xk n ck)).setCell ⟨Z, 6, none⟩ (.slice xh nh ch)).setCell ⟨Z, 7, none⟩ (.slice (some ⟨Z + 1 + 1, 0, none⟩) n n)).setCell ⟨Z, 8, none⟩ (.slice (some ⟨Z + 1, 0, none⟩) n n)).setCell ⟨Z, 9, none⟩ (.slice (some ⟨L5, 0, none⟩) n n)).setCell ⟨Z, 10, none⟩ (.int .i64 0)).setCell ⟨Z, 11, none⟩ (.int .i64 0)).setCell ⟨Z, 12, none⟩ (.slice (some ⟨K5, 0, none⟩) n n)).setCell ⟨Z, 13, none⟩ (.bool false)))) := by
  have hH : ∀ {p : Prop}, p → Hid p := fun h => h
  have bS : ∀ {W : World} (o : Obj), Below W3.heap.size W3 W → Below W3.heap.size W3 (W.alloc o) := fun o h => h.alloc h.size o
  apply Exists.intro
  apply Exists.intro
  apply Exists.intro
  apply Exists.intro
  apply Exists.intro
  apply And.intro rfl
  apply hH
  apply TNew.mk
  case box => repeat (first | with_reducible exact mem_new _ _ _ (by first | rfl | exact hZ | (simp only [drew_size, alloc_size] <;> omega)) | (with_reducible refine mem_old _ _ _ _ ?_) | with_reducible exact set14 (by repeat (first | with_reducible exact HU5.out | (with_reducible refine mem_old _ _ _ _ ?_))) _ _ _ _ _ _ _ _ _ _ _ _ _ _)
  case bs => rw [HCS.out.1]; repeat (first | with_reducible exact mem_new _ _ _ (by first | rfl | exact hZ | (simp only [drew_size, alloc_size] <;> omega)) | with_reducible exact HR5.bl | with_reducible exact HR5.bk | (with_reducible refine mem_drew _ _ _ ?_) | (with_reducible refine mem_old _ _ _ _ ?_) | (with_reducible refine mem_set14 (by repeat (first | with_reducible exact HU5.out | (with_reducible refine mem_old _ _ _ _ ?_))) _ _ _ _ _ _ _ _ _ _ _ _ _ _ ?_ (by decide)) | (with_reducible refine mem_bel HR5.bel _ _ ?_))
  case bh => rw [HCS.out.2]; repeat (first | with_reducible exact mem_new _ _ _ (by first | rfl | exact hZ | (simp only [drew_size, alloc_size] <;> omega)) | with_reducible exact HR5.bl | with_reducible exact HR5.bk | (with_reducible refine mem_drew _ _ _ ?_) | (with_reducible refine mem_old _ _ _ _ ?_) | (with_reducible refine mem_set14 (by repeat (first | with_reducible exact HU5.out | (with_reducible refine mem_old _ _ _ _ ?_))) _ _ _ _ _ _ _ _ _ _ _ _ _ _ ?_ (by decide)) | (with_reducible refine mem_bel HR5.bel _ _ ?_))
  case bl => repeat (first | with_reducible exact mem_new _ _ _ (by first | rfl | exact hZ | (simp only [drew_size, alloc_size] <;> omega)) | with_reducible exact HR5.bl | with_reducible exact HR5.bk | (with_reducible refine mem_drew _ _ _ ?_) | (with_reducible refine mem_old _ _ _ _ ?_) | (with_reducible refine mem_set14 (by repeat (first | with_reducible exact HU5.out | (with_reducible refine mem_old _ _ _ _ ?_))) _ _ _ _ _ _ _ _ _ _ _ _ _ _ ?_ (by decide)) | (with_reducible refine mem_bel HR5.bel _ _ ?_))
  case bk => repeat (first | with_reducible exact mem_new _ _ _ (by first | rfl | exact hZ | (simp only [drew_size, alloc_size] <;> omega)) | with_reducible exact HR5.bl | with_reducible exact HR5.bk | (with_reducible refine mem_drew _ _ _ ?_) | (with_reducible refine mem_old _ _ _ _ ?_) | (with_reducible refine mem_set14 (by repeat (first | with_reducible exact HU5.out | (with_reducible refine mem_old _ _ _ _ ?_))) _ _ _ _ _ _ _ _ _ _ _ _ _ _ ?_ (by decide)) | (with_reducible refine mem_bel HR5.bel _ _ ?_))
  case ne =>
    have l1 := lt16 HR5.bk
    have l2 := HR5.lo.2
    try simp only [drew_size, alloc_size, hZ] at l2
    omega
  case lo =>
    have l1 := HB5.out.size
    have l2 := HR5.lo
    try simp only [drew_size, alloc_size, hZ] at l1 l2
    omega
  case bel => repeat (first | with_reducible exact HB5.out | (with_reducible refine bS _ ?_) | (with_reducible refine bel_set14 ?_ (by omega) _ _ _ _ _ _ _ _ _ _ _ _ _ _))

set_option maxHeartbeats 1000000 in
theorem trace_leaf21 {n n1 n2 nc nh Z c1 c2 cc ck ch L5 K5 : Nat} {PA RE : Int} {x1 x2 xc xk xh : Option Addr} {W3 w5 : World} {CS CB : Array Value} (HCS : Hid (madeCells #[.int .i64 0, .slice none 0 0] (n * 2) = CS ∧ madeCells #[.bool false] (n * 1) = CB)) (hZ : W3.heap.size = Z) (HR5 : RingNew n L5 K5 ((W3.alloc (.cells #[.slice none 0 0, .slice none 0 0, .int .i64 0, .int .i64 0, .slice none 0 0, .slice none 0 0, .slice none 0 0, .slice none 0 0, .slice none 0 0, .slice none 0 0, .int .i64 0, .int .i64 0, .slice none 0 0, .bool false] 123)).alloc (.cells CB 4)).drew w5) (HB5 : Hid (Below W3.heap.size W3 w5)) (HU5 : Hid (w5.heap[Z]? = some (.cells #[.slice none 0 0, .slice none 0 0, .int .i64 0, .int .i64 0, .slice none 0 0, .slice none 0 0, .slice none 0 0, .slice none 0 0, .slice none 0 0, .slice none 0 0, .int .i64 0, .int .i64 0, .slice none 0 0, .bool false] 123 (0, 0)))) :
    ∃ (X S H L K : Nat), Value.pointer (some ⟨Z, 0, none⟩) = .pointer (some ⟨X, 0, none⟩) ∧ Hid (TNew X S H L K n Z (.slice x1 n1 c1) (.slice x2 n2 c2) PA RE (.slice xc nc cc) (.slice xk n ck) (.slice xh nh ch) W3 ((((((((((((((((w5.alloc (.cells CS 26)).setCell ⟨Z, 0, none⟩ (.slice x1 n1 c1)).setCell ⟨Z, 1, none⟩ (.slice x2 n2 c2)).setCell ⟨Z, 2, none⟩ (.int .i64 PA)).setCell ⟨Z, 3, none⟩ (.int .i64 RE)).setCell ⟨Z, 4, none⟩ (.slice xc nc cc)).setCell ⟨Z, 5, none⟩ (.slice xk n ck)).setCell ⟨Z, 6, none⟩ (.slice xh nh ch)).setCell ⟨Z, 7, none⟩ (.slice (some ⟨w5.heap.size, 0, none⟩) n n)).setCell ⟨Z, 8, none⟩ (.slice (some ⟨Z + 1, 0, none⟩) n n)).setCell ⟨Z, 9, none⟩ (.slice (some ⟨L5, 0, none⟩) n n)).setCell ⟨Z, 10, none⟩ (.int .i64 0)).setCell ⟨Z, 11, none⟩ (.int .i64 0)).setCell ⟨Z, 12, none⟩ (.slice (some ⟨K5, 0, none⟩) n n)).setCell ⟨Z, 13, none⟩ (.bool false)))) := by
  have hH : ∀ {p : Prop}, p → Hid p := fun h => h
  have bS : ∀ {W : World} (o : Obj), Below W3.heap.size W3 W → Below W3.heap.size W3 (W.alloc o) := fun o h => h.alloc h.size o
  apply Exists.intro
  apply Exists.intro
  apply Exists.intro
  apply Exists.intro
  apply Exists.intro
  apply And.intro rfl
  apply hH
  apply TNew.mk
  case box => repeat (first | with_reducible exact mem_new _ _ _ (by first | rfl | exact hZ | (simp only [drew_size, alloc_size] <;> omega)) | (with_reducible refine mem_old _ _ _ _ ?_) | with_reducible exact set14 (by repeat (first | with_reducible exact HU5.out | (with_reducible refine mem_old _ _ _ _ ?_))) _ _ _ _ _ _ _ _ _ _ _ _ _ _)
  case bs => rw [HCS.out.1]; repeat (first | with_reducible exact mem_new _ _ _ (by first | rfl | exact hZ | (simp only [drew_size, alloc_size] <;> omega)) | with_reducible exact HR5.bl | with_reducible exact HR5.bk | (with_reducible refine mem_drew _ _ _ ?_) | (with_reducible refine mem_old _ _ _ _ ?_) | (with_reducible refine mem_set14 (by repeat (first | with_reducible exact HU5.out | (with_reducible refine mem_old _ _ _ _ ?_))) _ _ _ _ _ _ _ _ _ _ _ _ _ _ ?_ (by decide)) | (with_reducible refine mem_bel HR5.bel _ _ ?_))
  case bh => rw [HCS.out.2]; repeat (first | with_reducible exact mem_new _ _ _ (by first | rfl | exact hZ | (simp only [drew_size, alloc_size] <;> omega)) | with_reducible exact HR5.bl | with_reducible exact HR5.bk | (with_reducible refine mem_drew _ _ _ ?_) | (with_reducible refine mem_old _ _ _ _ ?_) | (with_reducible refine mem_set14 (by repeat (first | with_reducible exact HU5.out | (with_reducible refine mem_old _ _ _ _ ?_))) _ _ _ _ _ _ _ _ _ _ _ _ _ _ ?_ (by decide)) | (with_reducible refine mem_bel HR5.bel _ _ ?_))
  case bl => repeat (first | with_reducible exact mem_new _ _ _ (by first | rfl | exact hZ | (simp only [drew_size, alloc_size] <;> omega)) | with_reducible exact HR5.bl | with_reducible exact HR5.bk | (with_reducible refine mem_drew _ _ _ ?_) | (with_reducible refine mem_old _ _ _ _ ?_) | (with_reducible refine mem_set14 (by repeat (first | with_reducible exact HU5.out | (with_reducible refine mem_old _ _ _ _ ?_))) _ _ _ _ _ _ _ _ _ _ _ _ _ _ ?_ (by decide)) | (with_reducible refine mem_bel HR5.bel _ _ ?_))
  case bk => repeat (first | with_reducible exact mem_new _ _ _ (by first | rfl | exact hZ | (simp only [drew_size, alloc_size] <;> omega)) | with_reducible exact HR5.bl | with_reducible exact HR5.bk | (with_reducible refine mem_drew _ _ _ ?_) | (with_reducible refine mem_old _ _ _ _ ?_) | (with_reducible refine mem_set14 (by repeat (first | with_reducible exact HU5.out | (with_reducible refine mem_old _ _ _ _ ?_))) _ _ _ _ _ _ _ _ _ _ _ _ _ _ ?_ (by decide)) | (with_reducible refine mem_bel HR5.bel _ _ ?_))
  case ne =>
    have l1 := lt16 HR5.bk
    have l2 := HR5.lo.2
    try simp only [drew_size, alloc_size, hZ] at l2
    omega
  case lo =>
    have l1 := HB5.out.size
    have l2 := HR5.lo
    try simp only [drew_size, alloc_size, hZ] at l1 l2
    omega
  case bel => repeat (first | with_reducible exact HB5.out | (with_reducible refine bS _ ?_) | (with_reducible refine bel_set14 ?_ (by omega) _ _ _ _ _ _ _ _ _ _ _ _ _ _))

set_option maxHeartbeats 1000000 in
theorem trace_leaf22 {n n1 n2 nc nh Z c1 c2 cc ck ch L5 K5 : Nat} {PA RE : Int} {x1 x2 xc xk xh : Option Addr} {W3 w5 : World} {CS CB : Array Value} (HCS : Hid (madeCells #[.int .i64 0, .slice none 0 0] (n * 2) = CS ∧ madeCells #[.bool false] (n * 1) = CB)) (hZ : W3.heap.size = Z) (HR5 : RingNew n L5 K5 (W3.alloc (.cells #[.slice none 0 0, .slice none 0 0, .int .i64 0, .int .i64 0, .slice none 0 0, .slice none 0 0, .slice none 0 0, .slice none 0 0, .slice none 0 0, .slice none 0 0, .int .i64 0, .int .i64 0, .slice none 0 0, .bool false] 123)).drew w5) (HB5 : Hid (Below W3.heap.size W3 w5)) (HU5 : Hid (w5.heap[Z]? = some (.cells #[.slice none 0 0, .slice none 0 0, .int .i64 0, .int .i64 0, .slice none 0 0, .slice none 0 0, .slice none 0 0, .slice none 0 0, .slice none 0 0, .slice none 0 0, .int .i64 0, .int .i64 0, .slice none 0 0, .bool false] 123 (0, 0)))) :
    ∃ (X S H L K : Nat), Value.pointer (some ⟨Z, 0, none⟩) = .pointer (some ⟨X, 0, none⟩) ∧ Hid (TNew X S H L K n Z (.slice x1 n1 c1) (.slice x2 n2 c2) PA RE (.slice xc nc cc) (.slice xk n ck) (.slice xh nh ch) W3 (((((((((((((((((w5.alloc (.cells CS 26)).alloc (.cells CB 4)).setCell ⟨Z, 0, none⟩ (.slice x1 n1 c1)).setCell ⟨Z, 1, none⟩ (.slice x2 n2 c2)).setCell ⟨Z, 2, none⟩ (.int .i64 PA)).setCell ⟨Z, 3, none⟩ (.int .i64 RE)).setCell ⟨Z, 4, none⟩ (.slice xc nc cc)).setCell ⟨Z, 5, none⟩ (.slice xk n ck)).setCell ⟨Z, 6, none⟩ (.slice xh nh ch)).setCell ⟨Z, 7, none⟩ (.slice (some ⟨w5.heap.size, 0, none⟩) n n)).setCell ⟨Z, 8, none⟩ (.slice (some ⟨w5.heap.size + 1, 0, none⟩) n n)).setCell ⟨Z, 9, none⟩ (.slice (some ⟨L5, 0, none⟩) n n)).setCell ⟨Z, 10, none⟩ (.int .i64 0)).setCell ⟨Z, 11, none⟩ (.int .i64 0)).setCell ⟨Z, 12, none⟩ (.slice (some ⟨K5, 0, none⟩) n n)).setCell ⟨Z, 13, none⟩ (.bool false)))) := by
  have hH : ∀ {p : Prop}, p → Hid p := fun h => h
  have bS : ∀ {W : World} (o : Obj), Below W3.heap.size W3 W → Below W3.heap.size W3 (W.alloc o) := fun o h => h.alloc h.size o
  apply Exists.intro
  apply Exists.intro
  apply Exists.intro
  apply Exists.intro
  apply Exists.intro
  apply And.intro rfl
  apply hH
  apply TNew.mk
  case box => repeat (first | with_reducible exact mem_new _ _ _ (by first | rfl | exact hZ | (simp only [drew_size, alloc_size] <;> omega)) | (with_reducible refine mem_old _ _ _ _ ?_) | with_reducible exact set14 (by repeat (first | with_reducible exact HU5.out | (with_reducible refine mem_old _ _ _ _ ?_))) _ _ _ _ _ _ _ _ _ _ _ _ _ _)
  case bs => rw [HCS.out.1]; repeat (first | with_reducible exact mem_new _ _ _ (by first | rfl | exact hZ | (simp only [drew_size, alloc_size] <;> omega)) | with_reducible exact HR5.bl | with_reducible exact HR5.bk | (with_reducible refine mem_drew _ _ _ ?_) | (with_reducible refine mem_old _ _ _ _ ?_) | (with_reducible refine mem_set14 (by repeat (first | with_reducible exact HU5.out | (with_reducible refine mem_old _ _ _ _ ?_))) _ _ _ _ _ _ _ _ _ _ _ _ _ _ ?_ (by decide)) | (with_reducible refine mem_bel HR5.bel _ _ ?_))
  case bh => rw [HCS.out.2]; repeat (first | with_reducible exact mem_new _ _ _ (by first | rfl | exact hZ | (simp only [drew_size, alloc_size] <;> omega)) | with_reducible exact HR5.bl | with_reducible exact HR5.bk | (with_reducible refine mem_drew _ _ _ ?_) | (with_reducible refine mem_old _ _ _ _ ?_) | (with_reducible refine mem_set14 (by repeat (first | with_reducible exact HU5.out | (with_reducible refine mem_old _ _ _ _ ?_))) _ _ _ _ _ _ _ _ _ _ _ _ _ _ ?_ (by decide)) | (with_reducible refine mem_bel HR5.bel _ _ ?_))
  case bl => repeat (first | with_reducible exact mem_new _ _ _ (by first | rfl | exact hZ | (simp only [drew_size, alloc_size] <;> omega)) | with_reducible exact HR5.bl | with_reducible exact HR5.bk | (with_reducible refine mem_drew _ _ _ ?_) | (with_reducible refine mem_old _ _ _ _ ?_) | (with_reducible refine mem_set14 (by repeat (first | with_reducible exact HU5.out | (with_reducible refine mem_old _ _ _ _ ?_))) _ _ _ _ _ _ _ _ _ _ _ _ _ _ ?_ (by decide)) | (with_reducible refine mem_bel HR5.bel _ _ ?_))
  case bk => repeat (first | with_reducible exact mem_new _ _ _ (by first | rfl | exact hZ | (simp only [drew_size, alloc_size] <;> omega)) | with_reducible exact HR5.bl | with_reducible exact HR5.bk | (with_reducible refine mem_drew _ _ _ ?_) | (with_reducible refine mem_old _ _ _ _ ?_) | (with_reducible refine mem_set14 (by repeat (first | with_reducible exact HU5.out | (with_reducible refine mem_old _ _ _ _ ?_))) _ _ _ _ _ _ _ _ _ _ _ _ _ _ ?_ (by decide)) | (with_reducible refine mem_bel HR5.bel _ _ ?_))
  case ne =>
    have l1 := lt16 HR5.bk
    have l2 := HR5.lo.2
    try simp only [drew_size, alloc_size, hZ] at l2
    omega
  case lo =>
    have l1 := HB5.out.size
    have l2 := HR5.lo
    try simp only [drew_size, alloc_size, hZ] at l1 l2
    omega
  case bel => repeat (first | with_reducible exact HB5.out | (with_reducible refine bS _ ?_) | (with_reducible refine bel_set14 ?_ (by omega) _ _ _ _ _ _ _ _ _ _ _ _ _ _))

set_option maxHeartbeats 1000000 in
theorem trace_leaf23 {n n1 n2 nc nh Z c1 c2 cc ck ch L5 K5 : Nat} {PA RE : Int} {x1 x2 xc xk xh : Option Addr} {W3 w5 : World} {CS CB : Array Value} (HCS : Hid (madeCells #[.int .i64 0, .slice none 0 0] (n * 2) = CS ∧ madeCells #[.bool false] (n * 1) = CB)) (hZ : W3.heap.size = Z) (HR5 : RingNew n L5 K5 (W3.alloc (.cells #[.slice none 0 0, .slice none 0 0, .int .i64 0, .int .i64 0, .slice none 0 0, .slice none 0 0, .slice none 0 0, .slice none 0 0, .slice none 0 0, .slice none 0 0, .int .i64 0, .int .i64 0, .slice none 0 0, .bool false] 123)).drew w5) (HB5 : Hid (Below W3.heap.size W3 w5)) (HU5 : Hid (w5.heap[Z]? = some (.cells #[.slice none 0 0, .slice none 0 0, .int .i64 0, .int .i64 0, .slice none 0 0, .slice none 0 0, .slice none 0 0, .slice none 0 0, .slice none 0 0, .slice none 0 0, .int .i64 0, .int .i64 0, .slice none 0 0, .bool false] 123 (0, 0)))) :
    ∃ (X S H L K : Nat), Value.pointer (some ⟨Z, 0, none⟩) = .pointer (some ⟨X, 0, none⟩) ∧ Hid (TNew X S H L K n Z (.slice x1 n1 c1) (.slice x2 n2 c2) PA RE (.slice xc nc cc) (.slice xk n ck) (.slice xh nh ch) W3 (((((((((((((((((w5.alloc (.cells CB 4)).alloc (.cells CS 26)).setCell ⟨Z, 0, none⟩ (.slice x1 n1 c1)).setCell ⟨Z, 1, none⟩ (.slice x2 n2 c2)).setCell ⟨Z, 2, none⟩ (.int .i64 PA)).setCell ⟨Z, 3, none⟩ (.int .i64 RE)).setCell ⟨Z, 4, none⟩ (.slice xc nc cc)).setCell ⟨Z, 5, none⟩ (.slice xk n ck)).setCell ⟨Z, 6, none⟩ (.slice xh nh ch)).setCell ⟨Z, 7, none⟩ (.slice (some ⟨w5.heap.size + 1, 0, none⟩) n n)).setCell ⟨Z, 8, none⟩ (.slice (some ⟨w5.heap.size, 0, none⟩) n n)).setCell ⟨Z, 9, none⟩ (.slice (some ⟨L5, 0, none⟩) n n)).setCell ⟨Z, 10, none⟩ (.int .i64 0)).setCell ⟨Z, 11, none⟩ (.int .i64 0)).setCell ⟨Z, 12, none⟩ (.slice (some ⟨K5, 0, none⟩) n n)).setCell ⟨Z, 13, none⟩ (.bool false)))) := by
  have hH : ∀ {p : Prop}, p → Hid p := fun h => h
  have bS : ∀ {W : World} (o : Obj), Below W3.heap.size W3 W → Below W3.heap.size W3 (W.alloc o) := fun o h => h.alloc h.size o
  apply Exists.intro
  apply Exists.intro
  apply Exists.intro
  apply Exists.intro
  apply Exists.intro
  apply And.intro rfl
  apply hH
  apply TNew.mk
  case box => repeat (first | with_reducible exact mem_new _ _ _ (by first | rfl | exact hZ | (simp only [drew_size, alloc_size] <;> omega)) | (with_reducible refine mem_old _ _ _ _ ?_) | with_reducible exact set14 (by repeat (first | with_reducible exact HU5.out | (with_reducible refine mem_old _ _ _ _ ?_))) _ _ _ _ _ _ _ _ _ _ _ _ _ _)
  case bs => rw [HCS.out.1]; repeat (first | with_reducible exact mem_new _ _ _ (by first | rfl | exact hZ | (simp only [drew_size, alloc_size] <;> omega)) | with_reducible exact HR5.bl | with_reducible exact HR5.bk | (with_reducible refine mem_drew _ _ _ ?_) | (with_reducible refine mem_old _ _ _ _ ?_) | (with_reducible refine mem_set14 (by repeat (first | with_reducible exact HU5.out | (with_reducible refine mem_old _ _ _ _ ?_))) _ _ _ _ _ _ _ _ _ _ _ _ _ _ ?_ (by decide)) | (with_reducible refine mem_bel HR5.bel _ _ ?_))
  case bh => rw [HCS.out.2]; repeat (first | with_reducible exact mem_new _ _ _ (by first | rfl | exact hZ | (simp only [drew_size, alloc_size] <;> omega)) | with_reducible exact HR5.bl | with_reducible exact HR5.bk | (with_reducible refine mem_drew _ _ _ ?_) | (with_reducible refine mem_old _ _ _ _ ?_) | (with_reducible refine mem_set14 (by repeat (first | with_reducible exact HU5.out | (with_reducible refine mem_old _ _ _ _ ?_))) _ _ _ _ _ _ _ _ _ _ _ _ _ _ ?_ (by decide)) | (with_reducible refine mem_bel HR5.bel _ _ ?_))
  case bl => repeat (first | with_reducible exact mem_new _ _ _ (by first | rfl | exact hZ | (simp only [drew_size, alloc_size] <;> omega)) | with_reducible exact HR5.bl | with_reducible exact HR5.bk | (with_reducible refine mem_drew _ _ _ ?_) | (with_reducible refine mem_old _ _ _ _ ?_) | (with_reducible refine mem_set14 (by repeat (first | with_reducible exact HU5.out | (with_reducible refine mem_old _ _ _ _ ?_))) _ _ _ _ _ _ _ _ _ _ _ _ _ _ ?_ (by decide)) | (with_reducible refine mem_bel HR5.bel _ _ ?_))
  case bk => repeat (first | with_reducible exact mem_new _ _ _ (by first | rfl | exact hZ | (simp only [drew_size, alloc_size] <;> omega)) | with_reducible exact HR5.bl | with_reducible exact HR5.bk | (with_reducible refine mem_drew _ _ _ ?_) | (with_reducible refine mem_old _ _ _ _ ?_) | (with_reducible refine mem_set14 (by repeat (first | with_reducible exact HU5.out | (with_reducible refine mem_old _ _ _ _ ?_))) _ _ _ _ _ _ _ _ _ _ _ _ _ _ ?_ (by decide)) | (with_reducible refine mem_bel HR5.bel _ _ ?_))
  case ne =>
    have l1 := lt16 HR5.bk
    have l2 := HR5.lo.2
    try simp only [drew_size, alloc_size, hZ] at l2
    omega
  case lo =>
    have l1 := HB5.out.size
    have l2 := HR5.lo
    try simp only [drew_size, alloc_size, hZ] at l1 l2
    omega
  case bel => repeat (first | with_reducible exact HB5.out | (with_reducible refine bS _ ?_) | (with_reducible refine bel_set14 ?_ (by omega) _ _ _ _ _ _ _ _ _ _ _ _ _ _))


end Go.Proofs.Ytlplljgcgohonaa
