/-
  Part 18 of what is proved of drawn right trees.
-/
import Derived.Test.YtbgdapdenbldmaaPap
import Derived.Test.YtbgdapdenbldmaaPaq
import Derived.Deep.RegionHeldLaw

namespace Go.Proofs.Ytbgdapdenbldmaa
open Go.RowKit Go.Sort
set_option linter.unusedVariables false
set_option linter.unusedSimpArgs false
structure TNew (X S H L K n Z : Nat) (fv cv : Value) (PA RE : Int) (qc qk qh : Value) (W3 wr : World) : Prop where
  box : wr.heap[X]? = some (.cells #[fv, cv, .int .i64 PA, .int .i64 RE, qc, qk, qh, .slice (some ⟨S, 0, none⟩) n n, .slice (some ⟨H, 0, none⟩) n n, .slice (some ⟨L, 0, none⟩) n n, .int .i64 0, .int .i64 0, .slice (some ⟨K, 0, none⟩) n n, .bool false] 107 (0, 0))
  bs : wr.heap[S]? = some (.cells (madeCells #[.int .i64 0, .slice none 0 0] (n * 2)) 98 (0, 0))
  bh : wr.heap[H]? = some (.cells (madeCells #[.bool false] (n * 1)) 4 (0, 0))
  bl : wr.heap[L]? = some (.cells (madeCells #[.nilIface] (n * 1)) 20 (0, 0))
  bk : wr.heap[K]? = some (.cells (madeCells #[.bool false] (n * 1)) 4 (0, 0))
  ne : H ≠ K
  lo : Z ≤ X ∧ Z ≤ S ∧ Z ≤ H ∧ Z ≤ L ∧ Z ≤ K
  bel : Below W3.heap.size W3 wr
theorem made_all (z : Value) (n j : Nat) (h : j < n) : (madeCells #[z] (n * 1))[j]? = some z := by
  rw [Nat.mul_one]
  simp [madeCells, h, Nat.mod_one]
theorem TNew.at_ {X S H L K n Z B : Nat} {fv cv : Value} {PA RE : Int} {qc qk qh : Value} {W3 wr : World} (f : PFun) (h : TNew X S H L K n Z fv cv PA RE qc qk qh W3 wr) (hn : f.code.length = n) (h0 : 0 < n) (hB : B ≤ Z) : TAt X S H L K n B fv cv PA RE qc qk qh (noneP f) 0 wr := by
  have ht : (noneP f).todo = [] := rfl
  refine ⟨?_, ⟨_, h.bs, by rw [size_madeCells], fun q s hs => ?_, fun q q' g v v' hne hq hq' hg => ?_⟩, ⟨_, h.bh, by rw [size_madeCells, Nat.mul_one], fun q b hb => ?_⟩, ⟨_, h.bl, by rw [size_madeCells, Nat.mul_one], fun j hj => ?_⟩, ⟨_, h.bk, by rw [size_madeCells, Nat.mul_one], fun q hq => ?_⟩, by simp [noneP, hn], by simp [noneP, hn], h.ne, h0, by rw [ht]; simp, (fun q hq => by rw [ht] at hq; cases hq), by have := h.lo; omega⟩
  · have h1 := h.box
    rw [ht]
    simp only [List.length_nil, Nat.add_zero, Nat.zero_mod]
    exact h1
  · have hs' : (List.replicate f.code.length (PSta.mk 0 []))[q]? = some s := hs
    rw [List.getElem?_replicate] at hs'
    split at hs'
    · rename_i hq
      injection hs' with hs'
      subst hs'
      have hqn : q < n := by omega
      refine ⟨.slice none 0 0, ?_, ?_, ⟨rfl, .inl ⟨rfl, rfl⟩⟩⟩
      · simp [madeCells, show q * 2 < n * 2 by omega]
      · simp [madeCells, show q * 2 + 1 < n * 2 by omega]
    · cases hs'
  · have e : v = .slice none 0 0 := by
      by_cases hq1 : q * 2 + 1 < n * 2
      · simp [madeCells, hq1] at hq
        exact hq.symm
      · simp [madeCells, hq1] at hq
    rw [e] at hg
    cases hg
  · have hb' : (List.replicate f.code.length false)[q]? = some b := hb
    rw [List.getElem?_replicate] at hb'
    split at hb'
    · injection hb' with hb'
      subst hb'
      exact made_all _ n q (by omega)
    · cases hb'
  · rw [ht]
    exact made_all _ n _ (Nat.mod_lt _ h0)
  · rw [ht, made_all _ n q hq]
    simp
theorem cells14 {w : World} {X : Nat} {a0 a1 a2 a3 a4 a5 a6 a7 a8 a9 a10 a11 a12 a13 : Value} {t : TypeId} {r : Nat × Nat} (h : w.heap[X]? = some (.cells #[a0, a1, a2, a3, a4, a5, a6, a7, a8, a9, a10, a11, a12, a13] t r)) : w.cell? ⟨X, 0, none⟩ = some a0 ∧ w.cell? ⟨X, 1, none⟩ = some a1 ∧ w.cell? ⟨X, 2, none⟩ = some a2 ∧ w.cell? ⟨X, 3, none⟩ = some a3 ∧ w.cell? ⟨X, 4, none⟩ = some a4 ∧ w.cell? ⟨X, 5, none⟩ = some a5 ∧ w.cell? ⟨X, 6, none⟩ = some a6 ∧ w.cell? ⟨X, 7, none⟩ = some a7 ∧ w.cell? ⟨X, 8, none⟩ = some a8 ∧ w.cell? ⟨X, 9, none⟩ = some a9 ∧ w.cell? ⟨X, 10, none⟩ = some a10 ∧ w.cell? ⟨X, 11, none⟩ = some a11 ∧ w.cell? ⟨X, 12, none⟩ = some a12 ∧ w.cell? ⟨X, 13, none⟩ = some a13 := by
  refine ⟨?_, ?_, ?_, ?_, ?_, ?_, ?_, ?_, ?_, ?_, ?_, ?_, ?_, ?_⟩ <;> (rw [cell_of_row _ _ _ _ _ _ h]; rfl)
theorem set14 {V : World} {X : Nat} {a0 a1 a2 a3 a4 a5 a6 a7 a8 a9 a10 a11 a12 a13 : Value} {t : TypeId} (h : V.heap[X]? = some (.cells #[a0, a1, a2, a3, a4, a5, a6, a7, a8, a9, a10, a11, a12, a13] t (0, 0))) (b0 b1 b2 b3 b4 b5 b6 b7 b8 b9 b10 b11 b12 b13 : Value) : ((((((((((((((V.setCell ⟨X, 0, none⟩ b0).setCell ⟨X, 1, none⟩ b1).setCell ⟨X, 2, none⟩ b2).setCell ⟨X, 3, none⟩ b3).setCell ⟨X, 4, none⟩ b4).setCell ⟨X, 5, none⟩ b5).setCell ⟨X, 6, none⟩ b6).setCell ⟨X, 7, none⟩ b7).setCell ⟨X, 8, none⟩ b8).setCell ⟨X, 9, none⟩ b9).setCell ⟨X, 10, none⟩ b10).setCell ⟨X, 11, none⟩ b11).setCell ⟨X, 12, none⟩ b12).setCell ⟨X, 13, none⟩ b13).heap[X]? = some (.cells #[b0, b1, b2, b3, b4, b5, b6, b7, b8, b9, b10, b11, b12, b13] t (0, 0)) := by
  have k0 : (V.setCell ⟨X, 0, none⟩ b0).heap[X]? = some (.cells #[b0, a1, a2, a3, a4, a5, a6, a7, a8, a9, a10, a11, a12, a13] t (0, 0)) := heap_setCell_same _ X 0 _ _ b0 h
  have k1 : ((V.setCell ⟨X, 0, none⟩ b0).setCell ⟨X, 1, none⟩ b1).heap[X]? = some (.cells #[b0, b1, a2, a3, a4, a5, a6, a7, a8, a9, a10, a11, a12, a13] t (0, 0)) := heap_setCell_same _ X 1 _ _ b1 k0
  have k2 : (((V.setCell ⟨X, 0, none⟩ b0).setCell ⟨X, 1, none⟩ b1).setCell ⟨X, 2, none⟩ b2).heap[X]? = some (.cells #[b0, b1, b2, a3, a4, a5, a6, a7, a8, a9, a10, a11, a12, a13] t (0, 0)) := heap_setCell_same _ X 2 _ _ b2 k1
  have k3 : ((((V.setCell ⟨X, 0, none⟩ b0).setCell ⟨X, 1, none⟩ b1).setCell ⟨X, 2, none⟩ b2).setCell ⟨X, 3, none⟩ b3).heap[X]? = some (.cells #[b0, b1, b2, b3, a4, a5, a6, a7, a8, a9, a10, a11, a12, a13] t (0, 0)) := heap_setCell_same _ X 3 _ _ b3 k2
  have k4 : (((((V.setCell ⟨X, 0, none⟩ b0).setCell ⟨X, 1, none⟩ b1).setCell ⟨X, 2, none⟩ b2).setCell ⟨X, 3, none⟩ b3).setCell ⟨X, 4, none⟩ b4).heap[X]? = some (.cells #[b0, b1, b2, b3, b4, a5, a6, a7, a8, a9, a10, a11, a12, a13] t (0, 0)) := heap_setCell_same _ X 4 _ _ b4 k3
  have k5 : ((((((V.setCell ⟨X, 0, none⟩ b0).setCell ⟨X, 1, none⟩ b1).setCell ⟨X, 2, none⟩ b2).setCell ⟨X, 3, none⟩ b3).setCell ⟨X, 4, none⟩ b4).setCell ⟨X, 5, none⟩ b5).heap[X]? = some (.cells #[b0, b1, b2, b3, b4, b5, a6, a7, a8, a9, a10, a11, a12, a13] t (0, 0)) := heap_setCell_same _ X 5 _ _ b5 k4
  have k6 : (((((((V.setCell ⟨X, 0, none⟩ b0).setCell ⟨X, 1, none⟩ b1).setCell ⟨X, 2, none⟩ b2).setCell ⟨X, 3, none⟩ b3).setCell ⟨X, 4, none⟩ b4).setCell ⟨X, 5, none⟩ b5).setCell ⟨X, 6, none⟩ b6).heap[X]? = some (.cells #[b0, b1, b2, b3, b4, b5, b6, a7, a8, a9, a10, a11, a12, a13] t (0, 0)) := heap_setCell_same _ X 6 _ _ b6 k5
  have k7 : ((((((((V.setCell ⟨X, 0, none⟩ b0).setCell ⟨X, 1, none⟩ b1).setCell ⟨X, 2, none⟩ b2).setCell ⟨X, 3, none⟩ b3).setCell ⟨X, 4, none⟩ b4).setCell ⟨X, 5, none⟩ b5).setCell ⟨X, 6, none⟩ b6).setCell ⟨X, 7, none⟩ b7).heap[X]? = some (.cells #[b0, b1, b2, b3, b4, b5, b6, b7, a8, a9, a10, a11, a12, a13] t (0, 0)) := heap_setCell_same _ X 7 _ _ b7 k6
  have k8 : (((((((((V.setCell ⟨X, 0, none⟩ b0).setCell ⟨X, 1, none⟩ b1).setCell ⟨X, 2, none⟩ b2).setCell ⟨X, 3, none⟩ b3).setCell ⟨X, 4, none⟩ b4).setCell ⟨X, 5, none⟩ b5).setCell ⟨X, 6, none⟩ b6).setCell ⟨X, 7, none⟩ b7).setCell ⟨X, 8, none⟩ b8).heap[X]? = some (.cells #[b0, b1, b2, b3, b4, b5, b6, b7, b8, a9, a10, a11, a12, a13] t (0, 0)) := heap_setCell_same _ X 8 _ _ b8 k7
  have k9 : ((((((((((V.setCell ⟨X, 0, none⟩ b0).setCell ⟨X, 1, none⟩ b1).setCell ⟨X, 2, none⟩ b2).setCell ⟨X, 3, none⟩ b3).setCell ⟨X, 4, none⟩ b4).setCell ⟨X, 5, none⟩ b5).setCell ⟨X, 6, none⟩ b6).setCell ⟨X, 7, none⟩ b7).setCell ⟨X, 8, none⟩ b8).setCell ⟨X, 9, none⟩ b9).heap[X]? = some (.cells #[b0, b1, b2, b3, b4, b5, b6, b7, b8, b9, a10, a11, a12, a13] t (0, 0)) := heap_setCell_same _ X 9 _ _ b9 k8
  have k10 : (((((((((((V.setCell ⟨X, 0, none⟩ b0).setCell ⟨X, 1, none⟩ b1).setCell ⟨X, 2, none⟩ b2).setCell ⟨X, 3, none⟩ b3).setCell ⟨X, 4, none⟩ b4).setCell ⟨X, 5, none⟩ b5).setCell ⟨X, 6, none⟩ b6).setCell ⟨X, 7, none⟩ b7).setCell ⟨X, 8, none⟩ b8).setCell ⟨X, 9, none⟩ b9).setCell ⟨X, 10, none⟩ b10).heap[X]? = some (.cells #[b0, b1, b2, b3, b4, b5, b6, b7, b8, b9, b10, a11, a12, a13] t (0, 0)) := heap_setCell_same _ X 10 _ _ b10 k9
  have k11 : ((((((((((((V.setCell ⟨X, 0, none⟩ b0).setCell ⟨X, 1, none⟩ b1).setCell ⟨X, 2, none⟩ b2).setCell ⟨X, 3, none⟩ b3).setCell ⟨X, 4, none⟩ b4).setCell ⟨X, 5, none⟩ b5).setCell ⟨X, 6, none⟩ b6).setCell ⟨X, 7, none⟩ b7).setCell ⟨X, 8, none⟩ b8).setCell ⟨X, 9, none⟩ b9).setCell ⟨X, 10, none⟩ b10).setCell ⟨X, 11, none⟩ b11).heap[X]? = some (.cells #[b0, b1, b2, b3, b4, b5, b6, b7, b8, b9, b10, b11, a12, a13] t (0, 0)) := heap_setCell_same _ X 11 _ _ b11 k10
  have k12 : (((((((((((((V.setCell ⟨X, 0, none⟩ b0).setCell ⟨X, 1, none⟩ b1).setCell ⟨X, 2, none⟩ b2).setCell ⟨X, 3, none⟩ b3).setCell ⟨X, 4, none⟩ b4).setCell ⟨X, 5, none⟩ b5).setCell ⟨X, 6, none⟩ b6).setCell ⟨X, 7, none⟩ b7).setCell ⟨X, 8, none⟩ b8).setCell ⟨X, 9, none⟩ b9).setCell ⟨X, 10, none⟩ b10).setCell ⟨X, 11, none⟩ b11).setCell ⟨X, 12, none⟩ b12).heap[X]? = some (.cells #[b0, b1, b2, b3, b4, b5, b6, b7, b8, b9, b10, b11, b12, a13] t (0, 0)) := heap_setCell_same _ X 12 _ _ b12 k11
  have k13 : ((((((((((((((V.setCell ⟨X, 0, none⟩ b0).setCell ⟨X, 1, none⟩ b1).setCell ⟨X, 2, none⟩ b2).setCell ⟨X, 3, none⟩ b3).setCell ⟨X, 4, none⟩ b4).setCell ⟨X, 5, none⟩ b5).setCell ⟨X, 6, none⟩ b6).setCell ⟨X, 7, none⟩ b7).setCell ⟨X, 8, none⟩ b8).setCell ⟨X, 9, none⟩ b9).setCell ⟨X, 10, none⟩ b10).setCell ⟨X, 11, none⟩ b11).setCell ⟨X, 12, none⟩ b12).setCell ⟨X, 13, none⟩ b13).heap[X]? = some (.cells #[b0, b1, b2, b3, b4, b5, b6, b7, b8, b9, b10, b11, b12, b13] t (0, 0)) := heap_setCell_same _ X 13 _ _ b13 k12
  exact k13
theorem mem_set14 {V : World} {X k : Nat} {cs c : Array Value} {t t' : TypeId} (h : V.heap[X]? = some (.cells cs t (0, 0))) (b0 b1 b2 b3 b4 b5 b6 b7 b8 b9 b10 b11 b12 b13 : Value) (hk : V.heap[k]? = some (.cells c t' (0, 0))) (ne : t' ≠ t) : ((((((((((((((V.setCell ⟨X, 0, none⟩ b0).setCell ⟨X, 1, none⟩ b1).setCell ⟨X, 2, none⟩ b2).setCell ⟨X, 3, none⟩ b3).setCell ⟨X, 4, none⟩ b4).setCell ⟨X, 5, none⟩ b5).setCell ⟨X, 6, none⟩ b6).setCell ⟨X, 7, none⟩ b7).setCell ⟨X, 8, none⟩ b8).setCell ⟨X, 9, none⟩ b9).setCell ⟨X, 10, none⟩ b10).setCell ⟨X, 11, none⟩ b11).setCell ⟨X, 12, none⟩ b12).setCell ⟨X, 13, none⟩ b13).heap[k]? = some (.cells c t' (0, 0)) := by
  have hne : k ≠ X := blk_ne hk h ne
  rw [heap_setCell_other _ ⟨X, 13, none⟩ k _ hne, heap_setCell_other _ ⟨X, 12, none⟩ k _ hne, heap_setCell_other _ ⟨X, 11, none⟩ k _ hne, heap_setCell_other _ ⟨X, 10, none⟩ k _ hne, heap_setCell_other _ ⟨X, 9, none⟩ k _ hne, heap_setCell_other _ ⟨X, 8, none⟩ k _ hne, heap_setCell_other _ ⟨X, 7, none⟩ k _ hne, heap_setCell_other _ ⟨X, 6, none⟩ k _ hne, heap_setCell_other _ ⟨X, 5, none⟩ k _ hne, heap_setCell_other _ ⟨X, 4, none⟩ k _ hne, heap_setCell_other _ ⟨X, 3, none⟩ k _ hne, heap_setCell_other _ ⟨X, 2, none⟩ k _ hne, heap_setCell_other _ ⟨X, 1, none⟩ k _ hne, heap_setCell_other _ ⟨X, 0, none⟩ k _ hne]
  exact hk
theorem bel_set14 {V W : World} {X B : Nat} (h : Below B W V) (hX : B ≤ X) (b0 b1 b2 b3 b4 b5 b6 b7 b8 b9 b10 b11 b12 b13 : Value) : Below B W ((((((((((((((V.setCell ⟨X, 0, none⟩ b0).setCell ⟨X, 1, none⟩ b1).setCell ⟨X, 2, none⟩ b2).setCell ⟨X, 3, none⟩ b3).setCell ⟨X, 4, none⟩ b4).setCell ⟨X, 5, none⟩ b5).setCell ⟨X, 6, none⟩ b6).setCell ⟨X, 7, none⟩ b7).setCell ⟨X, 8, none⟩ b8).setCell ⟨X, 9, none⟩ b9).setCell ⟨X, 10, none⟩ b10).setCell ⟨X, 11, none⟩ b11).setCell ⟨X, 12, none⟩ b12).setCell ⟨X, 13, none⟩ b13) := by
  have q : ∀ (U : World) (j : Nat) (u : Value), Below B W U → Below B W (U.setCell ⟨X, j, none⟩ u) := fun U j u h => h.setCell (p := ⟨X, j, none⟩) hX u
  exact q _ _ _ (q _ _ _ (q _ _ _ (q _ _ _ (q _ _ _ (q _ _ _ (q _ _ _ (q _ _ _ (q _ _ _ (q _ _ _ (q _ _ _ (q _ _ _ (q _ _ _ (q _ _ _ h)))))))))))))
theorem other14 {V : World} {X k : Nat} (hne : k ≠ X) (b0 b1 b2 b3 b4 b5 b6 b7 b8 b9 b10 b11 b12 b13 : Value) : ((((((((((((((V.setCell ⟨X, 0, none⟩ b0).setCell ⟨X, 1, none⟩ b1).setCell ⟨X, 2, none⟩ b2).setCell ⟨X, 3, none⟩ b3).setCell ⟨X, 4, none⟩ b4).setCell ⟨X, 5, none⟩ b5).setCell ⟨X, 6, none⟩ b6).setCell ⟨X, 7, none⟩ b7).setCell ⟨X, 8, none⟩ b8).setCell ⟨X, 9, none⟩ b9).setCell ⟨X, 10, none⟩ b10).setCell ⟨X, 11, none⟩ b11).setCell ⟨X, 12, none⟩ b12).setCell ⟨X, 13, none⟩ b13).heap[k]? = V.heap[k]? := by
  rw [heap_setCell_other _ ⟨X, 13, none⟩ k _ hne, heap_setCell_other _ ⟨X, 12, none⟩ k _ hne, heap_setCell_other _ ⟨X, 11, none⟩ k _ hne, heap_setCell_other _ ⟨X, 10, none⟩ k _ hne, heap_setCell_other _ ⟨X, 9, none⟩ k _ hne, heap_setCell_other _ ⟨X, 8, none⟩ k _ hne, heap_setCell_other _ ⟨X, 7, none⟩ k _ hne, heap_setCell_other _ ⟨X, 6, none⟩ k _ hne, heap_setCell_other _ ⟨X, 5, none⟩ k _ hne, heap_setCell_other _ ⟨X, 4, none⟩ k _ hne, heap_setCell_other _ ⟨X, 3, none⟩ k _ hne, heap_setCell_other _ ⟨X, 2, none⟩ k _ hne, heap_setCell_other _ ⟨X, 1, none⟩ k _ hne, heap_setCell_other _ ⟨X, 0, none⟩ k _ hne]
theorem TAt.keep {X S H L K n B : Nat} {fv cv : Value} {PA RE : Int} {qc qk qh : Value} {r : RunP} {fi : Nat} {w w' : World} (h : TAt X S H L K n B fv cv PA RE qc qk qh r fi w) (hk : ∀ k, Own5 X S H L K k → w'.heap[k]? = w.heap[k]?) (hr : ∀ (v : Value) (l : List Int), OwnI w B v l → OwnI w' B v l) : TAt X S H L K n B fv cv PA RE qc qk qh r fi w' := by
  obtain ⟨c1, s1, s2, s3, s4⟩ := h.st
  obtain ⟨c2, t1, t2⟩ := h.ht
  obtain ⟨c3, u1, u2⟩ := h.sl
  obtain ⟨c4, v1, v2⟩ := h.wa
  refine ⟨(hk X (.inl rfl)).trans h.box, ⟨c1, (hk S (.inr (.inl rfl))).trans s1, s2, fun q s hs => ?_, s4⟩, ⟨c2, (hk H (.inr (.inr (.inl rfl)))).trans t1, t2⟩, ⟨c3, (hk L (.inr (.inr (.inr (.inl rfl))))).trans u1, u2⟩, ⟨c4, (hk K (.inr (.inr (.inr (.inr rfl))))).trans v1, v2⟩, h.ll, h.hl, h.ne, h.fl, h.nd, h.tl, h.lo⟩
  obtain ⟨v, k1, k2, k3⟩ := s3 q s hs
  exact ⟨v, k1, k2, hr v _ k3⟩
theorem TAt.out14 {X S H L K n B Y : Nat} {fv cv : Value} {PA RE : Int} {qc qk qh : Value} {r : RunP} {fi : Nat} {V : World} {cs : Array Value} (h : TAt X S H L K n B fv cv PA RE qc qk qh r fi V) (hY : V.heap[Y]? = some (.cells cs 107 (0, 0))) (hn : ¬ Own5 X S H L K Y) (b0 b1 b2 b3 b4 b5 b6 b7 b8 b9 b10 b11 b12 b13 : Value) : TAt X S H L K n B fv cv PA RE qc qk qh r fi ((((((((((((((V.setCell ⟨Y, 0, none⟩ b0).setCell ⟨Y, 1, none⟩ b1).setCell ⟨Y, 2, none⟩ b2).setCell ⟨Y, 3, none⟩ b3).setCell ⟨Y, 4, none⟩ b4).setCell ⟨Y, 5, none⟩ b5).setCell ⟨Y, 6, none⟩ b6).setCell ⟨Y, 7, none⟩ b7).setCell ⟨Y, 8, none⟩ b8).setCell ⟨Y, 9, none⟩ b9).setCell ⟨Y, 10, none⟩ b10).setCell ⟨Y, 11, none⟩ b11).setCell ⟨Y, 12, none⟩ b12).setCell ⟨Y, 13, none⟩ b13) := by
  refine h.keep (fun k hk => other14 (fun e => hn (by rw [← e]; exact hk)) _ _ _ _ _ _ _ _ _ _ _ _ _ _) (fun v l ho => own_step ho (by simp) (fun g hg => other14 (fun e => ?_) _ _ _ _ _ _ _ _ _ _ _ _ _ _))
  subst e
  exact apart16 ho hY (by decide) hg
end Go.Proofs.Ytbgdapdenbldmaa
namespace Go.Proofs.Ytbgdapdenbldmaa
open Go Go.RowKit Go.Sort
theorem any_listed {P : Program} {md : Region.Mode} {ops : Array Oper} {Q : Exit → Act → World → Prop} {S : World → Prop} {fuel : Nat} {l l' : Array Bool} {a : Act} {w : World} (h : l = l') (k : wpAnyH P md ops Q S fuel l' a w) : wpAnyH P md ops Q S fuel l a w := by
  subst h
  exact k
variable {Q : Exit → Act → World → Prop} {CS CB : Array Value} {W3 : World} {G n n1 n2 nc nh Z c1 c2 cc ck ch : Nat} {PA RE : Int} {x1 x2 xc xk xh : Option Addr} {u0 u1 u4 u9 u10 u11 : Value}
structure TrH (Q : Exit → Act → World → Prop) (CS CB : Array Value) (W3 : World) (G n n1 n2 nc nh Z c1 c2 cc ck ch : Nat) (PA RE : Int) (x1 x2 xc xk xh : Option Addr) (u0 u1 u4 u9 u10 u11 : Value) : Prop where
  hS : ∀ W, (Instr.makeSlice 49 (.int .i64 (n : Int)) (.int .i64 (n : Int))).run Try.prog W = .ok (.slice (some ⟨W.heap.size, 0, none⟩) n n) (W.alloc (.cells CS 98))
  hB : ∀ W, (Instr.makeSlice 50 (.int .i64 (n : Int)) (.int .i64 (n : Int))).run Try.prog W = .ok (.slice (some ⟨W.heap.size, 0, none⟩) n n) (W.alloc (.cells CB 4))
  cR : ∀ W, Calls Try.prog 80 #[.int .i64 (n : Int)] W fun e w' => ∃ L K, e = .returned (.agg #[.slice (some ⟨L, 0, none⟩) n n, .int .i64 0, .int .i64 0, .slice (some ⟨K, 0, none⟩) n n]) ∧ RingNew n L K W w'
  bT : ∀ (S H L K : Nat) (W : World), (Instr.build 107 #[(0, .agg #[.slice x1 n1 c1, .slice x2 n2 c2]), (1, .agg #[.int .i64 PA, .int .i64 RE, .slice xc nc cc, .slice xk n ck, .slice xh nh ch]), (2, .slice (some ⟨S, 0, none⟩) n n), (3, .slice (some ⟨H, 0, none⟩) n n), (4, .agg #[.slice (some ⟨L, 0, none⟩) n n, .int .i64 0, .int .i64 0, .slice (some ⟨K, 0, none⟩) n n])]).run Try.prog W = .ok (.agg #[.slice x1 n1 c1, .slice x2 n2 c2, .int .i64 PA, .int .i64 RE, .slice xc nc cc, .slice xk n ck, .slice xh nh ch, .slice (some ⟨S, 0, none⟩) n n, .slice (some ⟨H, 0, none⟩) n n, .slice (some ⟨L, 0, none⟩) n n, .int .i64 0, .int .i64 0, .slice (some ⟨K, 0, none⟩) n n, .bool false]) W
  hZ : W3.heap.size = Z
  hCS : madeCells #[.int .i64 0, .slice none 0 0] (n * 2) = CS
  hCB : madeCells #[.bool false] (n * 1) = CB
  hP : ∀ c (a : Act) (w : World) (d : Option Nat) (v : Value), Q (.panic c) (a.put d v) w → Q (.panic c) a w
  hK : ∀ W : World, Below W3.heap.size W3 W → (W.cell? ⟨G, 0, none⟩ = some (.slice x1 n1 c1) ∧ W.cell? ⟨G, 1, none⟩ = some (.slice x2 n2 c2)) ∧ (W.cell? ⟨G + 1, 0, none⟩ = some (.int .i64 PA) ∧ W.cell? ⟨G + 1, 1, none⟩ = some (.int .i64 RE) ∧ W.cell? ⟨G + 1, 2, none⟩ = some (.slice xc nc cc) ∧ W.cell? ⟨G + 1, 3, none⟩ = some (.slice xk n ck) ∧ W.cell? ⟨G + 1, 4, none⟩ = some (.slice xh nh ch))
  hQ : ∀ (X S H L K : Nat) (W : World), TNew X S H L K n Z (.slice x1 n1 c1) (.slice x2 n2 c2) PA RE (.slice xc nc cc) (.slice xk n ck) (.slice xh nh ch) W3 W → Q .normal { tmps := #[u0, u1, .pointer (some ⟨G, 0, none⟩), .pointer (some ⟨G + 1, 0, none⟩), u4, .int .i64 (n : Int), .pointer (some ⟨X, 0, none⟩), undef, undef, u9, u10, u11, .agg #[.slice x1 n1 c1, .slice x2 n2 c2], .agg #[.int .i64 PA, .int .i64 RE, .slice xc nc cc, .slice xk n ck, .slice xh nh ch], .int .i64 (n : Int), .slice (some ⟨S, 0, none⟩) n n, .int .i64 (n : Int), .slice (some ⟨H, 0, none⟩) n n, .int .i64 (n : Int), .agg #[.slice (some ⟨L, 0, none⟩) n n, .int .i64 0, .int .i64 0, .slice (some ⟨K, 0, none⟩) n n], .agg #[.slice x1 n1 c1, .slice x2 n2 c2, .int .i64 PA, .int .i64 RE, .slice xc nc cc, .slice xk n ck, .slice xh nh ch, .slice (some ⟨S, 0, none⟩) n n, .slice (some ⟨H, 0, none⟩) n n, .slice (some ⟨L, 0, none⟩) n n, .int .i64 0, .int .i64 0, .slice (some ⟨K, 0, none⟩) n n, .bool false], undef, undef, undef, undef, undef, undef, undef, undef, undef, undef, undef, undef, undef, undef, undef, undef], defers := [] } W
structure TrW (CS CB : Array Value) (n1 n2 nc nh c1 c2 cc ck ch : Nat) (PA RE : Int) (x1 x2 xc xk xh : Option Addr) (W3 : World) (n Z : Nat) (b3 b5 b7 b8 b9 : Bool) (v15 v17 v19 v20 v6 : Value) (W : World) : Prop where
  bel : Below W3.heap.size W3 W
  s : b3 = true → ∃ S, v15 = .slice (some ⟨S, 0, none⟩) n n ∧ Z ≤ S ∧ W.heap[S]? = some (.cells CS 98 (0, 0))
  hr : b5 = true → ∃ H, v17 = .slice (some ⟨H, 0, none⟩) n n ∧ Z ≤ H ∧ W.heap[H]? = some (.cells CB 4 (0, 0)) ∧ (b7 = true → ∀ L K, v19 = .agg #[.slice (some ⟨L, 0, none⟩) n n, .int .i64 0, .int .i64 0, .slice (some ⟨K, 0, none⟩) n n] → H ≠ K)
  r : b7 = true → ∃ L K, v19 = .agg #[.slice (some ⟨L, 0, none⟩) n n, .int .i64 0, .int .i64 0, .slice (some ⟨K, 0, none⟩) n n] ∧ Z ≤ L ∧ Z ≤ K ∧ W.heap[L]? = some (.cells (madeCells #[.nilIface] (n * 1)) 20 (0, 0)) ∧ W.heap[K]? = some (.cells (madeCells #[.bool false] (n * 1)) 4 (0, 0))
  x : b9 = true → ∃ X, v6 = .pointer (some ⟨X, 0, none⟩) ∧ Z ≤ X ∧ W.heap[X]? = some (.cells #[.slice none 0 0, .slice none 0 0, .int .i64 0, .int .i64 0, .slice none 0 0, .slice none 0 0, .slice none 0 0, .slice none 0 0, .slice none 0 0, .slice none 0 0, .int .i64 0, .int .i64 0, .slice none 0 0, .bool false] 107 (0, 0))
  t : b8 = true → ∀ S H L K, v15 = .slice (some ⟨S, 0, none⟩) n n → v17 = .slice (some ⟨H, 0, none⟩) n n → v19 = .agg #[.slice (some ⟨L, 0, none⟩) n n, .int .i64 0, .int .i64 0, .slice (some ⟨K, 0, none⟩) n n] → v20 = .agg #[.slice x1 n1 c1, .slice x2 n2 c2, .int .i64 PA, .int .i64 RE, .slice xc nc cc, .slice xk n ck, .slice xh nh ch, .slice (some ⟨S, 0, none⟩) n n, .slice (some ⟨H, 0, none⟩) n n, .slice (some ⟨L, 0, none⟩) n n, .int .i64 0, .int .i64 0, .slice (some ⟨K, 0, none⟩) n n, .bool false]
theorem blk_bel {W W' : World} {k : Nat} {o : Obj} (hb : Below W.heap.size W W') (h : W.heap[k]? = some o) : W'.heap[k]? = some o := (hb.block _ (lt16 h)).trans h
theorem TrW.below {b3 b5 b7 b8 b9 : Bool} {v15 v17 v19 v20 v6 : Value} {W W' : World} (h : TrW CS CB n1 n2 nc nh c1 c2 cc ck ch PA RE x1 x2 xc xk xh W3 n Z b3 b5 b7 b8 b9 v15 v17 v19 v20 v6 W) (hb : Below W.heap.size W W') : TrW CS CB n1 n2 nc nh c1 c2 cc ck ch PA RE x1 x2 xc xk xh W3 n Z b3 b5 b7 b8 b9 v15 v17 v19 v20 v6 W' := by
  refine ⟨chain h.bel hb, fun q => ?_, fun q => ?_, fun q => ?_, fun q => ?_, h.t⟩
  · obtain ⟨S, e, z, k⟩ := h.s q
    exact ⟨S, e, z, blk_bel hb k⟩
  · obtain ⟨H, e, z, k, ne⟩ := h.hr q
    exact ⟨H, e, z, blk_bel hb k, ne⟩
  · obtain ⟨L, K, e, z, z', k, k'⟩ := h.r q
    exact ⟨L, K, e, z, z', blk_bel hb k, blk_bel hb k'⟩
  · obtain ⟨X, e, z, k⟩ := h.x q
    exact ⟨X, e, z, blk_bel hb k⟩
theorem TrW.mkS {b3 b5 b7 b9 : Bool} {v15 v17 v19 v20 v6 : Value} {W : World} (hZ : W3.heap.size = Z) (h : TrW CS CB n1 n2 nc nh c1 c2 cc ck ch PA RE x1 x2 xc xk xh W3 n Z b3 b5 b7 false b9 v15 v17 v19 v20 v6 W) : TrW CS CB n1 n2 nc nh c1 c2 cc ck ch PA RE x1 x2 xc xk xh W3 n Z true b5 b7 false b9 (.slice (some ⟨W.heap.size, 0, none⟩) n n) v17 v19 v20 v6 (W.alloc (.cells CS 98)) := by
  have hb : Below W.heap.size W (W.alloc (.cells CS 98)) := (Below.refl _ _).alloc (Nat.le_refl _) _
  have k := h.below hb
  exact ⟨k.bel, fun _ => ⟨_, rfl, by have := h.bel.size; omega, heap_alloc_new _ _⟩, k.hr, k.r, k.x, fun q => (by cases q)⟩
theorem TrW.mkB {b3 b5 b7 b9 : Bool} {v15 v17 v19 v20 v6 : Value} {W : World} (hZ : W3.heap.size = Z) (h : TrW CS CB n1 n2 nc nh c1 c2 cc ck ch PA RE x1 x2 xc xk xh W3 n Z b3 b5 b7 false b9 v15 v17 v19 v20 v6 W) : TrW CS CB n1 n2 nc nh c1 c2 cc ck ch PA RE x1 x2 xc xk xh W3 n Z b3 true b7 false b9 v15 (.slice (some ⟨W.heap.size, 0, none⟩) n n) v19 v20 v6 (W.alloc (.cells CB 4)) := by
  have hb : Below W.heap.size W (W.alloc (.cells CB 4)) := (Below.refl _ _).alloc (Nat.le_refl _) _
  have k := h.below hb
  refine ⟨k.bel, k.s, fun _ => ⟨_, rfl, by have := h.bel.size; omega, heap_alloc_new _ _, fun q L K e => ?_⟩, k.r, k.x, fun q => (by cases q)⟩
  obtain ⟨L', K', e', _, _, _, k'⟩ := h.r q
  rw [e'] at e
  simp at e
  have := lt16 k'
  omega
theorem TrW.mkR {b3 b5 b7 b9 : Bool} {v15 v17 v19 v20 v6 : Value} {W W' : World} {L K : Nat} (hZ : W3.heap.size = Z) (h : TrW CS CB n1 n2 nc nh c1 c2 cc ck ch PA RE x1 x2 xc xk xh W3 n Z b3 b5 b7 false b9 v15 v17 v19 v20 v6 W) (hr : RingNew n L K W W') : TrW CS CB n1 n2 nc nh c1 c2 cc ck ch PA RE x1 x2 xc xk xh W3 n Z b3 b5 true false b9 v15 v17 (.agg #[.slice (some ⟨L, 0, none⟩) n n, .int .i64 0, .int .i64 0, .slice (some ⟨K, 0, none⟩) n n]) v20 v6 W' := by
  have k := h.below hr.bel
  have := h.bel.size
  have := hr.lo
  refine ⟨k.bel, k.s, fun q => ?_, fun _ => ⟨_, _, rfl, by omega, by omega, hr.bl, hr.bk⟩, k.x, fun q => (by cases q)⟩
  obtain ⟨H, e, z, j, _⟩ := h.hr q
  refine ⟨H, e, z, blk_bel hr.bel j, fun _ L' K' e' => ?_⟩
  simp at e'
  have := lt16 j
  omega
theorem TrW.mkX {b3 b5 b7 b8 b9 : Bool} {v15 v17 v19 v20 v6 : Value} {W : World} (hZ : W3.heap.size = Z) (h : TrW CS CB n1 n2 nc nh c1 c2 cc ck ch PA RE x1 x2 xc xk xh W3 n Z b3 b5 b7 b8 b9 v15 v17 v19 v20 v6 W) : TrW CS CB n1 n2 nc nh c1 c2 cc ck ch PA RE x1 x2 xc xk xh W3 n Z b3 b5 b7 b8 true v15 v17 v19 v20 (.pointer (some ⟨W.heap.size, 0, none⟩)) (W.alloc (.cells #[.slice none 0 0, .slice none 0 0, .int .i64 0, .int .i64 0, .slice none 0 0, .slice none 0 0, .slice none 0 0, .slice none 0 0, .slice none 0 0, .slice none 0 0, .int .i64 0, .int .i64 0, .slice none 0 0, .bool false] 107)) := by
  have hb : Below W.heap.size W (W.alloc (.cells #[.slice none 0 0, .slice none 0 0, .int .i64 0, .int .i64 0, .slice none 0 0, .slice none 0 0, .slice none 0 0, .slice none 0 0, .slice none 0 0, .slice none 0 0, .int .i64 0, .int .i64 0, .slice none 0 0, .bool false] 107)) := (Below.refl _ _).alloc (Nat.le_refl _) _
  have k := h.below hb
  exact ⟨k.bel, k.s, k.hr, k.r, fun _ => ⟨_, rfl, by have := h.bel.size; omega, heap_alloc_new _ _⟩, k.t⟩
theorem TrW.mkT {b9 : Bool} {v6 v20 : Value} {S H L K : Nat} {W : World} (h : TrW CS CB n1 n2 nc nh c1 c2 cc ck ch PA RE x1 x2 xc xk xh W3 n Z true true true false b9 (.slice (some ⟨S, 0, none⟩) n n) (.slice (some ⟨H, 0, none⟩) n n) (.agg #[.slice (some ⟨L, 0, none⟩) n n, .int .i64 0, .int .i64 0, .slice (some ⟨K, 0, none⟩) n n]) v20 v6 W) : TrW CS CB n1 n2 nc nh c1 c2 cc ck ch PA RE x1 x2 xc xk xh W3 n Z true true true true b9 (.slice (some ⟨S, 0, none⟩) n n) (.slice (some ⟨H, 0, none⟩) n n) (.agg #[.slice (some ⟨L, 0, none⟩) n n, .int .i64 0, .int .i64 0, .slice (some ⟨K, 0, none⟩) n n]) (.agg #[.slice x1 n1 c1, .slice x2 n2 c2, .int .i64 PA, .int .i64 RE, .slice xc nc cc, .slice xk n ck, .slice xh nh ch, .slice (some ⟨S, 0, none⟩) n n, .slice (some ⟨H, 0, none⟩) n n, .slice (some ⟨L, 0, none⟩) n n, .int .i64 0, .int .i64 0, .slice (some ⟨K, 0, none⟩) n n, .bool false]) v6 W := by
  refine ⟨h.bel, h.s, h.hr, h.r, h.x, fun _ S' H' L' K' e1 e2 e3 => ?_⟩
  simp at e1 e2 e3
  obtain ⟨rfl, rfl⟩ := e3
  subst e1 e2
  rfl
set_option maxHeartbeats 1000000 in
set_option maxRecDepth 100000 in
theorem tr_11111 (h : TrH Q CS CB W3 G n n1 n2 nc nh Z c1 c2 cc ck ch PA RE x1 x2 xc xk xh u0 u1 u4 u9 u10 u11) {v15 v17 v19 v20 v6 : Value} {W : World} (hw : TrW CS CB n1 n2 nc nh c1 c2 cc ck ch PA RE x1 x2 xc xk xh W3 n Z true true true true true v15 v17 v19 v20 v6 W) :
    wpAnyH Try.prog .any #[{ dst := some 12, op := Op.load 31 (Operand.tmp 2), type := 31, pos := "l16_verify.go:228", after := #[], guard := none },
  { dst := some 13, op := Op.load 70 (Operand.tmp 3), type := 70, pos := "l16_verify.go:228", after := #[], guard := none },
  { dst := some 14, op := Op.move (Operand.tmp 5), type := 3, pos := "l16_verify.go:228", after := #[], guard := none },
  { dst := some 15, op := Op.makeSlice 49 (Operand.tmp 14) (Operand.tmp 14), type := 49, pos := "l16_verify.go:228", after := #[{ on := 2, ground := Ground.data }, { on := 2, ground := Ground.data }], guard := none },
  { dst := some 16, op := Op.move (Operand.tmp 5), type := 3, pos := "l16_verify.go:228", after := #[], guard := none },
  { dst := some 17, op := Op.makeSlice 50 (Operand.tmp 16) (Operand.tmp 16), type := 50, pos := "l16_verify.go:228", after := #[{ on := 4, ground := Ground.data }, { on := 4, ground := Ground.data }], guard := none },
  { dst := some 18, op := Op.move (Operand.tmp 5), type := 3, pos := "l16_verify.go:228", after := #[], guard := none },
  { dst := some 19, op := Op.call { callee := Callee.value (Operand.func 80), args := #[Operand.tmp 18], argTypes := #[3] }, type := 105, pos := "l16_verify.go:228", after := #[{ on := 6, ground := Ground.data }], guard := none },
  { dst := some 20, op := Op.build 107 #[(0, Operand.tmp 12), (1, Operand.tmp 13), (2, Operand.tmp 15), (3, Operand.tmp 17), (4, Operand.tmp 19)], type := 107, pos := "l16_verify.go:228", after := #[{ on := 0, ground := Ground.data }, { on := 1, ground := Ground.data }, { on := 3, ground := Ground.data }, { on := 5, ground := Ground.data }, { on := 7, ground := Ground.data }], guard := none },
  { dst := some 6, op := Op.alloc 107, type := 0, pos := "l16_verify.go:228", after := #[], guard := none },
  { dst := none, op := Op.store 107 (Operand.tmp 6) (Operand.tmp 20), type := 0, pos := "l16_verify.go:228", after := #[{ on := 9, ground := Ground.data }, { on := 8, ground := Ground.data }, { on := 7, ground := Ground.chain }, { on := 0, ground := Ground.phase }, { on := 1, ground := Ground.phase }, { on := 2, ground := Ground.phase }, { on := 3, ground := Ground.phase }, { on := 4, ground := Ground.phase }, { on := 5, ground := Ground.phase }, { on := 6, ground := Ground.phase }, { on := 7, ground := Ground.phase }, { on := 8, ground := Ground.phase }, { on := 9, ground := Ground.phase }], guard := none }] Q (fun W => Below W3.heap.size W3 W) 1 #[true, true, true, true, true, true, true, true, true, true, false] { tmps := #[u0, u1, .pointer (some ⟨G, 0, none⟩), .pointer (some ⟨G + 1, 0, none⟩), u4, .int .i64 (n : Int), v6, undef, undef, u9, u10, u11, .agg #[.slice x1 n1 c1, .slice x2 n2 c2], .agg #[.int .i64 PA, .int .i64 RE, .slice xc nc cc, .slice xk n ck, .slice xh nh ch], .int .i64 (n : Int), v15, .int .i64 (n : Int), v17, .int .i64 (n : Int), v19, v20, undef, undef, undef, undef, undef, undef, undef, undef, undef, undef, undef, undef, undef, undef, undef, undef], defers := [] } W := by
  obtain ⟨S, rfl, zs, ks⟩ := hw.s rfl
  obtain ⟨L, K, rfl, zl, zk, kl, kk⟩ := hw.r rfl
  obtain ⟨H, rfl, zh, kh, ne⟩ := hw.hr rfl
  obtain ⟨X, rfl, zx, kx⟩ := hw.x rfl
  obtain rfl := hw.t rfl S H L K rfl rfl rfl
  have hne := ne rfl L K rfl
  have HQ : Hid (∀ W : World, TNew X S H L K n Z (.slice x1 n1 c1) (.slice x2 n2 c2) PA RE (.slice xc nc cc) (.slice xk n ck) (.slice xh nh ch) W3 W → Q .normal { tmps := #[u0, u1, .pointer (some ⟨G, 0, none⟩), .pointer (some ⟨G + 1, 0, none⟩), u4, .int .i64 (n : Int), .pointer (some ⟨X, 0, none⟩), undef, undef, u9, u10, u11, .agg #[.slice x1 n1 c1, .slice x2 n2 c2], .agg #[.int .i64 PA, .int .i64 RE, .slice xc nc cc, .slice xk n ck, .slice xh nh ch], .int .i64 (n : Int), .slice (some ⟨S, 0, none⟩) n n, .int .i64 (n : Int), .slice (some ⟨H, 0, none⟩) n n, .int .i64 (n : Int), .agg #[.slice (some ⟨L, 0, none⟩) n n, .int .i64 0, .int .i64 0, .slice (some ⟨K, 0, none⟩) n n], .agg #[.slice x1 n1 c1, .slice x2 n2 c2, .int .i64 PA, .int .i64 RE, .slice xc nc cc, .slice xk n ck, .slice xh nh ch, .slice (some ⟨S, 0, none⟩) n n, .slice (some ⟨H, 0, none⟩) n n, .slice (some ⟨L, 0, none⟩) n n, .int .i64 0, .int .i64 0, .slice (some ⟨K, 0, none⟩) n n, .bool false], undef, undef, undef, undef, undef, undef, undef, undef, undef, undef, undef, undef, undef, undef, undef, undef], defers := [] } W) := fun W hW => h.hQ X S H L K W hW
  have hCS := h.hCS
  have hCB := h.hCB
  rw [← hCS] at ks
  rw [← hCB] at kh
  have HE : Hid (TNew X S H L K n Z (.slice x1 n1 c1) (.slice x2 n2 c2) PA RE (.slice xc nc cc) (.slice xk n ck) (.slice xh nh ch) W3 ((((((((((((((W.setCell ⟨X, 0, none⟩ (.slice x1 n1 c1)).setCell ⟨X, 1, none⟩ (.slice x2 n2 c2)).setCell ⟨X, 2, none⟩ (.int .i64 PA)).setCell ⟨X, 3, none⟩ (.int .i64 RE)).setCell ⟨X, 4, none⟩ (.slice xc nc cc)).setCell ⟨X, 5, none⟩ (.slice xk n ck)).setCell ⟨X, 6, none⟩ (.slice xh nh ch)).setCell ⟨X, 7, none⟩ (.slice (some ⟨S, 0, none⟩) n n)).setCell ⟨X, 8, none⟩ (.slice (some ⟨H, 0, none⟩) n n)).setCell ⟨X, 9, none⟩ (.slice (some ⟨L, 0, none⟩) n n)).setCell ⟨X, 10, none⟩ (.int .i64 0)).setCell ⟨X, 11, none⟩ (.int .i64 0)).setCell ⟨X, 12, none⟩ (.slice (some ⟨K, 0, none⟩) n n)).setCell ⟨X, 13, none⟩ (.bool false))) := ⟨set14 kx _ _ _ _ _ _ _ _ _ _ _ _ _ _, mem_set14 kx _ _ _ _ _ _ _ _ _ _ _ _ _ _ ks (by decide), mem_set14 kx _ _ _ _ _ _ _ _ _ _ _ _ _ _ kh (by decide), mem_set14 kx _ _ _ _ _ _ _ _ _ _ _ _ _ _ kl (by decide), mem_set14 kx _ _ _ _ _ _ _ _ _ _ _ _ _ _ kk (by decide), hne, ⟨zx, zs, zh, zl, zk⟩, bel_set14 hw.bel (by have := h.hZ; omega) _ _ _ _ _ _ _ _ _ _ _ _ _ _⟩
  obtain ⟨p0, p1, p2, p3, p4, p5, p6, p7, p8, p9, p10, p11, p12, p13⟩ := cells14 kx
  have z5 := fun j => frozen_of_row W _ j _ _ kx
  clear ne hw zs ks zl zk kl kk zh kh zx kx hne h hCS hCB
  refine wpAnyH_ready (rs := [10]) (by kernel_rfl) (by simp) ?_
  refine AllReadyH.cons rfl (fun K' hK => ?_) AllReadyH.nil
  go_simp
  refine hK.out _ _ HE.out.bel (fun _ => ?_)
  clear hK K'
  refine wpAnyH_done (by kernel_rfl) ?_ _
  exact HQ.out _ HE.out
set_option maxHeartbeats 1000000 in
set_option maxRecDepth 100000 in
theorem tr_11110 (h : TrH Q CS CB W3 G n n1 n2 nc nh Z c1 c2 cc ck ch PA RE x1 x2 xc xk xh u0 u1 u4 u9 u10 u11) {v15 v17 v19 v20 v6 : Value} {W : World} (hw : TrW CS CB n1 n2 nc nh c1 c2 cc ck ch PA RE x1 x2 xc xk xh W3 n Z true true true true false v15 v17 v19 v20 v6 W) :
    wpAnyH Try.prog .any #[{ dst := some 12, op := Op.load 31 (Operand.tmp 2), type := 31, pos := "l16_verify.go:228", after := #[], guard := none },
  { dst := some 13, op := Op.load 70 (Operand.tmp 3), type := 70, pos := "l16_verify.go:228", after := #[], guard := none },
  { dst := some 14, op := Op.move (Operand.tmp 5), type := 3, pos := "l16_verify.go:228", after := #[], guard := none },
  { dst := some 15, op := Op.makeSlice 49 (Operand.tmp 14) (Operand.tmp 14), type := 49, pos := "l16_verify.go:228", after := #[{ on := 2, ground := Ground.data }, { on := 2, ground := Ground.data }], guard := none },
  { dst := some 16, op := Op.move (Operand.tmp 5), type := 3, pos := "l16_verify.go:228", after := #[], guard := none },
  { dst := some 17, op := Op.makeSlice 50 (Operand.tmp 16) (Operand.tmp 16), type := 50, pos := "l16_verify.go:228", after := #[{ on := 4, ground := Ground.data }, { on := 4, ground := Ground.data }], guard := none },
  { dst := some 18, op := Op.move (Operand.tmp 5), type := 3, pos := "l16_verify.go:228", after := #[], guard := none },
  { dst := some 19, op := Op.call { callee := Callee.value (Operand.func 80), args := #[Operand.tmp 18], argTypes := #[3] }, type := 105, pos := "l16_verify.go:228", after := #[{ on := 6, ground := Ground.data }], guard := none },
  { dst := some 20, op := Op.build 107 #[(0, Operand.tmp 12), (1, Operand.tmp 13), (2, Operand.tmp 15), (3, Operand.tmp 17), (4, Operand.tmp 19)], type := 107, pos := "l16_verify.go:228", after := #[{ on := 0, ground := Ground.data }, { on := 1, ground := Ground.data }, { on := 3, ground := Ground.data }, { on := 5, ground := Ground.data }, { on := 7, ground := Ground.data }], guard := none },
  { dst := some 6, op := Op.alloc 107, type := 0, pos := "l16_verify.go:228", after := #[], guard := none },
  { dst := none, op := Op.store 107 (Operand.tmp 6) (Operand.tmp 20), type := 0, pos := "l16_verify.go:228", after := #[{ on := 9, ground := Ground.data }, { on := 8, ground := Ground.data }, { on := 7, ground := Ground.chain }, { on := 0, ground := Ground.phase }, { on := 1, ground := Ground.phase }, { on := 2, ground := Ground.phase }, { on := 3, ground := Ground.phase }, { on := 4, ground := Ground.phase }, { on := 5, ground := Ground.phase }, { on := 6, ground := Ground.phase }, { on := 7, ground := Ground.phase }, { on := 8, ground := Ground.phase }, { on := 9, ground := Ground.phase }], guard := none }] Q (fun W => Below W3.heap.size W3 W) 2 #[true, true, true, true, true, true, true, true, true, false, false] { tmps := #[u0, u1, .pointer (some ⟨G, 0, none⟩), .pointer (some ⟨G + 1, 0, none⟩), u4, .int .i64 (n : Int), v6, undef, undef, u9, u10, u11, .agg #[.slice x1 n1 c1, .slice x2 n2 c2], .agg #[.int .i64 PA, .int .i64 RE, .slice xc nc cc, .slice xk n ck, .slice xh nh ch], .int .i64 (n : Int), v15, .int .i64 (n : Int), v17, .int .i64 (n : Int), v19, v20, undef, undef, undef, undef, undef, undef, undef, undef, undef, undef, undef, undef, undef, undef, undef, undef], defers := [] } W := by
  refine wpAnyH_ready (rs := [9]) (by kernel_rfl) (by simp) ?_
  have HW : Hid _ := hw
  have H0 : Hid _ := h
  have hmS := h.hS
  have hmB := h.hB
  have cR := h.cR
  clear hw h
  refine AllReadyH.cons rfl (fun K' hK => ?_) ?_
  · go_simp
    have HN := HW.out.mkX H0.out.hZ
    refine hK.out _ _ HN.bel (fun _ => ?_)
    refine any_listed (l' := #[true, true, true, true, true, true, true, true, true, true, false]) (by kernel_rfl) ?_
    exact tr_11111 H0.out HN
  exact AllReadyH.nil
set_option maxHeartbeats 1000000 in
set_option maxRecDepth 100000 in
theorem tr_11101 (h : TrH Q CS CB W3 G n n1 n2 nc nh Z c1 c2 cc ck ch PA RE x1 x2 xc xk xh u0 u1 u4 u9 u10 u11) {v15 v17 v19 v20 v6 : Value} {W : World} (hw : TrW CS CB n1 n2 nc nh c1 c2 cc ck ch PA RE x1 x2 xc xk xh W3 n Z true true true false true v15 v17 v19 v20 v6 W) :
    wpAnyH Try.prog .any #[{ dst := some 12, op := Op.load 31 (Operand.tmp 2), type := 31, pos := "l16_verify.go:228", after := #[], guard := none },
  { dst := some 13, op := Op.load 70 (Operand.tmp 3), type := 70, pos := "l16_verify.go:228", after := #[], guard := none },
  { dst := some 14, op := Op.move (Operand.tmp 5), type := 3, pos := "l16_verify.go:228", after := #[], guard := none },
  { dst := some 15, op := Op.makeSlice 49 (Operand.tmp 14) (Operand.tmp 14), type := 49, pos := "l16_verify.go:228", after := #[{ on := 2, ground := Ground.data }, { on := 2, ground := Ground.data }], guard := none },
  { dst := some 16, op := Op.move (Operand.tmp 5), type := 3, pos := "l16_verify.go:228", after := #[], guard := none },
  { dst := some 17, op := Op.makeSlice 50 (Operand.tmp 16) (Operand.tmp 16), type := 50, pos := "l16_verify.go:228", after := #[{ on := 4, ground := Ground.data }, { on := 4, ground := Ground.data }], guard := none },
  { dst := some 18, op := Op.move (Operand.tmp 5), type := 3, pos := "l16_verify.go:228", after := #[], guard := none },
  { dst := some 19, op := Op.call { callee := Callee.value (Operand.func 80), args := #[Operand.tmp 18], argTypes := #[3] }, type := 105, pos := "l16_verify.go:228", after := #[{ on := 6, ground := Ground.data }], guard := none },
  { dst := some 20, op := Op.build 107 #[(0, Operand.tmp 12), (1, Operand.tmp 13), (2, Operand.tmp 15), (3, Operand.tmp 17), (4, Operand.tmp 19)], type := 107, pos := "l16_verify.go:228", after := #[{ on := 0, ground := Ground.data }, { on := 1, ground := Ground.data }, { on := 3, ground := Ground.data }, { on := 5, ground := Ground.data }, { on := 7, ground := Ground.data }], guard := none },
  { dst := some 6, op := Op.alloc 107, type := 0, pos := "l16_verify.go:228", after := #[], guard := none },
  { dst := none, op := Op.store 107 (Operand.tmp 6) (Operand.tmp 20), type := 0, pos := "l16_verify.go:228", after := #[{ on := 9, ground := Ground.data }, { on := 8, ground := Ground.data }, { on := 7, ground := Ground.chain }, { on := 0, ground := Ground.phase }, { on := 1, ground := Ground.phase }, { on := 2, ground := Ground.phase }, { on := 3, ground := Ground.phase }, { on := 4, ground := Ground.phase }, { on := 5, ground := Ground.phase }, { on := 6, ground := Ground.phase }, { on := 7, ground := Ground.phase }, { on := 8, ground := Ground.phase }, { on := 9, ground := Ground.phase }], guard := none }] Q (fun W => Below W3.heap.size W3 W) 2 #[true, true, true, true, true, true, true, true, false, true, false] { tmps := #[u0, u1, .pointer (some ⟨G, 0, none⟩), .pointer (some ⟨G + 1, 0, none⟩), u4, .int .i64 (n : Int), v6, undef, undef, u9, u10, u11, .agg #[.slice x1 n1 c1, .slice x2 n2 c2], .agg #[.int .i64 PA, .int .i64 RE, .slice xc nc cc, .slice xk n ck, .slice xh nh ch], .int .i64 (n : Int), v15, .int .i64 (n : Int), v17, .int .i64 (n : Int), v19, v20, undef, undef, undef, undef, undef, undef, undef, undef, undef, undef, undef, undef, undef, undef, undef, undef], defers := [] } W := by
  refine wpAnyH_ready (rs := [8]) (by kernel_rfl) (by simp) ?_
  have HW : Hid _ := hw
  have H0 : Hid _ := h
  have hmS := h.hS
  have hmB := h.hB
  have cR := h.cR
  obtain ⟨S, rfl, _, _⟩ := hw.s rfl
  obtain ⟨L, K, rfl, _, _, _, _⟩ := hw.r rfl
  obtain ⟨H, rfl, _, _, _⟩ := hw.hr rfl
  have bT := h.bT S H L K
  clear hw h
  refine AllReadyH.cons rfl (fun K' hK => ?_) ?_
  · go_simp
    have HN := HW.out.mkT
    refine hK.out _ _ HN.bel (fun _ => ?_)
    refine any_listed (l' := #[true, true, true, true, true, true, true, true, true, true, false]) (by kernel_rfl) ?_
    exact tr_11111 H0.out HN
  exact AllReadyH.nil
set_option maxHeartbeats 1000000 in
set_option maxRecDepth 100000 in
theorem tr_11100 (h : TrH Q CS CB W3 G n n1 n2 nc nh Z c1 c2 cc ck ch PA RE x1 x2 xc xk xh u0 u1 u4 u9 u10 u11) {v15 v17 v19 v20 v6 : Value} {W : World} (hw : TrW CS CB n1 n2 nc nh c1 c2 cc ck ch PA RE x1 x2 xc xk xh W3 n Z true true true false false v15 v17 v19 v20 v6 W) :
    wpAnyH Try.prog .any #[{ dst := some 12, op := Op.load 31 (Operand.tmp 2), type := 31, pos := "l16_verify.go:228", after := #[], guard := none },
  { dst := some 13, op := Op.load 70 (Operand.tmp 3), type := 70, pos := "l16_verify.go:228", after := #[], guard := none },
  { dst := some 14, op := Op.move (Operand.tmp 5), type := 3, pos := "l16_verify.go:228", after := #[], guard := none },
  { dst := some 15, op := Op.makeSlice 49 (Operand.tmp 14) (Operand.tmp 14), type := 49, pos := "l16_verify.go:228", after := #[{ on := 2, ground := Ground.data }, { on := 2, ground := Ground.data }], guard := none },
  { dst := some 16, op := Op.move (Operand.tmp 5), type := 3, pos := "l16_verify.go:228", after := #[], guard := none },
  { dst := some 17, op := Op.makeSlice 50 (Operand.tmp 16) (Operand.tmp 16), type := 50, pos := "l16_verify.go:228", after := #[{ on := 4, ground := Ground.data }, { on := 4, ground := Ground.data }], guard := none },
  { dst := some 18, op := Op.move (Operand.tmp 5), type := 3, pos := "l16_verify.go:228", after := #[], guard := none },
  { dst := some 19, op := Op.call { callee := Callee.value (Operand.func 80), args := #[Operand.tmp 18], argTypes := #[3] }, type := 105, pos := "l16_verify.go:228", after := #[{ on := 6, ground := Ground.data }], guard := none },
  { dst := some 20, op := Op.build 107 #[(0, Operand.tmp 12), (1, Operand.tmp 13), (2, Operand.tmp 15), (3, Operand.tmp 17), (4, Operand.tmp 19)], type := 107, pos := "l16_verify.go:228", after := #[{ on := 0, ground := Ground.data }, { on := 1, ground := Ground.data }, { on := 3, ground := Ground.data }, { on := 5, ground := Ground.data }, { on := 7, ground := Ground.data }], guard := none },
  { dst := some 6, op := Op.alloc 107, type := 0, pos := "l16_verify.go:228", after := #[], guard := none },
  { dst := none, op := Op.store 107 (Operand.tmp 6) (Operand.tmp 20), type := 0, pos := "l16_verify.go:228", after := #[{ on := 9, ground := Ground.data }, { on := 8, ground := Ground.data }, { on := 7, ground := Ground.chain }, { on := 0, ground := Ground.phase }, { on := 1, ground := Ground.phase }, { on := 2, ground := Ground.phase }, { on := 3, ground := Ground.phase }, { on := 4, ground := Ground.phase }, { on := 5, ground := Ground.phase }, { on := 6, ground := Ground.phase }, { on := 7, ground := Ground.phase }, { on := 8, ground := Ground.phase }, { on := 9, ground := Ground.phase }], guard := none }] Q (fun W => Below W3.heap.size W3 W) 3 #[true, true, true, true, true, true, true, true, false, false, false] { tmps := #[u0, u1, .pointer (some ⟨G, 0, none⟩), .pointer (some ⟨G + 1, 0, none⟩), u4, .int .i64 (n : Int), v6, undef, undef, u9, u10, u11, .agg #[.slice x1 n1 c1, .slice x2 n2 c2], .agg #[.int .i64 PA, .int .i64 RE, .slice xc nc cc, .slice xk n ck, .slice xh nh ch], .int .i64 (n : Int), v15, .int .i64 (n : Int), v17, .int .i64 (n : Int), v19, v20, undef, undef, undef, undef, undef, undef, undef, undef, undef, undef, undef, undef, undef, undef, undef, undef], defers := [] } W := by
  refine wpAnyH_ready (rs := [8, 9]) (by kernel_rfl) (by simp) ?_
  have HW : Hid _ := hw
  have H0 : Hid _ := h
  have hmS := h.hS
  have hmB := h.hB
  have cR := h.cR
  obtain ⟨S, rfl, _, _⟩ := hw.s rfl
  obtain ⟨L, K, rfl, _, _, _, _⟩ := hw.r rfl
  obtain ⟨H, rfl, _, _, _⟩ := hw.hr rfl
  have bT := h.bT S H L K
  clear hw h
  refine AllReadyH.cons rfl (fun K' hK => ?_) ?_
  · go_simp
    have HN := HW.out.mkT
    refine hK.out _ _ HN.bel (fun _ => ?_)
    refine any_listed (l' := #[true, true, true, true, true, true, true, true, true, false, false]) (by kernel_rfl) ?_
    exact tr_11110 H0.out HN
  refine AllReadyH.cons rfl (fun K' hK => ?_) ?_
  · go_simp
    have HN := HW.out.mkX H0.out.hZ
    refine hK.out _ _ HN.bel (fun _ => ?_)
    refine any_listed (l' := #[true, true, true, true, true, true, true, true, false, true, false]) (by kernel_rfl) ?_
    exact tr_11101 H0.out HN
  exact AllReadyH.nil
set_option maxHeartbeats 1000000 in
set_option maxRecDepth 100000 in
theorem tr_11001 (h : TrH Q CS CB W3 G n n1 n2 nc nh Z c1 c2 cc ck ch PA RE x1 x2 xc xk xh u0 u1 u4 u9 u10 u11) {v15 v17 v19 v20 v6 : Value} {W : World} (hw : TrW CS CB n1 n2 nc nh c1 c2 cc ck ch PA RE x1 x2 xc xk xh W3 n Z true true false false true v15 v17 v19 v20 v6 W) :
    wpAnyH Try.prog .any #[{ dst := some 12, op := Op.load 31 (Operand.tmp 2), type := 31, pos := "l16_verify.go:228", after := #[], guard := none },
  { dst := some 13, op := Op.load 70 (Operand.tmp 3), type := 70, pos := "l16_verify.go:228", after := #[], guard := none },
  { dst := some 14, op := Op.move (Operand.tmp 5), type := 3, pos := "l16_verify.go:228", after := #[], guard := none },
  { dst := some 15, op := Op.makeSlice 49 (Operand.tmp 14) (Operand.tmp 14), type := 49, pos := "l16_verify.go:228", after := #[{ on := 2, ground := Ground.data }, { on := 2, ground := Ground.data }], guard := none },
  { dst := some 16, op := Op.move (Operand.tmp 5), type := 3, pos := "l16_verify.go:228", after := #[], guard := none },
  { dst := some 17, op := Op.makeSlice 50 (Operand.tmp 16) (Operand.tmp 16), type := 50, pos := "l16_verify.go:228", after := #[{ on := 4, ground := Ground.data }, { on := 4, ground := Ground.data }], guard := none },
  { dst := some 18, op := Op.move (Operand.tmp 5), type := 3, pos := "l16_verify.go:228", after := #[], guard := none },
  { dst := some 19, op := Op.call { callee := Callee.value (Operand.func 80), args := #[Operand.tmp 18], argTypes := #[3] }, type := 105, pos := "l16_verify.go:228", after := #[{ on := 6, ground := Ground.data }], guard := none },
  { dst := some 20, op := Op.build 107 #[(0, Operand.tmp 12), (1, Operand.tmp 13), (2, Operand.tmp 15), (3, Operand.tmp 17), (4, Operand.tmp 19)], type := 107, pos := "l16_verify.go:228", after := #[{ on := 0, ground := Ground.data }, { on := 1, ground := Ground.data }, { on := 3, ground := Ground.data }, { on := 5, ground := Ground.data }, { on := 7, ground := Ground.data }], guard := none },
  { dst := some 6, op := Op.alloc 107, type := 0, pos := "l16_verify.go:228", after := #[], guard := none },
  { dst := none, op := Op.store 107 (Operand.tmp 6) (Operand.tmp 20), type := 0, pos := "l16_verify.go:228", after := #[{ on := 9, ground := Ground.data }, { on := 8, ground := Ground.data }, { on := 7, ground := Ground.chain }, { on := 0, ground := Ground.phase }, { on := 1, ground := Ground.phase }, { on := 2, ground := Ground.phase }, { on := 3, ground := Ground.phase }, { on := 4, ground := Ground.phase }, { on := 5, ground := Ground.phase }, { on := 6, ground := Ground.phase }, { on := 7, ground := Ground.phase }, { on := 8, ground := Ground.phase }, { on := 9, ground := Ground.phase }], guard := none }] Q (fun W => Below W3.heap.size W3 W) 3 #[true, true, true, true, true, true, true, false, false, true, false] { tmps := #[u0, u1, .pointer (some ⟨G, 0, none⟩), .pointer (some ⟨G + 1, 0, none⟩), u4, .int .i64 (n : Int), v6, undef, undef, u9, u10, u11, .agg #[.slice x1 n1 c1, .slice x2 n2 c2], .agg #[.int .i64 PA, .int .i64 RE, .slice xc nc cc, .slice xk n ck, .slice xh nh ch], .int .i64 (n : Int), v15, .int .i64 (n : Int), v17, .int .i64 (n : Int), v19, v20, undef, undef, undef, undef, undef, undef, undef, undef, undef, undef, undef, undef, undef, undef, undef, undef], defers := [] } W := by
  refine wpAnyH_ready (rs := [7]) (by kernel_rfl) (by simp) ?_
  have HW : Hid _ := hw
  have H0 : Hid _ := h
  have hmS := h.hS
  have hmB := h.hB
  have cR := h.cR
  clear hw h
  refine AllReadyH.cons rfl (fun K' hK => ?_) ?_
  · go_simp
    go_wp2_with (go_at_call 80; (with_reducible refine (cR _).mono ?_); rintro e w5 ⟨L5, K5, rfl, HR5⟩)
    have HN := HW.out.mkR H0.out.hZ HR5
    refine hK.out _ _ HN.bel (fun _ => ?_)
    refine any_listed (l' := #[true, true, true, true, true, true, true, true, false, true, false]) (by kernel_rfl) ?_
    exact tr_11101 H0.out HN
  exact AllReadyH.nil
set_option maxHeartbeats 1000000 in
set_option maxRecDepth 100000 in
theorem tr_10101 (h : TrH Q CS CB W3 G n n1 n2 nc nh Z c1 c2 cc ck ch PA RE x1 x2 xc xk xh u0 u1 u4 u9 u10 u11) {v15 v17 v19 v20 v6 : Value} {W : World} (hw : TrW CS CB n1 n2 nc nh c1 c2 cc ck ch PA RE x1 x2 xc xk xh W3 n Z true false true false true v15 v17 v19 v20 v6 W) :
    wpAnyH Try.prog .any #[{ dst := some 12, op := Op.load 31 (Operand.tmp 2), type := 31, pos := "l16_verify.go:228", after := #[], guard := none },
  { dst := some 13, op := Op.load 70 (Operand.tmp 3), type := 70, pos := "l16_verify.go:228", after := #[], guard := none },
  { dst := some 14, op := Op.move (Operand.tmp 5), type := 3, pos := "l16_verify.go:228", after := #[], guard := none },
  { dst := some 15, op := Op.makeSlice 49 (Operand.tmp 14) (Operand.tmp 14), type := 49, pos := "l16_verify.go:228", after := #[{ on := 2, ground := Ground.data }, { on := 2, ground := Ground.data }], guard := none },
  { dst := some 16, op := Op.move (Operand.tmp 5), type := 3, pos := "l16_verify.go:228", after := #[], guard := none },
  { dst := some 17, op := Op.makeSlice 50 (Operand.tmp 16) (Operand.tmp 16), type := 50, pos := "l16_verify.go:228", after := #[{ on := 4, ground := Ground.data }, { on := 4, ground := Ground.data }], guard := none },
  { dst := some 18, op := Op.move (Operand.tmp 5), type := 3, pos := "l16_verify.go:228", after := #[], guard := none },
  { dst := some 19, op := Op.call { callee := Callee.value (Operand.func 80), args := #[Operand.tmp 18], argTypes := #[3] }, type := 105, pos := "l16_verify.go:228", after := #[{ on := 6, ground := Ground.data }], guard := none },
  { dst := some 20, op := Op.build 107 #[(0, Operand.tmp 12), (1, Operand.tmp 13), (2, Operand.tmp 15), (3, Operand.tmp 17), (4, Operand.tmp 19)], type := 107, pos := "l16_verify.go:228", after := #[{ on := 0, ground := Ground.data }, { on := 1, ground := Ground.data }, { on := 3, ground := Ground.data }, { on := 5, ground := Ground.data }, { on := 7, ground := Ground.data }], guard := none },
  { dst := some 6, op := Op.alloc 107, type := 0, pos := "l16_verify.go:228", after := #[], guard := none },
  { dst := none, op := Op.store 107 (Operand.tmp 6) (Operand.tmp 20), type := 0, pos := "l16_verify.go:228", after := #[{ on := 9, ground := Ground.data }, { on := 8, ground := Ground.data }, { on := 7, ground := Ground.chain }, { on := 0, ground := Ground.phase }, { on := 1, ground := Ground.phase }, { on := 2, ground := Ground.phase }, { on := 3, ground := Ground.phase }, { on := 4, ground := Ground.phase }, { on := 5, ground := Ground.phase }, { on := 6, ground := Ground.phase }, { on := 7, ground := Ground.phase }, { on := 8, ground := Ground.phase }, { on := 9, ground := Ground.phase }], guard := none }] Q (fun W => Below W3.heap.size W3 W) 3 #[true, true, true, true, true, false, true, true, false, true, false] { tmps := #[u0, u1, .pointer (some ⟨G, 0, none⟩), .pointer (some ⟨G + 1, 0, none⟩), u4, .int .i64 (n : Int), v6, undef, undef, u9, u10, u11, .agg #[.slice x1 n1 c1, .slice x2 n2 c2], .agg #[.int .i64 PA, .int .i64 RE, .slice xc nc cc, .slice xk n ck, .slice xh nh ch], .int .i64 (n : Int), v15, .int .i64 (n : Int), v17, .int .i64 (n : Int), v19, v20, undef, undef, undef, undef, undef, undef, undef, undef, undef, undef, undef, undef, undef, undef, undef, undef], defers := [] } W := by
  refine wpAnyH_ready (rs := [5]) (by kernel_rfl) (by simp) ?_
  have HW : Hid _ := hw
  have H0 : Hid _ := h
  have hmS := h.hS
  have hmB := h.hB
  have cR := h.cR
  clear hw h
  refine AllReadyH.cons rfl (fun K' hK => ?_) ?_
  · go_simp
    have HN := HW.out.mkB H0.out.hZ
    refine hK.out _ _ HN.bel (fun _ => ?_)
    refine any_listed (l' := #[true, true, true, true, true, true, true, true, false, true, false]) (by kernel_rfl) ?_
    exact tr_11101 H0.out HN
  exact AllReadyH.nil
set_option maxHeartbeats 1000000 in
set_option maxRecDepth 100000 in
theorem tr_01101 (h : TrH Q CS CB W3 G n n1 n2 nc nh Z c1 c2 cc ck ch PA RE x1 x2 xc xk xh u0 u1 u4 u9 u10 u11) {v15 v17 v19 v20 v6 : Value} {W : World} (hw : TrW CS CB n1 n2 nc nh c1 c2 cc ck ch PA RE x1 x2 xc xk xh W3 n Z false true true false true v15 v17 v19 v20 v6 W) :
    wpAnyH Try.prog .any #[{ dst := some 12, op := Op.load 31 (Operand.tmp 2), type := 31, pos := "l16_verify.go:228", after := #[], guard := none },
  { dst := some 13, op := Op.load 70 (Operand.tmp 3), type := 70, pos := "l16_verify.go:228", after := #[], guard := none },
  { dst := some 14, op := Op.move (Operand.tmp 5), type := 3, pos := "l16_verify.go:228", after := #[], guard := none },
  { dst := some 15, op := Op.makeSlice 49 (Operand.tmp 14) (Operand.tmp 14), type := 49, pos := "l16_verify.go:228", after := #[{ on := 2, ground := Ground.data }, { on := 2, ground := Ground.data }], guard := none },
  { dst := some 16, op := Op.move (Operand.tmp 5), type := 3, pos := "l16_verify.go:228", after := #[], guard := none },
  { dst := some 17, op := Op.makeSlice 50 (Operand.tmp 16) (Operand.tmp 16), type := 50, pos := "l16_verify.go:228", after := #[{ on := 4, ground := Ground.data }, { on := 4, ground := Ground.data }], guard := none },
  { dst := some 18, op := Op.move (Operand.tmp 5), type := 3, pos := "l16_verify.go:228", after := #[], guard := none },
  { dst := some 19, op := Op.call { callee := Callee.value (Operand.func 80), args := #[Operand.tmp 18], argTypes := #[3] }, type := 105, pos := "l16_verify.go:228", after := #[{ on := 6, ground := Ground.data }], guard := none },
  { dst := some 20, op := Op.build 107 #[(0, Operand.tmp 12), (1, Operand.tmp 13), (2, Operand.tmp 15), (3, Operand.tmp 17), (4, Operand.tmp 19)], type := 107, pos := "l16_verify.go:228", after := #[{ on := 0, ground := Ground.data }, { on := 1, ground := Ground.data }, { on := 3, ground := Ground.data }, { on := 5, ground := Ground.data }, { on := 7, ground := Ground.data }], guard := none },
  { dst := some 6, op := Op.alloc 107, type := 0, pos := "l16_verify.go:228", after := #[], guard := none },
  { dst := none, op := Op.store 107 (Operand.tmp 6) (Operand.tmp 20), type := 0, pos := "l16_verify.go:228", after := #[{ on := 9, ground := Ground.data }, { on := 8, ground := Ground.data }, { on := 7, ground := Ground.chain }, { on := 0, ground := Ground.phase }, { on := 1, ground := Ground.phase }, { on := 2, ground := Ground.phase }, { on := 3, ground := Ground.phase }, { on := 4, ground := Ground.phase }, { on := 5, ground := Ground.phase }, { on := 6, ground := Ground.phase }, { on := 7, ground := Ground.phase }, { on := 8, ground := Ground.phase }, { on := 9, ground := Ground.phase }], guard := none }] Q (fun W => Below W3.heap.size W3 W) 3 #[true, true, true, false, true, true, true, true, false, true, false] { tmps := #[u0, u1, .pointer (some ⟨G, 0, none⟩), .pointer (some ⟨G + 1, 0, none⟩), u4, .int .i64 (n : Int), v6, undef, undef, u9, u10, u11, .agg #[.slice x1 n1 c1, .slice x2 n2 c2], .agg #[.int .i64 PA, .int .i64 RE, .slice xc nc cc, .slice xk n ck, .slice xh nh ch], .int .i64 (n : Int), v15, .int .i64 (n : Int), v17, .int .i64 (n : Int), v19, v20, undef, undef, undef, undef, undef, undef, undef, undef, undef, undef, undef, undef, undef, undef, undef, undef], defers := [] } W := by
  refine wpAnyH_ready (rs := [3]) (by kernel_rfl) (by simp) ?_
  have HW : Hid _ := hw
  have H0 : Hid _ := h
  have hmS := h.hS
  have hmB := h.hB
  have cR := h.cR
  clear hw h
  refine AllReadyH.cons rfl (fun K' hK => ?_) ?_
  · go_simp
    have HN := HW.out.mkS H0.out.hZ
    refine hK.out _ _ HN.bel (fun _ => ?_)
    refine any_listed (l' := #[true, true, true, true, true, true, true, true, false, true, false]) (by kernel_rfl) ?_
    exact tr_11101 H0.out HN
  exact AllReadyH.nil
set_option maxHeartbeats 1000000 in
set_option maxRecDepth 100000 in
theorem tr_11000 (h : TrH Q CS CB W3 G n n1 n2 nc nh Z c1 c2 cc ck ch PA RE x1 x2 xc xk xh u0 u1 u4 u9 u10 u11) {v15 v17 v19 v20 v6 : Value} {W : World} (hw : TrW CS CB n1 n2 nc nh c1 c2 cc ck ch PA RE x1 x2 xc xk xh W3 n Z true true false false false v15 v17 v19 v20 v6 W) :
    wpAnyH Try.prog .any #[{ dst := some 12, op := Op.load 31 (Operand.tmp 2), type := 31, pos := "l16_verify.go:228", after := #[], guard := none },
  { dst := some 13, op := Op.load 70 (Operand.tmp 3), type := 70, pos := "l16_verify.go:228", after := #[], guard := none },
  { dst := some 14, op := Op.move (Operand.tmp 5), type := 3, pos := "l16_verify.go:228", after := #[], guard := none },
  { dst := some 15, op := Op.makeSlice 49 (Operand.tmp 14) (Operand.tmp 14), type := 49, pos := "l16_verify.go:228", after := #[{ on := 2, ground := Ground.data }, { on := 2, ground := Ground.data }], guard := none },
  { dst := some 16, op := Op.move (Operand.tmp 5), type := 3, pos := "l16_verify.go:228", after := #[], guard := none },
  { dst := some 17, op := Op.makeSlice 50 (Operand.tmp 16) (Operand.tmp 16), type := 50, pos := "l16_verify.go:228", after := #[{ on := 4, ground := Ground.data }, { on := 4, ground := Ground.data }], guard := none },
  { dst := some 18, op := Op.move (Operand.tmp 5), type := 3, pos := "l16_verify.go:228", after := #[], guard := none },
  { dst := some 19, op := Op.call { callee := Callee.value (Operand.func 80), args := #[Operand.tmp 18], argTypes := #[3] }, type := 105, pos := "l16_verify.go:228", after := #[{ on := 6, ground := Ground.data }], guard := none },
  { dst := some 20, op := Op.build 107 #[(0, Operand.tmp 12), (1, Operand.tmp 13), (2, Operand.tmp 15), (3, Operand.tmp 17), (4, Operand.tmp 19)], type := 107, pos := "l16_verify.go:228", after := #[{ on := 0, ground := Ground.data }, { on := 1, ground := Ground.data }, { on := 3, ground := Ground.data }, { on := 5, ground := Ground.data }, { on := 7, ground := Ground.data }], guard := none },
  { dst := some 6, op := Op.alloc 107, type := 0, pos := "l16_verify.go:228", after := #[], guard := none },
  { dst := none, op := Op.store 107 (Operand.tmp 6) (Operand.tmp 20), type := 0, pos := "l16_verify.go:228", after := #[{ on := 9, ground := Ground.data }, { on := 8, ground := Ground.data }, { on := 7, ground := Ground.chain }, { on := 0, ground := Ground.phase }, { on := 1, ground := Ground.phase }, { on := 2, ground := Ground.phase }, { on := 3, ground := Ground.phase }, { on := 4, ground := Ground.phase }, { on := 5, ground := Ground.phase }, { on := 6, ground := Ground.phase }, { on := 7, ground := Ground.phase }, { on := 8, ground := Ground.phase }, { on := 9, ground := Ground.phase }], guard := none }] Q (fun W => Below W3.heap.size W3 W) 4 #[true, true, true, true, true, true, true, false, false, false, false] { tmps := #[u0, u1, .pointer (some ⟨G, 0, none⟩), .pointer (some ⟨G + 1, 0, none⟩), u4, .int .i64 (n : Int), v6, undef, undef, u9, u10, u11, .agg #[.slice x1 n1 c1, .slice x2 n2 c2], .agg #[.int .i64 PA, .int .i64 RE, .slice xc nc cc, .slice xk n ck, .slice xh nh ch], .int .i64 (n : Int), v15, .int .i64 (n : Int), v17, .int .i64 (n : Int), v19, v20, undef, undef, undef, undef, undef, undef, undef, undef, undef, undef, undef, undef, undef, undef, undef, undef], defers := [] } W := by
  refine wpAnyH_ready (rs := [7, 9]) (by kernel_rfl) (by simp) ?_
  have HW : Hid _ := hw
  have H0 : Hid _ := h
  have hmS := h.hS
  have hmB := h.hB
  have cR := h.cR
  clear hw h
  refine AllReadyH.cons rfl (fun K' hK => ?_) ?_
  · go_simp
    go_wp2_with (go_at_call 80; (with_reducible refine (cR _).mono ?_); rintro e w5 ⟨L5, K5, rfl, HR5⟩)
    have HN := HW.out.mkR H0.out.hZ HR5
    refine hK.out _ _ HN.bel (fun _ => ?_)
    refine any_listed (l' := #[true, true, true, true, true, true, true, true, false, false, false]) (by kernel_rfl) ?_
    exact tr_11100 H0.out HN
  refine AllReadyH.cons rfl (fun K' hK => ?_) ?_
  · go_simp
    have HN := HW.out.mkX H0.out.hZ
    refine hK.out _ _ HN.bel (fun _ => ?_)
    refine any_listed (l' := #[true, true, true, true, true, true, true, false, false, true, false]) (by kernel_rfl) ?_
    exact tr_11001 H0.out HN
  exact AllReadyH.nil
set_option maxHeartbeats 1000000 in
set_option maxRecDepth 100000 in
theorem tr_10100 (h : TrH Q CS CB W3 G n n1 n2 nc nh Z c1 c2 cc ck ch PA RE x1 x2 xc xk xh u0 u1 u4 u9 u10 u11) {v15 v17 v19 v20 v6 : Value} {W : World} (hw : TrW CS CB n1 n2 nc nh c1 c2 cc ck ch PA RE x1 x2 xc xk xh W3 n Z true false true false false v15 v17 v19 v20 v6 W) :
    wpAnyH Try.prog .any #[{ dst := some 12, op := Op.load 31 (Operand.tmp 2), type := 31, pos := "l16_verify.go:228", after := #[], guard := none },
  { dst := some 13, op := Op.load 70 (Operand.tmp 3), type := 70, pos := "l16_verify.go:228", after := #[], guard := none },
  { dst := some 14, op := Op.move (Operand.tmp 5), type := 3, pos := "l16_verify.go:228", after := #[], guard := none },
  { dst := some 15, op := Op.makeSlice 49 (Operand.tmp 14) (Operand.tmp 14), type := 49, pos := "l16_verify.go:228", after := #[{ on := 2, ground := Ground.data }, { on := 2, ground := Ground.data }], guard := none },
  { dst := some 16, op := Op.move (Operand.tmp 5), type := 3, pos := "l16_verify.go:228", after := #[], guard := none },
  { dst := some 17, op := Op.makeSlice 50 (Operand.tmp 16) (Operand.tmp 16), type := 50, pos := "l16_verify.go:228", after := #[{ on := 4, ground := Ground.data }, { on := 4, ground := Ground.data }], guard := none },
  { dst := some 18, op := Op.move (Operand.tmp 5), type := 3, pos := "l16_verify.go:228", after := #[], guard := none },
  { dst := some 19, op := Op.call { callee := Callee.value (Operand.func 80), args := #[Operand.tmp 18], argTypes := #[3] }, type := 105, pos := "l16_verify.go:228", after := #[{ on := 6, ground := Ground.data }], guard := none },
  { dst := some 20, op := Op.build 107 #[(0, Operand.tmp 12), (1, Operand.tmp 13), (2, Operand.tmp 15), (3, Operand.tmp 17), (4, Operand.tmp 19)], type := 107, pos := "l16_verify.go:228", after := #[{ on := 0, ground := Ground.data }, { on := 1, ground := Ground.data }, { on := 3, ground := Ground.data }, { on := 5, ground := Ground.data }, { on := 7, ground := Ground.data }], guard := none },
  { dst := some 6, op := Op.alloc 107, type := 0, pos := "l16_verify.go:228", after := #[], guard := none },
  { dst := none, op := Op.store 107 (Operand.tmp 6) (Operand.tmp 20), type := 0, pos := "l16_verify.go:228", after := #[{ on := 9, ground := Ground.data }, { on := 8, ground := Ground.data }, { on := 7, ground := Ground.chain }, { on := 0, ground := Ground.phase }, { on := 1, ground := Ground.phase }, { on := 2, ground := Ground.phase }, { on := 3, ground := Ground.phase }, { on := 4, ground := Ground.phase }, { on := 5, ground := Ground.phase }, { on := 6, ground := Ground.phase }, { on := 7, ground := Ground.phase }, { on := 8, ground := Ground.phase }, { on := 9, ground := Ground.phase }], guard := none }] Q (fun W => Below W3.heap.size W3 W) 4 #[true, true, true, true, true, false, true, true, false, false, false] { tmps := #[u0, u1, .pointer (some ⟨G, 0, none⟩), .pointer (some ⟨G + 1, 0, none⟩), u4, .int .i64 (n : Int), v6, undef, undef, u9, u10, u11, .agg #[.slice x1 n1 c1, .slice x2 n2 c2], .agg #[.int .i64 PA, .int .i64 RE, .slice xc nc cc, .slice xk n ck, .slice xh nh ch], .int .i64 (n : Int), v15, .int .i64 (n : Int), v17, .int .i64 (n : Int), v19, v20, undef, undef, undef, undef, undef, undef, undef, undef, undef, undef, undef, undef, undef, undef, undef, undef], defers := [] } W := by
  refine wpAnyH_ready (rs := [5, 9]) (by kernel_rfl) (by simp) ?_
  have HW : Hid _ := hw
  have H0 : Hid _ := h
  have hmS := h.hS
  have hmB := h.hB
  have cR := h.cR
  clear hw h
  refine AllReadyH.cons rfl (fun K' hK => ?_) ?_
  · go_simp
    have HN := HW.out.mkB H0.out.hZ
    refine hK.out _ _ HN.bel (fun _ => ?_)
    refine any_listed (l' := #[true, true, true, true, true, true, true, true, false, false, false]) (by kernel_rfl) ?_
    exact tr_11100 H0.out HN
  refine AllReadyH.cons rfl (fun K' hK => ?_) ?_
  · go_simp
    have HN := HW.out.mkX H0.out.hZ
    refine hK.out _ _ HN.bel (fun _ => ?_)
    refine any_listed (l' := #[true, true, true, true, true, false, true, true, false, true, false]) (by kernel_rfl) ?_
    exact tr_10101 H0.out HN
  exact AllReadyH.nil
set_option maxHeartbeats 1000000 in
set_option maxRecDepth 100000 in
theorem tr_10001 (h : TrH Q CS CB W3 G n n1 n2 nc nh Z c1 c2 cc ck ch PA RE x1 x2 xc xk xh u0 u1 u4 u9 u10 u11) {v15 v17 v19 v20 v6 : Value} {W : World} (hw : TrW CS CB n1 n2 nc nh c1 c2 cc ck ch PA RE x1 x2 xc xk xh W3 n Z true false false false true v15 v17 v19 v20 v6 W) :
    wpAnyH Try.prog .any #[{ dst := some 12, op := Op.load 31 (Operand.tmp 2), type := 31, pos := "l16_verify.go:228", after := #[], guard := none },
  { dst := some 13, op := Op.load 70 (Operand.tmp 3), type := 70, pos := "l16_verify.go:228", after := #[], guard := none },
  { dst := some 14, op := Op.move (Operand.tmp 5), type := 3, pos := "l16_verify.go:228", after := #[], guard := none },
  { dst := some 15, op := Op.makeSlice 49 (Operand.tmp 14) (Operand.tmp 14), type := 49, pos := "l16_verify.go:228", after := #[{ on := 2, ground := Ground.data }, { on := 2, ground := Ground.data }], guard := none },
  { dst := some 16, op := Op.move (Operand.tmp 5), type := 3, pos := "l16_verify.go:228", after := #[], guard := none },
  { dst := some 17, op := Op.makeSlice 50 (Operand.tmp 16) (Operand.tmp 16), type := 50, pos := "l16_verify.go:228", after := #[{ on := 4, ground := Ground.data }, { on := 4, ground := Ground.data }], guard := none },
  { dst := some 18, op := Op.move (Operand.tmp 5), type := 3, pos := "l16_verify.go:228", after := #[], guard := none },
  { dst := some 19, op := Op.call { callee := Callee.value (Operand.func 80), args := #[Operand.tmp 18], argTypes := #[3] }, type := 105, pos := "l16_verify.go:228", after := #[{ on := 6, ground := Ground.data }], guard := none },
  { dst := some 20, op := Op.build 107 #[(0, Operand.tmp 12), (1, Operand.tmp 13), (2, Operand.tmp 15), (3, Operand.tmp 17), (4, Operand.tmp 19)], type := 107, pos := "l16_verify.go:228", after := #[{ on := 0, ground := Ground.data }, { on := 1, ground := Ground.data }, { on := 3, ground := Ground.data }, { on := 5, ground := Ground.data }, { on := 7, ground := Ground.data }], guard := none },
  { dst := some 6, op := Op.alloc 107, type := 0, pos := "l16_verify.go:228", after := #[], guard := none },
  { dst := none, op := Op.store 107 (Operand.tmp 6) (Operand.tmp 20), type := 0, pos := "l16_verify.go:228", after := #[{ on := 9, ground := Ground.data }, { on := 8, ground := Ground.data }, { on := 7, ground := Ground.chain }, { on := 0, ground := Ground.phase }, { on := 1, ground := Ground.phase }, { on := 2, ground := Ground.phase }, { on := 3, ground := Ground.phase }, { on := 4, ground := Ground.phase }, { on := 5, ground := Ground.phase }, { on := 6, ground := Ground.phase }, { on := 7, ground := Ground.phase }, { on := 8, ground := Ground.phase }, { on := 9, ground := Ground.phase }], guard := none }] Q (fun W => Below W3.heap.size W3 W) 4 #[true, true, true, true, true, false, true, false, false, true, false] { tmps := #[u0, u1, .pointer (some ⟨G, 0, none⟩), .pointer (some ⟨G + 1, 0, none⟩), u4, .int .i64 (n : Int), v6, undef, undef, u9, u10, u11, .agg #[.slice x1 n1 c1, .slice x2 n2 c2], .agg #[.int .i64 PA, .int .i64 RE, .slice xc nc cc, .slice xk n ck, .slice xh nh ch], .int .i64 (n : Int), v15, .int .i64 (n : Int), v17, .int .i64 (n : Int), v19, v20, undef, undef, undef, undef, undef, undef, undef, undef, undef, undef, undef, undef, undef, undef, undef, undef], defers := [] } W := by
  refine wpAnyH_ready (rs := [5, 7]) (by kernel_rfl) (by simp) ?_
  have HW : Hid _ := hw
  have H0 : Hid _ := h
  have hmS := h.hS
  have hmB := h.hB
  have cR := h.cR
  clear hw h
  refine AllReadyH.cons rfl (fun K' hK => ?_) ?_
  · go_simp
    have HN := HW.out.mkB H0.out.hZ
    refine hK.out _ _ HN.bel (fun _ => ?_)
    refine any_listed (l' := #[true, true, true, true, true, true, true, false, false, true, false]) (by kernel_rfl) ?_
    exact tr_11001 H0.out HN
  refine AllReadyH.cons rfl (fun K' hK => ?_) ?_
  · go_simp
    go_wp2_with (go_at_call 80; (with_reducible refine (cR _).mono ?_); rintro e w5 ⟨L5, K5, rfl, HR5⟩)
    have HN := HW.out.mkR H0.out.hZ HR5
    refine hK.out _ _ HN.bel (fun _ => ?_)
    refine any_listed (l' := #[true, true, true, true, true, false, true, true, false, true, false]) (by kernel_rfl) ?_
    exact tr_10101 H0.out HN
  exact AllReadyH.nil
set_option maxHeartbeats 1000000 in
set_option maxRecDepth 100000 in
theorem tr_01100 (h : TrH Q CS CB W3 G n n1 n2 nc nh Z c1 c2 cc ck ch PA RE x1 x2 xc xk xh u0 u1 u4 u9 u10 u11) {v15 v17 v19 v20 v6 : Value} {W : World} (hw : TrW CS CB n1 n2 nc nh c1 c2 cc ck ch PA RE x1 x2 xc xk xh W3 n Z false true true false false v15 v17 v19 v20 v6 W) :
    wpAnyH Try.prog .any #[{ dst := some 12, op := Op.load 31 (Operand.tmp 2), type := 31, pos := "l16_verify.go:228", after := #[], guard := none },
  { dst := some 13, op := Op.load 70 (Operand.tmp 3), type := 70, pos := "l16_verify.go:228", after := #[], guard := none },
  { dst := some 14, op := Op.move (Operand.tmp 5), type := 3, pos := "l16_verify.go:228", after := #[], guard := none },
  { dst := some 15, op := Op.makeSlice 49 (Operand.tmp 14) (Operand.tmp 14), type := 49, pos := "l16_verify.go:228", after := #[{ on := 2, ground := Ground.data }, { on := 2, ground := Ground.data }], guard := none },
  { dst := some 16, op := Op.move (Operand.tmp 5), type := 3, pos := "l16_verify.go:228", after := #[], guard := none },
  { dst := some 17, op := Op.makeSlice 50 (Operand.tmp 16) (Operand.tmp 16), type := 50, pos := "l16_verify.go:228", after := #[{ on := 4, ground := Ground.data }, { on := 4, ground := Ground.data }], guard := none },
  { dst := some 18, op := Op.move (Operand.tmp 5), type := 3, pos := "l16_verify.go:228", after := #[], guard := none },
  { dst := some 19, op := Op.call { callee := Callee.value (Operand.func 80), args := #[Operand.tmp 18], argTypes := #[3] }, type := 105, pos := "l16_verify.go:228", after := #[{ on := 6, ground := Ground.data }], guard := none },
  { dst := some 20, op := Op.build 107 #[(0, Operand.tmp 12), (1, Operand.tmp 13), (2, Operand.tmp 15), (3, Operand.tmp 17), (4, Operand.tmp 19)], type := 107, pos := "l16_verify.go:228", after := #[{ on := 0, ground := Ground.data }, { on := 1, ground := Ground.data }, { on := 3, ground := Ground.data }, { on := 5, ground := Ground.data }, { on := 7, ground := Ground.data }], guard := none },
  { dst := some 6, op := Op.alloc 107, type := 0, pos := "l16_verify.go:228", after := #[], guard := none },
  { dst := none, op := Op.store 107 (Operand.tmp 6) (Operand.tmp 20), type := 0, pos := "l16_verify.go:228", after := #[{ on := 9, ground := Ground.data }, { on := 8, ground := Ground.data }, { on := 7, ground := Ground.chain }, { on := 0, ground := Ground.phase }, { on := 1, ground := Ground.phase }, { on := 2, ground := Ground.phase }, { on := 3, ground := Ground.phase }, { on := 4, ground := Ground.phase }, { on := 5, ground := Ground.phase }, { on := 6, ground := Ground.phase }, { on := 7, ground := Ground.phase }, { on := 8, ground := Ground.phase }, { on := 9, ground := Ground.phase }], guard := none }] Q (fun W => Below W3.heap.size W3 W) 4 #[true, true, true, false, true, true, true, true, false, false, false] { tmps := #[u0, u1, .pointer (some ⟨G, 0, none⟩), .pointer (some ⟨G + 1, 0, none⟩), u4, .int .i64 (n : Int), v6, undef, undef, u9, u10, u11, .agg #[.slice x1 n1 c1, .slice x2 n2 c2], .agg #[.int .i64 PA, .int .i64 RE, .slice xc nc cc, .slice xk n ck, .slice xh nh ch], .int .i64 (n : Int), v15, .int .i64 (n : Int), v17, .int .i64 (n : Int), v19, v20, undef, undef, undef, undef, undef, undef, undef, undef, undef, undef, undef, undef, undef, undef, undef, undef], defers := [] } W := by
  refine wpAnyH_ready (rs := [3, 9]) (by kernel_rfl) (by simp) ?_
  have HW : Hid _ := hw
  have H0 : Hid _ := h
  have hmS := h.hS
  have hmB := h.hB
  have cR := h.cR
  clear hw h
  refine AllReadyH.cons rfl (fun K' hK => ?_) ?_
  · go_simp
    have HN := HW.out.mkS H0.out.hZ
    refine hK.out _ _ HN.bel (fun _ => ?_)
    refine any_listed (l' := #[true, true, true, true, true, true, true, true, false, false, false]) (by kernel_rfl) ?_
    exact tr_11100 H0.out HN
  refine AllReadyH.cons rfl (fun K' hK => ?_) ?_
  · go_simp
    have HN := HW.out.mkX H0.out.hZ
    refine hK.out _ _ HN.bel (fun _ => ?_)
    refine any_listed (l' := #[true, true, true, false, true, true, true, true, false, true, false]) (by kernel_rfl) ?_
    exact tr_01101 H0.out HN
  exact AllReadyH.nil
set_option maxHeartbeats 1000000 in
set_option maxRecDepth 100000 in
theorem tr_01001 (h : TrH Q CS CB W3 G n n1 n2 nc nh Z c1 c2 cc ck ch PA RE x1 x2 xc xk xh u0 u1 u4 u9 u10 u11) {v15 v17 v19 v20 v6 : Value} {W : World} (hw : TrW CS CB n1 n2 nc nh c1 c2 cc ck ch PA RE x1 x2 xc xk xh W3 n Z false true false false true v15 v17 v19 v20 v6 W) :
    wpAnyH Try.prog .any #[{ dst := some 12, op := Op.load 31 (Operand.tmp 2), type := 31, pos := "l16_verify.go:228", after := #[], guard := none },
  { dst := some 13, op := Op.load 70 (Operand.tmp 3), type := 70, pos := "l16_verify.go:228", after := #[], guard := none },
  { dst := some 14, op := Op.move (Operand.tmp 5), type := 3, pos := "l16_verify.go:228", after := #[], guard := none },
  { dst := some 15, op := Op.makeSlice 49 (Operand.tmp 14) (Operand.tmp 14), type := 49, pos := "l16_verify.go:228", after := #[{ on := 2, ground := Ground.data }, { on := 2, ground := Ground.data }], guard := none },
  { dst := some 16, op := Op.move (Operand.tmp 5), type := 3, pos := "l16_verify.go:228", after := #[], guard := none },
  { dst := some 17, op := Op.makeSlice 50 (Operand.tmp 16) (Operand.tmp 16), type := 50, pos := "l16_verify.go:228", after := #[{ on := 4, ground := Ground.data }, { on := 4, ground := Ground.data }], guard := none },
  { dst := some 18, op := Op.move (Operand.tmp 5), type := 3, pos := "l16_verify.go:228", after := #[], guard := none },
  { dst := some 19, op := Op.call { callee := Callee.value (Operand.func 80), args := #[Operand.tmp 18], argTypes := #[3] }, type := 105, pos := "l16_verify.go:228", after := #[{ on := 6, ground := Ground.data }], guard := none },
  { dst := some 20, op := Op.build 107 #[(0, Operand.tmp 12), (1, Operand.tmp 13), (2, Operand.tmp 15), (3, Operand.tmp 17), (4, Operand.tmp 19)], type := 107, pos := "l16_verify.go:228", after := #[{ on := 0, ground := Ground.data }, { on := 1, ground := Ground.data }, { on := 3, ground := Ground.data }, { on := 5, ground := Ground.data }, { on := 7, ground := Ground.data }], guard := none },
  { dst := some 6, op := Op.alloc 107, type := 0, pos := "l16_verify.go:228", after := #[], guard := none },
  { dst := none, op := Op.store 107 (Operand.tmp 6) (Operand.tmp 20), type := 0, pos := "l16_verify.go:228", after := #[{ on := 9, ground := Ground.data }, { on := 8, ground := Ground.data }, { on := 7, ground := Ground.chain }, { on := 0, ground := Ground.phase }, { on := 1, ground := Ground.phase }, { on := 2, ground := Ground.phase }, { on := 3, ground := Ground.phase }, { on := 4, ground := Ground.phase }, { on := 5, ground := Ground.phase }, { on := 6, ground := Ground.phase }, { on := 7, ground := Ground.phase }, { on := 8, ground := Ground.phase }, { on := 9, ground := Ground.phase }], guard := none }] Q (fun W => Below W3.heap.size W3 W) 4 #[true, true, true, false, true, true, true, false, false, true, false] { tmps := #[u0, u1, .pointer (some ⟨G, 0, none⟩), .pointer (some ⟨G + 1, 0, none⟩), u4, .int .i64 (n : Int), v6, undef, undef, u9, u10, u11, .agg #[.slice x1 n1 c1, .slice x2 n2 c2], .agg #[.int .i64 PA, .int .i64 RE, .slice xc nc cc, .slice xk n ck, .slice xh nh ch], .int .i64 (n : Int), v15, .int .i64 (n : Int), v17, .int .i64 (n : Int), v19, v20, undef, undef, undef, undef, undef, undef, undef, undef, undef, undef, undef, undef, undef, undef, undef, undef], defers := [] } W := by
  refine wpAnyH_ready (rs := [3, 7]) (by kernel_rfl) (by simp) ?_
  have HW : Hid _ := hw
  have H0 : Hid _ := h
  have hmS := h.hS
  have hmB := h.hB
  have cR := h.cR
  clear hw h
  refine AllReadyH.cons rfl (fun K' hK => ?_) ?_
  · go_simp
    have HN := HW.out.mkS H0.out.hZ
    refine hK.out _ _ HN.bel (fun _ => ?_)
    refine any_listed (l' := #[true, true, true, true, true, true, true, false, false, true, false]) (by kernel_rfl) ?_
    exact tr_11001 H0.out HN
  refine AllReadyH.cons rfl (fun K' hK => ?_) ?_
  · go_simp
    go_wp2_with (go_at_call 80; (with_reducible refine (cR _).mono ?_); rintro e w5 ⟨L5, K5, rfl, HR5⟩)
    have HN := HW.out.mkR H0.out.hZ HR5
    refine hK.out _ _ HN.bel (fun _ => ?_)
    refine any_listed (l' := #[true, true, true, false, true, true, true, true, false, true, false]) (by kernel_rfl) ?_
    exact tr_01101 H0.out HN
  exact AllReadyH.nil
set_option maxHeartbeats 1000000 in
set_option maxRecDepth 100000 in
theorem tr_00101 (h : TrH Q CS CB W3 G n n1 n2 nc nh Z c1 c2 cc ck ch PA RE x1 x2 xc xk xh u0 u1 u4 u9 u10 u11) {v15 v17 v19 v20 v6 : Value} {W : World} (hw : TrW CS CB n1 n2 nc nh c1 c2 cc ck ch PA RE x1 x2 xc xk xh W3 n Z false false true false true v15 v17 v19 v20 v6 W) :
    wpAnyH Try.prog .any #[{ dst := some 12, op := Op.load 31 (Operand.tmp 2), type := 31, pos := "l16_verify.go:228", after := #[], guard := none },
  { dst := some 13, op := Op.load 70 (Operand.tmp 3), type := 70, pos := "l16_verify.go:228", after := #[], guard := none },
  { dst := some 14, op := Op.move (Operand.tmp 5), type := 3, pos := "l16_verify.go:228", after := #[], guard := none },
  { dst := some 15, op := Op.makeSlice 49 (Operand.tmp 14) (Operand.tmp 14), type := 49, pos := "l16_verify.go:228", after := #[{ on := 2, ground := Ground.data }, { on := 2, ground := Ground.data }], guard := none },
  { dst := some 16, op := Op.move (Operand.tmp 5), type := 3, pos := "l16_verify.go:228", after := #[], guard := none },
  { dst := some 17, op := Op.makeSlice 50 (Operand.tmp 16) (Operand.tmp 16), type := 50, pos := "l16_verify.go:228", after := #[{ on := 4, ground := Ground.data }, { on := 4, ground := Ground.data }], guard := none },
  { dst := some 18, op := Op.move (Operand.tmp 5), type := 3, pos := "l16_verify.go:228", after := #[], guard := none },
  { dst := some 19, op := Op.call { callee := Callee.value (Operand.func 80), args := #[Operand.tmp 18], argTypes := #[3] }, type := 105, pos := "l16_verify.go:228", after := #[{ on := 6, ground := Ground.data }], guard := none },
  { dst := some 20, op := Op.build 107 #[(0, Operand.tmp 12), (1, Operand.tmp 13), (2, Operand.tmp 15), (3, Operand.tmp 17), (4, Operand.tmp 19)], type := 107, pos := "l16_verify.go:228", after := #[{ on := 0, ground := Ground.data }, { on := 1, ground := Ground.data }, { on := 3, ground := Ground.data }, { on := 5, ground := Ground.data }, { on := 7, ground := Ground.data }], guard := none },
  { dst := some 6, op := Op.alloc 107, type := 0, pos := "l16_verify.go:228", after := #[], guard := none },
  { dst := none, op := Op.store 107 (Operand.tmp 6) (Operand.tmp 20), type := 0, pos := "l16_verify.go:228", after := #[{ on := 9, ground := Ground.data }, { on := 8, ground := Ground.data }, { on := 7, ground := Ground.chain }, { on := 0, ground := Ground.phase }, { on := 1, ground := Ground.phase }, { on := 2, ground := Ground.phase }, { on := 3, ground := Ground.phase }, { on := 4, ground := Ground.phase }, { on := 5, ground := Ground.phase }, { on := 6, ground := Ground.phase }, { on := 7, ground := Ground.phase }, { on := 8, ground := Ground.phase }, { on := 9, ground := Ground.phase }], guard := none }] Q (fun W => Below W3.heap.size W3 W) 4 #[true, true, true, false, true, false, true, true, false, true, false] { tmps := #[u0, u1, .pointer (some ⟨G, 0, none⟩), .pointer (some ⟨G + 1, 0, none⟩), u4, .int .i64 (n : Int), v6, undef, undef, u9, u10, u11, .agg #[.slice x1 n1 c1, .slice x2 n2 c2], .agg #[.int .i64 PA, .int .i64 RE, .slice xc nc cc, .slice xk n ck, .slice xh nh ch], .int .i64 (n : Int), v15, .int .i64 (n : Int), v17, .int .i64 (n : Int), v19, v20, undef, undef, undef, undef, undef, undef, undef, undef, undef, undef, undef, undef, undef, undef, undef, undef], defers := [] } W := by
  refine wpAnyH_ready (rs := [3, 5]) (by kernel_rfl) (by simp) ?_
  have HW : Hid _ := hw
  have H0 : Hid _ := h
  have hmS := h.hS
  have hmB := h.hB
  have cR := h.cR
  clear hw h
  refine AllReadyH.cons rfl (fun K' hK => ?_) ?_
  · go_simp
    have HN := HW.out.mkS H0.out.hZ
    refine hK.out _ _ HN.bel (fun _ => ?_)
    refine any_listed (l' := #[true, true, true, true, true, false, true, true, false, true, false]) (by kernel_rfl) ?_
    exact tr_10101 H0.out HN
  refine AllReadyH.cons rfl (fun K' hK => ?_) ?_
  · go_simp
    have HN := HW.out.mkB H0.out.hZ
    refine hK.out _ _ HN.bel (fun _ => ?_)
    refine any_listed (l' := #[true, true, true, false, true, true, true, true, false, true, false]) (by kernel_rfl) ?_
    exact tr_01101 H0.out HN
  exact AllReadyH.nil
set_option maxHeartbeats 1000000 in
set_option maxRecDepth 100000 in
theorem tr_10000 (h : TrH Q CS CB W3 G n n1 n2 nc nh Z c1 c2 cc ck ch PA RE x1 x2 xc xk xh u0 u1 u4 u9 u10 u11) {v15 v17 v19 v20 v6 : Value} {W : World} (hw : TrW CS CB n1 n2 nc nh c1 c2 cc ck ch PA RE x1 x2 xc xk xh W3 n Z true false false false false v15 v17 v19 v20 v6 W) :
    wpAnyH Try.prog .any #[{ dst := some 12, op := Op.load 31 (Operand.tmp 2), type := 31, pos := "l16_verify.go:228", after := #[], guard := none },
  { dst := some 13, op := Op.load 70 (Operand.tmp 3), type := 70, pos := "l16_verify.go:228", after := #[], guard := none },
  { dst := some 14, op := Op.move (Operand.tmp 5), type := 3, pos := "l16_verify.go:228", after := #[], guard := none },
  { dst := some 15, op := Op.makeSlice 49 (Operand.tmp 14) (Operand.tmp 14), type := 49, pos := "l16_verify.go:228", after := #[{ on := 2, ground := Ground.data }, { on := 2, ground := Ground.data }], guard := none },
  { dst := some 16, op := Op.move (Operand.tmp 5), type := 3, pos := "l16_verify.go:228", after := #[], guard := none },
  { dst := some 17, op := Op.makeSlice 50 (Operand.tmp 16) (Operand.tmp 16), type := 50, pos := "l16_verify.go:228", after := #[{ on := 4, ground := Ground.data }, { on := 4, ground := Ground.data }], guard := none },
  { dst := some 18, op := Op.move (Operand.tmp 5), type := 3, pos := "l16_verify.go:228", after := #[], guard := none },
  { dst := some 19, op := Op.call { callee := Callee.value (Operand.func 80), args := #[Operand.tmp 18], argTypes := #[3] }, type := 105, pos := "l16_verify.go:228", after := #[{ on := 6, ground := Ground.data }], guard := none },
  { dst := some 20, op := Op.build 107 #[(0, Operand.tmp 12), (1, Operand.tmp 13), (2, Operand.tmp 15), (3, Operand.tmp 17), (4, Operand.tmp 19)], type := 107, pos := "l16_verify.go:228", after := #[{ on := 0, ground := Ground.data }, { on := 1, ground := Ground.data }, { on := 3, ground := Ground.data }, { on := 5, ground := Ground.data }, { on := 7, ground := Ground.data }], guard := none },
  { dst := some 6, op := Op.alloc 107, type := 0, pos := "l16_verify.go:228", after := #[], guard := none },
  { dst := none, op := Op.store 107 (Operand.tmp 6) (Operand.tmp 20), type := 0, pos := "l16_verify.go:228", after := #[{ on := 9, ground := Ground.data }, { on := 8, ground := Ground.data }, { on := 7, ground := Ground.chain }, { on := 0, ground := Ground.phase }, { on := 1, ground := Ground.phase }, { on := 2, ground := Ground.phase }, { on := 3, ground := Ground.phase }, { on := 4, ground := Ground.phase }, { on := 5, ground := Ground.phase }, { on := 6, ground := Ground.phase }, { on := 7, ground := Ground.phase }, { on := 8, ground := Ground.phase }, { on := 9, ground := Ground.phase }], guard := none }] Q (fun W => Below W3.heap.size W3 W) 5 #[true, true, true, true, true, false, true, false, false, false, false] { tmps := #[u0, u1, .pointer (some ⟨G, 0, none⟩), .pointer (some ⟨G + 1, 0, none⟩), u4, .int .i64 (n : Int), v6, undef, undef, u9, u10, u11, .agg #[.slice x1 n1 c1, .slice x2 n2 c2], .agg #[.int .i64 PA, .int .i64 RE, .slice xc nc cc, .slice xk n ck, .slice xh nh ch], .int .i64 (n : Int), v15, .int .i64 (n : Int), v17, .int .i64 (n : Int), v19, v20, undef, undef, undef, undef, undef, undef, undef, undef, undef, undef, undef, undef, undef, undef, undef, undef], defers := [] } W := by
  refine wpAnyH_ready (rs := [5, 7, 9]) (by kernel_rfl) (by simp) ?_
  have HW : Hid _ := hw
  have H0 : Hid _ := h
  have hmS := h.hS
  have hmB := h.hB
  have cR := h.cR
  clear hw h
  refine AllReadyH.cons rfl (fun K' hK => ?_) ?_
  · go_simp
    have HN := HW.out.mkB H0.out.hZ
    refine hK.out _ _ HN.bel (fun _ => ?_)
    refine any_listed (l' := #[true, true, true, true, true, true, true, false, false, false, false]) (by kernel_rfl) ?_
    exact tr_11000 H0.out HN
  refine AllReadyH.cons rfl (fun K' hK => ?_) ?_
  · go_simp
    go_wp2_with (go_at_call 80; (with_reducible refine (cR _).mono ?_); rintro e w5 ⟨L5, K5, rfl, HR5⟩)
    have HN := HW.out.mkR H0.out.hZ HR5
    refine hK.out _ _ HN.bel (fun _ => ?_)
    refine any_listed (l' := #[true, true, true, true, true, false, true, true, false, false, false]) (by kernel_rfl) ?_
    exact tr_10100 H0.out HN
  refine AllReadyH.cons rfl (fun K' hK => ?_) ?_
  · go_simp
    have HN := HW.out.mkX H0.out.hZ
    refine hK.out _ _ HN.bel (fun _ => ?_)
    refine any_listed (l' := #[true, true, true, true, true, false, true, false, false, true, false]) (by kernel_rfl) ?_
    exact tr_10001 H0.out HN
  exact AllReadyH.nil
set_option maxHeartbeats 1000000 in
set_option maxRecDepth 100000 in
theorem tr_01000 (h : TrH Q CS CB W3 G n n1 n2 nc nh Z c1 c2 cc ck ch PA RE x1 x2 xc xk xh u0 u1 u4 u9 u10 u11) {v15 v17 v19 v20 v6 : Value} {W : World} (hw : TrW CS CB n1 n2 nc nh c1 c2 cc ck ch PA RE x1 x2 xc xk xh W3 n Z false true false false false v15 v17 v19 v20 v6 W) :
    wpAnyH Try.prog .any #[{ dst := some 12, op := Op.load 31 (Operand.tmp 2), type := 31, pos := "l16_verify.go:228", after := #[], guard := none },
  { dst := some 13, op := Op.load 70 (Operand.tmp 3), type := 70, pos := "l16_verify.go:228", after := #[], guard := none },
  { dst := some 14, op := Op.move (Operand.tmp 5), type := 3, pos := "l16_verify.go:228", after := #[], guard := none },
  { dst := some 15, op := Op.makeSlice 49 (Operand.tmp 14) (Operand.tmp 14), type := 49, pos := "l16_verify.go:228", after := #[{ on := 2, ground := Ground.data }, { on := 2, ground := Ground.data }], guard := none },
  { dst := some 16, op := Op.move (Operand.tmp 5), type := 3, pos := "l16_verify.go:228", after := #[], guard := none },
  { dst := some 17, op := Op.makeSlice 50 (Operand.tmp 16) (Operand.tmp 16), type := 50, pos := "l16_verify.go:228", after := #[{ on := 4, ground := Ground.data }, { on := 4, ground := Ground.data }], guard := none },
  { dst := some 18, op := Op.move (Operand.tmp 5), type := 3, pos := "l16_verify.go:228", after := #[], guard := none },
  { dst := some 19, op := Op.call { callee := Callee.value (Operand.func 80), args := #[Operand.tmp 18], argTypes := #[3] }, type := 105, pos := "l16_verify.go:228", after := #[{ on := 6, ground := Ground.data }], guard := none },
  { dst := some 20, op := Op.build 107 #[(0, Operand.tmp 12), (1, Operand.tmp 13), (2, Operand.tmp 15), (3, Operand.tmp 17), (4, Operand.tmp 19)], type := 107, pos := "l16_verify.go:228", after := #[{ on := 0, ground := Ground.data }, { on := 1, ground := Ground.data }, { on := 3, ground := Ground.data }, { on := 5, ground := Ground.data }, { on := 7, ground := Ground.data }], guard := none },
  { dst := some 6, op := Op.alloc 107, type := 0, pos := "l16_verify.go:228", after := #[], guard := none },
  { dst := none, op := Op.store 107 (Operand.tmp 6) (Operand.tmp 20), type := 0, pos := "l16_verify.go:228", after := #[{ on := 9, ground := Ground.data }, { on := 8, ground := Ground.data }, { on := 7, ground := Ground.chain }, { on := 0, ground := Ground.phase }, { on := 1, ground := Ground.phase }, { on := 2, ground := Ground.phase }, { on := 3, ground := Ground.phase }, { on := 4, ground := Ground.phase }, { on := 5, ground := Ground.phase }, { on := 6, ground := Ground.phase }, { on := 7, ground := Ground.phase }, { on := 8, ground := Ground.phase }, { on := 9, ground := Ground.phase }], guard := none }] Q (fun W => Below W3.heap.size W3 W) 5 #[true, true, true, false, true, true, true, false, false, false, false] { tmps := #[u0, u1, .pointer (some ⟨G, 0, none⟩), .pointer (some ⟨G + 1, 0, none⟩), u4, .int .i64 (n : Int), v6, undef, undef, u9, u10, u11, .agg #[.slice x1 n1 c1, .slice x2 n2 c2], .agg #[.int .i64 PA, .int .i64 RE, .slice xc nc cc, .slice xk n ck, .slice xh nh ch], .int .i64 (n : Int), v15, .int .i64 (n : Int), v17, .int .i64 (n : Int), v19, v20, undef, undef, undef, undef, undef, undef, undef, undef, undef, undef, undef, undef, undef, undef, undef, undef], defers := [] } W := by
  refine wpAnyH_ready (rs := [3, 7, 9]) (by kernel_rfl) (by simp) ?_
  have HW : Hid _ := hw
  have H0 : Hid _ := h
  have hmS := h.hS
  have hmB := h.hB
  have cR := h.cR
  clear hw h
  refine AllReadyH.cons rfl (fun K' hK => ?_) ?_
  · go_simp
    have HN := HW.out.mkS H0.out.hZ
    refine hK.out _ _ HN.bel (fun _ => ?_)
    refine any_listed (l' := #[true, true, true, true, true, true, true, false, false, false, false]) (by kernel_rfl) ?_
    exact tr_11000 H0.out HN
  refine AllReadyH.cons rfl (fun K' hK => ?_) ?_
  · go_simp
    go_wp2_with (go_at_call 80; (with_reducible refine (cR _).mono ?_); rintro e w5 ⟨L5, K5, rfl, HR5⟩)
    have HN := HW.out.mkR H0.out.hZ HR5
    refine hK.out _ _ HN.bel (fun _ => ?_)
    refine any_listed (l' := #[true, true, true, false, true, true, true, true, false, false, false]) (by kernel_rfl) ?_
    exact tr_01100 H0.out HN
  refine AllReadyH.cons rfl (fun K' hK => ?_) ?_
  · go_simp
    have HN := HW.out.mkX H0.out.hZ
    refine hK.out _ _ HN.bel (fun _ => ?_)
    refine any_listed (l' := #[true, true, true, false, true, true, true, false, false, true, false]) (by kernel_rfl) ?_
    exact tr_01001 H0.out HN
  exact AllReadyH.nil
set_option maxHeartbeats 1000000 in
set_option maxRecDepth 100000 in
theorem tr_00100 (h : TrH Q CS CB W3 G n n1 n2 nc nh Z c1 c2 cc ck ch PA RE x1 x2 xc xk xh u0 u1 u4 u9 u10 u11) {v15 v17 v19 v20 v6 : Value} {W : World} (hw : TrW CS CB n1 n2 nc nh c1 c2 cc ck ch PA RE x1 x2 xc xk xh W3 n Z false false true false false v15 v17 v19 v20 v6 W) :
    wpAnyH Try.prog .any #[{ dst := some 12, op := Op.load 31 (Operand.tmp 2), type := 31, pos := "l16_verify.go:228", after := #[], guard := none },
  { dst := some 13, op := Op.load 70 (Operand.tmp 3), type := 70, pos := "l16_verify.go:228", after := #[], guard := none },
  { dst := some 14, op := Op.move (Operand.tmp 5), type := 3, pos := "l16_verify.go:228", after := #[], guard := none },
  { dst := some 15, op := Op.makeSlice 49 (Operand.tmp 14) (Operand.tmp 14), type := 49, pos := "l16_verify.go:228", after := #[{ on := 2, ground := Ground.data }, { on := 2, ground := Ground.data }], guard := none },
  { dst := some 16, op := Op.move (Operand.tmp 5), type := 3, pos := "l16_verify.go:228", after := #[], guard := none },
  { dst := some 17, op := Op.makeSlice 50 (Operand.tmp 16) (Operand.tmp 16), type := 50, pos := "l16_verify.go:228", after := #[{ on := 4, ground := Ground.data }, { on := 4, ground := Ground.data }], guard := none },
  { dst := some 18, op := Op.move (Operand.tmp 5), type := 3, pos := "l16_verify.go:228", after := #[], guard := none },
  { dst := some 19, op := Op.call { callee := Callee.value (Operand.func 80), args := #[Operand.tmp 18], argTypes := #[3] }, type := 105, pos := "l16_verify.go:228", after := #[{ on := 6, ground := Ground.data }], guard := none },
  { dst := some 20, op := Op.build 107 #[(0, Operand.tmp 12), (1, Operand.tmp 13), (2, Operand.tmp 15), (3, Operand.tmp 17), (4, Operand.tmp 19)], type := 107, pos := "l16_verify.go:228", after := #[{ on := 0, ground := Ground.data }, { on := 1, ground := Ground.data }, { on := 3, ground := Ground.data }, { on := 5, ground := Ground.data }, { on := 7, ground := Ground.data }], guard := none },
  { dst := some 6, op := Op.alloc 107, type := 0, pos := "l16_verify.go:228", after := #[], guard := none },
  { dst := none, op := Op.store 107 (Operand.tmp 6) (Operand.tmp 20), type := 0, pos := "l16_verify.go:228", after := #[{ on := 9, ground := Ground.data }, { on := 8, ground := Ground.data }, { on := 7, ground := Ground.chain }, { on := 0, ground := Ground.phase }, { on := 1, ground := Ground.phase }, { on := 2, ground := Ground.phase }, { on := 3, ground := Ground.phase }, { on := 4, ground := Ground.phase }, { on := 5, ground := Ground.phase }, { on := 6, ground := Ground.phase }, { on := 7, ground := Ground.phase }, { on := 8, ground := Ground.phase }, { on := 9, ground := Ground.phase }], guard := none }] Q (fun W => Below W3.heap.size W3 W) 5 #[true, true, true, false, true, false, true, true, false, false, false] { tmps := #[u0, u1, .pointer (some ⟨G, 0, none⟩), .pointer (some ⟨G + 1, 0, none⟩), u4, .int .i64 (n : Int), v6, undef, undef, u9, u10, u11, .agg #[.slice x1 n1 c1, .slice x2 n2 c2], .agg #[.int .i64 PA, .int .i64 RE, .slice xc nc cc, .slice xk n ck, .slice xh nh ch], .int .i64 (n : Int), v15, .int .i64 (n : Int), v17, .int .i64 (n : Int), v19, v20, undef, undef, undef, undef, undef, undef, undef, undef, undef, undef, undef, undef, undef, undef, undef, undef], defers := [] } W := by
  refine wpAnyH_ready (rs := [3, 5, 9]) (by kernel_rfl) (by simp) ?_
  have HW : Hid _ := hw
  have H0 : Hid _ := h
  have hmS := h.hS
  have hmB := h.hB
  have cR := h.cR
  clear hw h
  refine AllReadyH.cons rfl (fun K' hK => ?_) ?_
  · go_simp
    have HN := HW.out.mkS H0.out.hZ
    refine hK.out _ _ HN.bel (fun _ => ?_)
    refine any_listed (l' := #[true, true, true, true, true, false, true, true, false, false, false]) (by kernel_rfl) ?_
    exact tr_10100 H0.out HN
  refine AllReadyH.cons rfl (fun K' hK => ?_) ?_
  · go_simp
    have HN := HW.out.mkB H0.out.hZ
    refine hK.out _ _ HN.bel (fun _ => ?_)
    refine any_listed (l' := #[true, true, true, false, true, true, true, true, false, false, false]) (by kernel_rfl) ?_
    exact tr_01100 H0.out HN
  refine AllReadyH.cons rfl (fun K' hK => ?_) ?_
  · go_simp
    have HN := HW.out.mkX H0.out.hZ
    refine hK.out _ _ HN.bel (fun _ => ?_)
    refine any_listed (l' := #[true, true, true, false, true, false, true, true, false, true, false]) (by kernel_rfl) ?_
    exact tr_00101 H0.out HN
  exact AllReadyH.nil
set_option maxHeartbeats 1000000 in
set_option maxRecDepth 100000 in
theorem tr_00001 (h : TrH Q CS CB W3 G n n1 n2 nc nh Z c1 c2 cc ck ch PA RE x1 x2 xc xk xh u0 u1 u4 u9 u10 u11) {v15 v17 v19 v20 v6 : Value} {W : World} (hw : TrW CS CB n1 n2 nc nh c1 c2 cc ck ch PA RE x1 x2 xc xk xh W3 n Z false false false false true v15 v17 v19 v20 v6 W) :
    wpAnyH Try.prog .any #[{ dst := some 12, op := Op.load 31 (Operand.tmp 2), type := 31, pos := "l16_verify.go:228", after := #[], guard := none },
  { dst := some 13, op := Op.load 70 (Operand.tmp 3), type := 70, pos := "l16_verify.go:228", after := #[], guard := none },
  { dst := some 14, op := Op.move (Operand.tmp 5), type := 3, pos := "l16_verify.go:228", after := #[], guard := none },
  { dst := some 15, op := Op.makeSlice 49 (Operand.tmp 14) (Operand.tmp 14), type := 49, pos := "l16_verify.go:228", after := #[{ on := 2, ground := Ground.data }, { on := 2, ground := Ground.data }], guard := none },
  { dst := some 16, op := Op.move (Operand.tmp 5), type := 3, pos := "l16_verify.go:228", after := #[], guard := none },
  { dst := some 17, op := Op.makeSlice 50 (Operand.tmp 16) (Operand.tmp 16), type := 50, pos := "l16_verify.go:228", after := #[{ on := 4, ground := Ground.data }, { on := 4, ground := Ground.data }], guard := none },
  { dst := some 18, op := Op.move (Operand.tmp 5), type := 3, pos := "l16_verify.go:228", after := #[], guard := none },
  { dst := some 19, op := Op.call { callee := Callee.value (Operand.func 80), args := #[Operand.tmp 18], argTypes := #[3] }, type := 105, pos := "l16_verify.go:228", after := #[{ on := 6, ground := Ground.data }], guard := none },
  { dst := some 20, op := Op.build 107 #[(0, Operand.tmp 12), (1, Operand.tmp 13), (2, Operand.tmp 15), (3, Operand.tmp 17), (4, Operand.tmp 19)], type := 107, pos := "l16_verify.go:228", after := #[{ on := 0, ground := Ground.data }, { on := 1, ground := Ground.data }, { on := 3, ground := Ground.data }, { on := 5, ground := Ground.data }, { on := 7, ground := Ground.data }], guard := none },
  { dst := some 6, op := Op.alloc 107, type := 0, pos := "l16_verify.go:228", after := #[], guard := none },
  { dst := none, op := Op.store 107 (Operand.tmp 6) (Operand.tmp 20), type := 0, pos := "l16_verify.go:228", after := #[{ on := 9, ground := Ground.data }, { on := 8, ground := Ground.data }, { on := 7, ground := Ground.chain }, { on := 0, ground := Ground.phase }, { on := 1, ground := Ground.phase }, { on := 2, ground := Ground.phase }, { on := 3, ground := Ground.phase }, { on := 4, ground := Ground.phase }, { on := 5, ground := Ground.phase }, { on := 6, ground := Ground.phase }, { on := 7, ground := Ground.phase }, { on := 8, ground := Ground.phase }, { on := 9, ground := Ground.phase }], guard := none }] Q (fun W => Below W3.heap.size W3 W) 5 #[true, true, true, false, true, false, true, false, false, true, false] { tmps := #[u0, u1, .pointer (some ⟨G, 0, none⟩), .pointer (some ⟨G + 1, 0, none⟩), u4, .int .i64 (n : Int), v6, undef, undef, u9, u10, u11, .agg #[.slice x1 n1 c1, .slice x2 n2 c2], .agg #[.int .i64 PA, .int .i64 RE, .slice xc nc cc, .slice xk n ck, .slice xh nh ch], .int .i64 (n : Int), v15, .int .i64 (n : Int), v17, .int .i64 (n : Int), v19, v20, undef, undef, undef, undef, undef, undef, undef, undef, undef, undef, undef, undef, undef, undef, undef, undef], defers := [] } W := by
  refine wpAnyH_ready (rs := [3, 5, 7]) (by kernel_rfl) (by simp) ?_
  have HW : Hid _ := hw
  have H0 : Hid _ := h
  have hmS := h.hS
  have hmB := h.hB
  have cR := h.cR
  clear hw h
  refine AllReadyH.cons rfl (fun K' hK => ?_) ?_
  · go_simp
    have HN := HW.out.mkS H0.out.hZ
    refine hK.out _ _ HN.bel (fun _ => ?_)
    refine any_listed (l' := #[true, true, true, true, true, false, true, false, false, true, false]) (by kernel_rfl) ?_
    exact tr_10001 H0.out HN
  refine AllReadyH.cons rfl (fun K' hK => ?_) ?_
  · go_simp
    have HN := HW.out.mkB H0.out.hZ
    refine hK.out _ _ HN.bel (fun _ => ?_)
    refine any_listed (l' := #[true, true, true, false, true, true, true, false, false, true, false]) (by kernel_rfl) ?_
    exact tr_01001 H0.out HN
  refine AllReadyH.cons rfl (fun K' hK => ?_) ?_
  · go_simp
    go_wp2_with (go_at_call 80; (with_reducible refine (cR _).mono ?_); rintro e w5 ⟨L5, K5, rfl, HR5⟩)
    have HN := HW.out.mkR H0.out.hZ HR5
    refine hK.out _ _ HN.bel (fun _ => ?_)
    refine any_listed (l' := #[true, true, true, false, true, false, true, true, false, true, false]) (by kernel_rfl) ?_
    exact tr_00101 H0.out HN
  exact AllReadyH.nil
set_option maxHeartbeats 1000000 in
set_option maxRecDepth 100000 in
theorem tr_00000 (h : TrH Q CS CB W3 G n n1 n2 nc nh Z c1 c2 cc ck ch PA RE x1 x2 xc xk xh u0 u1 u4 u9 u10 u11) {v15 v17 v19 v20 v6 : Value} {W : World} (hw : TrW CS CB n1 n2 nc nh c1 c2 cc ck ch PA RE x1 x2 xc xk xh W3 n Z false false false false false v15 v17 v19 v20 v6 W) :
    wpAnyH Try.prog .any #[{ dst := some 12, op := Op.load 31 (Operand.tmp 2), type := 31, pos := "l16_verify.go:228", after := #[], guard := none },
  { dst := some 13, op := Op.load 70 (Operand.tmp 3), type := 70, pos := "l16_verify.go:228", after := #[], guard := none },
  { dst := some 14, op := Op.move (Operand.tmp 5), type := 3, pos := "l16_verify.go:228", after := #[], guard := none },
  { dst := some 15, op := Op.makeSlice 49 (Operand.tmp 14) (Operand.tmp 14), type := 49, pos := "l16_verify.go:228", after := #[{ on := 2, ground := Ground.data }, { on := 2, ground := Ground.data }], guard := none },
  { dst := some 16, op := Op.move (Operand.tmp 5), type := 3, pos := "l16_verify.go:228", after := #[], guard := none },
  { dst := some 17, op := Op.makeSlice 50 (Operand.tmp 16) (Operand.tmp 16), type := 50, pos := "l16_verify.go:228", after := #[{ on := 4, ground := Ground.data }, { on := 4, ground := Ground.data }], guard := none },
  { dst := some 18, op := Op.move (Operand.tmp 5), type := 3, pos := "l16_verify.go:228", after := #[], guard := none },
  { dst := some 19, op := Op.call { callee := Callee.value (Operand.func 80), args := #[Operand.tmp 18], argTypes := #[3] }, type := 105, pos := "l16_verify.go:228", after := #[{ on := 6, ground := Ground.data }], guard := none },
  { dst := some 20, op := Op.build 107 #[(0, Operand.tmp 12), (1, Operand.tmp 13), (2, Operand.tmp 15), (3, Operand.tmp 17), (4, Operand.tmp 19)], type := 107, pos := "l16_verify.go:228", after := #[{ on := 0, ground := Ground.data }, { on := 1, ground := Ground.data }, { on := 3, ground := Ground.data }, { on := 5, ground := Ground.data }, { on := 7, ground := Ground.data }], guard := none },
  { dst := some 6, op := Op.alloc 107, type := 0, pos := "l16_verify.go:228", after := #[], guard := none },
  { dst := none, op := Op.store 107 (Operand.tmp 6) (Operand.tmp 20), type := 0, pos := "l16_verify.go:228", after := #[{ on := 9, ground := Ground.data }, { on := 8, ground := Ground.data }, { on := 7, ground := Ground.chain }, { on := 0, ground := Ground.phase }, { on := 1, ground := Ground.phase }, { on := 2, ground := Ground.phase }, { on := 3, ground := Ground.phase }, { on := 4, ground := Ground.phase }, { on := 5, ground := Ground.phase }, { on := 6, ground := Ground.phase }, { on := 7, ground := Ground.phase }, { on := 8, ground := Ground.phase }, { on := 9, ground := Ground.phase }], guard := none }] Q (fun W => Below W3.heap.size W3 W) 6 #[true, true, true, false, true, false, true, false, false, false, false] { tmps := #[u0, u1, .pointer (some ⟨G, 0, none⟩), .pointer (some ⟨G + 1, 0, none⟩), u4, .int .i64 (n : Int), v6, undef, undef, u9, u10, u11, .agg #[.slice x1 n1 c1, .slice x2 n2 c2], .agg #[.int .i64 PA, .int .i64 RE, .slice xc nc cc, .slice xk n ck, .slice xh nh ch], .int .i64 (n : Int), v15, .int .i64 (n : Int), v17, .int .i64 (n : Int), v19, v20, undef, undef, undef, undef, undef, undef, undef, undef, undef, undef, undef, undef, undef, undef, undef, undef], defers := [] } W := by
  refine wpAnyH_ready (rs := [3, 5, 7, 9]) (by kernel_rfl) (by simp) ?_
  have HW : Hid _ := hw
  have H0 : Hid _ := h
  have hmS := h.hS
  have hmB := h.hB
  have cR := h.cR
  clear hw h
  refine AllReadyH.cons rfl (fun K' hK => ?_) ?_
  · go_simp
    have HN := HW.out.mkS H0.out.hZ
    refine hK.out _ _ HN.bel (fun _ => ?_)
    refine any_listed (l' := #[true, true, true, true, true, false, true, false, false, false, false]) (by kernel_rfl) ?_
    exact tr_10000 H0.out HN
  refine AllReadyH.cons rfl (fun K' hK => ?_) ?_
  · go_simp
    have HN := HW.out.mkB H0.out.hZ
    refine hK.out _ _ HN.bel (fun _ => ?_)
    refine any_listed (l' := #[true, true, true, false, true, true, true, false, false, false, false]) (by kernel_rfl) ?_
    exact tr_01000 H0.out HN
  refine AllReadyH.cons rfl (fun K' hK => ?_) ?_
  · go_simp
    go_wp2_with (go_at_call 80; (with_reducible refine (cR _).mono ?_); rintro e w5 ⟨L5, K5, rfl, HR5⟩)
    have HN := HW.out.mkR H0.out.hZ HR5
    refine hK.out _ _ HN.bel (fun _ => ?_)
    refine any_listed (l' := #[true, true, true, false, true, false, true, true, false, false, false]) (by kernel_rfl) ?_
    exact tr_00100 H0.out HN
  refine AllReadyH.cons rfl (fun K' hK => ?_) ?_
  · go_simp
    have HN := HW.out.mkX H0.out.hZ
    refine hK.out _ _ HN.bel (fun _ => ?_)
    refine any_listed (l' := #[true, true, true, false, true, false, true, false, false, true, false]) (by kernel_rfl) ?_
    exact tr_00001 H0.out HN
  exact AllReadyH.nil
set_option maxHeartbeats 1000000 in
set_option maxRecDepth 100000 in
theorem trace_made (h : TrH Q CS CB W3 G n n1 n2 nc nh Z c1 c2 cc ck ch PA RE x1 x2 xc xk xh u0 u1 u4 u9 u10 u11) :
    (Code.region 2 #[{ dst := some 12, op := Op.load 31 (Operand.tmp 2), type := 31, pos := "l16_verify.go:228", after := #[], guard := none },
  { dst := some 13, op := Op.load 70 (Operand.tmp 3), type := 70, pos := "l16_verify.go:228", after := #[], guard := none },
  { dst := some 14, op := Op.move (Operand.tmp 5), type := 3, pos := "l16_verify.go:228", after := #[], guard := none },
  { dst := some 15, op := Op.makeSlice 49 (Operand.tmp 14) (Operand.tmp 14), type := 49, pos := "l16_verify.go:228", after := #[{ on := 2, ground := Ground.data }, { on := 2, ground := Ground.data }], guard := none },
  { dst := some 16, op := Op.move (Operand.tmp 5), type := 3, pos := "l16_verify.go:228", after := #[], guard := none },
  { dst := some 17, op := Op.makeSlice 50 (Operand.tmp 16) (Operand.tmp 16), type := 50, pos := "l16_verify.go:228", after := #[{ on := 4, ground := Ground.data }, { on := 4, ground := Ground.data }], guard := none },
  { dst := some 18, op := Op.move (Operand.tmp 5), type := 3, pos := "l16_verify.go:228", after := #[], guard := none },
  { dst := some 19, op := Op.call { callee := Callee.value (Operand.func 80), args := #[Operand.tmp 18], argTypes := #[3] }, type := 105, pos := "l16_verify.go:228", after := #[{ on := 6, ground := Ground.data }], guard := none },
  { dst := some 20, op := Op.build 107 #[(0, Operand.tmp 12), (1, Operand.tmp 13), (2, Operand.tmp 15), (3, Operand.tmp 17), (4, Operand.tmp 19)], type := 107, pos := "l16_verify.go:228", after := #[{ on := 0, ground := Ground.data }, { on := 1, ground := Ground.data }, { on := 3, ground := Ground.data }, { on := 5, ground := Ground.data }, { on := 7, ground := Ground.data }], guard := none },
  { dst := some 6, op := Op.alloc 107, type := 0, pos := "l16_verify.go:228", after := #[], guard := none },
  { dst := none, op := Op.store 107 (Operand.tmp 6) (Operand.tmp 20), type := 0, pos := "l16_verify.go:228", after := #[{ on := 9, ground := Ground.data }, { on := 8, ground := Ground.data }, { on := 7, ground := Ground.chain }, { on := 0, ground := Ground.phase }, { on := 1, ground := Ground.phase }, { on := 2, ground := Ground.phase }, { on := 3, ground := Ground.phase }, { on := 4, ground := Ground.phase }, { on := 5, ground := Ground.phase }, { on := 6, ground := Ground.phase }, { on := 7, ground := Ground.phase }, { on := 8, ground := Ground.phase }, { on := 9, ground := Ground.phase }], guard := none }] true).wp Try.prog Q { tmps := #[u0, u1, .pointer (some ⟨G, 0, none⟩), .pointer (some ⟨G + 1, 0, none⟩), u4, .int .i64 (n : Int), undef, undef, undef, u9, u10, u11, undef, undef, undef, undef, undef, undef, undef, undef, undef, undef, undef, undef, undef, undef, undef, undef, undef, undef, undef, undef, undef, undef, undef, undef, undef], defers := [] } W3 := by
  have hK := h.hK
  have hP := h.hP
  refine wp_region_held_drew (S := fun W => Below W3.heap.size W3 W) (by kernel_rfl) ((Below.refl _ _).drew) (fun hHeld => ?_)
  refine wpAnyH_take (i := 0) (oi := { dst := some 12, op := Op.load 31 (Operand.tmp 2), type := 31, pos := "l16_verify.go:228", after := #[], guard := none }) (v := .agg #[.slice x1 n1 c1, .slice x2 n2 c2]) rfl (by kernel_rfl) (by kernel_rfl) (by kernel_rfl) (fun _ _ _ k => hP _ _ _ _ _ k) (Or.inl ⟨by rfl, ?_⟩) (by assumption) ?_
  · intro W hW
    have hW' : Below W3.heap.size W3 W := hW
    obtain ⟨⟨a0, a1⟩, e0, e1, e2, e3, e4⟩ := hK W hW'
    clear hK
    go_simp
    try with_reducible rfl
  try simp only [Act.put, List.setIfInBounds_toArray, List.set_cons_zero, List.set_cons_succ]
  refine wpAnyH_take (i := 1) (oi := { dst := some 13, op := Op.load 70 (Operand.tmp 3), type := 70, pos := "l16_verify.go:228", after := #[], guard := none }) (v := .agg #[.int .i64 PA, .int .i64 RE, .slice xc nc cc, .slice xk n ck, .slice xh nh ch]) rfl (by kernel_rfl) (by kernel_rfl) (by kernel_rfl) (fun _ _ _ k => hP _ _ _ _ _ k) (Or.inl ⟨by rfl, ?_⟩) (by assumption) ?_
  · intro W hW
    have hW' : Below W3.heap.size W3 W := hW
    obtain ⟨⟨a0, a1⟩, e0, e1, e2, e3, e4⟩ := hK W hW'
    clear hK
    go_simp
    try with_reducible rfl
  try simp only [Act.put, List.setIfInBounds_toArray, List.set_cons_zero, List.set_cons_succ]
  refine wpAnyH_take (i := 2) (oi := { dst := some 14, op := Op.move (Operand.tmp 5), type := 3, pos := "l16_verify.go:228", after := #[], guard := none }) (v := .int .i64 (n : Int)) rfl (by kernel_rfl) (by kernel_rfl) (by kernel_rfl) (fun _ _ _ k => hP _ _ _ _ _ k) (Or.inl ⟨by rfl, ?_⟩) (by assumption) ?_
  · intro W hW
    have hW' : Below W3.heap.size W3 W := hW
    obtain ⟨⟨a0, a1⟩, e0, e1, e2, e3, e4⟩ := hK W hW'
    clear hK
    go_simp
    try with_reducible rfl
  try simp only [Act.put, List.setIfInBounds_toArray, List.set_cons_zero, List.set_cons_succ]
  refine wpAnyH_take (i := 4) (oi := { dst := some 16, op := Op.move (Operand.tmp 5), type := 3, pos := "l16_verify.go:228", after := #[], guard := none }) (v := .int .i64 (n : Int)) rfl (by kernel_rfl) (by kernel_rfl) (by kernel_rfl) (fun _ _ _ k => hP _ _ _ _ _ k) (Or.inl ⟨by rfl, ?_⟩) (by assumption) ?_
  · intro W hW
    have hW' : Below W3.heap.size W3 W := hW
    obtain ⟨⟨a0, a1⟩, e0, e1, e2, e3, e4⟩ := hK W hW'
    clear hK
    go_simp
    try with_reducible rfl
  try simp only [Act.put, List.setIfInBounds_toArray, List.set_cons_zero, List.set_cons_succ]
  refine wpAnyH_take (i := 6) (oi := { dst := some 18, op := Op.move (Operand.tmp 5), type := 3, pos := "l16_verify.go:228", after := #[], guard := none }) (v := .int .i64 (n : Int)) rfl (by kernel_rfl) (by kernel_rfl) (by kernel_rfl) (fun _ _ _ k => hP _ _ _ _ _ k) (Or.inl ⟨by rfl, ?_⟩) (by assumption) ?_
  · intro W hW
    have hW' : Below W3.heap.size W3 W := hW
    obtain ⟨⟨a0, a1⟩, e0, e1, e2, e3, e4⟩ := hK W hW'
    clear hK
    go_simp
    try with_reducible rfl
  try simp only [Act.put, List.setIfInBounds_toArray, List.set_cons_zero, List.set_cons_succ]
  refine any_listed (l' := #[true, true, true, false, true, false, true, false, false, false, false]) (by kernel_rfl) ?_
  exact tr_00000 h ⟨(Below.refl _ _).drew, fun q => (by cases q), fun q => (by cases q), fun q => (by cases q), fun q => (by cases q), fun q => (by cases q)⟩
end Go.Proofs.Ytbgdapdenbldmaa
