/-
  An append to a row that the call itself made, as one step of a statement whose order Go leaves open.
-/
import Derived.Test.YtojmmmfboahkgaaDoorBase
import Derived.Deep.RegionLaw
namespace Go.Proofs.YtojmmmfboahkgaaDoor
open Go.RowKit

theorem cells_new (w : World) (ys : List Value) (t : TypeId) : ∀ j u, ys[j]? = some u → (w.alloc (.cells ys.toArray t)).cell? ((⟨w.heap.size, 0, none⟩ : Addr).add j) = some u := by
  intro j u hj
  have hp : (⟨w.heap.size, 0, none⟩ : Addr).add j = ⟨w.heap.size, j, none⟩ := by unfold Addr.add; split <;> simp_all
  rw [hp]
  have h := heap_alloc_new w (.cells ys.toArray t)
  unfold World.cell?
  simp only [h]
  simpa using hj

/-- ys was laid in a block of its own, in the world w; then the tape may have been asked (d) -/
theorem step_append_own {P : Program} {ops : Array Oper} {o : Oper} {a : Act} {w w0 W : World} {K : Act → World → Prop} {Q : Exit → Act → World → Prop} {E : Prop}
    (hg : o.guard = none) (s x : Operand) (t : TypeId) (hop : o.op = Op.call { callee := Callee.builtin Builtin.append, args := #[s, x], argTypes := #[t, t] })
    (base : Nat) (e : TypeId) (i : TypeInfo) (z : Value) (bytes : Nat) (ht : P.underlying t = some (.slice e)) (hi : P.info? e = some i) (hz : i.zero = some z)
    (hsize : i.size = 1) (hby : i.bytes = bytes) (hzs : z.cells.size = 1)
    (v : Value) (n : Nat) (xs : List Value) (hs : a.eval s = v) (hown : w.ownsRow base e 1 v n xs)
    (ys : List Value) (m : Nat) (hm : ys.length = m) (hx : a.eval x = .slice (some ⟨w.heap.size, 0, none⟩) m m) (hy : ∀ y ∈ ys, y.oneCell' = true)
    (hW : W = w.alloc (.cells ys.toArray e) ∨ W = (w.alloc (.cells ys.toArray e)).drew)
    (hn : n + m < 1000000000000) (hb : bytes ≤ 64) (hbel : Below base w0 w) (hbase : base ≤ w.heap.size)
    (h : ∀ v' w', w'.ownsRow base e 1 v' (n + m) (xs ++ ys) → Below base w0 w' → K (a.put o.dst v') w') :
    if Region.wanted o (yielded ops a.tmps) = true then Oper.wp P o a W K Q else E := by
  have hw : Region.wanted o (yielded ops a.tmps) = true := by simp [Region.wanted, hg]
  rw [if_pos hw]
  have hbytes : (n + m) * bytes ≤ 140737488355328 := by
    have : (n + m) * bytes ≤ 1000000000000 * 64 := Nat.mul_le_mul (by omega) hb
    omega
  have hcell : ∀ j u, ys[j]? = some u → W.cell? ((⟨w.heap.size, 0, none⟩ : Addr).add j) = some u := by
    intro j u hj
    rcases hW with rfl | rfl
    · exact cells_new w ys e j u hj
    · exact cells_new w ys e j u hj
  have hownW : W.ownsRow base e 1 v n xs := by
    rcases hW with rfl | rfl
    · exact hown.alloc _
    · exact hown.alloc _
  have hszW : W.heap.size = w.heap.size + 1 := by
    rcases hW with rfl | rfl
    · simp
    · simp
  have hbelW : Below base w0 W := by
    rcases hW with rfl | rfl
    · exact hbel.alloc hbase _
    · exact (hbel.alloc hbase _).drew
  exact wp_append_own W s x t hop base e i z 1 bytes ht hi hz hsize hby hzs (by decide) v n xs hs hownW ⟨w.heap.size, 0, none⟩ m m ys hx (by omega) hcell hy (by unfold maxLen; omega) hbytes (by omega)
    (fun v' w' h1 h2 _ => h v' w' h1 (hbelW.grown h2 (by omega) (fun k hk => (hown.lt k hk).1)))

theorem two_cells (k : IntKind) (a b : Int) : ∀ y ∈ [Value.int k a, Value.int k b], y.oneCell' = true := by
  intro y hy
  simp only [List.mem_cons, List.not_mem_nil, or_false] at hy
  rcases hy with rfl | rfl <;> rfl

end Go.Proofs.YtojmmmfboahkgaaDoor
