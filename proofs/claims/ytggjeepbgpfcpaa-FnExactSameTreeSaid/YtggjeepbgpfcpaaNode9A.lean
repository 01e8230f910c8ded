/-
  An argument that is a list of nodes, opened: each node's fields, its numbers and its names.
-/
import Derived.Test.YtggjeepbgpfcpaaRows
import Derived.Test.YtggjeepbgpfcpaaNode9B
namespace Go.Proofs.Ytggjeepbgpfcpaa
open Go.RowKit Go.ChangeShapes Go.WideShapes
set_option linter.unusedVariables false

theorem Try.cellsNode9 : Try.prog.cellsOf 36 = 8 := by kernel_rfl
theorem Try.cellsInt9 : Try.prog.cellsOf 3 = 1 := by kernel_rfl
theorem Try.cellsStr9 : Try.prog.cellsOf 9 = 1 := by kernel_rfl
theorem Try.cellsWord9 : Try.prog.cellsOf 34 = 1 := by kernel_rfl
theorem Try.cellsInts9 : Try.prog.cellsOf 32 = 1 := by kernel_rfl
theorem Try.cellsStrs9 : Try.prog.cellsOf 33 = 1 := by kernel_rfl

variable {H : Type} {enc : TypeId × Value → H} {w : World}

theorem spot_at {a : Addr} {v : Value} (h : w.cell? (a.add 0) = some v) : ∃ b o, a = ⟨b, o, none⟩ := by
  obtain ⟨b, off, spot⟩ := a
  have hspot : spot = none := by simpa [Addr.add] using World.cell?_spot h
  subst hspot
  exact ⟨b, off, rfl⟩

theorem open_arg_ints {fuel : Nat} {v : Value} {x : DataW H × List MemPlace} (h : DataW.trod enc Try.prog w 0 (fun _ => true) true fuel 32 [v] = some x) : ∃ l, ArgInts w v l := by
  rcases open_ints Try.underlying32 Try.underlying3 Try.cellsInt9 h with ⟨hcs, _⟩ | ⟨a, len, cap, zs, hcs, _, hl, hm, hz, _, hcell, hwz⟩
  · simp at hcs
    subst hcs
    exact ⟨[], none, 0, rfl, by simp, fun h => by simp at h⟩
  · simp at hcs
    subst hcs
    simp only [if_true] at hz
    have hlen : (zs.take len).length = len := by rw [List.length_take]; omega
    refine ⟨zs.take len, some a, cap, by rw [hlen], by rw [hlen]; omega, fun h0 => ?_⟩
    rw [hlen] at h0 ⊢
    obtain ⟨b, o, rfl, hc⟩ := ints_at hcell (by omega)
    refine ⟨b, o, rfl, World.block_lt_of_cell? w _ (hc 0 (by omega)), fun j hj => ?_⟩
    rw [hc j (by omega)]
    simp [List.getD, hj]

theorem open_arg_strs {fuel : Nat} {v : Value} {x : DataW H × List MemPlace} (h : DataW.trod enc Try.prog w 0 (fun _ => true) true fuel 33 [v] = some x) : ∃ l, ArgStrs w v l := by
  rcases open_strings Try.underlying33 Try.underlying9 Try.cellsStr9 h with ⟨hcs, _⟩ | ⟨a, len, cap, zs, hcs, _, hl, hm, hz, _, hcell, hwz⟩
  · simp at hcs
    subst hcs
    exact ⟨[], none, 0, rfl, by simp, by simp, fun h => by simp at h⟩
  · simp at hcs
    subst hcs
    simp only [if_true] at hz
    have hlen : (zs.take len).length = len := by rw [List.length_take]; omega
    refine ⟨zs.take len, some a, cap, by rw [hlen], by rw [hlen]; omega, fun s hs => hwz s (List.mem_of_mem_take hs), fun h0 => ?_⟩
    rw [hlen] at h0 ⊢
    obtain ⟨b, o, rfl⟩ := spot_at (hcell 0 (by omega))
    have hc : ∀ j, j < zs.length → w.cell? ⟨b, o + j, none⟩ = some (.string (zs.getD j ByteArray.empty)) := fun j hj => by rw [← add_plain]; exact hcell j hj
    refine ⟨b, o, rfl, World.block_lt_of_cell? w _ (hc 0 (by omega)), fun j hj => ?_⟩
    rw [hc j (by omega)]
    simp [List.getD, hj]

theorem some_at {α : Type} {l : List α} {i : Nat} (h : i < l.length) {y : Option α} (e : y = l[i]?) : ∃ x, y = some x := ⟨l[i], by rw [e, List.getElem?_eq_getElem h]⟩

set_option maxRecDepth 100000 in
theorem open_node {fuel : Nat} {cs : List Value} {x : DataW H × List MemPlace} (h : DataW.trod enc Try.prog w 0 (fun _ => true) true fuel 36 cs = some x) :
    ∃ (p : PNode) (lv nv : Value), cs = nodeC p lv nv ∧ ArgInts w lv p.list ∧ ArgStrs w nv p.names ∧ NumOk p.num := by
  obtain ⟨xs, n, _, rfl, hl, hlen, hf⟩ := DataW.trod_struct Try.underlying36 h
  rw [Try.cellsNode9] at hl
  match cs, hl with
  | [v0, v1, v2, v3, v4, v5, v6, v7], _ =>
    obtain ⟨y0, g0⟩ := some_at (by rw [hlen]; decide) (hf 0 _ rfl)
    obtain ⟨y1, g1⟩ := some_at (by rw [hlen]; decide) (hf 1 _ rfl)
    obtain ⟨y2, g2⟩ := some_at (by rw [hlen]; decide) (hf 2 _ rfl)
    obtain ⟨y3, g3⟩ := some_at (by rw [hlen]; decide) (hf 3 _ rfl)
    obtain ⟨y4, g4⟩ := some_at (by rw [hlen]; decide) (hf 4 _ rfl)
    obtain ⟨y5, g5⟩ := some_at (by rw [hlen]; decide) (hf 5 _ rfl)
    obtain ⟨y6, g6⟩ := some_at (by rw [hlen]; decide) (hf 6 _ rfl)
    obtain ⟨y7, g7⟩ := some_at (by rw [hlen]; decide) (hf 7 _ rfl)
    replace g0 : DataW.trod enc Try.prog w 0 (fun _ => true) true n 3 (([v0, v1, v2, v3, v4, v5, v6, v7].drop 0).take (Try.prog.cellsOf 3)) = some y0 := g0
    rw [Try.cellsInt9] at g0
    replace g0 : DataW.trod enc Try.prog w 0 (fun _ => true) true n 3 [v0] = some y0 := g0
    replace g1 : DataW.trod enc Try.prog w 0 (fun _ => true) true n 3 (([v0, v1, v2, v3, v4, v5, v6, v7].drop 1).take (Try.prog.cellsOf 3)) = some y1 := g1
    rw [Try.cellsInt9] at g1
    replace g1 : DataW.trod enc Try.prog w 0 (fun _ => true) true n 3 [v1] = some y1 := g1
    replace g2 : DataW.trod enc Try.prog w 0 (fun _ => true) true n 3 (([v0, v1, v2, v3, v4, v5, v6, v7].drop 2).take (Try.prog.cellsOf 3)) = some y2 := g2
    rw [Try.cellsInt9] at g2
    replace g2 : DataW.trod enc Try.prog w 0 (fun _ => true) true n 3 [v2] = some y2 := g2
    replace g3 : DataW.trod enc Try.prog w 0 (fun _ => true) true n 3 (([v0, v1, v2, v3, v4, v5, v6, v7].drop 3).take (Try.prog.cellsOf 3)) = some y3 := g3
    rw [Try.cellsInt9] at g3
    replace g3 : DataW.trod enc Try.prog w 0 (fun _ => true) true n 3 [v3] = some y3 := g3
    replace g4 : DataW.trod enc Try.prog w 0 (fun _ => true) true n 32 (([v0, v1, v2, v3, v4, v5, v6, v7].drop 4).take (Try.prog.cellsOf 32)) = some y4 := g4
    rw [Try.cellsInts9] at g4
    replace g4 : DataW.trod enc Try.prog w 0 (fun _ => true) true n 32 [v4] = some y4 := g4
    replace g5 : DataW.trod enc Try.prog w 0 (fun _ => true) true n 33 (([v0, v1, v2, v3, v4, v5, v6, v7].drop 5).take (Try.prog.cellsOf 33)) = some y5 := g5
    rw [Try.cellsStrs9] at g5
    replace g5 : DataW.trod enc Try.prog w 0 (fun _ => true) true n 33 [v5] = some y5 := g5
    replace g6 : DataW.trod enc Try.prog w 0 (fun _ => true) true n 34 (([v0, v1, v2, v3, v4, v5, v6, v7].drop 6).take (Try.prog.cellsOf 34)) = some y6 := g6
    rw [Try.cellsWord9] at g6
    replace g6 : DataW.trod enc Try.prog w 0 (fun _ => true) true n 34 [v6] = some y6 := g6
    replace g7 : DataW.trod enc Try.prog w 0 (fun _ => true) true n 3 (([v0, v1, v2, v3, v4, v5, v6, v7].drop 7).take (Try.prog.cellsOf 3)) = some y7 := g7
    rw [Try.cellsInt9] at g7
    replace g7 : DataW.trod enc Try.prog w 0 (fun _ => true) true n 3 [v7] = some y7 := g7
    obtain ⟨n0, e0, _, _⟩ := DataW.trod_int Try.underlying3 g0
    obtain ⟨n1, e1, _, _⟩ := DataW.trod_int Try.underlying3 g1
    obtain ⟨n2, e2, _, _⟩ := DataW.trod_int Try.underlying3 g2
    obtain ⟨n3, e3, _, _⟩ := DataW.trod_int Try.underlying3 g3
    obtain ⟨l4, k4⟩ := open_arg_ints g4
    obtain ⟨l5, k5⟩ := open_arg_strs g5
    obtain ⟨n6, e6, _, w6⟩ := DataW.trod_int Try.underlying34 g6
    obtain ⟨n7, e7, _, _⟩ := DataW.trod_int Try.underlying3 g7
    simp only [List.cons.injEq, and_true] at e0 e1 e2 e3 e6 e7
    subst e0 e1 e2 e3 e6 e7
    have b6 := Go.bounds_u64 w6
    refine ⟨⟨n0, n1, n2, n3, l4, l5, n6.toNat, n7⟩, v4, v5, ?_, k4, k5, by unfold NumOk; show n6.toNat < 2 ^ 64; omega⟩
    unfold nodeC
    simp only
    rw [Int.toNat_of_nonneg b6.1]

theorem open_arg_nodes {fuel : Nat} {v : Value} {x : DataW H × List MemPlace} (h : DataW.trod enc Try.prog w 0 (fun _ => true) true fuel 22 [v] = some x) : ∃ l, ArgNodes w v l := by
  rcases Go.Deep.open_slice Try.underlying22 h with ⟨hcs, _⟩ | ⟨a, len, cap, m, n, D, Pl, hcs, _, hl, hm, hmm, _, hx⟩
  · simp at hcs
    subst hcs
    exact ⟨[], none, 0, rfl, by simp, fun h => by simp at h⟩
  · simp at hcs
    subst hcs
    simp only [if_true] at hmm
    rw [Try.cellsNode9] at hx
    have hinh : Inhabited PNode := ⟨⟨0, 0, 0, 0, [], [], 0, 0⟩⟩
    obtain ⟨f, hf⟩ := Go.Deep.choose_lt (α := PNode) (n := len) (p := fun i p => ∃ lv nv, w.cells? 0 (a.add (i * 8)) 8 = some (nodeC p lv nv) ∧ ArgInts w lv p.list ∧ ArgStrs w nv p.names ∧ NumOk p.num) (fun i hi => by
      obtain ⟨cs', h1, h2⟩ := hx i (by omega)
      obtain ⟨p, lv, nv, rfl, k1, k2, k3⟩ := open_node h2
      exact ⟨p, lv, nv, h1, k1, k2, k3⟩)
    have hlen : ((List.range len).map f).length = len := by simp
    refine ⟨(List.range len).map f, some a, cap, by rw [hlen], by rw [hlen]; omega, fun h0 => ?_⟩
    rw [hlen] at h0
    have cell : ∀ i, i < len → ∃ lv nv, (∀ k u, (nodeC (f i) lv nv)[k]? = some u → w.cell? ((a.add (i * 8)).add k) = some u) ∧ ArgInts w lv (f i).list ∧ ArgStrs w nv (f i).names ∧ NumOk (f i).num := fun i hi => by
      obtain ⟨lv, nv, h1, h2, h3, h4⟩ := hf i hi
      obtain ⟨_, hl8, hc⟩ := World.cells?_some h1
      refine ⟨lv, nv, fun k u hk => ?_, h2, h3, h4⟩
      have hk8 : k < 8 := (List.getElem?_eq_some_iff.1 hk).1
      rw [hc k hk8, hk]
    obtain ⟨lv0, nv0, c0, _⟩ := cell 0 h0
    obtain ⟨b, o, rfl⟩ : ∃ b o, a = ⟨b, o, none⟩ := by
      have := c0 0 _ rfl
      rw [Nat.zero_mul, show (a.add 0) = a by simp [Addr.add]] at this
      exact spot_at this
    refine ⟨b, o, rfl, ?_, fun j p hj => ?_⟩
    · have := c0 0 _ rfl
      rw [Nat.zero_mul, add_plain, add_plain] at this
      exact World.block_lt_of_cell? w _ this
    · have hjl : j < len := by
        have := (List.getElem?_eq_some_iff.1 hj).1
        rwa [hlen] at this
      rw [List.getElem?_map, List.getElem?_range hjl] at hj
      simp only [Option.map_some, Option.some.injEq] at hj
      subst hj
      obtain ⟨lv, nv, hc, h2, h3, h4⟩ := cell j hjl
      have hc' : ∀ k u, (nodeC (f j) lv nv)[k]? = some u → w.cell? ⟨b, o + j * 8 + k, none⟩ = some u := fun k u hk => by
        have := hc k u hk
        rwa [add_plain, add_plain] at this
      exact ⟨lv, nv, h2, h3, h4, hc' 0 _ rfl, hc' 1 _ rfl, hc' 2 _ rfl, hc' 3 _ rfl, hc' 4 _ rfl, hc' 5 _ rfl, hc' 6 _ rfl, hc' 7 _ rfl⟩

end Go.Proofs.Ytggjeepbgpfcpaa
