/-
  Nodes of a tree, and what it is that a list of numbers, of texts, of nodes is read at a slice that came in; over no program but for the element's kinds.
-/
import Derived.Test.YtbgdapdenbldmaaBase
import Derived.OpenShut
import Derived.SliceStrings
import Derived.Deep.Slices
namespace Go.Proofs.Ytbgdapdenbldmaa
open Go.RowKit
set_option linter.unusedVariables false

structure PNode where
  kind : Int
  a : Int
  b : Int
  c : Int
  list : List Int
  names : List ByteArray
  num : Nat
  pos : Int

/-- the cells of a node: where its lists are is told besides -/
def nodeC (p : PNode) (lv nv : Value) : List Value := [.int .i64 p.kind, .int .i64 p.a, .int .i64 p.b, .int .i64 p.c, lv, nv, .int .u64 (p.num : Int), .int .i64 p.pos]

/-- a number of 64 bits -/
def NumOk (n : Nat) : Prop := n < 2 ^ 64

/-- numbers are read at a slice -/
def ArgInts (w : World) (v : Value) (l : List Int) : Prop := ∃ x c, v = .slice x l.length c ∧ l.length ≤ maxLen ∧ (0 < l.length → ∃ b o, x = some ⟨b, o, none⟩ ∧ b < w.heap.size ∧ ∀ j, j < l.length → w.cell? ⟨b, o + j, none⟩ = some (.int .i64 (l.getD j 0)))
def ArgStrs (w : World) (v : Value) (l : List ByteArray) : Prop := ∃ x c, v = .slice x l.length c ∧ l.length ≤ maxLen ∧ (∀ s ∈ l, s.size ≤ maxLen) ∧ (0 < l.length → ∃ b o, x = some ⟨b, o, none⟩ ∧ b < w.heap.size ∧ ∀ j, j < l.length → w.cell? ⟨b, o + j, none⟩ = some (.string (l.getD j ByteArray.empty)))
/-- a node is read at a place -/
structure ArgNode (w : World) (b o : Nat) (p : PNode) (lv nv : Value) : Prop where
  list : ArgInts w lv p.list
  names : ArgStrs w nv p.names
  num : NumOk p.num
  c0 : w.cell? ⟨b, o, none⟩ = some (.int .i64 p.kind)
  c1 : w.cell? ⟨b, o + 1, none⟩ = some (.int .i64 p.a)
  c2 : w.cell? ⟨b, o + 2, none⟩ = some (.int .i64 p.b)
  c3 : w.cell? ⟨b, o + 3, none⟩ = some (.int .i64 p.c)
  c4 : w.cell? ⟨b, o + 4, none⟩ = some lv
  c5 : w.cell? ⟨b, o + 5, none⟩ = some nv
  c6 : w.cell? ⟨b, o + 6, none⟩ = some (.int .u64 (p.num : Int))
  c7 : w.cell? ⟨b, o + 7, none⟩ = some (.int .i64 p.pos)
def ArgNodes (w : World) (v : Value) (l : List PNode) : Prop := ∃ x c, v = .slice x l.length c ∧ l.length ≤ maxLen ∧ (0 < l.length → ∃ b o, x = some ⟨b, o, none⟩ ∧ b < w.heap.size ∧ ∀ j p, l[j]? = some p → ∃ lv nv, ArgNode w b (o + j * 8) p lv nv)

theorem ArgInts.below {w w' : World} {v : Value} {l : List Int} (h : ArgInts w v l) (hb : Below w.heap.size w w') : ArgInts w' v l := by
  obtain ⟨x, c, e, hm, hc⟩ := h
  refine ⟨x, c, e, hm, fun h0 => ?_⟩
  obtain ⟨b, o, e1, h1, h2⟩ := hc h0
  exact ⟨b, o, e1, Nat.lt_of_lt_of_le h1 hb.size, fun j hj => (hb.cell (p := ⟨b, o + j, none⟩) h1).trans (h2 j hj)⟩
theorem ArgStrs.below {w w' : World} {v : Value} {l : List ByteArray} (h : ArgStrs w v l) (hb : Below w.heap.size w w') : ArgStrs w' v l := by
  obtain ⟨x, c, e, hm, hs, hc⟩ := h
  refine ⟨x, c, e, hm, hs, fun h0 => ?_⟩
  obtain ⟨b, o, e1, h1, h2⟩ := hc h0
  exact ⟨b, o, e1, Nat.lt_of_lt_of_le h1 hb.size, fun j hj => (hb.cell (p := ⟨b, o + j, none⟩) h1).trans (h2 j hj)⟩
theorem ArgNode.below {w w' : World} {b o : Nat} {p : PNode} {lv nv : Value} (h : ArgNode w b o p lv nv) (hb : Below w.heap.size w w') : ArgNode w' b o p lv nv := by
  have hlt : b < w.heap.size := World.block_lt_of_cell? w _ h.c0
  have k : ∀ j u, w.cell? ⟨b, j, none⟩ = some u → w'.cell? ⟨b, j, none⟩ = some u := fun j u hu => (hb.cell (p := ⟨b, j, none⟩) hlt).trans hu
  exact ⟨h.list.below hb, h.names.below hb, h.num, k _ _ h.c0, k _ _ h.c1, k _ _ h.c2, k _ _ h.c3, k _ _ h.c4, k _ _ h.c5, k _ _ h.c6, k _ _ h.c7⟩
theorem ArgNodes.below {w w' : World} {v : Value} {l : List PNode} (h : ArgNodes w v l) (hb : Below w.heap.size w w') : ArgNodes w' v l := by
  obtain ⟨x, c, e, hm, hc⟩ := h
  refine ⟨x, c, e, hm, fun h0 => ?_⟩
  obtain ⟨b, o, e1, h1, h2⟩ := hc h0
  refine ⟨b, o, e1, Nat.lt_of_lt_of_le h1 hb.size, fun j p hj => ?_⟩
  obtain ⟨lv, nv, h3⟩ := h2 j p hj
  exact ⟨lv, nv, h3.below hb⟩

end Go.Proofs.Ytbgdapdenbldmaa
