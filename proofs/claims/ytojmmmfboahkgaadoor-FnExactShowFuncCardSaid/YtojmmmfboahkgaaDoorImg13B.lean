/-
  Images: instructions, captures, handlers, constants, functions; what it is that rows of them are read at a slice, whoever owns it; over no program.
-/
import Derived.Test.YtojmmmfboahkgaaDoorBase
import Derived.OpenShut
import Derived.SliceStrings
import Derived.Deep.Slices
namespace Go.Proofs.YtojmmmfboahkgaaDoor
open Go.RowKit
set_option linter.unusedVariables false

structure PIns where
  op : Int
  a : Int
  b : Int
structure PCap where
  reg : Bool
  index : Int
structure PHnd where
  lo : Int
  hi : Int
  target : Int
structure PCon where
  kind : Int
  num : Nat
  text : ByteArray
structure PFun where
  params : Int
  regs : Int
  caps : List PCap
  code : List PIns
  hnds : List PHnd
structure PImg where
  funcs : List PFun
  consts : List PCon

def insC (p : PIns) : List Value := [.int .i64 p.op, .int .i64 p.a, .int .i64 p.b]
def capC (p : PCap) : List Value := [.bool p.reg, .int .i64 p.index]
def hndC (p : PHnd) : List Value := [.int .i64 p.lo, .int .i64 p.hi, .int .i64 p.target]
def conC (p : PCon) : List Value := [.int .i64 p.kind, .int .u64 (p.num : Int), .string p.text]
def funC (p : PFun) (cv kv hv : Value) : List Value := [.int .i64 p.params, .int .i64 p.regs, cv, kv, hv]

/-- a whole number of 64 bits with a sign; without one -/
def I64 (n : Int) : Prop := -(2 ^ 63) ≤ n ∧ n < 2 ^ 63
def N64 (n : Nat) : Prop := n < 2 ^ 64
def insW (p : PIns) : Prop := I64 p.op ∧ I64 p.a ∧ I64 p.b
def capW (p : PCap) : Prop := I64 p.index
def hndW (p : PHnd) : Prop := I64 p.lo ∧ I64 p.hi ∧ I64 p.target
def conW (p : PCon) : Prop := I64 p.kind ∧ N64 p.num ∧ p.text.size ≤ maxLen
structure funW (p : PFun) : Prop where
  params : I64 p.params
  regs : I64 p.regs
  caps : ∀ x ∈ p.caps, capW x
  code : ∀ x ∈ p.code, insW x
  hnds : ∀ x ∈ p.hnds, hndW x
structure imgW (p : PImg) : Prop where
  funcs : ∀ x ∈ p.funcs, funW x
  consts : ∀ x ∈ p.consts, conW x

/-- n things of k cells each are read at a slice; xs: all their cells -/
def ArgFlat (w : World) (v : Value) (k n : Nat) (xs : List Value) : Prop :=
  ∃ x c, v = .slice x n c ∧ n ≤ maxLen ∧ xs.length = n * k ∧ (0 < n → ∃ b o, x = some ⟨b, o, none⟩ ∧ b < w.heap.size ∧ ∀ j u, xs[j]? = some u → w.cell? ⟨b, o + j, none⟩ = some u)

theorem flat_len {α : Type} {f : α → List Value} {k : Nat} (hk : ∀ p, (f p).length = k) (l : List α) : (l.flatMap f).length = l.length * k := by
  induction l with
  | nil => simp
  | cons p l ih => rw [List.flatMap_cons, List.length_append, hk, ih, List.length_cons, Nat.add_mul, Nat.one_mul, Nat.add_comm]
theorem flat_at {α : Type} {f : α → List Value} {k : Nat} (hk : ∀ p, (f p).length = k) : ∀ (l : List α) (j c : Nat) (p : α) (u : Value), l[j]? = some p → (f p)[c]? = some u → (l.flatMap f)[j * k + c]? = some u
  | [], j, c, p, u, h, _ => by simp at h
  | q :: l, 0, c, p, u, h, hc => by
    simp at h
    subst h
    have hlt : c < (f q).length := (List.getElem?_eq_some_iff.1 hc).1
    rw [List.flatMap_cons, Nat.zero_mul, Nat.zero_add, List.getElem?_append_left hlt, hc]
  | q :: l, j + 1, c, p, u, h, hc => by
    rw [List.getElem?_cons_succ] at h
    have ih := flat_at hk l j c p u h hc
    rw [List.flatMap_cons, List.getElem?_append_right (by rw [hk, Nat.add_mul]; omega), hk, ← ih]
    congr 1
    rw [Nat.add_mul]
    omega

theorem ArgFlat.below {w w' : World} {v : Value} {k n : Nat} {xs : List Value} (h : ArgFlat w v k n xs) (hb : Below w.heap.size w w') : ArgFlat w' v k n xs := by
  obtain ⟨x, c, e, hm, hl, hc⟩ := h
  refine ⟨x, c, e, hm, hl, fun h0 => ?_⟩
  obtain ⟨b, o, e1, h1, h2⟩ := hc h0
  exact ⟨b, o, e1, Nat.lt_of_lt_of_le h1 hb.size, fun j u hj => (hb.cell (p := ⟨b, o + j, none⟩) h1).trans (h2 j u hj)⟩

/-- .. as a walk reads them -/
theorem ArgFlat.opened {α : Type} {f : α → List Value} {w : World} {v : Value} {k : Nat} {l : List α} (h : ArgFlat w v k l.length (l.flatMap f)) (hk : ∀ p, (f p).length = k) :
    ∃ x c, v = .slice x l.length c ∧ l.length ≤ maxLen ∧ (0 < l.length → ∃ b o, x = some ⟨b, o, none⟩ ∧ b < w.heap.size ∧ ∀ j p, l[j]? = some p → ∀ c u, (f p)[c]? = some u → w.cell? ⟨b, o + j * k + c, none⟩ = some u) := by
  obtain ⟨x, c, e, hm, hl, hc⟩ := h
  refine ⟨x, c, e, hm, fun h0 => ?_⟩
  obtain ⟨b, o, e1, h1, h2⟩ := hc h0
  refine ⟨b, o, e1, h1, fun j p hj c u hu => ?_⟩
  rw [Nat.add_assoc]
  exact h2 _ _ (flat_at hk l j c p u hj hu)

/-- a row of one's own is read so -/
theorem ArgFlat.of_own {w : World} {B : Nat} {e : TypeId} {k n : Nat} {v : Value} {xs : List Value} (h : w.ownsRow B e k v n xs) : ArgFlat w v k n xs := by
  have hcs := fun g hg => h.cells (g := g) hg
  have hlt := h.lt
  obtain ⟨hlen, ⟨rfl, rfl⟩ | ⟨g, cap, cur, rfl, hb, hg, hnc, hc, hsz, htk⟩⟩ := h
  · exact ⟨none, 0, rfl, Nat.zero_le _, hlen, fun h => by omega⟩
  · refine ⟨_, _, rfl, Nat.le_trans hnc hc, hlen, fun _ => ⟨g, 0, rfl, (hlt g rfl).2, fun j u hj => ?_⟩⟩
    have hp : (⟨g, 0, none⟩ : Addr).add j = ⟨g, 0 + j, none⟩ := by unfold Addr.add; split <;> simp_all
    rw [← hp]; exact hcs g rfl j u hj

/-- a function is read at a place -/
structure FunAt (w : World) (b o : Nat) (p : PFun) (cv kv hv : Value) : Prop where
  caps : ArgFlat w cv 2 p.caps.length (p.caps.flatMap capC)
  code : ArgFlat w kv 3 p.code.length (p.code.flatMap insC)
  hnds : ArgFlat w hv 3 p.hnds.length (p.hnds.flatMap hndC)
  c0 : w.cell? ⟨b, o, none⟩ = some (.int .i64 p.params)
  c1 : w.cell? ⟨b, o + 1, none⟩ = some (.int .i64 p.regs)
  c2 : w.cell? ⟨b, o + 2, none⟩ = some cv
  c3 : w.cell? ⟨b, o + 3, none⟩ = some kv
  c4 : w.cell? ⟨b, o + 4, none⟩ = some hv
def ArgFuns (w : World) (v : Value) (l : List PFun) : Prop := ∃ x c, v = .slice x l.length c ∧ l.length ≤ maxLen ∧ (0 < l.length → ∃ b o, x = some ⟨b, o, none⟩ ∧ b < w.heap.size ∧ ∀ j p, l[j]? = some p → ∃ cv kv hv, FunAt w b (o + j * 5) p cv kv hv)
/-- an image is handed over -/
def ArgImg (w : World) (fv cv : Value) (p : PImg) : Prop := ArgFuns w fv p.funcs ∧ ArgFlat w cv 3 p.consts.length (p.consts.flatMap conC)

theorem FunAt.below {w w' : World} {b o : Nat} {p : PFun} {cv kv hv : Value} (h : FunAt w b o p cv kv hv) (hb : Below w.heap.size w w') : FunAt w' b o p cv kv hv := by
  have hlt : b < w.heap.size := World.block_lt_of_cell? w _ h.c0
  have k : ∀ j u, w.cell? ⟨b, j, none⟩ = some u → w'.cell? ⟨b, j, none⟩ = some u := fun j u hu => (hb.cell (p := ⟨b, j, none⟩) hlt).trans hu
  exact ⟨h.caps.below hb, h.code.below hb, h.hnds.below hb, k _ _ h.c0, k _ _ h.c1, k _ _ h.c2, k _ _ h.c3, k _ _ h.c4⟩
theorem ArgFuns.below {w w' : World} {v : Value} {l : List PFun} (h : ArgFuns w v l) (hb : Below w.heap.size w w') : ArgFuns w' v l := by
  obtain ⟨x, c, e, hm, hc⟩ := h
  refine ⟨x, c, e, hm, fun h0 => ?_⟩
  obtain ⟨b, o, e1, h1, h2⟩ := hc h0
  refine ⟨b, o, e1, Nat.lt_of_lt_of_le h1 hb.size, fun j p hj => ?_⟩
  obtain ⟨cv, kv, hv, h3⟩ := h2 j p hj
  exact ⟨cv, kv, hv, h3.below hb⟩
theorem ArgImg.below {w w' : World} {fv cv : Value} {p : PImg} (h : ArgImg w fv cv p) (hb : Below w.heap.size w w') : ArgImg w' fv cv p := ⟨h.1.below hb, h.2.below hb⟩

/-- what a call's own block holds, behind a call that only adds to memory -/
theorem new_cell {w W : World} {cs : Array Value} {t : TypeId} (h : Below (w.alloc (.cells cs t)).heap.size (w.alloc (.cells cs t)) W) (j : Nat) (u : Value) (hj : cs[j]? = some u) : W.cell? ⟨w.heap.size, j, none⟩ = some u := by
  refine (h.cell (p := ⟨w.heap.size, j, none⟩) (by show w.heap.size < _; simp)).trans ?_
  rw [cell_of_row _ _ j _ _ _ (heap_alloc_new w (.cells cs t))]
  exact hj

theorem insC_len (p : PIns) : (insC p).length = 3 := rfl
theorem capC_len (p : PCap) : (capC p).length = 2 := rfl
theorem hndC_len (p : PHnd) : (hndC p).length = 3 := rfl
theorem conC_len (p : PCon) : (conC p).length = 3 := rfl

end Go.Proofs.YtojmmmfboahkgaaDoor
