/-
  Part 1 of what is proved of drawn right trees.
-/
import Derived.WalkKit
import Derived.WalkSpells
import Derived.WalkLawsBesides
import Derived.Laws.BytesArg
import Derived.OpenShut
import Derived.SliceStrings
import Derived.Deep.Slices
import Derived.Test.YtbgdapdenbldmaaRows

namespace Go.Proofs.Ytbgdapdenbldmaa
open Go.RowKit
theorem wrap_small {x : Int} (h0 : 0 ≤ x) (h : x < 4611686018427387904) : IntKind.i64.wrap x = x := by
  rw [IntKind.wrap_i64]; omega
theorem chain {w w1 w2 : World} (h : Below w.heap.size w w1) (k : Below w1.heap.size w1 w2) : Below w.heap.size w w2 := h.trans (k.mono h.size)
theorem append_one {P : Program} {w w0 : World} {ops : Array Oper} {rest : List Oper} {o : Oper} {a : Act} {Q : Exit → Act → World → Prop} (hgd : o.guard = none) (s x : Operand) (t : TypeId)
    (ho : o.op = .call { callee := .builtin .append, args := #[s, x], argTypes := #[t, t] })
    (base : Nat) (e : TypeId) (i : TypeInfo) (z : Value) (bytes : Nat) (ht : P.underlying t = some (.slice e)) (hi : P.info? e = some i) (hz : i.zero = some z)
    (hsize : i.size = 1) (hby : i.bytes = bytes) (hzs : z.cells.size = 1)
    (v : Value) (n : Nat) (xs : List Value) (hs : a.eval s = v) (hown : w.ownsRow base e 1 v n xs)
    (y : Value) (hx : a.eval x = .slice (some ⟨w.heap.size, 0, none⟩) 1 1) (hy : y.oneCell' = true)
    (hn : n < 1000000000000) (hb : bytes ≤ 64) (hbel : Below base w0 w) (hbase : base ≤ w.heap.size)
    (h : ∀ v' w', w'.ownsRow base e 1 v' (n + 1) (xs ++ [y]) → Below base w0 w' → wpList P ops Q rest (a.put o.dst v') w') : wpList P ops Q (o :: rest) a (w.alloc (.cells #[y] e)) := by
  refine wpList_append_own _ hgd s x t ho base e i z 1 bytes ht hi hz hsize hby hzs (by decide) v n xs hs (hown.alloc _) ⟨w.heap.size, 0, none⟩ 1 1 [y] hx rfl (cell_one_new _ _ _) (fun u hu => by simp at hu; subst hu; exact hy) (by unfold maxLen; omega) ?_ (by simp; omega) (fun v' w' h1 h2 _ => h v' w' h1 ((hbel.alloc hbase _).grown h2 (by simp; omega) (fun k hk => (hown.lt k hk).1)))
  have : (n + 1) * bytes ≤ 1000000000000 * 64 := Nat.mul_le_mul (by omega) hb
  omega
end Go.Proofs.Ytbgdapdenbldmaa
namespace Go.Proofs.Ytbgdapdenbldmaa
open Go.RowKit
set_option linter.unusedVariables false
structure PIns where
  op : Int
  a : Int
  b : Int
structure PCap where
  reg : Bool
  index : Int
structure PHnd where
  lo : Int
  hi : Int
  target : Int
structure PCon where
  kind : Int
  num : Nat
  text : ByteArray
structure PFun where
  params : Int
  regs : Int
  caps : List PCap
  code : List PIns
  hnds : List PHnd
structure PImg where
  funcs : List PFun
  consts : List PCon
def insC (p : PIns) : List Value := [.int .i64 p.op, .int .i64 p.a, .int .i64 p.b]
def capC (p : PCap) : List Value := [.bool p.reg, .int .i64 p.index]
def hndC (p : PHnd) : List Value := [.int .i64 p.lo, .int .i64 p.hi, .int .i64 p.target]
def conC (p : PCon) : List Value := [.int .i64 p.kind, .int .u64 (p.num : Int), .string p.text]
def funC (p : PFun) (cv kv hv : Value) : List Value := [.int .i64 p.params, .int .i64 p.regs, cv, kv, hv]
def I64 (n : Int) : Prop := -(2 ^ 63) ≤ n ∧ n < 2 ^ 63
def N64 (n : Nat) : Prop := n < 2 ^ 64
def insW (p : PIns) : Prop := I64 p.op ∧ I64 p.a ∧ I64 p.b
def capW (p : PCap) : Prop := I64 p.index
def hndW (p : PHnd) : Prop := I64 p.lo ∧ I64 p.hi ∧ I64 p.target
def conW (p : PCon) : Prop := I64 p.kind ∧ N64 p.num ∧ p.text.size ≤ maxLen
structure funW (p : PFun) : Prop where
  params : I64 p.params
  regs : I64 p.regs
  caps : ∀ x ∈ p.caps, capW x
  code : ∀ x ∈ p.code, insW x
  hnds : ∀ x ∈ p.hnds, hndW x
structure imgW (p : PImg) : Prop where
  funcs : ∀ x ∈ p.funcs, funW x
  consts : ∀ x ∈ p.consts, conW x
def ArgFlat (w : World) (v : Value) (k n : Nat) (xs : List Value) : Prop :=
  ∃ x c, v = .slice x n c ∧ n ≤ maxLen ∧ xs.length = n * k ∧ (0 < n → ∃ b o, x = some ⟨b, o, none⟩ ∧ b < w.heap.size ∧ ∀ j u, xs[j]? = some u → w.cell? ⟨b, o + j, none⟩ = some u)
theorem flat_len {α : Type} {f : α → List Value} {k : Nat} (hk : ∀ p, (f p).length = k) (l : List α) : (l.flatMap f).length = l.length * k := by
  induction l with
  | nil => simp
  | cons p l ih => rw [List.flatMap_cons, List.length_append, hk, ih, List.length_cons, Nat.add_mul, Nat.one_mul, Nat.add_comm]
theorem flat_at {α : Type} {f : α → List Value} {k : Nat} (hk : ∀ p, (f p).length = k) : ∀ (l : List α) (j c : Nat) (p : α) (u : Value), l[j]? = some p → (f p)[c]? = some u → (l.flatMap f)[j * k + c]? = some u
  | [], j, c, p, u, h, _ => by simp at h
  | q :: l, 0, c, p, u, h, hc => by
    simp at h
    subst h
    have hlt : c < (f q).length := (List.getElem?_eq_some_iff.1 hc).1
    rw [List.flatMap_cons, Nat.zero_mul, Nat.zero_add, List.getElem?_append_left hlt, hc]
  | q :: l, j + 1, c, p, u, h, hc => by
    rw [List.getElem?_cons_succ] at h
    have ih := flat_at hk l j c p u h hc
    rw [List.flatMap_cons, List.getElem?_append_right (by rw [hk, Nat.add_mul]; omega), hk, ← ih]
    congr 1
    rw [Nat.add_mul]
    omega
theorem ArgFlat.below {w w' : World} {v : Value} {k n : Nat} {xs : List Value} (h : ArgFlat w v k n xs) (hb : Below w.heap.size w w') : ArgFlat w' v k n xs := by
  obtain ⟨x, c, e, hm, hl, hc⟩ := h
  refine ⟨x, c, e, hm, hl, fun h0 => ?_⟩
  obtain ⟨b, o, e1, h1, h2⟩ := hc h0
  exact ⟨b, o, e1, Nat.lt_of_lt_of_le h1 hb.size, fun j u hj => (hb.cell (p := ⟨b, o + j, none⟩) h1).trans (h2 j u hj)⟩
theorem ArgFlat.opened {α : Type} {f : α → List Value} {w : World} {v : Value} {k : Nat} {l : List α} (h : ArgFlat w v k l.length (l.flatMap f)) (hk : ∀ p, (f p).length = k) :
    ∃ x c, v = .slice x l.length c ∧ l.length ≤ maxLen ∧ (0 < l.length → ∃ b o, x = some ⟨b, o, none⟩ ∧ b < w.heap.size ∧ ∀ j p, l[j]? = some p → ∀ c u, (f p)[c]? = some u → w.cell? ⟨b, o + j * k + c, none⟩ = some u) := by
  obtain ⟨x, c, e, hm, hl, hc⟩ := h
  refine ⟨x, c, e, hm, fun h0 => ?_⟩
  obtain ⟨b, o, e1, h1, h2⟩ := hc h0
  refine ⟨b, o, e1, h1, fun j p hj c u hu => ?_⟩
  rw [Nat.add_assoc]
  exact h2 _ _ (flat_at hk l j c p u hj hu)
theorem ArgFlat.of_own {w : World} {B : Nat} {e : TypeId} {k n : Nat} {v : Value} {xs : List Value} (h : w.ownsRow B e k v n xs) : ArgFlat w v k n xs := by
  have hcs := fun g hg => h.cells (g := g) hg
  have hlt := h.lt
  obtain ⟨hlen, ⟨rfl, rfl⟩ | ⟨g, cap, cur, rfl, hb, hg, hnc, hc, hsz, htk⟩⟩ := h
  · exact ⟨none, 0, rfl, Nat.zero_le _, hlen, fun h => by omega⟩
  · refine ⟨_, _, rfl, Nat.le_trans hnc hc, hlen, fun _ => ⟨g, 0, rfl, (hlt g rfl).2, fun j u hj => ?_⟩⟩
    have hp : (⟨g, 0, none⟩ : Addr).add j = ⟨g, 0 + j, none⟩ := by unfold Addr.add; split <;> simp_all
    rw [← hp]; exact hcs g rfl j u hj
structure FunAt (w : World) (b o : Nat) (p : PFun) (cv kv hv : Value) : Prop where
  caps : ArgFlat w cv 2 p.caps.length (p.caps.flatMap capC)
  code : ArgFlat w kv 3 p.code.length (p.code.flatMap insC)
  hnds : ArgFlat w hv 3 p.hnds.length (p.hnds.flatMap hndC)
  c0 : w.cell? ⟨b, o, none⟩ = some (.int .i64 p.params)
  c1 : w.cell? ⟨b, o + 1, none⟩ = some (.int .i64 p.regs)
  c2 : w.cell? ⟨b, o + 2, none⟩ = some cv
  c3 : w.cell? ⟨b, o + 3, none⟩ = some kv
  c4 : w.cell? ⟨b, o + 4, none⟩ = some hv
def ArgFuns (w : World) (v : Value) (l : List PFun) : Prop := ∃ x c, v = .slice x l.length c ∧ l.length ≤ maxLen ∧ (0 < l.length → ∃ b o, x = some ⟨b, o, none⟩ ∧ b < w.heap.size ∧ ∀ j p, l[j]? = some p → ∃ cv kv hv, FunAt w b (o + j * 5) p cv kv hv)
def ArgImg (w : World) (fv cv : Value) (p : PImg) : Prop := ArgFuns w fv p.funcs ∧ ArgFlat w cv 3 p.consts.length (p.consts.flatMap conC)
theorem FunAt.below {w w' : World} {b o : Nat} {p : PFun} {cv kv hv : Value} (h : FunAt w b o p cv kv hv) (hb : Below w.heap.size w w') : FunAt w' b o p cv kv hv := by
  have hlt : b < w.heap.size := World.block_lt_of_cell? w _ h.c0
  have k : ∀ j u, w.cell? ⟨b, j, none⟩ = some u → w'.cell? ⟨b, j, none⟩ = some u := fun j u hu => (hb.cell (p := ⟨b, j, none⟩) hlt).trans hu
  exact ⟨h.caps.below hb, h.code.below hb, h.hnds.below hb, k _ _ h.c0, k _ _ h.c1, k _ _ h.c2, k _ _ h.c3, k _ _ h.c4⟩
theorem ArgFuns.below {w w' : World} {v : Value} {l : List PFun} (h : ArgFuns w v l) (hb : Below w.heap.size w w') : ArgFuns w' v l := by
  obtain ⟨x, c, e, hm, hc⟩ := h
  refine ⟨x, c, e, hm, fun h0 => ?_⟩
  obtain ⟨b, o, e1, h1, h2⟩ := hc h0
  refine ⟨b, o, e1, Nat.lt_of_lt_of_le h1 hb.size, fun j p hj => ?_⟩
  obtain ⟨cv, kv, hv, h3⟩ := h2 j p hj
  exact ⟨cv, kv, hv, h3.below hb⟩
theorem ArgImg.below {w w' : World} {fv cv : Value} {p : PImg} (h : ArgImg w fv cv p) (hb : Below w.heap.size w w') : ArgImg w' fv cv p := ⟨h.1.below hb, h.2.below hb⟩
theorem new_cell {w W : World} {cs : Array Value} {t : TypeId} (h : Below (w.alloc (.cells cs t)).heap.size (w.alloc (.cells cs t)) W) (j : Nat) (u : Value) (hj : cs[j]? = some u) : W.cell? ⟨w.heap.size, j, none⟩ = some u := by
  refine (h.cell (p := ⟨w.heap.size, j, none⟩) (by show w.heap.size < _; simp)).trans ?_
  rw [cell_of_row _ _ j _ _ _ (heap_alloc_new w (.cells cs t))]
  exact hj
theorem insC_len (p : PIns) : (insC p).length = 3 := rfl
theorem capC_len (p : PCap) : (capC p).length = 2 := rfl
theorem hndC_len (p : PHnd) : (hndC p).length = 3 := rfl
theorem conC_len (p : PCon) : (conC p).length = 3 := rfl
end Go.Proofs.Ytbgdapdenbldmaa
namespace Go.Proofs.Ytbgdapdenbldmaa
open Go.RowKit Go.ChangeShapes Go.WideShapes
set_option linter.unusedVariables false
theorem Try.cellsInt13 : Try.prog.cellsOf 3 = 1 := by kernel_rfl
theorem Try.cellsBool13 : Try.prog.cellsOf 4 = 1 := by kernel_rfl
theorem Try.cellsWord13 : Try.prog.cellsOf 90 = 1 := by kernel_rfl
theorem Try.cellsStr13 : Try.prog.cellsOf 9 = 1 := by kernel_rfl
theorem Try.cellsConst13 : Try.prog.cellsOf 92 = 3 := by kernel_rfl
theorem Try.cellsIns13 : Try.prog.cellsOf 169 = 3 := by kernel_rfl
theorem Try.cellsCap13 : Try.prog.cellsOf 167 = 2 := by kernel_rfl
theorem Try.cellsHandler13 : Try.prog.cellsOf 171 = 3 := by kernel_rfl
theorem Try.cellsFunc13 : Try.prog.cellsOf 88 = 5 := by kernel_rfl
theorem Try.cellsImage13 : Try.prog.cellsOf 25 = 2 := by kernel_rfl
theorem Try.cellsInsS13 : Try.prog.cellsOf 85 = 1 := by kernel_rfl
theorem Try.cellsCapS13 : Try.prog.cellsOf 84 = 1 := by kernel_rfl
theorem Try.cellsHandlerS13 : Try.prog.cellsOf 86 = 1 := by kernel_rfl
theorem Try.cellsFuncS13 : Try.prog.cellsOf 22 = 1 := by kernel_rfl
theorem Try.cellsConstS13 : Try.prog.cellsOf 23 = 1 := by kernel_rfl
variable {H : Type} {enc : TypeId × Value → H} {w : World}
theorem some_in {α : Type} {l : List α} {i : Nat} (h : i < l.length) {y : Option α} (e : y = l[i]?) : ∃ x, y = some x := ⟨l[i], by rw [e, List.getElem?_eq_getElem h]⟩
theorem spot_in {a : Addr} {v : Value} (h : w.cell? (a.add 0) = some v) : ∃ b o, a = ⟨b, o, none⟩ := by
  obtain ⟨b, off, spot⟩ := a
  have hspot : spot = none := by simpa [Addr.add] using World.cell?_spot h
  subst hspot
  exact ⟨b, off, rfl⟩
theorem i64_of {n : Int} (h : (Lit.int .i64 n).wf = true) : I64 n := by
  have := Go.bounds_i64 h
  exact ⟨by omega, by omega⟩
set_option maxRecDepth 100000 in
theorem open_con {fuel : Nat} {cs : List Value} {x : DataW H × List MemPlace} (h : DataW.trod enc Try.prog w 0 (fun _ => true) true fuel 92 cs = some x) : ∃ p : PCon, cs = conC p ∧ conW p := by
  obtain ⟨xs, n, _, rfl, hl, hlen, hf⟩ := DataW.trod_struct Try.underlying92 h
  rw [Try.cellsConst13] at hl
  match cs, hl with
  | [v0, v1, v2], _ =>
    obtain ⟨y0, g0⟩ := some_in (by rw [hlen]; decide) (hf 0 _ rfl)
    replace g0 : DataW.trod enc Try.prog w 0 (fun _ => true) true n 3 (([v0, v1, v2].drop 0).take (Try.prog.cellsOf 3)) = some y0 := g0
    rw [Try.cellsInt13] at g0
    obtain ⟨y1, g1⟩ := some_in (by rw [hlen]; decide) (hf 1 _ rfl)
    replace g1 : DataW.trod enc Try.prog w 0 (fun _ => true) true n 90 (([v0, v1, v2].drop 1).take (Try.prog.cellsOf 90)) = some y1 := g1
    rw [Try.cellsWord13] at g1
    obtain ⟨y2, g2⟩ := some_in (by rw [hlen]; decide) (hf 2 _ rfl)
    replace g2 : DataW.trod enc Try.prog w 0 (fun _ => true) true n 9 (([v0, v1, v2].drop 2).take (Try.prog.cellsOf 9)) = some y2 := g2
    rw [Try.cellsStr13] at g2
    obtain ⟨n0, e0, _, w0⟩ := DataW.trod_int Try.underlying3 g0
    obtain ⟨n1, e1, _, w1⟩ := DataW.trod_int Try.underlying90 g1
    obtain ⟨n2, e2, _, w2⟩ := DataW.trod_string Try.underlying9 g2
    simp only [List.drop_zero, List.drop_succ_cons, List.take_succ_cons, List.take_zero, List.cons.injEq, and_true] at e0 e1 e2
    subst e0 e1 e2
    have b0 := i64_of w0
    have b1 := Go.bounds_u64 w1
    refine ⟨⟨n0, n1.toNat, n2⟩, ?_, ⟨b0, by show n1.toNat < 2 ^ 64; omega, w2⟩⟩
    unfold conC
    simp only
    rw [Int.toNat_of_nonneg b1.1]
set_option maxRecDepth 100000 in
theorem open_ins {fuel : Nat} {cs : List Value} {x : DataW H × List MemPlace} (h : DataW.trod enc Try.prog w 0 (fun _ => true) true fuel 169 cs = some x) : ∃ p : PIns, cs = insC p ∧ insW p := by
  obtain ⟨xs, n, _, rfl, hl, hlen, hf⟩ := DataW.trod_struct Try.underlying169 h
  rw [Try.cellsIns13] at hl
  match cs, hl with
  | [v0, v1, v2], _ =>
    obtain ⟨y0, g0⟩ := some_in (by rw [hlen]; decide) (hf 0 _ rfl)
    replace g0 : DataW.trod enc Try.prog w 0 (fun _ => true) true n 3 (([v0, v1, v2].drop 0).take (Try.prog.cellsOf 3)) = some y0 := g0
    rw [Try.cellsInt13] at g0
    obtain ⟨y1, g1⟩ := some_in (by rw [hlen]; decide) (hf 1 _ rfl)
    replace g1 : DataW.trod enc Try.prog w 0 (fun _ => true) true n 3 (([v0, v1, v2].drop 1).take (Try.prog.cellsOf 3)) = some y1 := g1
    rw [Try.cellsInt13] at g1
    obtain ⟨y2, g2⟩ := some_in (by rw [hlen]; decide) (hf 2 _ rfl)
    replace g2 : DataW.trod enc Try.prog w 0 (fun _ => true) true n 3 (([v0, v1, v2].drop 2).take (Try.prog.cellsOf 3)) = some y2 := g2
    rw [Try.cellsInt13] at g2
    obtain ⟨n0, e0, _, w0⟩ := DataW.trod_int Try.underlying3 g0
    obtain ⟨n1, e1, _, w1⟩ := DataW.trod_int Try.underlying3 g1
    obtain ⟨n2, e2, _, w2⟩ := DataW.trod_int Try.underlying3 g2
    simp only [List.drop_zero, List.drop_succ_cons, List.take_succ_cons, List.take_zero, List.cons.injEq, and_true] at e0 e1 e2
    subst e0 e1 e2
    have b0 := i64_of w0
    have b1 := i64_of w1
    have b2 := i64_of w2
    exact ⟨⟨n0, n1, n2⟩, rfl, ⟨b0, b1, b2⟩⟩
set_option maxRecDepth 100000 in
theorem open_cap {fuel : Nat} {cs : List Value} {x : DataW H × List MemPlace} (h : DataW.trod enc Try.prog w 0 (fun _ => true) true fuel 167 cs = some x) : ∃ p : PCap, cs = capC p ∧ capW p := by
  obtain ⟨xs, n, _, rfl, hl, hlen, hf⟩ := DataW.trod_struct Try.underlying167 h
  rw [Try.cellsCap13] at hl
  match cs, hl with
  | [v0, v1], _ =>
    obtain ⟨y0, g0⟩ := some_in (by rw [hlen]; decide) (hf 0 _ rfl)
    replace g0 : DataW.trod enc Try.prog w 0 (fun _ => true) true n 4 (([v0, v1].drop 0).take (Try.prog.cellsOf 4)) = some y0 := g0
    rw [Try.cellsBool13] at g0
    obtain ⟨y1, g1⟩ := some_in (by rw [hlen]; decide) (hf 1 _ rfl)
    replace g1 : DataW.trod enc Try.prog w 0 (fun _ => true) true n 3 (([v0, v1].drop 1).take (Try.prog.cellsOf 3)) = some y1 := g1
    rw [Try.cellsInt13] at g1
    obtain ⟨n0, e0, _⟩ := DataW.trod_bool Try.underlying4 g0
    obtain ⟨n1, e1, _, w1⟩ := DataW.trod_int Try.underlying3 g1
    simp only [List.drop_zero, List.drop_succ_cons, List.take_succ_cons, List.take_zero, List.cons.injEq, and_true] at e0 e1
    subst e0 e1
    have b1 := i64_of w1
    exact ⟨⟨n0, n1⟩, rfl, b1⟩
set_option maxRecDepth 100000 in
theorem open_hnd {fuel : Nat} {cs : List Value} {x : DataW H × List MemPlace} (h : DataW.trod enc Try.prog w 0 (fun _ => true) true fuel 171 cs = some x) : ∃ p : PHnd, cs = hndC p ∧ hndW p := by
  obtain ⟨xs, n, _, rfl, hl, hlen, hf⟩ := DataW.trod_struct Try.underlying171 h
  rw [Try.cellsHandler13] at hl
  match cs, hl with
  | [v0, v1, v2], _ =>
    obtain ⟨y0, g0⟩ := some_in (by rw [hlen]; decide) (hf 0 _ rfl)
    replace g0 : DataW.trod enc Try.prog w 0 (fun _ => true) true n 3 (([v0, v1, v2].drop 0).take (Try.prog.cellsOf 3)) = some y0 := g0
    rw [Try.cellsInt13] at g0
    obtain ⟨y1, g1⟩ := some_in (by rw [hlen]; decide) (hf 1 _ rfl)
    replace g1 : DataW.trod enc Try.prog w 0 (fun _ => true) true n 3 (([v0, v1, v2].drop 1).take (Try.prog.cellsOf 3)) = some y1 := g1
    rw [Try.cellsInt13] at g1
    obtain ⟨y2, g2⟩ := some_in (by rw [hlen]; decide) (hf 2 _ rfl)
    replace g2 : DataW.trod enc Try.prog w 0 (fun _ => true) true n 3 (([v0, v1, v2].drop 2).take (Try.prog.cellsOf 3)) = some y2 := g2
    rw [Try.cellsInt13] at g2
    obtain ⟨n0, e0, _, w0⟩ := DataW.trod_int Try.underlying3 g0
    obtain ⟨n1, e1, _, w1⟩ := DataW.trod_int Try.underlying3 g1
    obtain ⟨n2, e2, _, w2⟩ := DataW.trod_int Try.underlying3 g2
    simp only [List.drop_zero, List.drop_succ_cons, List.take_succ_cons, List.take_zero, List.cons.injEq, and_true] at e0 e1 e2
    subst e0 e1 e2
    have b0 := i64_of w0
    have b1 := i64_of w1
    have b2 := i64_of w2
    exact ⟨⟨n0, n1, n2⟩, rfl, ⟨b0, b1, b2⟩⟩
set_option maxRecDepth 100000 in
theorem open_flat {α : Type} (d : α) (f : α → List Value) (Q : α → Prop) {T E : TypeId} {k : Nat} (hk : ∀ p, (f p).length = k) (hT : Try.prog.underlying T = some (.slice E)) (hE : Try.prog.cellsOf E = k)
    (hone : ∀ (n : Nat) (cs : List Value) (x : DataW H × List MemPlace), DataW.trod enc Try.prog w 0 (fun _ => true) true n E cs = some x → ∃ p, cs = f p ∧ Q p) (hk0 : 0 < k)
    {fuel : Nat} {v : Value} {x : DataW H × List MemPlace} (h : DataW.trod enc Try.prog w 0 (fun _ => true) true fuel T [v] = some x) : ∃ l : List α, ArgFlat w v k l.length (l.flatMap f) ∧ ∀ p ∈ l, Q p := by
  rcases Go.Deep.open_slice hT h with ⟨hcs, _⟩ | ⟨a, len, cap, m, n, D, Pl, hcs, _, hl, hm, hmm, _, hx⟩
  · simp at hcs
    subst hcs
    exact ⟨[], ⟨none, 0, rfl, by simp, by simp, fun h => by simp at h⟩, by simp⟩
  · simp at hcs
    subst hcs
    simp only [if_true] at hmm
    rw [hE] at hx
    have hinh : Inhabited α := ⟨d⟩
    obtain ⟨g, hg⟩ := Go.Deep.choose_lt (α := α) (n := len) (p := fun i p => w.cells? 0 (a.add (i * k)) k = some (f p) ∧ Q p) (fun i hi => by
      obtain ⟨cs', h1, h2⟩ := hx i (by omega)
      obtain ⟨p, rfl, hq⟩ := hone _ _ _ h2
      exact ⟨p, h1, hq⟩)
    have hlen : ((List.range len).map g).length = len := by simp
    have hfl : (((List.range len).map g).flatMap f).length = len * k := by rw [flat_len hk, hlen]
    have cell : ∀ i c u, i < len → (f (g i))[c]? = some u → w.cell? ((a.add (i * k)).add c) = some u := fun i c u hi hu => by
      obtain ⟨_, _, hc⟩ := World.cells?_some (hg i hi).1
      have hck : c < k := by have := (List.getElem?_eq_some_iff.1 hu).1; rw [hk] at this; exact this
      rw [hc c hck, hu]
    refine ⟨(List.range len).map g, ⟨some a, cap, by rw [hlen], by rw [hlen]; omega, by rw [hlen, hfl], fun h0 => ?_⟩, fun p hp => ?_⟩
    · rw [hlen] at h0
      obtain ⟨u0, hu0⟩ : ∃ u, (f (g 0))[0]? = some u := ⟨_, List.getElem?_eq_getElem (by rw [hk]; exact hk0)⟩
      have z := cell 0 0 u0 h0 hu0
      rw [Nat.zero_mul, show (a.add 0) = a by simp [Addr.add]] at z
      obtain ⟨b, o, rfl⟩ := spot_in z
      refine ⟨b, o, rfl, World.block_lt_of_cell? w _ (by rw [add_plain] at z; exact z), fun j u hj => ?_⟩
      have hjl : j < len * k := by have := (List.getElem?_eq_some_iff.1 hj).1; rw [hfl] at this; exact this
      have hq : j / k < len := Nat.div_lt_of_lt_mul (by rw [Nat.mul_comm]; exact hjl)
      have hr : j % k < k := Nat.mod_lt _ hk0
      have hd : j / k * k + j % k = j := by rw [Nat.mul_comm]; exact Nat.div_add_mod j k
      obtain ⟨u1, hu1⟩ : ∃ u, (f (g (j / k)))[j % k]? = some u := ⟨_, List.getElem?_eq_getElem (by rw [hk]; exact hr)⟩
      have e1 := flat_at hk ((List.range len).map g) (j / k) (j % k) (g (j / k)) u1 (by rw [List.getElem?_map, List.getElem?_range hq]; rfl) hu1
      rw [hd, hj] at e1
      injection e1 with e1
      subst e1
      have y := cell (j / k) (j % k) u hq hu1
      rw [add_plain, add_plain, Nat.add_assoc, hd] at y
      exact y
    · obtain ⟨i, hi, rfl⟩ := List.mem_map.1 hp
      exact (hg i (List.mem_range.1 hi)).2
set_option maxRecDepth 100000 in
theorem open_fun {fuel : Nat} {cs : List Value} {x : DataW H × List MemPlace} (h : DataW.trod enc Try.prog w 0 (fun _ => true) true fuel 88 cs = some x) :
    ∃ (p : PFun) (cv kv hv : Value), cs = funC p cv kv hv ∧ ArgFlat w cv 2 p.caps.length (p.caps.flatMap capC) ∧ ArgFlat w kv 3 p.code.length (p.code.flatMap insC) ∧ ArgFlat w hv 3 p.hnds.length (p.hnds.flatMap hndC) ∧ funW p := by
  obtain ⟨xs, n, _, rfl, hl, hlen, hf⟩ := DataW.trod_struct Try.underlying88 h
  rw [Try.cellsFunc13] at hl
  match cs, hl with
  | [v0, v1, v2, v3, v4], _ =>
    obtain ⟨y0, g0⟩ := some_in (by rw [hlen]; decide) (hf 0 _ rfl)
    obtain ⟨y1, g1⟩ := some_in (by rw [hlen]; decide) (hf 1 _ rfl)
    obtain ⟨y2, g2⟩ := some_in (by rw [hlen]; decide) (hf 2 _ rfl)
    obtain ⟨y3, g3⟩ := some_in (by rw [hlen]; decide) (hf 3 _ rfl)
    obtain ⟨y4, g4⟩ := some_in (by rw [hlen]; decide) (hf 4 _ rfl)
    replace g0 : DataW.trod enc Try.prog w 0 (fun _ => true) true n 3 (([v0, v1, v2, v3, v4].drop 0).take (Try.prog.cellsOf 3)) = some y0 := g0
    rw [Try.cellsInt13] at g0
    replace g1 : DataW.trod enc Try.prog w 0 (fun _ => true) true n 3 (([v0, v1, v2, v3, v4].drop 1).take (Try.prog.cellsOf 3)) = some y1 := g1
    rw [Try.cellsInt13] at g1
    replace g2 : DataW.trod enc Try.prog w 0 (fun _ => true) true n 84 (([v0, v1, v2, v3, v4].drop 2).take (Try.prog.cellsOf 84)) = some y2 := g2
    rw [Try.cellsCapS13] at g2
    replace g2 : DataW.trod enc Try.prog w 0 (fun _ => true) true n 84 [v2] = some y2 := g2
    replace g3 : DataW.trod enc Try.prog w 0 (fun _ => true) true n 85 (([v0, v1, v2, v3, v4].drop 3).take (Try.prog.cellsOf 85)) = some y3 := g3
    rw [Try.cellsInsS13] at g3
    replace g3 : DataW.trod enc Try.prog w 0 (fun _ => true) true n 85 [v3] = some y3 := g3
    replace g4 : DataW.trod enc Try.prog w 0 (fun _ => true) true n 86 (([v0, v1, v2, v3, v4].drop 4).take (Try.prog.cellsOf 86)) = some y4 := g4
    rw [Try.cellsHandlerS13] at g4
    replace g4 : DataW.trod enc Try.prog w 0 (fun _ => true) true n 86 [v4] = some y4 := g4
    obtain ⟨n0, e0, _, w0⟩ := DataW.trod_int Try.underlying3 g0
    obtain ⟨n1, e1, _, w1⟩ := DataW.trod_int Try.underlying3 g1
    obtain ⟨l2, k2, q2⟩ := open_flat ⟨false, 0⟩ capC capW capC_len Try.underlying84 Try.cellsCap13 (fun _ _ _ h => open_cap h) (by decide) g2
    obtain ⟨l3, k3, q3⟩ := open_flat ⟨0, 0, 0⟩ insC insW insC_len Try.underlying85 Try.cellsIns13 (fun _ _ _ h => open_ins h) (by decide) g3
    obtain ⟨l4, k4, q4⟩ := open_flat ⟨0, 0, 0⟩ hndC hndW hndC_len Try.underlying86 Try.cellsHandler13 (fun _ _ _ h => open_hnd h) (by decide) g4
    simp only [List.drop_zero, List.drop_succ_cons, List.take_succ_cons, List.take_zero, List.cons.injEq, and_true] at e0 e1
    subst e0 e1
    exact ⟨⟨n0, n1, l2, l3, l4⟩, v2, v3, v4, rfl, k2, k3, k4, i64_of w0, i64_of w1, q2, q3, q4⟩
set_option maxRecDepth 100000 in
theorem open_arg_funs {fuel : Nat} {v : Value} {x : DataW H × List MemPlace} (h : DataW.trod enc Try.prog w 0 (fun _ => true) true fuel 22 [v] = some x) : ∃ l, ArgFuns w v l ∧ ∀ p ∈ l, funW p := by
  rcases Go.Deep.open_slice Try.underlying22 h with ⟨hcs, _⟩ | ⟨a, len, cap, m, n, D, Pl, hcs, _, hl, hm, hmm, _, hx⟩
  · simp at hcs
    subst hcs
    exact ⟨[], ⟨none, 0, rfl, by simp, fun h => by simp at h⟩, by simp⟩
  · simp at hcs
    subst hcs
    simp only [if_true] at hmm
    rw [Try.cellsFunc13] at hx
    have hinh : Inhabited PFun := ⟨⟨0, 0, [], [], []⟩⟩
    obtain ⟨f, hf⟩ := Go.Deep.choose_lt (α := PFun) (n := len) (p := fun i p => ∃ cv kv hv, w.cells? 0 (a.add (i * 5)) 5 = some (funC p cv kv hv) ∧ ArgFlat w cv 2 p.caps.length (p.caps.flatMap capC) ∧ ArgFlat w kv 3 p.code.length (p.code.flatMap insC) ∧ ArgFlat w hv 3 p.hnds.length (p.hnds.flatMap hndC) ∧ funW p) (fun i hi => by
      obtain ⟨cs', h1, h2⟩ := hx i (by omega)
      obtain ⟨p, cv, kv, hv, rfl, k1, k2, k3, k4⟩ := open_fun h2
      exact ⟨p, cv, kv, hv, h1, k1, k2, k3, k4⟩)
    have hlen : ((List.range len).map f).length = len := by simp
    have cell : ∀ i, i < len → ∃ cv kv hv, (∀ k u, (funC (f i) cv kv hv)[k]? = some u → w.cell? ((a.add (i * 5)).add k) = some u) ∧ ArgFlat w cv 2 (f i).caps.length ((f i).caps.flatMap capC) ∧ ArgFlat w kv 3 (f i).code.length ((f i).code.flatMap insC) ∧ ArgFlat w hv 3 (f i).hnds.length ((f i).hnds.flatMap hndC) := fun i hi => by
      obtain ⟨cv, kv, hv, h1, h2, h3, h4, _⟩ := hf i hi
      obtain ⟨_, hl8, hc⟩ := World.cells?_some h1
      refine ⟨cv, kv, hv, fun k u hk => ?_, h2, h3, h4⟩
      have hk8 : k < 5 := (List.getElem?_eq_some_iff.1 hk).1
      rw [hc k hk8, hk]
    refine ⟨(List.range len).map f, ⟨some a, cap, by rw [hlen], by rw [hlen]; omega, fun h0 => ?_⟩, fun p hp => ?_⟩
    · rw [hlen] at h0
      obtain ⟨_, _, _, c0, _⟩ := cell 0 h0
      obtain ⟨b, o, rfl⟩ : ∃ b o, a = ⟨b, o, none⟩ := by
        have := c0 0 _ rfl
        rw [Nat.zero_mul, show (a.add 0) = a by simp [Addr.add]] at this
        exact spot_in this
      refine ⟨b, o, rfl, ?_, fun j p hj => ?_⟩
      · have := c0 0 _ rfl
        rw [Nat.zero_mul, add_plain, add_plain] at this
        exact World.block_lt_of_cell? w _ this
      · have hjl : j < len := by
          have := (List.getElem?_eq_some_iff.1 hj).1
          rwa [hlen] at this
        rw [List.getElem?_map, List.getElem?_range hjl] at hj
        simp only [Option.map_some, Option.some.injEq] at hj
        subst hj
        obtain ⟨cv, kv, hv, hc, h2, h3, h4⟩ := cell j hjl
        have hc' : ∀ k u, (funC (f j) cv kv hv)[k]? = some u → w.cell? ⟨b, o + j * 5 + k, none⟩ = some u := fun k u hk => by
          have := hc k u hk
          rwa [add_plain, add_plain] at this
        exact ⟨cv, kv, hv, h2, h3, h4, hc' 0 _ rfl, hc' 1 _ rfl, hc' 2 _ rfl, hc' 3 _ rfl, hc' 4 _ rfl⟩
    · obtain ⟨i, hi, rfl⟩ := List.mem_map.1 hp
      obtain ⟨_, _, _, _, _, _, _, h5⟩ := hf i (List.mem_range.1 hi)
      exact h5
set_option maxRecDepth 100000 in
theorem open_img {fuel : Nat} {cs : List Value} {x : DataW H × List MemPlace} (h : DataW.trod enc Try.prog w 0 (fun _ => true) true fuel 25 cs = some x) :
    ∃ (p : PImg) (fv cv : Value), cs = [fv, cv] ∧ ArgImg w fv cv p ∧ imgW p := by
  obtain ⟨xs, n, _, rfl, hl, hlen, hf⟩ := DataW.trod_struct Try.underlying25 h
  rw [Try.cellsImage13] at hl
  match cs, hl with
  | [v0, v1], _ =>
    obtain ⟨y0, g0⟩ := some_in (by rw [hlen]; decide) (hf 0 _ rfl)
    obtain ⟨y1, g1⟩ := some_in (by rw [hlen]; decide) (hf 1 _ rfl)
    replace g0 : DataW.trod enc Try.prog w 0 (fun _ => true) true n 22 (([v0, v1].drop 0).take (Try.prog.cellsOf 22)) = some y0 := g0
    rw [Try.cellsFuncS13] at g0
    replace g0 : DataW.trod enc Try.prog w 0 (fun _ => true) true n 22 [v0] = some y0 := g0
    replace g1 : DataW.trod enc Try.prog w 0 (fun _ => true) true n 23 (([v0, v1].drop 1).take (Try.prog.cellsOf 23)) = some y1 := g1
    rw [Try.cellsConstS13] at g1
    replace g1 : DataW.trod enc Try.prog w 0 (fun _ => true) true n 23 [v1] = some y1 := g1
    obtain ⟨l0, k0, q0⟩ := open_arg_funs g0
    obtain ⟨l1, k1, q1⟩ := open_flat ⟨0, 0, ByteArray.empty⟩ conC conW conC_len Try.underlying23 Try.cellsConst13 (fun _ _ _ h => open_con h) (by decide) g1
    exact ⟨⟨l0, l1⟩, v0, v1, rfl, ⟨k0, k1⟩, q0, q1⟩
end Go.Proofs.Ytbgdapdenbldmaa
namespace Go.Proofs.Ytbgdapdenbldmaa
open Go.RowKit
set_option linter.unusedVariables false
def LeftFew (r left n : Int) : Prop := r = -1 ∨ (0 ≤ r ∧ r ≤ left ∧ n ≤ left)
def funFew (p : PFun) (left : Int) : Prop := (p.caps.length : Int) ≤ left ∧ (p.code.length : Int) ≤ left ∧ (p.hnds.length : Int) ≤ left
def imgFew (p : PImg) (left : Int) : Prop := (p.funcs.length : Int) ≤ left ∧ (∀ q ∈ p.funcs, funFew q left) ∧ (p.consts.length : Int) ≤ left ∧ ∀ q ∈ p.consts, (q.text.size : Int) ≤ left
set_option maxHeartbeats 400000 in
set_option maxRecDepth 100000 in
theorem szCapS_any (v : Value) (k n : Nat) (xs : List Value) (left : Int) (w : World) (hv : ArgFlat w v k n xs) (h0 : 0 ≤ left) (h1 : left ≤ 1048576) :
    Calls Try.prog 65 #[v, .int .i64 left] w fun e w' => ∃ r : Int, e = .returned (.int .i64 r) ∧ LeftFew r left n ∧ w = w' := by
  obtain ⟨x, c, rfl, hm, _, _⟩ := hv
  unfold maxLen at hm
  by_cases h : left < n
  · have hlt : left - (n : Int) < 0 := by omega
    go_enter Try.func65, Try.ntmps65
    go_wp2
    go_ret
    exact ⟨_, rfl, .inl rfl, rfl⟩
  · have hlt : ¬ left - (n : Int) < 0 := by omega
    go_enter Try.func65, Try.ntmps65
    go_wp2
    go_ret
    exact ⟨_, rfl, .inr ⟨by omega, by omega, by omega⟩, rfl⟩
set_option maxHeartbeats 400000 in
set_option maxRecDepth 100000 in
theorem szInsS_any (v : Value) (k n : Nat) (xs : List Value) (left : Int) (w : World) (hv : ArgFlat w v k n xs) (h0 : 0 ≤ left) (h1 : left ≤ 1048576) :
    Calls Try.prog 66 #[v, .int .i64 left] w fun e w' => ∃ r : Int, e = .returned (.int .i64 r) ∧ LeftFew r left n ∧ w = w' := by
  obtain ⟨x, c, rfl, hm, _, _⟩ := hv
  unfold maxLen at hm
  by_cases h : left < n
  · have hlt : left - (n : Int) < 0 := by omega
    go_enter Try.func66, Try.ntmps66
    go_wp2
    go_ret
    exact ⟨_, rfl, .inl rfl, rfl⟩
  · have hlt : ¬ left - (n : Int) < 0 := by omega
    go_enter Try.func66, Try.ntmps66
    go_wp2
    go_ret
    exact ⟨_, rfl, .inr ⟨by omega, by omega, by omega⟩, rfl⟩
set_option maxHeartbeats 400000 in
set_option maxRecDepth 100000 in
theorem szHandlerS_any (v : Value) (k n : Nat) (xs : List Value) (left : Int) (w : World) (hv : ArgFlat w v k n xs) (h0 : 0 ≤ left) (h1 : left ≤ 1048576) :
    Calls Try.prog 67 #[v, .int .i64 left] w fun e w' => ∃ r : Int, e = .returned (.int .i64 r) ∧ LeftFew r left n ∧ w = w' := by
  obtain ⟨x, c, rfl, hm, _, _⟩ := hv
  unfold maxLen at hm
  by_cases h : left < n
  · have hlt : left - (n : Int) < 0 := by omega
    go_enter Try.func67, Try.ntmps67
    go_wp2
    go_ret
    exact ⟨_, rfl, .inl rfl, rfl⟩
  · have hlt : ¬ left - (n : Int) < 0 := by omega
    go_enter Try.func67, Try.ntmps67
    go_wp2
    go_ret
    exact ⟨_, rfl, .inr ⟨by omega, by omega, by omega⟩, rfl⟩
set_option maxHeartbeats 400000 in
set_option maxRecDepth 100000 in
theorem szConst_any (p : PCon) (left : Int) (w : World) (hp : p.text.size ≤ maxLen) (h0 : 0 ≤ left) (h1 : left ≤ 1048576) :
    Calls Try.prog 46 #[.agg #[.int .i64 p.kind, .int .u64 (p.num : Int), .string p.text], .int .i64 left] w fun e w' => ∃ r : Int, e = .returned (.int .i64 r) ∧ LeftFew r left p.text.size ∧ Below w.heap.size w w' := by
  obtain ⟨s, hs⟩ : ∃ s, p.text = s := ⟨_, rfl⟩
  rw [hs] at hp ⊢
  clear hs
  unfold maxLen at hp
  by_cases h : left < s.size
  · have hlt : left - (s.size : Int) < 0 := by omega
    go_enter Try.func46, Try.ntmps46
    go_wp2
    go_ret
    exact ⟨_, rfl, .inl rfl, (Below.refl _ _).alloc (Nat.le_refl _) _⟩
  · have hlt : ¬ left - (s.size : Int) < 0 := by omega
    go_enter Try.func46, Try.ntmps46
    go_wp2
    go_ret
    exact ⟨_, rfl, .inr ⟨by omega, by omega, by omega⟩, (Below.refl _ _).alloc (Nat.le_refl _) _⟩
set_option maxHeartbeats 1000000 in
set_option maxRecDepth 100000 in
theorem szConstS_any (v : Value) (l : List PCon) (left : Int) (w : World) (hv : ArgFlat w v 3 l.length (l.flatMap conC)) (hl : ∀ p ∈ l, conW p) (h0 : 0 ≤ left) (h1 : left ≤ 1048576) :
    Calls Try.prog 23 #[v, .int .i64 left] w fun e w' => ∃ r : Int, e = .returned (.int .i64 r) ∧ (r = -1 ∨ (0 ≤ r ∧ r ≤ left ∧ (l.length : Int) ≤ left ∧ ∀ p ∈ l, (p.text.size : Int) ≤ left)) ∧ Below w.heap.size w w' := by
  obtain ⟨x, c, rfl, hm, hc⟩ := hv.opened conC_len
  clear hv
  obtain ⟨n, hn⟩ : ∃ n, l.length = n := ⟨_, rfl⟩
  have HN : Hid (l.length = n) := hn
  rw [hn] at hm hc ⊢
  clear hn
  unfold maxLen at hm
  by_cases h : left < n
  · have hlt : left - (n : Int) < 0 := by omega
    clear hc hl
    go_enter Try.func23, Try.ntmps23
    go_wp2
    go_ret
    exact ⟨_, rfl, .inl rfl, Below.refl _ _⟩
  · have hlt : ¬ left - (n : Int) < 0 := by omega
    have HC : Hid (0 < n → ∃ b o, x = some ⟨b, o, none⟩ ∧ b < w.heap.size ∧ ∀ j p, l[j]? = some p → ∀ c u, (conC p)[c]? = some u → w.cell? ⟨b, o + j * 3 + c, none⟩ = some u) := hc
    have HL : Hid (∀ p ∈ l, conW p) := hl
    clear hc hl
    go_enter Try.func23, Try.ntmps23
    go_wp2
    go_loopw [1, 5] (fun y i wr => ∃ (k : Nat) (L : Int), y = .int .i64 L ∧ i = .int .i64 k ∧ k ≤ n ∧ 0 ≤ L ∧ L ≤ left ∧ Hid (∀ j p, j < k → l[j]? = some p → (p.text.size : Int) ≤ left) ∧ Below w.heap.size w wr) (fun _ i _ => n - (intOf i).toNat)
    case atStart => exact ⟨0, _, rfl, rfl, Nat.zero_le _, by omega, by omega, fun j p hj _ => absurd hj (Nat.not_lt_zero _), Below.refl _ _⟩
    case round =>
      obtain ⟨k, L, rfl, rfl, hk, hL0, hL1, HF, hbel⟩ := hrel
      by_cases hkn : k < n
      · obtain ⟨b, o, rfl, hb, hcell⟩ := HC.out (by omega)
        obtain ⟨p, hp⟩ : ∃ p, l[k]? = some p := ⟨_, List.getElem?_eq_getElem (by have := HN.out; omega)⟩
        have c0 : wr.cell? ⟨b, o + k * 3, none⟩ = some (.int .i64 p.kind) := (hbel.cell hb).trans (hcell k p hp 0 _ rfl)
        have c1 : wr.cell? ⟨b, o + k * 3 + 1, none⟩ = some (.int .u64 (p.num : Int)) := (hbel.cell hb).trans (hcell k p hp 1 _ rfl)
        have c2 : wr.cell? ⟨b, o + k * 3 + 2, none⟩ = some (.string p.text) := (hbel.cell hb).trans (hcell k p hp 2 _ rfl)
        have cN := szConst_any p L wr (HL.out p (List.mem_iff_getElem?.2 ⟨_, hp⟩)).2.2 hL0 (by omega)
        have HP : Hid (l[k]? = some p) := hp
        clear hcell HC hp
        have hki : (k : Int) < (n : Int) := by omega
        have hk0 : (0 : Int) ≤ (k : Int) := by omega
        go_wp2_with fail
        refine cN.mono ?_
        rintro e w1 ⟨r, rfl, hr, b1⟩
        rcases hr with rfl | ⟨r0, r1, r2⟩
        · go_wp2
          go_ret
          exact ⟨_, rfl, .inl rfl, chain hbel b1⟩
        · have hneg : ¬ r < 0 := by omega
          go_wp2
          go_roundw
          case rel =>
            refine ⟨k + 1, r, rfl, by go_num, by omega, r0, by omega, fun j q hj hq => ?_, chain hbel b1⟩
            rcases Nat.lt_or_ge j k with h' | h'
            · exact HF.out j q h' hq
            · have e : j = k := by omega
              subst e
              rw [HP.out] at hq
              injection hq with hq
              subst hq
              omega
          case measure => simp [intOf]; omega
      · go_wp2
        go_ret
        refine ⟨_, rfl, .inr ⟨by omega, by omega, by omega, fun p hp => ?_⟩, hbel⟩
        obtain ⟨j, hj⟩ := List.mem_iff_getElem?.1 hp
        have hjl : j < l.length := (List.getElem?_eq_some_iff.1 hj).1
        have := HN.out
        exact HF.out j p (by omega) hj
set_option maxHeartbeats 1000000 in
set_option maxRecDepth 100000 in
theorem szFunc_any (k0 k1 cv kv hv : Value) (p : PFun) (left : Int) (w : World) (h2 : ArgFlat w cv 2 p.caps.length (p.caps.flatMap capC)) (h3 : ArgFlat w kv 3 p.code.length (p.code.flatMap insC)) (h4 : ArgFlat w hv 3 p.hnds.length (p.hnds.flatMap hndC)) (h0 : 0 ≤ left) (h1 : left ≤ 1048576) :
    Calls Try.prog 45 #[.agg #[k0, k1, cv, kv, hv], .int .i64 left] w fun e w' => ∃ r : Int, e = .returned (.int .i64 r) ∧ (r = -1 ∨ (0 ≤ r ∧ r ≤ left ∧ funFew p left)) ∧ Below w.heap.size w w' := by
  have b0 : Below w.heap.size w (w.alloc (.cells #[k0, k1, cv, kv, hv] 88)) := (Below.refl _ _).alloc (Nat.le_refl _) _
  have d2 := h2.below b0
  have d3 := h3.below b0
  have d4 := h4.below b0
  clear h2 h3 h4
  go_enter Try.func45, Try.ntmps45
  go_wp2_with fail
  refine (szCapS_any cv _ _ _ left _ d2 h0 h1).mono ?_
  rintro e w1 ⟨r, rfl, hr, rfl⟩
  rcases hr with rfl | ⟨r0, r1, r2⟩
  · go_wp2
    go_ret
    exact ⟨_, rfl, .inl rfl, b0⟩
  have hneg : ¬ r < 0 := by omega
  go_wp2_with fail
  refine (szInsS_any kv _ _ _ r _ d3 r0 (by omega)).mono ?_
  rintro e w1 ⟨q, rfl, hq, rfl⟩
  rcases hq with rfl | ⟨q0, q1, q2⟩
  · go_wp2
    go_ret
    exact ⟨_, rfl, .inl rfl, b0⟩
  have hneg2 : ¬ q < 0 := by omega
  go_wp2_with fail
  refine (szHandlerS_any hv _ _ _ q _ d4 q0 (by omega)).mono ?_
  rintro e w1 ⟨t, rfl, ht, rfl⟩
  rcases ht with rfl | ⟨t0, t1, t2⟩
  · go_wp2
    go_ret
    exact ⟨_, rfl, .inl rfl, b0⟩
  have hneg3 : ¬ t < 0 := by omega
  go_wp2
  go_ret
  exact ⟨_, rfl, .inr ⟨t0, by omega, r2, by omega, by omega⟩, b0⟩
theorem funFew.mono {p : PFun} {a b : Int} (h : funFew p a) (hab : a ≤ b) : funFew p b := ⟨Int.le_trans h.1 hab, Int.le_trans h.2.1 hab, Int.le_trans h.2.2 hab⟩
set_option maxHeartbeats 1000000 in
set_option maxRecDepth 100000 in
theorem szFuncS_any (v : Value) (l : List PFun) (left : Int) (w : World) (hv : ArgFuns w v l) (h0 : 0 ≤ left) (h1 : left ≤ 1048576) :
    Calls Try.prog 22 #[v, .int .i64 left] w fun e w' => ∃ r : Int, e = .returned (.int .i64 r) ∧ (r = -1 ∨ (0 ≤ r ∧ r ≤ left ∧ (l.length : Int) ≤ left ∧ ∀ p ∈ l, funFew p left)) ∧ Below w.heap.size w w' := by
  obtain ⟨x, c, rfl, hm, hc⟩ := hv
  obtain ⟨n, hn⟩ : ∃ n, l.length = n := ⟨_, rfl⟩
  rw [hn] at hm hc ⊢
  have HN : Hid (l.length = n) := hn
  clear hn
  unfold maxLen at hm
  by_cases h : left < n
  · have hlt : left - (n : Int) < 0 := by omega
    clear hc
    go_enter Try.func22, Try.ntmps22
    go_wp2
    go_ret
    exact ⟨_, rfl, .inl rfl, Below.refl _ _⟩
  · have hlt : ¬ left - (n : Int) < 0 := by omega
    have HC : Hid (0 < n → ∃ b o, x = some ⟨b, o, none⟩ ∧ b < w.heap.size ∧ ∀ j p, l[j]? = some p → ∃ cv kv hv, FunAt w b (o + j * 5) p cv kv hv) := hc
    clear hc
    go_enter Try.func22, Try.ntmps22
    go_wp2
    go_loopw [1, 5] (fun y i wr => ∃ (k : Nat) (L : Int), y = .int .i64 L ∧ i = .int .i64 k ∧ k ≤ n ∧ 0 ≤ L ∧ L ≤ left ∧ Hid (∀ j p, j < k → l[j]? = some p → funFew p left) ∧ Below w.heap.size w wr) (fun _ i _ => n - (intOf i).toNat)
    case atStart => exact ⟨0, _, rfl, rfl, Nat.zero_le _, by omega, by omega, fun j p hj _ => absurd hj (Nat.not_lt_zero _), Below.refl _ _⟩
    case round =>
      obtain ⟨k, L, rfl, rfl, hk, hL0, hL1, HF, hbel⟩ := hrel
      by_cases hkn : k < n
      · obtain ⟨b, o, rfl, _, hcell⟩ := HC.out (by omega)
        obtain ⟨p, hp⟩ : ∃ p, l[k]? = some p := ⟨_, List.getElem?_eq_getElem (by have := HN.out; omega)⟩
        obtain ⟨cv, kv, hv, hA⟩ := hcell k p hp
        have hA' := hA.below hbel
        have c0 := hA'.c0
        have c1 := hA'.c1
        have c2 := hA'.c2
        have c3 := hA'.c3
        have c4 := hA'.c4
        have cN := fun k0 k1 => szFunc_any k0 k1 cv kv hv p L wr hA'.caps hA'.code hA'.hnds hL0 (by omega)
        have HP : Hid (l[k]? = some p) := hp
        clear hA hA' hcell HC hp
        have hki : (k : Int) < (n : Int) := by omega
        have hk0 : (0 : Int) ≤ (k : Int) := by omega
        go_wp2_with fail
        refine (cN _ _).mono ?_
        rintro e w1 ⟨r, rfl, hr, b1⟩
        rcases hr with rfl | ⟨r0, r1, r2⟩
        · go_wp2
          go_ret
          exact ⟨_, rfl, .inl rfl, chain hbel b1⟩
        · have hneg : ¬ r < 0 := by omega
          go_wp2
          go_roundw
          case rel =>
            refine ⟨k + 1, r, rfl, by go_num, by omega, r0, by omega, fun j q hj hq => ?_, chain hbel b1⟩
            rcases Nat.lt_or_ge j k with h' | h'
            · exact HF.out j q h' hq
            · have e : j = k := by omega
              subst e
              rw [HP.out] at hq
              injection hq with hq
              subst hq
              exact r2.mono hL1
          case measure => simp [intOf]; omega
      · go_wp2
        go_ret
        refine ⟨_, rfl, .inr ⟨by omega, by omega, by omega, fun p hp => ?_⟩, hbel⟩
        obtain ⟨j, hj⟩ := List.mem_iff_getElem?.1 hp
        have hjl : j < l.length := (List.getElem?_eq_some_iff.1 hj).1
        have := HN.out
        exact HF.out j p (by omega) hj
set_option maxHeartbeats 1000000 in
set_option maxRecDepth 100000 in
theorem szImage_any (fv cv : Value) (p : PImg) (left : Int) (w : World) (hv : ArgImg w fv cv p) (hw : imgW p) (h0 : 0 ≤ left) (h1 : left ≤ 1048576) :
    Calls Try.prog 6 #[.agg #[fv, cv], .int .i64 left] w fun e w' => ∃ r : Int, e = .returned (.int .i64 r) ∧ (r = -1 ∨ (0 ≤ r ∧ r ≤ left ∧ imgFew p left)) ∧ Below w.heap.size w w' := by
  obtain ⟨hF, hC⟩ := hv
  have b0 : Below w.heap.size w (w.alloc (.cells #[fv, cv] 25)) := (Below.refl _ _).alloc (Nat.le_refl _) _
  have HL : Hid (∀ x ∈ p.consts, conW x) := hw.consts
  have cF := szFuncS_any fv p.funcs left _ (hF.below b0) h0 h1
  go_enter Try.func6, Try.ntmps6
  go_wp2_with fail
  refine cF.mono ?_
  rintro e w1 ⟨r, rfl, hr, b1⟩
  have bb1 := chain b0 b1
  have q1 := new_cell b1 1 cv rfl
  rcases hr with rfl | ⟨r0, r1, r2, r3⟩
  · go_wp2
    go_ret
    exact ⟨_, rfl, .inl rfl, bb1⟩
  have hneg : ¬ r < 0 := by omega
  have cC := szConstS_any cv p.consts r w1 (hC.below bb1) HL.out r0 (by omega)
  clear b1 cF hF hC
  go_wp2_with fail
  refine cC.mono ?_
  rintro e w2 ⟨q, rfl, hq, b2⟩
  have bb2 := chain bb1 b2
  rcases hq with rfl | ⟨q0, q1, q2, q3⟩
  · go_wp2
    go_ret
    exact ⟨_, rfl, .inl rfl, bb2⟩
  have hneg2 : ¬ q < 0 := by omega
  go_wp2
  go_ret
  exact ⟨_, rfl, .inr ⟨q0, by omega, r2, r3, by omega, fun x hx => by have := q3 x hx; omega⟩, bb2⟩
end Go.Proofs.Ytbgdapdenbldmaa
