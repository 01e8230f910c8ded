/-
  Part 1 of what is proved of drawn right trees.
-/
import Derived.WalkKit
import Derived.WalkSpells
import Derived.WalkLawsBesides
import Derived.Laws.BytesArg
import Derived.OpenShut
import Derived.SliceStrings
import Derived.Deep.Slices
import Derived.Test.YtkmmojpfcklocaaRows
import Derived.Handy
import Derived.Lib.Strings
import Derived.Lib.ItoaNum
import Derived.Deep.DeepCutAuto
import Derived.Deep.QuietTactic
import Derived.BigQuiet
import Derived.Lib.QuietBelow

namespace Go.Proofs.Ytkmmojpfcklocaa
open Go.RowKit
theorem chain {w w1 w2 : World} (h : Below w.heap.size w w1) (k : Below w1.heap.size w1 w2) : Below w.heap.size w w2 := h.trans (k.mono h.size)
theorem append_one {P : Program} {w w0 : World} {ops : Array Oper} {rest : List Oper} {o : Oper} {a : Act} {Q : Exit → Act → World → Prop} (hgd : o.guard = none) (s x : Operand) (t : TypeId)
    (ho : o.op = .call { callee := .builtin .append, args := #[s, x], argTypes := #[t, t] })
    (base : Nat) (e : TypeId) (i : TypeInfo) (z : Value) (bytes : Nat) (ht : P.underlying t = some (.slice e)) (hi : P.info? e = some i) (hz : i.zero = some z)
    (hsize : i.size = 1) (hby : i.bytes = bytes) (hzs : z.cells.size = 1)
    (v : Value) (n : Nat) (xs : List Value) (hs : a.eval s = v) (hown : w.ownsRow base e 1 v n xs)
    (y : Value) (hx : a.eval x = .slice (some ⟨w.heap.size, 0, none⟩) 1 1) (hy : y.oneCell' = true)
    (hn : n < 1000000000000) (hb : bytes ≤ 64) (hbel : Below base w0 w) (hbase : base ≤ w.heap.size)
    (h : ∀ v' w', w'.ownsRow base e 1 v' (n + 1) (xs ++ [y]) → Below base w0 w' → wpList P ops Q rest (a.put o.dst v') w') : wpList P ops Q (o :: rest) a (w.alloc (.cells #[y] e)) := by
  refine wpList_append_own _ hgd s x t ho base e i z 1 bytes ht hi hz hsize hby hzs (by decide) v n xs hs (hown.alloc _) ⟨w.heap.size, 0, none⟩ 1 1 [y] hx rfl (cell_one_new _ _ _) (fun u hu => by simp at hu; subst hu; exact hy) (by unfold maxLen; omega) ?_ (by simp; omega) (fun v' w' h1 h2 _ => h v' w' h1 ((hbel.alloc hbase _).grown h2 (by simp; omega) (fun k hk => (hown.lt k hk).1)))
  have : (n + 1) * bytes ≤ 1000000000000 * 64 := Nat.mul_le_mul (by omega) hb
  omega
end Go.Proofs.Ytkmmojpfcklocaa
namespace Go.Proofs.Ytkmmojpfcklocaa
open Go.RowKit
set_option linter.unusedVariables false
structure PIns where
  op : Int
  a : Int
  b : Int
structure PCap where
  reg : Bool
  index : Int
structure PHnd where
  lo : Int
  hi : Int
  target : Int
structure PCon where
  kind : Int
  num : Nat
  text : ByteArray
structure PFun where
  params : Int
  regs : Int
  caps : List PCap
  code : List PIns
  hnds : List PHnd
structure PImg where
  funcs : List PFun
  consts : List PCon
def insC (p : PIns) : List Value := [.int .i64 p.op, .int .i64 p.a, .int .i64 p.b]
def capC (p : PCap) : List Value := [.bool p.reg, .int .i64 p.index]
def hndC (p : PHnd) : List Value := [.int .i64 p.lo, .int .i64 p.hi, .int .i64 p.target]
def conC (p : PCon) : List Value := [.int .i64 p.kind, .int .u64 (p.num : Int), .string p.text]
def funC (p : PFun) (cv kv hv : Value) : List Value := [.int .i64 p.params, .int .i64 p.regs, cv, kv, hv]
def I64 (n : Int) : Prop := -(2 ^ 63) ≤ n ∧ n < 2 ^ 63
def N64 (n : Nat) : Prop := n < 2 ^ 64
def insW (p : PIns) : Prop := I64 p.op ∧ I64 p.a ∧ I64 p.b
def capW (p : PCap) : Prop := I64 p.index
def hndW (p : PHnd) : Prop := I64 p.lo ∧ I64 p.hi ∧ I64 p.target
def conW (p : PCon) : Prop := I64 p.kind ∧ N64 p.num ∧ p.text.size ≤ maxLen
structure funW (p : PFun) : Prop where
  params : I64 p.params
  regs : I64 p.regs
  caps : ∀ x ∈ p.caps, capW x
  code : ∀ x ∈ p.code, insW x
  hnds : ∀ x ∈ p.hnds, hndW x
structure imgW (p : PImg) : Prop where
  funcs : ∀ x ∈ p.funcs, funW x
  consts : ∀ x ∈ p.consts, conW x
def ArgFlat (w : World) (v : Value) (k n : Nat) (xs : List Value) : Prop :=
  ∃ x c, v = .slice x n c ∧ n ≤ maxLen ∧ xs.length = n * k ∧ (0 < n → ∃ b o, x = some ⟨b, o, none⟩ ∧ b < w.heap.size ∧ ∀ j u, xs[j]? = some u → w.cell? ⟨b, o + j, none⟩ = some u)
theorem flat_len {α : Type} {f : α → List Value} {k : Nat} (hk : ∀ p, (f p).length = k) (l : List α) : (l.flatMap f).length = l.length * k := by
  induction l with
  | nil => simp
  | cons p l ih => rw [List.flatMap_cons, List.length_append, hk, ih, List.length_cons, Nat.add_mul, Nat.one_mul, Nat.add_comm]
theorem flat_at {α : Type} {f : α → List Value} {k : Nat} (hk : ∀ p, (f p).length = k) : ∀ (l : List α) (j c : Nat) (p : α) (u : Value), l[j]? = some p → (f p)[c]? = some u → (l.flatMap f)[j * k + c]? = some u
  | [], j, c, p, u, h, _ => by simp at h
  | q :: l, 0, c, p, u, h, hc => by
    simp at h
    subst h
    have hlt : c < (f q).length := (List.getElem?_eq_some_iff.1 hc).1
    rw [List.flatMap_cons, Nat.zero_mul, Nat.zero_add, List.getElem?_append_left hlt, hc]
  | q :: l, j + 1, c, p, u, h, hc => by
    rw [List.getElem?_cons_succ] at h
    have ih := flat_at hk l j c p u h hc
    rw [List.flatMap_cons, List.getElem?_append_right (by rw [hk, Nat.add_mul]; omega), hk, ← ih]
    congr 1
    rw [Nat.add_mul]
    omega
theorem ArgFlat.below {w w' : World} {v : Value} {k n : Nat} {xs : List Value} (h : ArgFlat w v k n xs) (hb : Below w.heap.size w w') : ArgFlat w' v k n xs := by
  obtain ⟨x, c, e, hm, hl, hc⟩ := h
  refine ⟨x, c, e, hm, hl, fun h0 => ?_⟩
  obtain ⟨b, o, e1, h1, h2⟩ := hc h0
  exact ⟨b, o, e1, Nat.lt_of_lt_of_le h1 hb.size, fun j u hj => (hb.cell (p := ⟨b, o + j, none⟩) h1).trans (h2 j u hj)⟩
theorem ArgFlat.opened {α : Type} {f : α → List Value} {w : World} {v : Value} {k : Nat} {l : List α} (h : ArgFlat w v k l.length (l.flatMap f)) (hk : ∀ p, (f p).length = k) :
    ∃ x c, v = .slice x l.length c ∧ l.length ≤ maxLen ∧ (0 < l.length → ∃ b o, x = some ⟨b, o, none⟩ ∧ b < w.heap.size ∧ ∀ j p, l[j]? = some p → ∀ c u, (f p)[c]? = some u → w.cell? ⟨b, o + j * k + c, none⟩ = some u) := by
  obtain ⟨x, c, e, hm, hl, hc⟩ := h
  refine ⟨x, c, e, hm, fun h0 => ?_⟩
  obtain ⟨b, o, e1, h1, h2⟩ := hc h0
  refine ⟨b, o, e1, h1, fun j p hj c u hu => ?_⟩
  rw [Nat.add_assoc]
  exact h2 _ _ (flat_at hk l j c p u hj hu)
theorem ArgFlat.of_own {w : World} {B : Nat} {e : TypeId} {k n : Nat} {v : Value} {xs : List Value} (h : w.ownsRow B e k v n xs) : ArgFlat w v k n xs := by
  have hcs := fun g hg => h.cells (g := g) hg
  have hlt := h.lt
  obtain ⟨hlen, ⟨rfl, rfl⟩ | ⟨g, cap, cur, rfl, hb, hg, hnc, hc, hsz, htk⟩⟩ := h
  · exact ⟨none, 0, rfl, Nat.zero_le _, hlen, fun h => by omega⟩
  · refine ⟨_, _, rfl, Nat.le_trans hnc hc, hlen, fun _ => ⟨g, 0, rfl, (hlt g rfl).2, fun j u hj => ?_⟩⟩
    have hp : (⟨g, 0, none⟩ : Addr).add j = ⟨g, 0 + j, none⟩ := by unfold Addr.add; split <;> simp_all
    rw [← hp]; exact hcs g rfl j u hj
structure FunAt (w : World) (b o : Nat) (p : PFun) (cv kv hv : Value) : Prop where
  caps : ArgFlat w cv 2 p.caps.length (p.caps.flatMap capC)
  code : ArgFlat w kv 3 p.code.length (p.code.flatMap insC)
  hnds : ArgFlat w hv 3 p.hnds.length (p.hnds.flatMap hndC)
  c0 : w.cell? ⟨b, o, none⟩ = some (.int .i64 p.params)
  c1 : w.cell? ⟨b, o + 1, none⟩ = some (.int .i64 p.regs)
  c2 : w.cell? ⟨b, o + 2, none⟩ = some cv
  c3 : w.cell? ⟨b, o + 3, none⟩ = some kv
  c4 : w.cell? ⟨b, o + 4, none⟩ = some hv
def ArgFuns (w : World) (v : Value) (l : List PFun) : Prop := ∃ x c, v = .slice x l.length c ∧ l.length ≤ maxLen ∧ (0 < l.length → ∃ b o, x = some ⟨b, o, none⟩ ∧ b < w.heap.size ∧ ∀ j p, l[j]? = some p → ∃ cv kv hv, FunAt w b (o + j * 5) p cv kv hv)
def ArgImg (w : World) (fv cv : Value) (p : PImg) : Prop := ArgFuns w fv p.funcs ∧ ArgFlat w cv 3 p.consts.length (p.consts.flatMap conC)
theorem FunAt.below {w w' : World} {b o : Nat} {p : PFun} {cv kv hv : Value} (h : FunAt w b o p cv kv hv) (hb : Below w.heap.size w w') : FunAt w' b o p cv kv hv := by
  have hlt : b < w.heap.size := World.block_lt_of_cell? w _ h.c0
  have k : ∀ j u, w.cell? ⟨b, j, none⟩ = some u → w'.cell? ⟨b, j, none⟩ = some u := fun j u hu => (hb.cell (p := ⟨b, j, none⟩) hlt).trans hu
  exact ⟨h.caps.below hb, h.code.below hb, h.hnds.below hb, k _ _ h.c0, k _ _ h.c1, k _ _ h.c2, k _ _ h.c3, k _ _ h.c4⟩
theorem ArgFuns.below {w w' : World} {v : Value} {l : List PFun} (h : ArgFuns w v l) (hb : Below w.heap.size w w') : ArgFuns w' v l := by
  obtain ⟨x, c, e, hm, hc⟩ := h
  refine ⟨x, c, e, hm, fun h0 => ?_⟩
  obtain ⟨b, o, e1, h1, h2⟩ := hc h0
  refine ⟨b, o, e1, Nat.lt_of_lt_of_le h1 hb.size, fun j p hj => ?_⟩
  obtain ⟨cv, kv, hv, h3⟩ := h2 j p hj
  exact ⟨cv, kv, hv, h3.below hb⟩
theorem ArgImg.below {w w' : World} {fv cv : Value} {p : PImg} (h : ArgImg w fv cv p) (hb : Below w.heap.size w w') : ArgImg w' fv cv p := ⟨h.1.below hb, h.2.below hb⟩
theorem new_cell {w W : World} {cs : Array Value} {t : TypeId} (h : Below (w.alloc (.cells cs t)).heap.size (w.alloc (.cells cs t)) W) (j : Nat) (u : Value) (hj : cs[j]? = some u) : W.cell? ⟨w.heap.size, j, none⟩ = some u := by
  refine (h.cell (p := ⟨w.heap.size, j, none⟩) (by show w.heap.size < _; simp)).trans ?_
  rw [cell_of_row _ _ j _ _ _ (heap_alloc_new w (.cells cs t))]
  exact hj
theorem insC_len (p : PIns) : (insC p).length = 3 := rfl
theorem capC_len (p : PCap) : (capC p).length = 2 := rfl
theorem hndC_len (p : PHnd) : (hndC p).length = 3 := rfl
theorem conC_len (p : PCon) : (conC p).length = 3 := rfl
end Go.Proofs.Ytkmmojpfcklocaa
namespace Go.Proofs.Ytkmmojpfcklocaa
def expBits (x : Nat) : Nat := x / 4503599627370496 % 2048
def fracBits (x : Nat) : Nat := x % 4503599627370496
def kindN (x : Nat) : Nat := if expBits x = 2047 then (if fracBits x = 0 then 2 else 1) else if expBits x = 0 ∧ fracBits x = 0 then 3 else 4
def belowN (x : Nat) : Bool := decide (9223372036854775808 ≤ x ∧ kindN x ≠ 1)
def mantN (x : Nat) : Nat := if kindN x = 4 then (if expBits x = 0 then fracBits x else fracBits x + 4503599627370496) else 0
def expN (x : Nat) : Int := if kindN x = 4 then (if expBits x = 0 then -1074 else (expBits x : Int) - 1075) else 0
theorem kindN_cases (x : Nat) : kindN x = 1 ∨ kindN x = 2 ∨ kindN x = 3 ∨ kindN x = 4 := by
  unfold kindN
  split
  · split <;> omega
  · split <;> omega
theorem top_bit {x : Nat} (hx : x < 18446744073709551616) : ((x : Int) / 9223372036854775808 == 1) = decide (9223372036854775808 ≤ x) := by
  rw [Bool.eq_iff_iff]
  simp only [beq_iff_eq, decide_eq_true_eq]
  omega
end Go.Proofs.Ytkmmojpfcklocaa
namespace Go.Proofs.Ytkmmojpfcklocaa
open Go.RowKit
set_option linter.unusedVariables false
set_option maxHeartbeats 400000 in
set_option maxRecDepth 100000 in
theorem l03Pow_any (n : Nat) (w : World) (hn : n ≤ 63) :
    Calls Try.prog 91 #[.int .i64 n] w fun e w' => e = .returned (.int .u64 ((2 ^ n : Nat) : Int)) ∧ w = w' := by
  go_enter Try.func91, Try.ntmps91
  go_wp2
  go_loop [3, 4] (fun x i => ∃ (p k : Nat), k ≤ n ∧ p = 2 ^ k ∧ x = .int .u64 p ∧ i = .int .i64 k) (fun _ i => n - (intOf i).toNat)
  case atStart => exact ⟨1, 0, Nat.zero_le _, rfl, rfl, rfl⟩
  case round =>
    obtain ⟨p, k, hk, hp, rfl, rfl⟩ := hrel
    have HP : Hid (p = 2 ^ k) := hp
    by_cases hlt : k < n
    · have hb : p ≤ 4611686018427387904 := by rw [hp]; exact Nat.pow_le_pow_right (n := 2) (j := 62) (by decide) (by omega)
      clear hp
      go_wp2
      go_round
      case rel => exact ⟨2 * p, k + 1, by omega, by rw [HP.out, Nat.pow_succ, Nat.mul_comm], by go_num, by go_num⟩
      case measure => simp [intOf]; omega
    · have hkn : k = n := by omega
      subst hkn
      clear hp
      go_wp2
      go_ret
      exact ⟨by rw [HP.out]; rfl, rfl⟩
theorem l03Pow_63 (w : World) : Calls Try.prog 91 #[.int .i64 63] w fun e w' => e = .returned (.int .u64 9223372036854775808) ∧ w = w' := l03Pow_any 63 w (by decide)
def partsV (x : Nat) : Value := .agg #[.int .i64 (kindN x), .bool (belowN x), .int .u64 (mantN x), .int .i64 (expN x)]
theorem parts_nan {x : Nat} (he : x / 4503599627370496 % 2048 = 2047) (hf : x % 4503599627370496 ≠ 0) : partsV x = .agg #[.int .i64 1, .bool false, .int .u64 0, .int .i64 0] := by
  have hk : kindN x = 1 := by unfold kindN expBits fracBits; rw [if_pos he, if_neg hf]
  simp [partsV, mantN, expN, belowN, hk]
theorem parts_inf {x : Nat} (he : x / 4503599627370496 % 2048 = 2047) (hf : x % 4503599627370496 = 0) : partsV x = .agg #[.int .i64 2, .bool (decide (9223372036854775808 ≤ x)), .int .u64 0, .int .i64 0] := by
  have hk : kindN x = 2 := by unfold kindN expBits fracBits; rw [if_pos he, if_pos hf]
  simp [partsV, mantN, expN, belowN, hk]
theorem parts_zero {x : Nat} (he : x / 4503599627370496 % 2048 = 0) (hf : x % 4503599627370496 = 0) : partsV x = .agg #[.int .i64 3, .bool (decide (9223372036854775808 ≤ x)), .int .u64 0, .int .i64 0] := by
  have hk : kindN x = 3 := by unfold kindN expBits fracBits; rw [if_neg (by omega), if_pos ⟨he, hf⟩]
  simp [partsV, mantN, expN, belowN, hk]
theorem parts_low {x : Nat} (he : x / 4503599627370496 % 2048 = 0) (hf : x % 4503599627370496 ≠ 0) : partsV x = .agg #[.int .i64 4, .bool (decide (9223372036854775808 ≤ x)), .int .u64 ((x : Int) % 4503599627370496), .int .i64 (-1074)] := by
  have hk : kindN x = 4 := by unfold kindN expBits fracBits; rw [if_neg (by omega), if_neg (by omega)]
  simp [partsV, mantN, expN, belowN, hk, expBits, fracBits, he]
theorem parts_high {x : Nat} (he : x / 4503599627370496 % 2048 ≠ 0) (he' : x / 4503599627370496 % 2048 ≠ 2047) : partsV x = .agg #[.int .i64 4, .bool (decide (9223372036854775808 ≤ x)), .int .u64 ((x : Int) % 4503599627370496 + 4503599627370496), .int .i64 ((x : Int) / 4503599627370496 % 2048 - 1075)] := by
  have hk : kindN x = 4 := by unfold kindN expBits fracBits; rw [if_neg he', if_neg (by omega)]
  simp [partsV, mantN, expN, belowN, hk, expBits, fracBits, he]
theorem below_two (w : World) (o1 o2 : Obj) : Below w.heap.size w ((w.alloc o1).alloc o2) := ((Below.refl _ _).alloc (Nat.le_refl _) _).alloc (by simp) _
set_option maxHeartbeats 1000000 in
set_option maxRecDepth 100000 in
theorem specParts_any (x : Nat) (w : World) (hx : x < 18446744073709551616) :
    Calls Try.prog 70 #[.int .u64 x] w fun e w' => e = .returned (partsV x) ∧ Below w.heap.size w w' := by
  have ht := top_bit hx
  by_cases h1 : x / 4503599627370496 % 2048 = 2047
  · have g1 : (x : Int) / 4503599627370496 % 2048 = 2047 := by omega
    by_cases h2 : x % 4503599627370496 = 0
    · have g2 : (x : Int) % 4503599627370496 = 0 := by omega
      have hp : Hid _ := parts_inf h1 h2
      clear h1 h2
      go_enter Try.func70, Try.ntmps70
      go_wp2_with (go_at_call 91; refine (l03Pow_63 _).mono ?_; rintro e w' ⟨rfl, rfl⟩)
      go_returns
      exact ⟨by rw [hp.out], below_two _ _ _⟩
    · have g2 : ((x : Int) % 4503599627370496 != 0) = true := by simp; omega
      have hp : Hid _ := parts_nan h1 h2
      clear h1 h2
      go_enter Try.func70, Try.ntmps70
      go_wp2_with (go_at_call 91; refine (l03Pow_63 _).mono ?_; rintro e w' ⟨rfl, rfl⟩)
      go_returns
      exact ⟨by rw [hp.out], below_two _ _ _⟩
  · have g1 : ((x : Int) / 4503599627370496 % 2048 == 2047) = false := by rw [beq_eq_false_iff_ne]; omega
    by_cases h3 : x / 4503599627370496 % 2048 = 0
    · have g3 : (x : Int) / 4503599627370496 % 2048 = 0 := by omega
      by_cases h2 : x % 4503599627370496 = 0
      · have g2 : (x : Int) % 4503599627370496 = 0 := by omega
        have hp : Hid _ := parts_zero h3 h2
        clear h1 h2 h3
        go_enter Try.func70, Try.ntmps70
        go_wp2_with (go_at_call 91; refine (l03Pow_63 _).mono ?_; rintro e w' ⟨rfl, rfl⟩)
        go_returns
        exact ⟨by rw [hp.out], below_two _ _ _⟩
      · have g2 : ((x : Int) % 4503599627370496 == 0) = false := by rw [beq_eq_false_iff_ne]; omega
        have hp : Hid _ := parts_low h3 h2
        clear h1 h2 h3
        go_enter Try.func70, Try.ntmps70
        go_wp2_with (go_at_call 91; refine (l03Pow_63 _).mono ?_; rintro e w' ⟨rfl, rfl⟩)
        go_returns
        exact ⟨by rw [hp.out], below_two _ _ _⟩
    · have g3 : ((x : Int) / 4503599627370496 % 2048 == 0) = false := by rw [beq_eq_false_iff_ne]; omega
      have hp : Hid _ := parts_high h3 h1
      clear h1 h3
      go_enter Try.func70, Try.ntmps70
      go_wp2_with (go_at_call 91; refine (l03Pow_63 _).mono ?_; rintro e w' ⟨rfl, rfl⟩)
      go_returns
      exact ⟨by rw [hp.out], below_two _ _ _⟩
end Go.Proofs.Ytkmmojpfcklocaa
namespace Go.Proofs.Ytkmmojpfcklocaa
open Go.RowKit
set_option linter.unusedVariables false
theorem Try.partsKind (k : Int) (b : Bool) (m e : Int) (w : World) : Sem.run Try.prog (Instr.field 118 (.agg #[.int .i64 k, .bool b, .int .u64 m, .int .i64 e]) 0) w = .ok (.int .i64 k) w := by kernel_rfl
set_option maxHeartbeats 400000 in
set_option maxRecDepth 100000 in
theorem l03Nan_any (x : Nat) (w : World) (hx : x < 18446744073709551616) :
    Calls Try.prog 46 #[.int .u64 x] w fun e w' => e = .returned (.bool (decide (kindN x = 1))) ∧ Below w.heap.size w w' := by
  have HX : Hid (Unit → x < 18446744073709551616) := fun _ => hx
  have HK := kindN_cases x
  obtain ⟨k, hk⟩ : ∃ k, kindN x = k := ⟨_, rfl⟩
  have HB : Hid (Unit → partsV x = .agg #[.int .i64 k, .bool (belowN x), .int .u64 (mantN x), .int .i64 (expN x)]) := fun _ => by unfold partsV; rw [hk]
  have HT : Hid (Unit → kindN x = k) := fun _ => hk
  rw [hk] at HK
  clear hk hx
  rcases HK with rfl | rfl | rfl | rfl
  all_goals
    go_enter Try.func46, Try.ntmps46
    go_wp2_with (go_at_call 70; refine (specParts_any x _ (HX.out ())).mono ?_; rintro e w' ⟨rfl, hb⟩; rw [HB.out ()])
    simp only [Try.partsKind]
    go_wp2
    go_ret
    exact ⟨by rw [HT.out ()]; rfl, hb⟩
end Go.Proofs.Ytkmmojpfcklocaa
namespace Go.Proofs.Ytkmmojpfcklocaa
open Go.RowKit
set_option linter.unusedVariables false
set_option maxHeartbeats 400000 in
set_option maxRecDepth 100000 in
theorem l01In_any (x a b : Int) (w : World) :
    Calls Try.prog 16 #[.int .i64 x, .int .i64 a, .int .i64 b] w fun e w' => e = .returned (.bool (decide (a ≤ x) && decide (x ≤ b))) ∧ w = w' := by
  by_cases h1 : a ≤ x
  · by_cases h2 : x ≤ b
    · have e2 : decide (x ≤ b) = true := by simpa using h2
      go_enter Try.func16, Try.ntmps16
      go_wp2
      go_ret
      exact ⟨by rw [decide_eq_true h1, e2]; rfl, rfl⟩
    · have e2 : decide (x ≤ b) = false := by simpa using h2
      go_enter Try.func16, Try.ntmps16
      go_wp2
      go_ret
      exact ⟨rfl, rfl⟩
  · have e1 : decide (a ≤ x) = false := by simpa using h1
    go_enter Try.func16, Try.ntmps16
    go_wp2
    go_ret
    exact ⟨rfl, rfl⟩
end Go.Proofs.Ytkmmojpfcklocaa
namespace Go.Proofs.Ytkmmojpfcklocaa
open Go.RowKit Go.Sort
set_option linter.unusedVariables false
def inB (x a b : Int) : Bool := decide (a ≤ x) && decide (x ≤ b)
theorem l01In_b (x a b : Int) (w : World) : Calls Try.prog 16 #[.int .i64 x, .int .i64 a, .int .i64 b] w fun e w' => e = .returned (.bool (inB x a b)) ∧ w = w' := l01In_any x a b w
def conOk (p : PCon) : Bool :=
  if p.kind = 1 then decide (p.text.size = 0) && (decide (kindN p.num ≠ 1) || decide (p.num = 9221120237041090560))
  else if p.kind = 2 then decide (p.num = 0) && decide (p.text.size ≤ 40)
  else if p.kind = 3 ∨ p.kind = 4 ∨ p.kind = 5 then decide (p.num = 0) && decide (p.text.size = 0)
  else false
def insOk (p : PIns) : Bool := inB p.op 1 19 && (inB p.a 0 300 && inB p.b 0 300)
def capOk (p : PCap) : Bool := inB p.index 0 40
def hndOk (p : PHnd) : Bool := inB p.lo 0 300 && (inB p.hi 0 300 && inB p.target 0 300)
def funOk (p : PFun) : Bool :=
  inB p.params 0 4 && (inB p.regs p.params 40 && (decide (p.caps.length ≤ 20) && (inB p.code.length 1 300 && (decide (p.hnds.length ≤ 40) && (p.caps.all capOk && (p.code.all insOk && p.hnds.all hndOk))))))
def imgOk (p : PImg) : Bool :=
  inB p.funcs.length 1 16 && (decide (p.consts.length ≤ 40) && (p.consts.all conOk && (p.funcs.all funOk && (match p.funcs with | [] => false | f :: _ => decide (f.params = 0) && decide (f.caps.length = 0)))))
theorem all_no {α : Type} {l : List α} {f : α → Bool} {k : Nat} {q : α} (h : l[k]? = some q) (hf : f q = false) : l.all f = false := by
  rw [List.all_eq_false]
  exact ⟨q, List.mem_iff_getElem?.2 ⟨k, h⟩, by rw [hf]; decide⟩
theorem all_yes {α : Type} {l : List α} {f : α → Bool} {n : Nat} (hn : l.length ≤ n) (h : ∀ j q, j < n → l[j]? = some q → f q = true) : l.all f = true := by
  rw [List.all_eq_true]
  intro q hq
  obtain ⟨j, hj⟩ := List.mem_iff_getElem?.1 hq
  exact h j q (Nat.lt_of_lt_of_le (List.getElem?_eq_some_iff.1 hj).1 hn) hj
theorem all_more {α : Type} {l : List α} {f : α → Bool} {k : Nat} {q : α} (h : ∀ j q, j < k → l[j]? = some q → f q = true) (hq : l[k]? = some q) (hf : f q = true) : ∀ j q, j < k + 1 → l[j]? = some q → f q = true := fun j x hj hx => by
  rcases Nat.lt_or_ge j k with h' | h'
  · exact h j x h' hx
  · have e : j = k := by omega
    subst e
    rw [hq] at hx
    injection hx with hx
    rw [← hx]
    exact hf
set_option maxHeartbeats 1000000 in
set_option maxRecDepth 100000 in
theorem l13Func_any (p : PFun) (cv kv hv : Value) (w : World) (h2 : ArgFlat w cv 2 p.caps.length (p.caps.flatMap capC)) (h3 : ArgFlat w kv 3 p.code.length (p.code.flatMap insC)) (h4 : ArgFlat w hv 3 p.hnds.length (p.hnds.flatMap hndC)) :
    Calls Try.prog 30 #[.agg #[.int .i64 p.params, .int .i64 p.regs, cv, kv, hv]] w fun e w' => e = .returned (.bool (funOk p)) ∧ Below w.heap.size w w' := by
  obtain ⟨x2, c2, rfl, m2, o2⟩ := h2.opened capC_len
  obtain ⟨x3, c3, rfl, m3, o3⟩ := h3.opened insC_len
  obtain ⟨x4, c4, rfl, m4, o4⟩ := h4.opened hndC_len
  clear h2 h3 h4
  unfold maxLen at m2 m3 m4
  obtain ⟨n2, e2⟩ : ∃ n, p.caps.length = n := ⟨_, rfl⟩
  obtain ⟨n3, e3⟩ : ∃ n, p.code.length = n := ⟨_, rfl⟩
  obtain ⟨n4, e4⟩ : ∃ n, p.hnds.length = n := ⟨_, rfl⟩
  have HF0 : funOk p = (inB p.params 0 4 && (inB p.regs p.params 40 && (decide (n2 ≤ 20) && (inB n3 1 300 && (decide (n4 ≤ 40) && (p.caps.all capOk && (p.code.all insOk && p.hnds.all hndOk))))))) := by unfold funOk; rw [e2, e3, e4]
  obtain ⟨F, hF⟩ : ∃ F, funOk p = F := ⟨_, rfl⟩
  rw [hF] at HF0 ⊢
  rw [e2] at m2 o2 ⊢
  rw [e3] at m3 o3 ⊢
  rw [e4] at m4 o4 ⊢
  have H2 : Hid (0 < n2 → ∃ b o, x2 = some ⟨b, o, none⟩ ∧ b < w.heap.size ∧ ∀ j q, p.caps[j]? = some q → ∀ c u, (capC q)[c]? = some u → w.cell? ⟨b, o + j * 2 + c, none⟩ = some u) := o2
  have H3 : Hid (0 < n3 → ∃ b o, x3 = some ⟨b, o, none⟩ ∧ b < w.heap.size ∧ ∀ j q, p.code[j]? = some q → ∀ c u, (insC q)[c]? = some u → w.cell? ⟨b, o + j * 3 + c, none⟩ = some u) := o3
  have H4 : Hid (0 < n4 → ∃ b o, x4 = some ⟨b, o, none⟩ ∧ b < w.heap.size ∧ ∀ j q, p.hnds[j]? = some q → ∀ c u, (hndC q)[c]? = some u → w.cell? ⟨b, o + j * 3 + c, none⟩ = some u) := o4
  have E2 : Hid (p.caps.length = n2) := e2
  have E3 : Hid (p.code.length = n3) := e3
  have E4 : Hid (p.hnds.length = n4) := e4
  clear o2 o3 o4 e2 e3 e4 hF
  obtain ⟨P, hP⟩ : ∃ x, p.params = x := ⟨_, rfl⟩
  obtain ⟨R, hR⟩ : ∃ x, p.regs = x := ⟨_, rfl⟩
  rw [hP, hR] at HF0 ⊢
  clear hP hR
  have cP := fun W => l01In_b P 0 4 W
  have cR := fun W => l01In_b R P 40 W
  have cK := fun W => l01In_b n3 1 300 W
  obtain ⟨bP, eP⟩ : ∃ b, inB P 0 4 = b := ⟨_, rfl⟩
  obtain ⟨bR, eR⟩ : ∃ b, inB R P 40 = b := ⟨_, rfl⟩
  obtain ⟨bK, eK⟩ : ∃ b, inB n3 1 300 = b := ⟨_, rfl⟩
  simp only [eP] at cP HF0
  simp only [eR] at cR HF0
  simp only [eK] at cK HF0
  have HF : Hid (F = (bP && (bR && (decide (n2 ≤ 20) && (bK && (decide (n4 ≤ 40) && (p.caps.all capOk && (p.code.all insOk && p.hnds.all hndOk)))))))) := HF0
  clear eP eR eK HF0
  cases bP with
  | false =>
    have hF : F = false := by rw [HF.out]; rfl
    subst hF
    clear HF H2 H3 H4 E2 E3 E4
    go_enter Try.func30, Try.ntmps30
    go_wp2_with (go_at_call 16; (first | with_reducible refine (cP _).mono ?_ | with_reducible refine (cR _).mono ?_ | with_reducible refine (cK _).mono ?_); rintro e w' ⟨rfl, rfl⟩)
    go_ret
    exact ⟨rfl, (Below.refl _ _).alloc (Nat.le_refl _) _⟩
  | true =>
  cases bR with
  | false =>
    have hF : F = false := by rw [HF.out]; rfl
    subst hF
    clear HF H2 H3 H4 E2 E3 E4
    go_enter Try.func30, Try.ntmps30
    go_wp2_with (go_at_call 16; (first | with_reducible refine (cP _).mono ?_ | with_reducible refine (cR _).mono ?_ | with_reducible refine (cK _).mono ?_); rintro e w' ⟨rfl, rfl⟩)
    go_ret
    exact ⟨rfl, (Below.refl _ _).alloc (Nat.le_refl _) _⟩
  | true =>
  by_cases hn2 : n2 ≤ 20
  case neg =>
    have hF : F = false := by rw [HF.out, decide_eq_false hn2]; rfl
    subst hF
    clear HF H2 H3 H4 E2 E3 E4
    have hx : (20 : Int) < (n2 : Int) := by omega
    go_enter Try.func30, Try.ntmps30
    go_wp2_with (go_at_call 16; (first | with_reducible refine (cP _).mono ?_ | with_reducible refine (cR _).mono ?_ | with_reducible refine (cK _).mono ?_); rintro e w' ⟨rfl, rfl⟩)
    go_ret
    exact ⟨rfl, (Below.refl _ _).alloc (Nat.le_refl _) _⟩
  have hx2 : ¬ (20 : Int) < (n2 : Int) := by omega
  cases bK with
  | false =>
    have hF : F = false := by rw [HF.out, decide_eq_true hn2]; rfl
    subst hF
    clear HF H2 H3 H4 E2 E3 E4
    go_enter Try.func30, Try.ntmps30
    go_wp2_with (go_at_call 16; (first | with_reducible refine (cP _).mono ?_ | with_reducible refine (cR _).mono ?_ | with_reducible refine (cK _).mono ?_); rintro e w' ⟨rfl, rfl⟩)
    go_ret
    exact ⟨rfl, (Below.refl _ _).alloc (Nat.le_refl _) _⟩
  | true =>
  by_cases hn4 : n4 ≤ 40
  case neg =>
    have hF : F = false := by rw [HF.out, decide_eq_true hn2, decide_eq_false hn4]; rfl
    subst hF
    clear HF H2 H3 H4 E2 E3 E4
    have hx : (40 : Int) < (n4 : Int) := by omega
    go_enter Try.func30, Try.ntmps30
    go_wp2_with (go_at_call 16; (first | with_reducible refine (cP _).mono ?_ | with_reducible refine (cR _).mono ?_ | with_reducible refine (cK _).mono ?_); rintro e w' ⟨rfl, rfl⟩)
    go_ret
    exact ⟨rfl, (Below.refl _ _).alloc (Nat.le_refl _) _⟩
  have hx4 : ¬ (40 : Int) < (n4 : Int) := by omega
  have HF1 : Hid (F = (p.caps.all capOk && (p.code.all insOk && p.hnds.all hndOk))) := by
    have h := HF.out
    rw [decide_eq_true hn2, decide_eq_true hn4] at h
    exact h
  clear HF
  have b0 : Below w.heap.size w (w.alloc (.cells #[.int .i64 P, .int .i64 R, .slice x2 n2 c2, .slice x3 n3 c3, .slice x4 n4 c4] 47)) := (Below.refl _ _).alloc (Nat.le_refl _) _
  have hz : w.heap.size < (w.alloc (.cells #[.int .i64 P, .int .i64 R, .slice x2 n2 c2, .slice x3 n3 c3, .slice x4 n4 c4] 47)).heap.size := by simp
  have k2 := fun W (h : Below _ _ W) => new_cell (w := w) (cs := #[.int .i64 P, .int .i64 R, .slice x2 n2 c2, .slice x3 n3 c3, .slice x4 n4 c4]) (t := 47) h 2 _ rfl
  have k3 := fun W (h : Below _ _ W) => new_cell (w := w) (cs := #[.int .i64 P, .int .i64 R, .slice x2 n2 c2, .slice x3 n3 c3, .slice x4 n4 c4]) (t := 47) h 3 _ rfl
  have k4 := fun W (h : Below _ _ W) => new_cell (w := w) (cs := #[.int .i64 P, .int .i64 R, .slice x2 n2 c2, .slice x3 n3 c3, .slice x4 n4 c4]) (t := 47) h 4 _ rfl
  obtain ⟨W0, hW0⟩ : ∃ W, w.alloc (.cells #[.int .i64 P, .int .i64 R, .slice x2 n2 c2, .slice x3 n3 c3, .slice x4 n4 c4] 47) = W := ⟨_, rfl⟩
  rw [hW0] at b0 hz k2 k3 k4
  have HW : Hid (w.alloc (.cells #[.int .i64 P, .int .i64 R, .slice x2 n2 c2, .slice x3 n3 c3, .slice x4 n4 c4] 47) = W0) := hW0
  clear hW0
  go_enter Try.func30, Try.ntmps30
  go_upto_region 3 with (go_at_call 16; (first | with_reducible refine (cP _).mono ?_ | with_reducible refine (cR _).mono ?_ | with_reducible refine (cK _).mono ?_); rintro e w' ⟨rfl, rfl⟩)
  rw [HW.out]
  clear HW cP cR cK hx2 hx4 hn2 hn4
  go_wp2
  go_loopw [3] (fun i wr => ∃ k : Nat, k ≤ n2 ∧ i = .int .i64 k ∧ Hid (∀ j q, j < k → p.caps[j]? = some q → capOk q = true) ∧ Below W0.heap.size W0 wr) (fun i _ => n2 - (intOf i).toNat)
  case atStart => exact ⟨0, Nat.zero_le _, rfl, fun j q hj => absurd hj (Nat.not_lt_zero _), Below.refl _ _⟩
  case round =>
    obtain ⟨k, hk, rfl, HA, hb⟩ := hrel
    have s2 := k2 wr hb
    by_cases hkn : k < n2
    · obtain ⟨b, o, rfl, hbz, hcell⟩ := H2.out (by omega)
      obtain ⟨q, hq⟩ : ∃ q, p.caps[k]? = some q := ⟨_, List.getElem?_eq_getElem (by have := E2.out; omega)⟩
      have c1 : wr.cell? ⟨b, o + k * 2 + 1, none⟩ = some (.int .i64 q.index) := ((chain b0 hb).cell hbz).trans (hcell k q hq 1 _ rfl)
      have hki : (k : Int) < (n2 : Int) := by omega
      have hk0 : (0 : Int) ≤ (k : Int) := by omega
      have cI := fun W => l01In_b q.index 0 40 W
      obtain ⟨bI, eI⟩ : ∃ b, inB q.index 0 40 = b := ⟨_, rfl⟩
      simp only [eI] at cI
      have HI : Hid (capOk q = bI) := eI
      have HQ : Hid (p.caps[k]? = some q) := hq
      clear hcell eI hq
      cases bI with
      | false =>
        have hF : F = false := by rw [HF1.out, all_no HQ.out HI.out]; rfl
        subst hF
        clear H2 H3 H4 k2 k3 k4
        go_wp2_with (go_at_call 16; with_reducible refine (cI _).mono ?_; rintro e w' ⟨rfl, rfl⟩)
        go_ret
        exact ⟨rfl, chain b0 hb⟩
      | true =>
        go_wp2_with (go_at_call 16; with_reducible refine (cI _).mono ?_; rintro e w' ⟨rfl, rfl⟩)
        go_roundw
        case rel => exact ⟨k + 1, by omega, by go_num, all_more HA.out HQ.out HI.out, hb⟩
        case measure => simp [intOf]; omega
    · have hall : p.caps.all capOk = true := all_yes (n := k) (by have := E2.out; omega) HA.out
      have HF2 : Hid (F = (p.code.all insOk && p.hnds.all hndOk)) := by
        have h := HF1.out
        rw [hall] at h
        exact h
      clear HF1 hall HA H2 k2
      go_wp2
      go_loopw [4] (fun i wr => ∃ k : Nat, k ≤ n3 ∧ i = .int .i64 k ∧ Hid (∀ j q, j < k → p.code[j]? = some q → insOk q = true) ∧ Below W0.heap.size W0 wr) (fun i _ => n3 - (intOf i).toNat)
      case atStart => exact ⟨0, Nat.zero_le _, rfl, fun j q hj => absurd hj (Nat.not_lt_zero _), hb⟩
      case round =>
        clear hb hk hkn
        obtain ⟨k, hk, rfl, HA, hb⟩ := hrel
        have s2 := k3 _ hb
        by_cases hkn : k < n3
        · obtain ⟨b, o, rfl, hbz, hcell⟩ := H3.out (by omega)
          obtain ⟨q, hq⟩ : ∃ q, p.code[k]? = some q := ⟨_, List.getElem?_eq_getElem (by have := E3.out; omega)⟩
          have g0 : wr.cell? ⟨b, o + k * 3, none⟩ = some (.int .i64 q.op) := ((chain b0 hb).cell hbz).trans (hcell k q hq 0 _ rfl)
          have g1 : wr.cell? ⟨b, o + k * 3 + 1, none⟩ = some (.int .i64 q.a) := ((chain b0 hb).cell hbz).trans (hcell k q hq 1 _ rfl)
          have g2 : wr.cell? ⟨b, o + k * 3 + 2, none⟩ = some (.int .i64 q.b) := ((chain b0 hb).cell hbz).trans (hcell k q hq 2 _ rfl)
          have hki : (k : Int) < (n3 : Int) := by omega
          have hk0 : (0 : Int) ≤ (k : Int) := by omega
          have d1 := fun W => l01In_b q.op 1 19 W
          have d2 := fun W => l01In_b q.a 0 300 W
          have d3 := fun W => l01In_b q.b 0 300 W
          have hI : insOk q = (inB q.op 1 19 && (inB q.a 0 300 && inB q.b 0 300)) := rfl
          obtain ⟨v0, f0⟩ : ∃ v, q.op = v := ⟨_, rfl⟩
          obtain ⟨v1, f1⟩ : ∃ v, q.a = v := ⟨_, rfl⟩
          obtain ⟨v2, f2⟩ : ∃ v, q.b = v := ⟨_, rfl⟩
          simp only [f0] at g0 d1 hI
          simp only [f1] at g1 d2 hI
          simp only [f2] at g2 d3 hI
          obtain ⟨p1, e1⟩ : ∃ b, inB v0 1 19 = b := ⟨_, rfl⟩
          obtain ⟨p2, e2⟩ : ∃ b, inB v1 0 300 = b := ⟨_, rfl⟩
          obtain ⟨p3, e3⟩ : ∃ b, inB v2 0 300 = b := ⟨_, rfl⟩
          simp only [e1] at d1 hI
          simp only [e2] at d2 hI
          simp only [e3] at d3 hI
          have HI : Hid (insOk q = (p1 && (p2 && p3))) := hI
          have HQ : Hid (p.code[k]? = some q) := hq
          clear hcell e1 e2 e3 hq hI f0 f1 f2
          have hb' : ∀ cs t, Below W0.heap.size W0 (wr.alloc (.cells cs t)) := fun cs t => hb.alloc hb.size _
          by_cases hpp : (p1 && (p2 && p3)) = true
          · have z1 : p1 = true := by revert hpp; cases p1 <;> simp
            have z2 : p2 = true := by revert hpp; cases p1 <;> cases p2 <;> simp
            have z3 : p3 = true := by revert hpp; cases p1 <;> cases p2 <;> cases p3 <;> simp
            subst z1 z2 z3
            have HT : Hid (insOk q = true) := HI.out
            clear HI hpp
            go_wp2_with (go_at_call 16; (first | with_reducible refine (d1 _).mono ?_ | with_reducible refine (d2 _).mono ?_ | with_reducible refine (d3 _).mono ?_); rintro e w' ⟨rfl, rfl⟩)
            go_roundw
            case rel => exact ⟨k + 1, by omega, by go_num, all_more HA.out HQ.out HT.out, hb' _ _⟩
            case measure => simp [intOf]; omega
          · have hpf : (p1 && (p2 && p3)) = false := by revert hpp; cases p1 <;> cases p2 <;> cases p3 <;> simp
            have hF : F = false := by rw [HF2.out, all_no HQ.out (HI.out.trans hpf)]; rfl
            subst hF
            have hbe : ∀ cs t, Below w.heap.size w (wr.alloc (.cells cs t)) := fun cs t => chain b0 (hb' cs t)
            clear HI hpp H3 H4 k3 k4 HA
            cases p1 with
            | false =>
              go_wp2_with (go_at_call 16; (first | with_reducible refine (d1 _).mono ?_ | with_reducible refine (d2 _).mono ?_ | with_reducible refine (d3 _).mono ?_); rintro e w' ⟨rfl, rfl⟩)
              go_ret
              exact ⟨rfl, hbe _ _⟩
            | true =>
            cases p2 with
            | false =>
              go_wp2_with (go_at_call 16; (first | with_reducible refine (d1 _).mono ?_ | with_reducible refine (d2 _).mono ?_ | with_reducible refine (d3 _).mono ?_); rintro e w' ⟨rfl, rfl⟩)
              go_ret
              exact ⟨rfl, hbe _ _⟩
            | true =>
            cases p3 with
            | false =>
              go_wp2_with (go_at_call 16; (first | with_reducible refine (d1 _).mono ?_ | with_reducible refine (d2 _).mono ?_ | with_reducible refine (d3 _).mono ?_); rintro e w' ⟨rfl, rfl⟩)
              go_ret
              exact ⟨rfl, hbe _ _⟩
            | true => cases hpf
        · have hall : p.code.all insOk = true := all_yes (n := k) (by have := E3.out; omega) HA.out
          have HF3 : Hid (F = p.hnds.all hndOk) := by
            have h := HF2.out
            rw [hall] at h
            exact h
          clear HF2 hall HA H3 k3
          go_wp2
          go_loopw [6] (fun i wr => ∃ k : Nat, k ≤ n4 ∧ i = .int .i64 k ∧ Hid (∀ j q, j < k → p.hnds[j]? = some q → hndOk q = true) ∧ Below W0.heap.size W0 wr) (fun i _ => n4 - (intOf i).toNat)
          case atStart => exact ⟨0, Nat.zero_le _, rfl, fun j q hj => absurd hj (Nat.not_lt_zero _), hb⟩
          case round =>
            clear hb hk hkn
            obtain ⟨k, hk, rfl, HA, hb⟩ := hrel
            have s2 := k4 _ hb
            by_cases hkn : k < n4
            · obtain ⟨b, o, rfl, hbz, hcell⟩ := H4.out (by omega)
              obtain ⟨q, hq⟩ : ∃ q, p.hnds[k]? = some q := ⟨_, List.getElem?_eq_getElem (by have := E4.out; omega)⟩
              have g0 : wr.cell? ⟨b, o + k * 3, none⟩ = some (.int .i64 q.lo) := ((chain b0 hb).cell hbz).trans (hcell k q hq 0 _ rfl)
              have g1 : wr.cell? ⟨b, o + k * 3 + 1, none⟩ = some (.int .i64 q.hi) := ((chain b0 hb).cell hbz).trans (hcell k q hq 1 _ rfl)
              have g2 : wr.cell? ⟨b, o + k * 3 + 2, none⟩ = some (.int .i64 q.target) := ((chain b0 hb).cell hbz).trans (hcell k q hq 2 _ rfl)
              have hki : (k : Int) < (n4 : Int) := by omega
              have hk0 : (0 : Int) ≤ (k : Int) := by omega
              have d1 := fun W => l01In_b q.lo 0 300 W
              have d2 := fun W => l01In_b q.hi 0 300 W
              have d3 := fun W => l01In_b q.target 0 300 W
              have hI : hndOk q = (inB q.lo 0 300 && (inB q.hi 0 300 && inB q.target 0 300)) := rfl
              obtain ⟨v0, f0⟩ : ∃ v, q.lo = v := ⟨_, rfl⟩
              obtain ⟨v1, f1⟩ : ∃ v, q.hi = v := ⟨_, rfl⟩
              obtain ⟨v2, f2⟩ : ∃ v, q.target = v := ⟨_, rfl⟩
              simp only [f0] at g0 d1 hI
              simp only [f1] at g1 d2 hI
              simp only [f2] at g2 d3 hI
              obtain ⟨p1, e1⟩ : ∃ b, inB v0 0 300 = b := ⟨_, rfl⟩
              obtain ⟨p2, e2⟩ : ∃ b, inB v1 0 300 = b := ⟨_, rfl⟩
              obtain ⟨p3, e3⟩ : ∃ b, inB v2 0 300 = b := ⟨_, rfl⟩
              simp only [e1] at d1 hI
              simp only [e2] at d2 hI
              simp only [e3] at d3 hI
              have HI : Hid (hndOk q = (p1 && (p2 && p3))) := hI
              have HQ : Hid (p.hnds[k]? = some q) := hq
              clear hcell e1 e2 e3 hq hI f0 f1 f2
              have hb' : ∀ cs t, Below W0.heap.size W0 (wr.alloc (.cells cs t)) := fun cs t => hb.alloc hb.size _
              by_cases hpp : (p1 && (p2 && p3)) = true
              · have z1 : p1 = true := by revert hpp; cases p1 <;> simp
                have z2 : p2 = true := by revert hpp; cases p1 <;> cases p2 <;> simp
                have z3 : p3 = true := by revert hpp; cases p1 <;> cases p2 <;> cases p3 <;> simp
                subst z1 z2 z3
                have HT : Hid (hndOk q = true) := HI.out
                clear HI hpp
                go_wp2_with (go_at_call 16; (first | with_reducible refine (d1 _).mono ?_ | with_reducible refine (d2 _).mono ?_ | with_reducible refine (d3 _).mono ?_); rintro e w' ⟨rfl, rfl⟩)
                go_roundw
                case rel => exact ⟨k + 1, by omega, by go_num, all_more HA.out HQ.out HT.out, hb' _ _⟩
                case measure => simp [intOf]; omega
              · have hpf : (p1 && (p2 && p3)) = false := by revert hpp; cases p1 <;> cases p2 <;> cases p3 <;> simp
                have hF : F = false := by rw [HF3.out, all_no HQ.out (HI.out.trans hpf)]
                subst hF
                have hbe : ∀ cs t, Below w.heap.size w (wr.alloc (.cells cs t)) := fun cs t => chain b0 (hb' cs t)
                clear HI hpp H4 k4 HA
                cases p1 with
                | false =>
                  go_wp2_with (go_at_call 16; (first | with_reducible refine (d1 _).mono ?_ | with_reducible refine (d2 _).mono ?_ | with_reducible refine (d3 _).mono ?_); rintro e w' ⟨rfl, rfl⟩)
                  go_ret
                  exact ⟨rfl, hbe _ _⟩
                | true =>
                cases p2 with
                | false =>
                  go_wp2_with (go_at_call 16; (first | with_reducible refine (d1 _).mono ?_ | with_reducible refine (d2 _).mono ?_ | with_reducible refine (d3 _).mono ?_); rintro e w' ⟨rfl, rfl⟩)
                  go_ret
                  exact ⟨rfl, hbe _ _⟩
                | true =>
                cases p3 with
                | false =>
                  go_wp2_with (go_at_call 16; (first | with_reducible refine (d1 _).mono ?_ | with_reducible refine (d2 _).mono ?_ | with_reducible refine (d3 _).mono ?_); rintro e w' ⟨rfl, rfl⟩)
                  go_ret
                  exact ⟨rfl, hbe _ _⟩
                | true => cases hpf
            · have hall : p.hnds.all hndOk = true := all_yes (n := k) (by have := E4.out; omega) HA.out
              have hF : F = true := by rw [HF3.out, hall]
              subst hF
              clear HF3 hall HA H4 k4
              go_wp2
              go_ret
              exact ⟨rfl, chain b0 hb⟩
end Go.Proofs.Ytkmmojpfcklocaa
