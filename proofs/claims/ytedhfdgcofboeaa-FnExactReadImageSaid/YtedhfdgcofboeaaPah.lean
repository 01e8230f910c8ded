/-
  Part 8 of what is proved of drawn right trees.
-/
import Derived.Test.YtedhfdgcofboeaaPae
import Derived.Test.YtedhfdgcofboeaaPaf
import Derived.Test.YtedhfdgcofboeaaPag
import Derived.Test.YtedhfdgcofboeaaPad
import Derived.Test.YtedhfdgcofboeaaRows
import Derived.Test.YtedhfdgcofboeaaPaa
import Derived.Laws.AppendOwnNone

namespace Go.Proofs.Ytedhfdgcofboeaa
open Go.RowKit Go.Sort
set_option linter.unusedVariables false
theorem rMany_all {α : Type} {P : α → Prop} {s : ByteArray} {f : RS → α × RS} (hf : ∀ r : RS, r.pos ≤ s.size → P (f r).1 ∧ (f r).2.pos ≤ s.size) (k : Nat) (r : RS) (hr : r.pos ≤ s.size) : (∀ x ∈ (rMany f k r).1, P x) ∧ (rMany f k r).2.pos ≤ s.size := by
  induction k generalizing r with
  | zero => exact ⟨fun x hx => (by cases hx), hr⟩
  | succ k ih =>
    cases hb : r.bad with
    | true => rw [rMany_bad f _ _ hb]; exact ⟨fun x hx => (by cases hx), hr⟩
    | false =>
      rw [rMany_more f _ _ hb]
      have h1 := hf r hr
      have h2 := ih (f r).2 h1.2
      refine ⟨fun x hx => ?_, h2.2⟩
      rcases List.mem_cons.1 hx with rfl | hx
      · exact h1.1
      · exact h2.1 x hx
theorem rCount_pos (s : ByteArray) (r : RS) (h : r.pos ≤ s.size) : (rCount s r).2.pos ≤ s.size ∧ (rCount s r).1 ≤ 1000 := ⟨(rVar_pos s r h).1, Nat.min_le_right _ _⟩
theorem rConst_ok (s : ByteArray) (r : RS) (hs : s.size ≤ 1048576) (h : r.pos ≤ s.size) : conW (rConst s r).1 ∧ (rConst s r).2.pos ≤ s.size := by
  have hB := rByte_pos s r h
  obtain ⟨⟨k, r1⟩, hk⟩ : ∃ q, rByte s r = q := ⟨_, rfl⟩
  rw [hk] at hB
  have hI : I64 k := by unfold I64; simp only at hB; omega
  by_cases q1 : k = 1
  · subst q1
    rw [rConst_num hk]
    refine ⟨⟨hI, numOf_lt _, by show 0 ≤ _; omega⟩, (rTake_pos s r1 8 hB.1).1⟩
  · by_cases q2 : k = 2
    · subst q2
      rw [rConst_text hk]
      have hv := rVar_pos s r1 hB.1
      refine ⟨⟨hI, by show (0 : Nat) < _; decide, ?_⟩, (rTake_pos s _ _ hv.1).1⟩
      have := rTake_size s (rVar s r1).2 (rVar s r1).1
      show (rTake s (rVar s r1).2 (rVar s r1).1).1.size ≤ maxLen
      unfold maxLen
      omega
    · rw [rConst_none hk q1 q2]
      exact ⟨⟨hI, by show (0 : Nat) < _; decide, by show 0 ≤ _; omega⟩, hB.1⟩
theorem i64_nat {n : Nat} (h : n ≤ 1000000000) : I64 (n : Int) := by unfold I64; omega
theorem rCap_ok (s : ByteArray) (r : RS) (h : r.pos ≤ s.size) : capW (rCap s r).1 ∧ (rCap s r).2.pos ≤ s.size :=
  ⟨i64_nat (rVar_pos s _ (rByte_pos s r h).1).2.2, rCap_pos s r h⟩
theorem rIns_ok (s : ByteArray) (r : RS) (h : r.pos ≤ s.size) : insW (rIns s r).1 ∧ (rIns s r).2.pos ≤ s.size := by
  have hB := rByte_pos s r h
  have h1 := rVar_pos s _ hB.1
  have h2 := rVar_pos s _ h1.1
  refine ⟨⟨?_, i64_nat h1.2.2, i64_nat h2.2.2⟩, h2.1⟩
  show I64 (rByte s r).1
  unfold I64
  omega
theorem rHnd_ok (s : ByteArray) (r : RS) (h : r.pos ≤ s.size) : hndW (rHnd s r).1 ∧ (rHnd s r).2.pos ≤ s.size := by
  have h0 := rVar_pos s r h
  have h1 := rVar_pos s _ h0.1
  have h2 := rVar_pos s _ h1.1
  exact ⟨⟨i64_nat h0.2.2, i64_nat h1.2.2, i64_nat h2.2.2⟩, h2.1⟩
def funOkR (p : PFun) : Prop := funW p ∧ p.caps.length ≤ 1000000 ∧ p.code.length ≤ 1000000 ∧ p.hnds.length ≤ 1000000
theorem rFunc_ok (s : ByteArray) (r : RS) (h : r.pos ≤ s.size) : funOkR (rFunc s r).1 ∧ (rFunc s r).2.pos ≤ s.size := by
  have h0 := rVar_pos s r h
  have h1 := rVar_pos s _ h0.1
  have n1 := rCount_pos s _ h1.1
  have m1 := rMany_all (P := capW) (rCap_ok s) (rCount s (rVar s (rVar s r).2).2).1 _ n1.1
  have l1 := rMany_len (rCap s) (rCount s (rVar s (rVar s r).2).2).1 (rCount s (rVar s (rVar s r).2).2).2
  have n2 := rCount_pos s _ m1.2
  have m2 := rMany_all (P := insW) (rIns_ok s) (rCount s (rMany (rCap s) (rCount s (rVar s (rVar s r).2).2).1 (rCount s (rVar s (rVar s r).2).2).2).2).1 _ n2.1
  have l2 := rMany_len (rIns s) (rCount s (rMany (rCap s) (rCount s (rVar s (rVar s r).2).2).1 (rCount s (rVar s (rVar s r).2).2).2).2).1 (rCount s (rMany (rCap s) (rCount s (rVar s (rVar s r).2).2).1 (rCount s (rVar s (rVar s r).2).2).2).2).2
  have n3 := rCount_pos s _ m2.2
  have m3 := rMany_all (P := hndW) (rHnd_ok s) (rCount s (rMany (rIns s) (rCount s (rMany (rCap s) (rCount s (rVar s (rVar s r).2).2).1 (rCount s (rVar s (rVar s r).2).2).2).2).1 (rCount s (rMany (rCap s) (rCount s (rVar s (rVar s r).2).2).1 (rCount s (rVar s (rVar s r).2).2).2).2).2).2).1 _ n3.1
  have l3 := rMany_len (rHnd s) (rCount s (rMany (rIns s) (rCount s (rMany (rCap s) (rCount s (rVar s (rVar s r).2).2).1 (rCount s (rVar s (rVar s r).2).2).2).2).1 (rCount s (rMany (rCap s) (rCount s (rVar s (rVar s r).2).2).1 (rCount s (rVar s (rVar s r).2).2).2).2).2).2).1 (rCount s (rMany (rIns s) (rCount s (rMany (rCap s) (rCount s (rVar s (rVar s r).2).2).1 (rCount s (rVar s (rVar s r).2).2).2).2).1 (rCount s (rMany (rCap s) (rCount s (rVar s (rVar s r).2).2).1 (rCount s (rVar s (rVar s r).2).2).2).2).2).2).2
  refine ⟨⟨⟨i64_nat h0.2.2, i64_nat h1.2.2, m1.1, m2.1, m3.1⟩, ?_, ?_, ?_⟩, m3.2⟩
  · exact Nat.le_trans l1 (by omega)
  · exact Nat.le_trans l2 (by omega)
  · exact Nat.le_trans l3 (by omega)
theorem rImage_ok (s : ByteArray) (b : Bool) (hs : s.size ≤ 1048576) : imgW (rImage s b).1 ∧ (rImage s b).1.consts.length ≤ 1000000 ∧ (rImage s b).1.funcs.length ≤ 1000000 ∧ (∀ q ∈ (rImage s b).1.funcs, q.caps.length ≤ 1000000 ∧ q.code.length ≤ 1000000 ∧ q.hnds.length ≤ 1000000) := by
  have h0 := rTake_pos s ⟨0, b⟩ 3 (Nat.zero_le _)
  have n1 := rCount_pos s _ h0.1
  have m1 := rMany_all (P := conW) (fun r hr => rConst_ok s r hs hr) (rCount s (rTake s ⟨0, b⟩ 3).2).1 _ n1.1
  have l1 := rMany_len (rConst s) (rCount s (rTake s ⟨0, b⟩ 3).2).1 (rCount s (rTake s ⟨0, b⟩ 3).2).2
  have n2 := rCount_pos s _ m1.2
  have m2 := rMany_all (P := funOkR) (rFunc_ok s) (rCount s (rMany (rConst s) (rCount s (rTake s ⟨0, b⟩ 3).2).1 (rCount s (rTake s ⟨0, b⟩ 3).2).2).2).1 _ n2.1
  have l2 := rMany_len (rFunc s) (rCount s (rMany (rConst s) (rCount s (rTake s ⟨0, b⟩ 3).2).1 (rCount s (rTake s ⟨0, b⟩ 3).2).2).2).1 (rCount s (rMany (rConst s) (rCount s (rTake s ⟨0, b⟩ 3).2).1 (rCount s (rTake s ⟨0, b⟩ 3).2).2).2).2
  refine ⟨⟨fun x hx => (m2.1 x hx).1, m1.1⟩, ?_, ?_, fun x hx => (m2.1 x hx).2⟩
  · exact Nat.le_trans l1 (by omega)
  · exact Nat.le_trans l2 (by omega)
def unsB (t : ByteArray) : Bool := decide (4 ≤ t.size) && (decide (t.size ≤ 12004) && sealOk t)
def unsS (t : ByteArray) : ByteArray := if unsB t then innerS t else ⟨#[]⟩
def rdB (t : ByteArray) : Bool := !(rImage (unsS t) (!unsB t)).2.bad && (imgTB (rImage (unsS t) (!unsB t)).1 && decide (sealedS (strOfNums (imgT (rImage (unsS t) (!unsB t)).1)) = t))
def rdP (t : ByteArray) : PImg := if rdB t then (rImage (unsS t) (!unsB t)).1 else ⟨[], []⟩
end Go.Proofs.Ytedhfdgcofboeaa
namespace Go.Proofs.Ytedhfdgcofboeaa
open Go.RowKit
set_option linter.unusedVariables false
theorem FunsIn.slice {w : World} {B : Nat} {v : Value} {l : List PFun} (h : FunsIn w B v l) : ∃ x c, v = .slice x l.length c := by
  obtain ⟨xs, h1, _⟩ := h
  exact row_slice h1
def ImgIn (w : World) (B : Nat) (fv cv : Value) (p : PImg) : Prop := FunsIn w B fv p.funcs ∧ w.ownsRow B 40 3 cv p.consts.length (p.consts.flatMap conC)
theorem ImgIn.arg {w : World} {B : Nat} {fv cv : Value} {p : PImg} (h : ImgIn w B fv cv p) : ArgImg w fv cv p := ⟨h.1.arg, ArgFlat.of_own h.2⟩
theorem cells_pair {w : World} {g : Nat} {a b : Value} {t : TypeId} {r : Nat × Nat} (h : w.heap[g]? = some (.cells #[a, b] t r)) : w.cell? ⟨g, 0, none⟩ = some a ∧ w.cell? ⟨g, 1, none⟩ = some b := by
  refine ⟨?_, ?_⟩ <;> (rw [cell_of_row _ _ _ _ _ _ h]; rfl)
end Go.Proofs.Ytedhfdgcofboeaa
namespace Go.Proofs.Ytedhfdgcofboeaa
open Go.RowKit Go.Sort
set_option linter.unusedVariables false
theorem append_all {P : Program} {w : World} {ops : Array Oper} {rest : List Oper} {o : Oper} {a : Act} {Q : Exit → Act → World → Prop} (hgd : o.guard = none) (s x : Operand) (t : TypeId)
    (ho : o.op = .call { callee := .builtin .append, args := #[s, x], argTypes := #[t, t] })
    (base : Nat) (e : TypeId) (i : TypeInfo) (z : Value) (size bytes : Nat) (ht : P.underlying t = some (.slice e)) (hi : P.info? e = some i) (hz : i.zero = some z)
    (hsize : i.size = size) (hby : i.bytes = bytes) (hzs : z.cells.size = size) (hsz : 0 < size) (hb64 : bytes ≤ 128)
    (hs : a.eval s = .slice (some ⟨w.heap.size, 0, none⟩) 0 0) (src : Value) (hx : a.eval x = src) (B n : Nat) (xs : List Value) (hsrc : w.ownsRow B e size src n xs) (h1 : ∀ u ∈ xs, u.oneCell' = true)
    (hn : n ≤ 1000000000) (hbase : base ≤ w.heap.size)
    (h : ∀ v' w', w'.ownsRow base e size v' n xs → Below w.heap.size w w' → wpList P ops Q rest (a.put o.dst v') w') :
    wpList P ops Q (o :: rest) a (w.alloc (.cells #[] e)) := by
  have hb : Below w.heap.size w (w.alloc (.cells #[] e)) := (Below.refl _ _).alloc (Nat.le_refl _) _
  have h0 : (w.alloc (.cells #[] e)).ownsRow base e size (.slice (some ⟨w.heap.size, 0, none⟩) 0 0) 0 [] :=
    ⟨by simp, .inr ⟨w.heap.size, 0, #[], rfl, hbase, heap_alloc_new w _, Nat.le_refl _, Nat.zero_le _, by simp, by simp⟩⟩
  have hsrc' := row_keep hsrc hb
  have hl := hsrc.1
  have hbn : n * bytes ≤ 1000000000 * 128 := Nat.mul_le_mul hn hb64
  rcases hsrc'.2 with ⟨e1, e2⟩ | ⟨g, cap, cur, e1, _⟩
  · subst e2
    have en : xs = [] := List.eq_nil_of_length_eq_zero (by omega)
    subst en
    exact wpList_append_own_none hgd s x t ho base e i size ht hi _ 0 [] hs h0 (hx.trans e1) (h _ _ h0 hb)
  · refine wpList_append_own_at (w.alloc (.cells #[] e)) hgd s x t ho base e i z size bytes ht hi hz hsize hby hzs hsz _ 0 [] hs h0 ⟨g, 0, none⟩ n cap xs (hx.trans e1) hl (hsrc'.cells (g := g) (by rw [e1]; rfl)) h1 (by unfold maxLen; omega) (by rw [Nat.zero_add]; omega) (Nat.le_trans hbase hb.size) (fun v' w' k1 k2 _ _ => h v' w' (by rw [Nat.zero_add, List.nil_append] at k1; exact k1) ?_)
    exact hb.grown k2 hb.size (fun k hk => by simp [Value.ownBlock] at hk; omega)
theorem one_cap (l : List PCap) : ∀ u ∈ l.flatMap capC, u.oneCell' = true := fun u hu => by
  obtain ⟨p, _, hp⟩ := List.mem_flatMap.1 hu
  simp only [capC, List.mem_cons, List.not_mem_nil, or_false] at hp
  rcases hp with rfl | rfl <;> rfl
theorem one_ins (l : List PIns) : ∀ u ∈ l.flatMap insC, u.oneCell' = true := fun u hu => by
  obtain ⟨p, _, hp⟩ := List.mem_flatMap.1 hu
  simp only [insC, List.mem_cons, List.not_mem_nil, or_false] at hp
  rcases hp with rfl | rfl | rfl <;> rfl
theorem one_hnd (l : List PHnd) : ∀ u ∈ l.flatMap hndC, u.oneCell' = true := fun u hu => by
  obtain ⟨p, _, hp⟩ := List.mem_flatMap.1 hu
  simp only [hndC, List.mem_cons, List.not_mem_nil, or_false] at hp
  rcases hp with rfl | rfl | rfl <;> rfl
theorem one_con (l : List PCon) : ∀ u ∈ l.flatMap conC, u.oneCell' = true := fun u hu => by
  obtain ⟨p, _, hp⟩ := List.mem_flatMap.1 hu
  simp only [conC, List.mem_cons, List.not_mem_nil, or_false] at hp
  rcases hp with rfl | rfl | rfl <;> rfl
theorem FunsIn.more {w w' : World} {B : Nat} {v v' cv kv hv : Value} {l : List PFun} {p : PFun} {xs : List Value} (h : w.ownsRow B 46 5 v l.length xs) (hl : ∀ q f, l[q]? = some f → FunIn w B xs q f) (hg : w.grownBy w' v.ownBlock)
    (ho : w'.ownsRow B 46 5 v' (l.length + 1) (xs ++ funC p cv kv hv)) (h2 : w.ownsRow B 73 2 cv p.caps.length (p.caps.flatMap capC)) (h3 : w.ownsRow B 75 3 kv p.code.length (p.code.flatMap insC)) (h4 : w.ownsRow B 77 3 hv p.hnds.length (p.hnds.flatMap hndC)) :
    FunsIn w' B v' (l ++ [p]) := by
  have keepRow : ∀ {e2 : TypeId} {k2 n2 : Nat} {v2 : Value} {xs2 : List Value}, w.ownsRow B e2 k2 v2 n2 xs2 → 46 ≠ e2 → w'.ownsRow B e2 k2 v2 n2 xs2 := fun {e2 k2 n2 v2 xs2} h2 hne => h2.kept hg (by
    cases hb : v2.ownBlock with
    | none => exact .inl rfl
    | some G =>
      refine .inr fun e1 => ?_
      obtain ⟨_, cs, fr, hG⟩ := own_type h2 hb
      exact row_apart h hG (Ne.symm hne) e1.symm)
  refine ⟨xs ++ funC p cv kv hv, by rw [List.length_append]; exact ho, fun q f hq => ?_⟩
  have hxl := h.1
  rcases Nat.lt_or_ge q l.length with hlt | hge
  · rw [List.getElem?_append_left hlt] at hq
    obtain ⟨c1, c2, c3, k1, k2, k3, k4⟩ := hl q f hq
    refine ⟨c1, c2, c3, fun c u hu => ?_, keepRow k2 (by decide), keepRow k3 (by decide), keepRow k4 (by decide)⟩
    have hk := k1 c u hu
    rw [List.getElem?_append_left (List.getElem?_eq_some_iff.1 hk).1]
    exact hk
  · rw [List.getElem?_append_right hge] at hq
    have e : q = l.length := by
      have hb := (List.getElem?_eq_some_iff.1 hq).1
      simp at hb
      omega
    subst e
    simp at hq
    subst hq
    refine ⟨cv, kv, hv, fun c u hu => ?_, keepRow h2 (by decide), keepRow h3 (by decide), keepRow h4 (by decide)⟩
    rw [List.getElem?_append_right (by omega), hxl, Nat.add_sub_cancel_left]
    exact hu
structure CpS (w0 : World) (A1 A2 O : Nat) (o1 o2 : Obj) (w : World) (fv cv : Value) (l : List PFun) (xs : List Value) (k : List PCon) : Prop where
  a1 : w.heap[A1]? = some o1
  a2 : w.heap[A2]? = some o2
  bo : w.heap[O]? = some (.cells #[fv, cv] 25 (0, 0))
  rf : w.ownsRow w0.heap.size 46 5 fv l.length xs
  ff : ∀ q f, l[q]? = some f → FunIn w w0.heap.size xs q f
  rk : w.ownsRow w0.heap.size 40 3 cv k.length (k.flatMap conC)
  bel : Below w0.heap.size w0 w
  lo : w0.heap.size ≤ A1 ∧ A1 < A2 ∧ A2 < O
theorem CpS.keep {w0 w w' : World} {A1 A2 O : Nat} {o1 o2 : Obj} {fv cv : Value} {l : List PFun} {xs : List Value} {k : List PCon} (h : CpS w0 A1 A2 O o1 o2 w fv cv l xs k) (hb : Below w.heap.size w w') : CpS w0 A1 A2 O o1 o2 w' fv cv l xs k :=
  ⟨(hb.block A1 (box_lt h.a1)).trans h.a1, (hb.block A2 (box_lt h.a2)).trans h.a2, (hb.block O (box_lt h.bo)).trans h.bo, row_keep h.rf hb, fun q f hq => (h.ff q f hq).below hb, row_keep h.rk hb, h.bel.trans (hb.mono h.bel.size), h.lo⟩
theorem FunIn.put {w : World} {B q E o : Nat} {xs : List Value} {p : PFun} {u : Value} {cs : Array Value} {fr : Nat × Nat} (h : FunIn w B xs q p) (hE : w.heap[E]? = some (.cells cs 46 fr)) : FunIn (w.setCell ⟨E, o, none⟩ u) B xs q p := by
  obtain ⟨cv, kv, hv, h1, h2, h3, h4⟩ := h
  exact ⟨cv, kv, hv, h1, row_put15 h2 (row_apart h2 hE (by decide)), row_put15 h3 (row_apart h3 hE (by decide)), row_put15 h4 (row_apart h4 hE (by decide))⟩
theorem CpS.put {w0 w : World} {A1 A2 O E o : Nat} {o1 o2 : Obj} {fv cv u : Value} {l : List PFun} {xs : List Value} {k : List PCon} {cs : Array Value} {fr : Nat × Nat} (h : CpS w0 A1 A2 O o1 o2 w fv cv l xs k) (hE : w.heap[E]? = some (.cells cs 46 fr)) (hO : O < E) (hf : fv.ownBlock ≠ some E) : CpS w0 A1 A2 O o1 o2 (w.setCell ⟨E, o, none⟩ u) fv cv l xs k := by
  have hl := h.lo
  exact ⟨(heap_setCell_other w ⟨E, o, none⟩ A1 u (by show A1 ≠ E; omega)).trans h.a1, (heap_setCell_other w ⟨E, o, none⟩ A2 u (by show A2 ≠ E; omega)).trans h.a2, (heap_setCell_other w ⟨E, o, none⟩ O u (by show O ≠ E; omega)).trans h.bo, row_put15 h.rf hf, fun q f hq => (h.ff q f hq).put hE, row_put15 h.rk (row_apart h.rk hE (by decide)), h.bel.setCell (by show w0.heap.size ≤ E; omega) _, hl⟩
theorem CpS.add {w0 w w' : World} {A1 A2 O : Nat} {cs1 cs2 : Array Value} {fr1 fr2 : Nat × Nat} {fv cv v' c1 k1 h1 : Value} {l : List PFun} {xs : List Value} {k : List PCon} {p : PFun} (h : CpS w0 A1 A2 O (.cells cs1 25 fr1) (.cells cs2 25 fr2) w fv cv l xs k) (hg : w.grownBy w' fv.ownBlock)
    (ho : w'.ownsRow w0.heap.size 46 5 v' (l.length + 1) (xs ++ funC p c1 k1 h1)) (h2 : w.ownsRow w0.heap.size 73 2 c1 p.caps.length (p.caps.flatMap capC)) (h3 : w.ownsRow w0.heap.size 75 3 k1 p.code.length (p.code.flatMap insC)) (h4 : w.ownsRow w0.heap.size 77 3 h1 p.hnds.length (p.hnds.flatMap hndC)) :
    w'.heap[O]? = some (.cells #[fv, cv] 25 (0, 0)) ∧ ∃ xs', CpS w0 A1 A2 O (.cells cs1 25 fr1) (.cells cs2 25 fr2) (w'.setCell ⟨O, 0, none⟩ v') v' cv (l ++ [p]) xs' k := by
  have hl := h.lo
  have nb : ∀ {Y : Nat} {cs : Array Value} {fr : Nat × Nat}, w.heap[Y]? = some (.cells cs 25 fr) → w'.heap[Y]? = some (.cells cs 25 fr) := fun {Y cs fr} hY => (hg.block Y (box_lt hY) (fun e1 => row_apart h.rf hY (by decide) e1.symm)).trans hY
  have hO := nb h.bo
  obtain ⟨xs', k1', k2'⟩ := FunsIn.more h.rf h.ff hg ho h2 h3 h4
  have hrk : w'.ownsRow w0.heap.size 40 3 cv k.length (k.flatMap conC) := h.rk.kept hg (by
    cases hb : cv.ownBlock with
    | none => exact .inl rfl
    | some G =>
      refine .inr fun e1 => ?_
      obtain ⟨_, cs, fr, hG⟩ := own_type h.rk hb
      exact row_apart h.rf hG (by decide) e1.symm)
  have hbel : Below w0.heap.size w0 w' := h.bel.grown hg h.bel.size (fun Y hY => (own_type h.rf hY).1)
  refine ⟨hO, xs', (heap_setCell_other w' ⟨O, 0, none⟩ A1 v' (by show A1 ≠ O; omega)).trans (nb h.a1), (heap_setCell_other w' ⟨O, 0, none⟩ A2 v' (by show A2 ≠ O; omega)).trans (nb h.a2), heap_setCell_same _ _ _ _ _ _ hO, row_put15 k1' (row_apart k1' hO (by decide)), fun q f hq => ?_, row_put15 hrk (row_apart hrk hO (by decide)), hbel.setCell (by show w0.heap.size ≤ O; omega) _, hl⟩
  obtain ⟨a, b, c, e1, e2, e3, e4⟩ := k2' q f hq
  exact ⟨a, b, c, e1, row_put15 e2 (row_apart e2 hO (by decide)), row_put15 e3 (row_apart e3 hO (by decide)), row_put15 e4 (row_apart e4 hO (by decide))⟩
set_option maxHeartbeats 4000000 in
set_option maxRecDepth 100000 in
theorem l13Copy_any (p : PImg) (fv cv : Value) (B : Nat) (w : World) (h : ImgIn w B fv cv p) (hf : p.funcs.length ≤ 1000000) (hc : p.consts.length ≤ 1000000) (hq : ∀ q ∈ p.funcs, q.caps.length ≤ 1000000 ∧ q.code.length ≤ 1000000 ∧ q.hnds.length ≤ 1000000) :
    Calls Try.prog 15 #[.agg #[fv, cv]] w fun e w' => ∃ fv' cv', e = .returned (.agg #[fv', cv']) ∧ ImgIn w' w.heap.size fv' cv' p ∧ Below w.heap.size w w' := by
  obtain ⟨i0, hi0, hz00, hz01, hz02⟩ := info_in Try.infoConst13
  obtain ⟨i1, hi1, hz10, hz11, hz12⟩ := info_in Try.infoCap13
  obtain ⟨i2, hi2, hz20, hz21, hz22⟩ := info_in Try.infoIns13
  obtain ⟨i3, hi3, hz30, hz31, hz32⟩ := info_in Try.infoHandler13
  obtain ⟨i4, hi4, hz40, hz41, hz42⟩ := info_in Try.infoFunc13
  obtain ⟨hF, hC⟩ := h
  obtain ⟨x2, c2, rfl⟩ := row_slice hC
  obtain ⟨xs0, hrow, hfun⟩ := hF
  obtain ⟨x1, c1, rfl⟩ := row_slice hrow
  obtain ⟨y1, d1, ey, hm1, hl1, ho1⟩ := ArgFlat.of_own hrow
  simp only [Value.slice.injEq] at ey
  obtain ⟨rfl, _, rfl⟩ := ey
  obtain ⟨n1, e1⟩ : ∃ n, p.funcs.length = n := ⟨_, rfl⟩
  obtain ⟨n2, e2⟩ : ∃ n, p.consts.length = n := ⟨_, rfl⟩
  rw [e1] at hf hrow ho1 ⊢
  rw [e2] at hc hC ⊢
  have E1 : Hid (p.funcs.length = n1) := e1
  have E2 : Hid (p.consts.length = n2) := e2
  have H1 : Hid (0 < n1 → ∃ b o, x1 = some ⟨b, o, none⟩ ∧ b < w.heap.size ∧ ∀ j u, xs0[j]? = some u → w.cell? ⟨b, o + j, none⟩ = some u) := ho1
  have HFN : Hid (∀ q f, p.funcs[q]? = some f → FunIn w B xs0 q f) := hfun
  have HQ : Hid (∀ q ∈ p.funcs, q.caps.length ≤ 1000000 ∧ q.code.length ≤ 1000000 ∧ q.hnds.length ≤ 1000000) := hq
  clear e1 e2 ho1 hfun hq hm1 hl1
  have hb0 : Below w.heap.size w ((w.alloc (.cells #[.slice x1 n1 c1, .slice x2 n2 c2] 25)).alloc (.cells #[.slice none 0 0, .slice none 0 0] 25)) := ((Below.refl _ _).alloc (Nat.le_refl _) _).alloc (by simp) _
  have hA1 : ((w.alloc (.cells #[.slice x1 n1 c1, .slice x2 n2 c2] 25)).alloc (.cells #[.slice none 0 0, .slice none 0 0] 25)).heap[w.heap.size]? = some (.cells #[.slice x1 n1 c1, .slice x2 n2 c2] 25) := box_alloc (heap_alloc_new w _)
  have hA2 := heap_alloc_new (w.alloc (.cells #[.slice x1 n1 c1, .slice x2 n2 c2] 25)) (.cells #[.slice none 0 0, .slice none 0 0] 25)
  rw [show (w.alloc (.cells #[.slice x1 n1 c1, .slice x2 n2 c2] 25)).heap.size = w.heap.size + 1 by simp] at hA2
  have hC0 := row_keep hC hb0
  obtain ⟨W0, hW0⟩ : ∃ W, (w.alloc (.cells #[.slice x1 n1 c1, .slice x2 n2 c2] 25)).alloc (.cells #[.slice none 0 0, .slice none 0 0] 25) = W := ⟨_, rfl⟩
  rw [hW0] at hb0 hA1 hA2 hC0
  have HW0 : Hid (_ = W0) := hW0
  have hsz0 : w.heap.size + 2 ≤ W0.heap.size := by rw [← hW0]; simp
  clear hW0 hrow
  go_enter Try.func15, Try.ntmps15
  go_upto_region 1 with fail
  rw [HW0.out]
  clear HW0
  have g1 : W0.cell? ⟨w.heap.size, 1, none⟩ = some (.slice x2 n2 c2) := box_at hA1 1 _ rfl
  have hlA : w.heap.size < W0.heap.size := by omega
  have hlA2 : w.heap.size + 1 < W0.heap.size := by omega
  go_wp2_with (at_builtin; refine append_all rfl _ _ 23 rfl w.heap.size 40 i0 _ 3 32 Try.underlying23 hi0 hz00 hz01 hz02 rfl (by decide) (by decide) rfl (.slice x2 n2 c2) rfl B n2 _ hC0 (one_con _) (by omega) (by omega) ?_)
  intro v1 w1 ow1 hb1
  obtain ⟨x5, c5, rfl⟩ := row_slice ow1
  have hbI : ∀ (a : Option Addr) (n c : Nat) (W : World), (Instr.build 25 #[(1, .slice a n c)]).run Try.prog W = .ok (.agg #[.slice none 0 0, .slice a n c]) W := fun a n c W => run_build W 25 _ _ (by kernel_rfl)
  have hs1 := hb1.size
  have S0 : CpS w w.heap.size (w.heap.size + 1) w1.heap.size (.cells #[.slice x1 n1 c1, .slice x2 n2 c2] 25) (.cells #[.slice none 0 0, .slice none 0 0] 25) (w1.alloc (.cells #[.slice none 0 0, .slice x5 n2 c5] 25)) (.slice none 0 0) (.slice x5 n2 c5) [] [] p.consts := by
    have hb2 : Below w1.heap.size w1 (w1.alloc (.cells #[.slice none 0 0, .slice x5 n2 c5] 25)) := (Below.refl _ _).alloc (Nat.le_refl _) _
    refine ⟨(hb2.block _ (by omega)).trans ((hb1.block _ hlA).trans hA1), (hb2.block _ (by omega)).trans ((hb1.block _ hlA2).trans hA2), heap_alloc_new w1 _, World.ownsRow_nil _ _ _ _, fun q f hq => by simp at hq, by rw [E2.out]; exact row_keep ow1 hb2, (hb0.trans (hb1.mono hb0.size)).trans (hb2.mono (by omega)), Nat.le_refl _, Nat.lt_succ_self _, by omega⟩
  obtain ⟨WO, hWO⟩ : ∃ W, w1.alloc (.cells #[.slice none 0 0, .slice x5 n2 c5] 25) = W := ⟨_, rfl⟩
  rw [hWO] at S0
  have HWO : Hid (_ = WO) := hWO
  obtain ⟨O, hO⟩ : ∃ O, w1.heap.size = O := ⟨_, rfl⟩
  have HO : Hid (w1.heap.size = O) := hO
  rw [hO] at S0
  clear hWO hO ow1 hb1 hA1 hA2 hC hC0 hb0 g1 hs1
  go_upto_region 2 with fail
  rw [HWO.out, HO.out]
  clear HWO HO
  go_wp2
  go_loopw [4] (fun i wr => ∃ (k : Nat) (fv' : Value) (xs : List Value), k ≤ n1 ∧ i = .int .i64 k ∧ CpS w w.heap.size (w.heap.size + 1) O (.cells #[.slice x1 n1 c1, .slice x2 n2 c2] 25) (.cells #[.slice none 0 0, .slice none 0 0] 25) wr fv' (.slice x5 n2 c5) (p.funcs.take k) xs p.consts) (fun i _ => n1 - (intOf i).toNat)
  case atStart => exact ⟨0, _, _, Nat.zero_le _, rfl, by simpa using S0⟩
  case round =>
    clear S0
    obtain ⟨k, fv', xs, hk, rfl, S0⟩ := hrel
    have HLK : Hid ((p.funcs.take k).length = k) := by
      show _ = _
      rw [List.length_take]
      have := E1.out
      omega
    obtain ⟨fx, fc, hfv⟩ := row_slice S0.rf
    rw [HLK.out] at hfv
    subst hfv
    have t0 : wr.cell? ⟨w.heap.size, 0, none⟩ = some (.slice x1 n1 c1) := box_at S0.a1 0 _ rfl
    by_cases hkn : k < n1
    · obtain ⟨b, o, rfl, hbz, hcell⟩ := H1.out (by omega)
      obtain ⟨q, hq⟩ : ∃ q, p.funcs[k]? = some q := ⟨_, List.getElem?_eq_getElem (by have := E1.out; omega)⟩
      obtain ⟨v1, v2, v3, hfc, hr1, hr2, hr3⟩ := HFN.out k q hq
      have hlm := HQ.out q (List.mem_iff_getElem?.2 ⟨_, hq⟩)
      have hcl : ∀ c u, (funC q v1 v2 v3)[c]? = some u → wr.cell? ⟨b, o + k * 5 + c, none⟩ = some u := fun c u hu => by
        rw [Nat.add_assoc]
        exact (S0.bel.cell hbz).trans (hcell _ _ (hfc c u hu))
      have hr1' := row_keep hr1 S0.bel
      have hr2' := row_keep hr2 S0.bel
      have hr3' := row_keep hr3 S0.bel
      obtain ⟨a1, d1, rfl⟩ := row_slice hr1
      obtain ⟨a2, d2, rfl⟩ := row_slice hr2
      obtain ⟨a3, d3, rfl⟩ := row_slice hr3
      obtain ⟨nc, enc⟩ : ∃ n, q.caps.length = n := ⟨_, rfl⟩
      obtain ⟨nk, enk⟩ : ∃ n, q.code.length = n := ⟨_, rfl⟩
      obtain ⟨nh, enh⟩ : ∃ n, q.hnds.length = n := ⟨_, rfl⟩
      rw [enc] at hr1' hcl hlm
      rw [enk] at hr2' hcl hlm
      rw [enh] at hr3' hcl hlm
      have g0 : wr.cell? ⟨b, o + k * 5, none⟩ = some (.int .i64 q.params) := hcl 0 _ rfl
      have g1 : wr.cell? ⟨b, o + k * 5 + 1, none⟩ = some (.int .i64 q.regs) := hcl 1 _ rfl
      have g2 : wr.cell? ⟨b, o + k * 5 + 2, none⟩ = some (.slice a1 nc d1) := hcl 2 _ rfl
      have g3 : wr.cell? ⟨b, o + k * 5 + 3, none⟩ = some (.slice a2 nk d2) := hcl 3 _ rfl
      have g4 : wr.cell? ⟨b, o + k * 5 + 4, none⟩ = some (.slice a3 nh d3) := hcl 4 _ rfl
      have EC : Hid (q.caps.length = nc) := enc
      have EK : Hid (q.code.length = nk) := enk
      have EH : Hid (q.hnds.length = nh) := enh
      have HQ1 : Hid (p.funcs[k]? = some q) := hq
      have hki : (k : Int) < (n1 : Int) := by omega
      have hk0 : (0 : Int) ≤ (k : Int) := by omega
      clear hcl hfc hr1 hr2 hr3 enc enk enh hq hcell
      have bF := heap_alloc_new wr (.cells #[.int .i64 q.params, .int .i64 q.regs, .slice a1 nc d1, .slice a2 nk d2, .slice a3 nh d3] 46)
      have hbF : Below wr.heap.size wr (wr.alloc (.cells #[.int .i64 q.params, .int .i64 q.regs, .slice a1 nc d1, .slice a2 nk d2, .slice a3 nh d3] 46)) := (Below.refl _ _).alloc (Nat.le_refl _) _
      have S1 := S0.keep hbF
      have apf := row_apart' S0.rf
      have hOlt := box_lt S0.bo
      have r1 := row_keep hr1' hbF
      have r2 := row_keep hr2' hbF
      have r3 := row_keep hr3' hbF
      obtain ⟨WF, hWF⟩ : ∃ W, wr.alloc (.cells #[.int .i64 q.params, .int .i64 q.regs, .slice a1 nc d1, .slice a2 nk d2, .slice a3 nh d3] 46) = W := ⟨_, rfl⟩
      rw [hWF] at bF S1 r1 r2 r3
      have HWF : Hid (_ = WF) := hWF
      obtain ⟨F, hF⟩ : ∃ F, wr.heap.size = F := ⟨_, rfl⟩
      have HF : Hid (wr.heap.size = F) := hF
      rw [hF] at bF apf hOlt
      clear hWF hF hr1' hr2' hr3' hbF S0
      go_upto_region 6 with fail
      rw [HWF.out, HF.out]
      clear HWF HF t0 g0 g1 g2 g3 g4
      have hszF := S1.bel.size
      have ltF := box_lt bF
      have x1 : WF.cell? ⟨F, 2, none⟩ = some (.slice a1 nc d1) := box_at bF 2 _ rfl
      go_wp2_with (at_builtin; refine append_all rfl _ _ 42 rfl w.heap.size 73 i1 _ 2 16 Try.underlying42 hi1 hz10 hz11 hz12 rfl (by decide) (by decide) rfl (.slice a1 nc d1) rfl B nc _ r1 (one_cap _) (by omega) S1.bel.size ?_)
      intro v1 u1 ow1 hb1
      obtain ⟨y1, z1, rfl⟩ := row_slice ow1
      have T1 := S1.keep hb1
      have bG1 := (hb1.block F ltF).trans bF
      have f1 := frozen_of_row _ _ 2 _ _ bG1
      have c1 := box_at bG1 2 _ rfl
      have SS1 := T1.put (o := 2) (u := .slice y1 nc z1) bG1 hOlt apf
      have bH1 := heap_setCell_same u1 F 2 _ 46 (.slice y1 nc z1) bG1
      have m1 := row_put15 (X := F) (o := 2) (u := .slice y1 nc z1) ow1 (row_apart ow1 bG1 (by decide))
      have r2 := row_put15 (X := F) (o := 2) (u := .slice y1 nc z1) (row_keep r2 hb1) (row_apart (row_keep r2 hb1) bG1 (by decide))
      have r3 := row_put15 (X := F) (o := 2) (u := .slice y1 nc z1) (row_keep r3 hb1) (row_apart (row_keep r3 hb1) bG1 (by decide))
      obtain ⟨Y1, hY1⟩ : ∃ W, u1.setCell ⟨F, 2, none⟩ (.slice y1 nc z1) = W := ⟨_, rfl⟩
      rw [hY1] at SS1 bH1 m1 r2 r3
      have HY1 : Hid (_ = Y1) := hY1
      have bI1 : Y1.heap[F]? = some (.cells #[.int .i64 q.params, .int .i64 q.regs, .slice y1 nc z1, .slice a2 nk d2, .slice a3 nh d3] 46 (0, 0)) := bH1
      have ltF := box_lt bI1
      clear x1 T1 bG1 bH1 hY1 S1 bF r1 ow1 hb1
      go_upto_region 7 with fail
      rw [HY1.out]
      clear HY1 f1 c1
      have x2 : Y1.cell? ⟨F, 3, none⟩ = some (.slice a2 nk d2) := box_at bI1 3 _ rfl
      go_wp2_with (at_builtin; refine append_all rfl _ _ 43 rfl w.heap.size 75 i2 _ 3 24 Try.underlying43 hi2 hz20 hz21 hz22 rfl (by decide) (by decide) rfl (.slice a2 nk d2) rfl B nk _ r2 (one_ins _) (by omega) SS1.bel.size ?_)
      intro v2 u2 ow2 hb2
      obtain ⟨y2, z2, rfl⟩ := row_slice ow2
      have T2 := SS1.keep hb2
      have bG2 := (hb2.block F ltF).trans bI1
      have f2 := frozen_of_row _ _ 3 _ _ bG2
      have c2 := box_at bG2 3 _ rfl
      have S2 := T2.put (o := 3) (u := .slice y2 nk z2) bG2 hOlt apf
      have bH2 := heap_setCell_same u2 F 3 _ 46 (.slice y2 nk z2) bG2
      have m2 := row_put15 (X := F) (o := 3) (u := .slice y2 nk z2) ow2 (row_apart ow2 bG2 (by decide))
      have r3 := row_put15 (X := F) (o := 3) (u := .slice y2 nk z2) (row_keep r3 hb2) (row_apart (row_keep r3 hb2) bG2 (by decide))
      have m1 := row_put15 (X := F) (o := 3) (u := .slice y2 nk z2) (row_keep m1 hb2) (row_apart (row_keep m1 hb2) bG2 (by decide))
      obtain ⟨Y2, hY2⟩ : ∃ W, u2.setCell ⟨F, 3, none⟩ (.slice y2 nk z2) = W := ⟨_, rfl⟩
      rw [hY2] at S2 bH2 m2 r3 m1
      have HY2 : Hid (_ = Y2) := hY2
      have bI2 : Y2.heap[F]? = some (.cells #[.int .i64 q.params, .int .i64 q.regs, .slice y1 nc z1, .slice y2 nk z2, .slice a3 nh d3] 46 (0, 0)) := bH2
      have ltF := box_lt bI2
      clear x2 T2 bG2 bH2 hY2 SS1 bI1 r2 ow2 hb2
      go_upto_region 8 with fail
      rw [HY2.out]
      clear HY2 f2 c2
      have x3 : Y2.cell? ⟨F, 4, none⟩ = some (.slice a3 nh d3) := box_at bI2 4 _ rfl
      go_wp2_with (at_builtin; refine append_all rfl _ _ 44 rfl w.heap.size 77 i3 _ 3 24 Try.underlying44 hi3 hz30 hz31 hz32 rfl (by decide) (by decide) rfl (.slice a3 nh d3) rfl B nh _ r3 (one_hnd _) (by omega) S2.bel.size ?_)
      intro v3 u3 ow3 hb3
      obtain ⟨y3, z3, rfl⟩ := row_slice ow3
      have T3 := S2.keep hb3
      have bG3 := (hb3.block F ltF).trans bI2
      have f3 := frozen_of_row _ _ 4 _ _ bG3
      have c3 := box_at bG3 4 _ rfl
      have S3 := T3.put (o := 4) (u := .slice y3 nh z3) bG3 hOlt apf
      have bH3 := heap_setCell_same u3 F 4 _ 46 (.slice y3 nh z3) bG3
      have m3 := row_put15 (X := F) (o := 4) (u := .slice y3 nh z3) ow3 (row_apart ow3 bG3 (by decide))
      have m1 := row_put15 (X := F) (o := 4) (u := .slice y3 nh z3) (row_keep m1 hb3) (row_apart (row_keep m1 hb3) bG3 (by decide))
      have m2 := row_put15 (X := F) (o := 4) (u := .slice y3 nh z3) (row_keep m2 hb3) (row_apart (row_keep m2 hb3) bG3 (by decide))
      obtain ⟨Y3, hY3⟩ : ∃ W, u3.setCell ⟨F, 4, none⟩ (.slice y3 nh z3) = W := ⟨_, rfl⟩
      rw [hY3] at S3 bH3 m3 m1 m2
      have HY3 : Hid (_ = Y3) := hY3
      have bI3 : Y3.heap[F]? = some (.cells #[.int .i64 q.params, .int .i64 q.regs, .slice y1 nc z1, .slice y2 nk z2, .slice y3 nh z3] 46 (0, 0)) := bH3
      have ltF := box_lt bI3
      clear x3 T3 bG3 bH3 hY3 S2 bI2 r3 ow3 hb3
      go_upto_region 9 with fail
      rw [HY3.out]
      clear HY3 f3 c3
      have e0 := box_at bI3 0 _ rfl
      have e1 := box_at bI3 1 _ rfl
      have e2 := box_at bI3 2 _ rfl
      have e3 := box_at bI3 3 _ rfl
      have e4 := box_at bI3 4 _ rfl
      have hnx : F ≠ O := by omega
      have bx := box_at S3.bo 0 _ rfl
      have hone : ∀ u ∈ (#[.int .i64 q.params, .int .i64 q.regs, .slice y1 nc z1, .slice y2 nk z2, .slice y3 nh z3] : Array Value).toList, u.oneCell' = true := fun u hu => by
        simp only [List.mem_cons, List.not_mem_nil, or_false] at hu
        rcases hu with rfl | rfl | rfl | rfl | rfl <;> rfl
      have hro := S3.rf
      rw [HLK.out] at hro
      go_wp2_with (at_builtin; refine append_elem rfl _ _ 22 rfl w.heap.size 46 i4 _ 5 88 Try.underlying22 hi4 hz40 hz41 hz42 rfl (by decide) (by decide) (.slice fx k fc) k xs rfl hro #[.int .i64 q.params, .int .i64 q.regs, .slice y1 nc z1, .slice y2 nk z2, .slice y3 nh z3] rfl hone rfl (by omega) S3.bel.size ?_)
      intro v9 w9 o9 g9 _
      obtain ⟨x9, c9, rfl⟩ := row_slice o9
      have hal : Below Y3.heap.size Y3 (Y3.alloc (.cells #[.int .i64 q.params, .int .i64 q.regs, .slice y1 nc z1, .slice y2 nk z2, .slice y3 nh z3] 46)) := (Below.refl _ _).alloc (Nat.le_refl _) _
      obtain ⟨hO9, xs9, S9⟩ := (S3.keep hal).add (p := q) g9 (by rw [HLK.out]; exact o9) (by rw [EC.out]; exact row_keep m1 hal) (by rw [EK.out]; exact row_keep m2 hal) (by rw [EH.out]; exact row_keep m3 hal)
      have f9 := frozen_of_row _ _ 0 _ _ hO9
      have c9' := box_at hO9 0 _ rfl
      have etk : p.funcs.take k ++ [q] = p.funcs.take (k + 1) := by rw [List.take_add_one, HQ1.out]; rfl
      rw [etk] at S9
      have HS9 : Hid (CpS _ _ _ _ _ _ _ _ _ _ _ _) := S9
      clear S9 S3 o9 g9 hal m1 m2 m3 hro bI3 e0 e1 e2 e3 e4 bx etk
      go_wp2
      go_roundw
      case rel => exact ⟨k + 1, _, _, by omega, by go_num, HS9.out⟩
      case measure => simp [intOf]; omega
    · have ek : k = n1 := by omega
      subst ek
      have hdk : decide ((k : Int) < (k : Int)) = false := decide_eq_false (by omega)
      rw [List.take_of_length_le (by have := E1.out; omega)] at S0
      have e0 := box_at S0.bo 0 _ rfl
      have e1 := box_at S0.bo 1 _ rfl
      have z0 := box_at S0.a2 0 _ rfl
      have z1 := box_at S0.a2 1 _ rfl
      have y0 := frozen_of_row _ _ 0 _ _ S0.a2
      have y1 := frozen_of_row _ _ 1 _ _ S0.a2
      have hl := S0.lo
      have hA : ((wr.setCell ⟨w.heap.size + 1, 0, none⟩ (.slice fx k fc)).setCell ⟨w.heap.size + 1, 1, none⟩ (.slice x5 n2 c5)).heap[w.heap.size + 1]? = some (.cells #[.slice fx k fc, .slice x5 n2 c5] 25 (0, 0)) := heap_setCell_same _ _ _ _ _ _ (heap_setCell_same _ _ _ _ _ _ S0.a2)
      have hA0 := heap_setCell_same wr (w.heap.size + 1) 0 _ 25 (.slice fx k fc) S0.a2
      have HI : Hid (ImgIn ((wr.setCell ⟨w.heap.size + 1, 0, none⟩ (.slice fx k fc)).setCell ⟨w.heap.size + 1, 1, none⟩ (.slice x5 n2 c5)) w.heap.size (.slice fx k fc) (.slice x5 n2 c5) p) := by
        refine ⟨⟨xs, row_put15 (row_put15 S0.rf (row_apart S0.rf S0.a2 (by decide))) (row_apart (row_put15 S0.rf (row_apart S0.rf S0.a2 (by decide))) hA0 (by decide)), fun q f hq => ?_⟩, row_put15 (row_put15 S0.rk (row_apart S0.rk S0.a2 (by decide))) (row_apart (row_put15 S0.rk (row_apart S0.rk S0.a2 (by decide))) hA0 (by decide))⟩
        obtain ⟨a, b, c, t1, t2, t3, t4⟩ := S0.ff q f hq
        have s2 := row_put15 (X := w.heap.size + 1) (o := 0) (u := .slice fx k fc) t2 (row_apart t2 S0.a2 (by decide))
        have s3 := row_put15 (X := w.heap.size + 1) (o := 0) (u := .slice fx k fc) t3 (row_apart t3 S0.a2 (by decide))
        have s4 := row_put15 (X := w.heap.size + 1) (o := 0) (u := .slice fx k fc) t4 (row_apart t4 S0.a2 (by decide))
        exact ⟨a, b, c, t1, row_put15 s2 (row_apart s2 hA0 (by decide)), row_put15 s3 (row_apart s3 hA0 (by decide)), row_put15 s4 (row_apart s4 hA0 (by decide))⟩
      have HBL : Hid (Below w.heap.size w ((wr.setCell ⟨w.heap.size + 1, 0, none⟩ (.slice fx k fc)).setCell ⟨w.heap.size + 1, 1, none⟩ (.slice x5 n2 c5))) := (S0.bel.setCell (by show w.heap.size ≤ w.heap.size + 1; omega) _).setCell (by show w.heap.size ≤ w.heap.size + 1; omega) _
      have HA : Hid _ := hA
      have nn : O ≠ w.heap.size + 1 := by omega
      clear S0 hA hA0
      go_wp2
      have q0 := box_at HA.out 0 _ rfl
      have q1 := box_at HA.out 1 _ rfl
      refine bodyPost_ret (v := .agg #[.slice fx k fc, .slice x5 n2 c5]) (by simp [results, Try.results15, go_sem, q0, q1]) rfl ⟨_, _, rfl, HI.out, HBL.out⟩
end Go.Proofs.Ytedhfdgcofboeaa
namespace Go.Proofs.Ytedhfdgcofboeaa
open Go.RowKit Go.Sort
set_option linter.unusedVariables false
theorem specUnsealed_v (t : ByteArray) (w : World) (ht : t.size ≤ 1048576) : Calls Try.prog 9 #[.string t] w fun e w' => e = .returned (.tuple #[.string (unsS t), .bool (unsB t)]) ∧ Below w.heap.size w w' := by
  by_cases h : t.size < 4 ∨ 12004 < t.size
  · have hb : unsB t = false := by
      unfold unsB
      rcases h with h | h
      · rw [decide_eq_false (by omega)]; rfl
      · rw [decide_eq_false (p := t.size ≤ 12004) (by omega)]; simp
    unfold unsS
    rw [hb]
    exact specUnsealed_out t w h (by omega)
  · have h1 : 4 ≤ t.size := by omega
    have h2 : t.size ≤ 12004 := by omega
    have hs := specUnsealed_in t w h1 h2
    have hb : unsB t = sealOk t := by unfold unsB; rw [decide_eq_true h1, decide_eq_true h2]; simp
    unfold unsS
    rw [hb]
    cases hk : sealOk t with
    | true => rw [unsealedV_yes hk] at hs; exact hs
    | false => rw [unsealedV_no hk] at hs; exact hs
theorem unsS_size (t : ByteArray) (h : t.size ≤ 1048576) : (unsS t).size ≤ 1048576 := by
  unfold unsS innerS
  split
  · rw [ByteArray.size_extract]; omega
  · show 0 ≤ _; omega
theorem step_append_elem {P : Program} {w : World} {ops : Array Oper} {o : Oper} {a : Act} {K : Act → World → Prop} {Q : Exit → Act → World → Prop} {E : Prop} (hgd : o.guard = none) (s x : Operand) (t : TypeId)
    (ho : o.op = .call { callee := .builtin .append, args := #[s, x], argTypes := #[t, t] })
    (base : Nat) (e : TypeId) (i : TypeInfo) (z : Value) (size bytes : Nat) (ht : P.underlying t = some (.slice e)) (hi : P.info? e = some i) (hz : i.zero = some z)
    (hsize : i.size = size) (hby : i.bytes = bytes) (hzs : z.cells.size = size) (hsz : 0 < size) (hb64 : bytes ≤ 128)
    (v : Value) (n : Nat) (xs : List Value) (hs : a.eval s = v) (hown : w.ownsRow base e size v n xs)
    (cs : Array Value) (hcs : cs.toList.length = size) (h1 : ∀ u ∈ cs.toList, u.oneCell' = true) (hx : a.eval x = .slice (some ⟨w.heap.size, 0, none⟩) 1 1) (d : Option Tmp) (hd : o.dst = d)
    (hn : n < 1000000000) (hbase : base ≤ w.heap.size)
    (h : ∀ v' w', w'.ownsRow base e size v' (n + 1) (xs ++ cs.toList) → (w.alloc (.cells cs e)).grownBy w' v.ownBlock → K (a.put d v') w') :
    if Region.wanted o (yielded ops a.tmps) = true then Oper.wp P o a (w.alloc (.cells cs e)) K Q else E := by
  subst hd
  have hw : Region.wanted o (yielded ops a.tmps) = true := by simp [Region.wanted, hgd]
  rw [if_pos hw]
  have hal : (w.alloc (.cells cs e)).heap.size = w.heap.size + 1 := by simp
  have hbn : (n + 1) * bytes ≤ 1000000000 * 128 := Nat.mul_le_mul (by omega) hb64
  obtain ⟨v', w', hr, h2, h3, _, _⟩ := run_append_own_at (P := P) (w.alloc (.cells cs e)) base t o.type e i z size bytes ht hi hz hsize hby hzs hsz v n xs (hown.alloc _) ⟨w.heap.size, 0, none⟩ 1 1 cs.toList (by rw [hcs, Nat.one_mul]) (fun j u hj => by
    have hadd : (⟨w.heap.size, 0, none⟩ : Addr).add j = ⟨w.heap.size, j, none⟩ := by unfold Addr.add; split <;> simp_all
    rw [hadd, cell_of_row _ _ j _ _ _ (heap_alloc_new w (.cells cs e))]
    simpa using hj) h1 (by unfold maxLen; omega) (by omega) (by rw [hal]; omega)
  unfold Oper.wp execOp
  simp only [ho, resolve, invoke, builtin, Sem.run_bind, Sem.run_pure, Result.andThen_ok, List.map_toArray, List.map_cons, List.map_nil, hs, hx, hr]
  exact h v' w' h2 h3
structure RdI (w0 : World) (C X R : Nat) (s : ByteArray) (w : World) (st : RS) (fv cv : Value) (l : List PFun) (xs : List Value) (k : List PCon) : Prop where
  cur : CurAt w C s st
  box : w.heap[X]? = some (.cells #[fv, cv] 25 (0, 0))
  res : w.heap[R]? = some (.cells #[.slice none 0 0, .slice none 0 0] 25 (0, 0))
  rf : w.ownsRow w0.heap.size 46 5 fv l.length xs
  ff : ∀ q f, l[q]? = some f → FunIn w w0.heap.size xs q f
  rk : w.ownsRow w0.heap.size 40 3 cv k.length (k.flatMap conC)
  bel : Below w0.heap.size w0 w
  lo : w0.heap.size ≤ R ∧ R < C ∧ C < X
theorem row_cur {w w' : World} {B k n C : Nat} {e : TypeId} {v : Value} {xs : List Value} {s : ByteArray} {st : RS} (h : w.ownsRow B e k v n xs) (hc : CurAt w C s st) (he : 35 ≠ e) (hg : w.grownBy w' (some C)) : w'.ownsRow B e k v n xs := h.kept hg (.inr (row_apart h hc he))
theorem FunIn.cur {w w' : World} {B q C : Nat} {xs : List Value} {p : PFun} {s : ByteArray} {st : RS} (h : FunIn w B xs q p) (hc : CurAt w C s st) (hg : w.grownBy w' (some C)) : FunIn w' B xs q p := by
  obtain ⟨cv, kv, hv, h1, h2, h3, h4⟩ := h
  exact ⟨cv, kv, hv, h1, row_cur h2 hc (by decide) hg, row_cur h3 hc (by decide) hg, row_cur h4 hc (by decide) hg⟩
theorem RdI.call {w0 w w' : World} {C X R : Nat} {s : ByteArray} {st st' : RS} {fv cv : Value} {l : List PFun} {xs : List Value} {k : List PCon} (h : RdI w0 C X R s w st fv cv l xs k) (hc : CurAt w' C s st') (hg : w.grownBy w' (some C)) : RdI w0 C X R s w' st' fv cv l xs k := by
  have hl := h.lo
  exact ⟨hc, box_grown h.box hg (by omega), box_grown h.res hg (by omega), row_cur h.rf h.cur (by decide) hg, fun q f hq => (h.ff q f hq).cur h.cur hg, row_cur h.rk h.cur (by decide) hg, h.bel.grown hg h.bel.size (fun Y hY => by injection hY with hY; omega), hl⟩
theorem RdI.keep {w0 w w' : World} {C X R : Nat} {s : ByteArray} {st : RS} {fv cv : Value} {l : List PFun} {xs : List Value} {k : List PCon} (h : RdI w0 C X R s w st fv cv l xs k) (hb : Below w.heap.size w w') : RdI w0 C X R s w' st fv cv l xs k := h.call (h.cur.below hb) (grown_lo hb)
theorem RdI.addC {w0 w w' : World} {C X R : Nat} {s : ByteArray} {st : RS} {fv cv v' : Value} {l : List PFun} {xs : List Value} {k : List PCon} {c : PCon} (h : RdI w0 C X R s w st fv cv l xs k) (hg : w.grownBy w' cv.ownBlock) (ho : w'.ownsRow w0.heap.size 40 3 v' (k.length + 1) (k.flatMap conC ++ conC c)) :
    w'.heap[X]? = some (.cells #[fv, cv] 25 (0, 0)) ∧ RdI w0 C X R s (w'.setCell ⟨X, 1, none⟩ v') st fv v' l xs (k ++ [c]) := by
  have hl := h.lo
  have nb : ∀ {Y : Nat} {cs : Array Value} {T : TypeId} {fr : Nat × Nat}, w.heap[Y]? = some (.cells cs T fr) → T ≠ 40 → w'.heap[Y]? = some (.cells cs T fr) := fun {Y cs T fr} hY hT => (hg.block Y (box_lt hY) (fun e1 => row_apart h.rk hY hT e1.symm)).trans hY
  have keepRow : ∀ {e2 : TypeId} {k2 n2 : Nat} {v2 : Value} {xs2 : List Value}, w.ownsRow w0.heap.size e2 k2 v2 n2 xs2 → e2 ≠ 40 → w'.ownsRow w0.heap.size e2 k2 v2 n2 xs2 := fun {e2 k2 n2 v2 xs2} h2 hne => h2.kept hg (by
    cases hb : v2.ownBlock with
    | none => exact .inl rfl
    | some G =>
      refine .inr fun e1 => ?_
      obtain ⟨_, cs, fr, hG⟩ := own_type h2 hb
      exact row_apart h.rk hG hne e1.symm)
  have hX := nb h.box (by decide)
  have hbel : Below w0.heap.size w0 w' := h.bel.grown hg h.bel.size (fun Y hY => (own_type h.rk hY).1)
  have hrf := keepRow h.rf (by decide)
  refine ⟨hX, cur_put (nb h.cur (by decide)) (by omega), heap_setCell_same _ _ _ _ _ _ hX, (heap_setCell_other w' ⟨X, 1, none⟩ R v' (by show R ≠ X; omega)).trans (nb h.res (by decide)), row_put15 hrf (row_apart hrf hX (by decide)), fun q f hq => ?_, row_put15 (by rw [List.length_append, List.flatMap_append]; simpa using ho) (row_apart ho hX (by decide)), hbel.setCell (by show w0.heap.size ≤ X; omega) _, hl⟩
  obtain ⟨a, b, d, e1, e2, e3, e4⟩ := h.ff q f hq
  exact ⟨a, b, d, e1, row_put15 (keepRow e2 (by decide)) (row_apart (keepRow e2 (by decide)) hX (by decide)), row_put15 (keepRow e3 (by decide)) (row_apart (keepRow e3 (by decide)) hX (by decide)), row_put15 (keepRow e4 (by decide)) (row_apart (keepRow e4 (by decide)) hX (by decide))⟩
theorem RdI.addF {w0 w w' : World} {C X R : Nat} {s : ByteArray} {st : RS} {fv cv v' c1 k1 h1 : Value} {l : List PFun} {xs : List Value} {k : List PCon} {p : PFun} (h : RdI w0 C X R s w st fv cv l xs k) (hg : w.grownBy w' fv.ownBlock)
    (ho : w'.ownsRow w0.heap.size 46 5 v' (l.length + 1) (xs ++ funC p c1 k1 h1)) (h2 : w.ownsRow w0.heap.size 73 2 c1 p.caps.length (p.caps.flatMap capC)) (h3 : w.ownsRow w0.heap.size 75 3 k1 p.code.length (p.code.flatMap insC)) (h4 : w.ownsRow w0.heap.size 77 3 h1 p.hnds.length (p.hnds.flatMap hndC)) :
    w'.heap[X]? = some (.cells #[fv, cv] 25 (0, 0)) ∧ ∃ xs', RdI w0 C X R s (w'.setCell ⟨X, 0, none⟩ v') st v' cv (l ++ [p]) xs' k := by
  have hl := h.lo
  have nb : ∀ {Y : Nat} {cs : Array Value} {T : TypeId} {fr : Nat × Nat}, w.heap[Y]? = some (.cells cs T fr) → T ≠ 46 → w'.heap[Y]? = some (.cells cs T fr) := fun {Y cs T fr} hY hT => (hg.block Y (box_lt hY) (fun e1 => row_apart h.rf hY hT e1.symm)).trans hY
  have hX := nb h.box (by decide)
  obtain ⟨xs', k1', k2'⟩ := FunsIn.more h.rf h.ff hg ho h2 h3 h4
  have hrk : w'.ownsRow w0.heap.size 40 3 cv k.length (k.flatMap conC) := h.rk.kept hg (by
    cases hb : cv.ownBlock with
    | none => exact .inl rfl
    | some G =>
      refine .inr fun e1 => ?_
      obtain ⟨_, cs, fr, hG⟩ := own_type h.rk hb
      exact row_apart h.rf hG (by decide) e1.symm)
  have hbel : Below w0.heap.size w0 w' := h.bel.grown hg h.bel.size (fun Y hY => (own_type h.rf hY).1)
  refine ⟨hX, xs', cur_put (nb h.cur (by decide)) (by omega), heap_setCell_same _ _ _ _ _ _ hX, (heap_setCell_other w' ⟨X, 0, none⟩ R v' (by show R ≠ X; omega)).trans (nb h.res (by decide)), row_put15 k1' (row_apart k1' hX (by decide)), fun q f hq => ?_, row_put15 hrk (row_apart hrk hX (by decide)), hbel.setCell (by show w0.heap.size ≤ X; omega) _, hl⟩
  obtain ⟨a, b, c, e1, e2, e3, e4⟩ := k2' q f hq
  exact ⟨a, b, c, e1, row_put15 e2 (row_apart e2 hX (by decide)), row_put15 e3 (row_apart e3 hX (by decide)), row_put15 e4 (row_apart e4 hX (by decide))⟩
end Go.Proofs.Ytedhfdgcofboeaa
