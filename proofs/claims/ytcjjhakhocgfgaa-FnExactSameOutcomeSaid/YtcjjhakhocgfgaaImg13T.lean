/-
  The law's own helpers that copy what came in: instructions, captures, handlers, constants, and rows of them, each row into memory of its own.
-/
import Derived.Test.YtcjjhakhocgfgaaRows
import Derived.Test.YtcjjhakhocgfgaaImg13B
import Derived.Test.YtcjjhakhocgfgaaInfo
import Derived.Laws.OwnMore
import Derived.Handy
namespace Go.Proofs.Ytcjjhakhocgfgaa
open Go.RowKit
set_option linter.unusedVariables false

theorem info_in {P : Program} {t : TypeId} {z : Value} {n b : Nat} (h : (P.info? t).map (fun i => (i.zero, i.size, i.bytes)) = some (some z, n, b)) : ∃ i, P.info? t = some i ∧ i.zero = some z ∧ i.size = n ∧ i.bytes = b := by
  cases hi : P.info? t with
  | none => rw [hi] at h; cases h
  | some i =>
    rw [hi] at h
    simp only [Option.map_some, Option.some.injEq, Prod.mk.injEq] at h
    exact ⟨i, rfl, h.1, h.2.1, h.2.2⟩

/-- values stored one behind another -/
def layL (xs : List Value) (o : Nat) : List Value → List Value
  | [] => xs
  | v :: r => layL (xs.set o v) (o + 1) r
def layW (w : World) (g o : Nat) : List Value → World
  | [] => w
  | v :: r => layW (w.setCell ⟨g, o, none⟩ v) g (o + 1) r
theorem layL_len : ∀ (vs xs : List Value) (o : Nat), (layL xs o vs).length = xs.length
  | [], xs, o => rfl
  | v :: r, xs, o => by rw [layL, layL_len r, List.length_set]
theorem layL_other : ∀ (vs xs : List Value) (o j : Nat), (j < o ∨ o + vs.length ≤ j) → (layL xs o vs)[j]? = xs[j]?
  | [], xs, o, j, h => rfl
  | v :: r, xs, o, j, h => by
    rw [List.length_cons] at h
    rw [layL, layL_other r _ _ _ (by omega), List.getElem?_set_ne (by omega)]
theorem layL_here : ∀ (vs xs : List Value) (o c : Nat) (u : Value), vs[c]? = some u → o + vs.length ≤ xs.length → (layL xs o vs)[o + c]? = some u
  | [], xs, o, c, u, h, hl => by simp at h
  | v :: r, xs, o, c, u, h, hl => by
    rw [List.length_cons] at hl
    rw [layL]
    match c, h with
    | 0, h =>
      simp at h
      subst h
      rw [layL_other r _ _ _ (by omega), Nat.add_zero, List.getElem?_set_self (by omega)]
    | c + 1, h =>
      rw [List.getElem?_cons_succ] at h
      have := layL_here r (xs.set o v) (o + 1) c u h (by rw [List.length_set]; omega)
      rw [← this]
      congr 1
      omega
theorem layW_own {H : Nat} {e : TypeId} {size g n c : Nat} : ∀ (vs xs : List Value) (w : World) (o : Nat), w.ownsRow H e size (.slice (some ⟨g, 0, none⟩) n c) n xs → (layW w g o vs).ownsRow H e size (.slice (some ⟨g, 0, none⟩) n c) n (layL xs o vs)
  | [], xs, w, o, h => h
  | v :: r, xs, w, o, h => layW_own r _ _ _ (h.stored o v).1
theorem layW_below {w0 : World} {B g : Nat} (hg : B ≤ g) : ∀ (vs : List Value) (w : World) (o : Nat), Below B w0 w → Below B w0 (layW w g o vs)
  | [], w, o, h => h
  | v :: r, w, o, h => layW_below hg r _ _ (h.setCell (p := ⟨g, o, none⟩) hg v)
theorem layW_row {B g : Nat} {e : TypeId} {v : Value} {k n : Nat} {xs : List Value} (hg : g < B) : ∀ (vs : List Value) (w : World) (o : Nat), w.ownsRow B e k v n xs → (layW w g o vs).ownsRow B e k v n xs
  | [], w, o, h => h
  | u :: r, w, o, h => layW_row hg r _ _ (ownsRow_setCell_below h (a := ⟨g, o, none⟩) hg u)
theorem layW_size (g : Nat) : ∀ (vs : List Value) (w : World) (o : Nat), (layW w g o vs).heap.size = w.heap.size
  | [], w, o => rfl
  | v :: r, w, o => by rw [layW, layW_size g r]; simp

theorem row_keep {w w' : World} {B : Nat} {e : TypeId} {size : Nat} {v : Value} {n : Nat} {xs : List Value} (h : w.ownsRow B e size v n xs) (hb : Below w.heap.size w w') : w'.ownsRow B e size v n xs :=
  h.kept (row := none) ⟨hb.os, hb.tape, hb.output, hb.size, fun k hk _ => hb.block k hk⟩ (by cases h2 : v.ownBlock <;> simp)
theorem row_low {w : World} {B B' : Nat} {e : TypeId} {size : Nat} {v : Value} {n : Nat} {xs : List Value} (h : w.ownsRow B e size v n xs) (hb : B' ≤ B) : w.ownsRow B' e size v n xs := by
  obtain ⟨e1, e2⟩ := h
  refine ⟨e1, e2.imp id ?_⟩
  rintro ⟨g, cap, cur, h1, h2, h3⟩
  exact ⟨g, cap, cur, h1, Nat.le_trans hb h2, h3⟩
theorem row_slice {w : World} {B : Nat} {e : TypeId} {size : Nat} {v : Value} {n : Nat} {xs : List Value} (h : w.ownsRow B e size v n xs) : ∃ x c, v = .slice x n c := by
  obtain ⟨_, ⟨rfl, rfl⟩ | ⟨g, cap, cur, rfl, _⟩⟩ := h
  · exact ⟨_, _, rfl⟩
  · exact ⟨_, _, rfl⟩
theorem row_cell {w : World} {H : Nat} {e : TypeId} {size g n c : Nat} {xs : List Value} (h : w.ownsRow H e size (.slice (some ⟨g, 0, none⟩) n c) n xs) (j : Nat) (hj : j < n * size) : (∃ u, w.cell? ⟨g, j, none⟩ = some u) ∧ w.frozen? ⟨g, j, none⟩ = false :=
  ⟨⟨_, (h.cellAt j hj).trans (List.getElem?_eq_getElem (by rw [h.1]; exact hj))⟩, h.frozenAt j⟩

/-- a row that agrees with the cells of a list, thing by thing, is all of them -/
theorem flat_ext {α : Type} {f : α → List Value} {k : Nat} (hk : ∀ p, (f p).length = k) (hk0 : 0 < k) (l : List α) (xs : List Value) (hl : xs.length = l.length * k) (h : ∀ j p c u, l[j]? = some p → (f p)[c]? = some u → xs[j * k + c]? = some u) : xs = l.flatMap f := by
  apply List.ext_getElem?
  intro j
  by_cases hj : j < l.length * k
  · have hq : j / k < l.length := Nat.div_lt_of_lt_mul (by rw [Nat.mul_comm]; exact hj)
    have hr : j % k < k := Nat.mod_lt _ hk0
    have hd : j / k * k + j % k = j := by rw [Nat.mul_comm]; exact Nat.div_add_mod j k
    have e1 : l[j / k]? = some l[j / k] := List.getElem?_eq_getElem hq
    have e2 : (f l[j / k])[j % k]? = some ((f l[j / k])[j % k]'(by rw [hk]; exact hr)) := List.getElem?_eq_getElem (by rw [hk]; exact hr)
    have a := h _ _ _ _ e1 e2
    have b := flat_at hk l _ _ _ _ e1 e2
    rw [hd] at a b
    rw [a, b]
  · rw [List.getElem?_eq_none (by omega), List.getElem?_eq_none (by rw [flat_len hk]; omega)]

end Go.Proofs.Ytcjjhakhocgfgaa
