/-
  The law's own helper that copies nodes; what it is that a list of nodes lies in memory of its own.
-/
import Derived.Test.YtbgdapdenbldmaaNode9U
namespace Go.Proofs.Ytbgdapdenbldmaa
open Go.RowKit
set_option linter.unusedVariables false

theorem own_low {w : World} {B B' : Nat} {e : TypeId} {size : Nat} {v : Value} {n : Nat} {xs : List Value} (h : w.ownsRow B e size v n xs) (hb : B' ≤ B) : w.ownsRow B' e size v n xs := by
  obtain ⟨e1, e2⟩ := h
  refine ⟨e1, e2.imp id ?_⟩
  rintro ⟨g, cap, cur, h1, h2, h3⟩
  exact ⟨g, cap, cur, h1, Nat.le_trans hb h2, h3⟩

/-- values stored one behind another -/
def putL (xs : List Value) (o : Nat) : List Value → List Value
  | [] => xs
  | v :: r => putL (xs.set o v) (o + 1) r
def putW (w : World) (g o : Nat) : List Value → World
  | [] => w
  | v :: r => putW (w.setCell ⟨g, o, none⟩ v) g (o + 1) r
theorem putL_len : ∀ (vs xs : List Value) (o : Nat), (putL xs o vs).length = xs.length
  | [], xs, o => rfl
  | v :: r, xs, o => by rw [putL, putL_len r, List.length_set]
theorem putL_other : ∀ (vs xs : List Value) (o j : Nat), (j < o ∨ o + vs.length ≤ j) → (putL xs o vs)[j]? = xs[j]?
  | [], xs, o, j, h => rfl
  | v :: r, xs, o, j, h => by
    rw [List.length_cons] at h
    rw [putL, putL_other r _ _ _ (by omega), List.getElem?_set_ne (by omega)]
theorem putL_here : ∀ (vs xs : List Value) (o c : Nat) (u : Value), vs[c]? = some u → o + vs.length ≤ xs.length → (putL xs o vs)[o + c]? = some u
  | [], xs, o, c, u, h, hl => by simp at h
  | v :: r, xs, o, c, u, h, hl => by
    rw [List.length_cons] at hl
    rw [putL]
    match c, h with
    | 0, h =>
      simp at h
      subst h
      rw [putL_other r _ _ _ (by omega), Nat.add_zero, List.getElem?_set_self (by omega)]
    | c + 1, h =>
      rw [List.getElem?_cons_succ] at h
      have := putL_here r (xs.set o v) (o + 1) c u h (by rw [List.length_set]; omega)
      rw [← this]
      congr 1
      omega
theorem putW_own {H : Nat} {e : TypeId} {size g n c : Nat} : ∀ (vs xs : List Value) (w : World) (o : Nat), w.ownsRow H e size (.slice (some ⟨g, 0, none⟩) n c) n xs → (putW w g o vs).ownsRow H e size (.slice (some ⟨g, 0, none⟩) n c) n (putL xs o vs)
  | [], xs, w, o, h => h
  | v :: r, xs, w, o, h => putW_own r _ _ _ (h.stored o v).1
theorem putW_below {w0 : World} {B g : Nat} (hg : B ≤ g) : ∀ (vs : List Value) (w : World) (o : Nat), Below B w0 w → Below B w0 (putW w g o vs)
  | [], w, o, h => h
  | v :: r, w, o, h => putW_below hg r _ _ (h.setCell (p := ⟨g, o, none⟩) hg v)
theorem putW_row {B g : Nat} {e : TypeId} {v : Value} {n : Nat} {xs : List Value} (hg : g < B) : ∀ (vs : List Value) (w : World) (o : Nat), w.ownsRow B e 1 v n xs → (putW w g o vs).ownsRow B e 1 v n xs
  | [], w, o, h => h
  | u :: r, w, o, h => putW_row hg r _ _ (ownsRow_setCell_below h (a := ⟨g, o, none⟩) hg u)
theorem putW_size (g : Nat) : ∀ (vs : List Value) (w : World) (o : Nat), (putW w g o vs).heap.size = w.heap.size
  | [], w, o => rfl
  | v :: r, w, o => by rw [putW, putW_size g r]; simp

end Go.Proofs.Ytbgdapdenbldmaa
