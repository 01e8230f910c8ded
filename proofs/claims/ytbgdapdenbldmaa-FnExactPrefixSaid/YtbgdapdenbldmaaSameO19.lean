/-
  The specification's SameOutcome.
-/
import Derived.Test.YtbgdapdenbldmaaOut19
import Derived.Deep.QuietTactic
import Derived.BigQuiet
import Derived.Lib.QuietBelow
namespace Go.Proofs.Ytbgdapdenbldmaa
open Go.RowKit Go.Sort
set_option linter.unusedVariables false

def sameO (p q : POut) : Bool := decide (p.fin = q.fin) && (decide (p.shown = q.shown) && (decide (p.fuel = q.fuel) && decide (p.log = q.log)))
theorem text_ne19 {s t : ByteArray} (h : ¬ s = t) : (s.toList == t.toList) = false := by
  rw [beq_eq_false_iff_ne]
  intro e
  apply h
  rw [ByteArray.toList_eq, ByteArray.toList_eq] at e
  obtain ⟨a⟩ := s
  obtain ⟨b⟩ := t
  have : a = b := Array.ext' e
  rw [this]
theorem list_same19 {l m : List ByteArray} {n : Nat} (h1 : l.length = n) (h2 : m.length = n) (h : ∀ j, j < n → l[j]? = m[j]?) : l = m := by
  apply List.ext_getElem?
  intro j
  by_cases hj : j < n
  · exact h j hj
  · rw [List.getElem?_eq_none (by omega), List.getElem?_eq_none (by omega)]

end Go.Proofs.Ytbgdapdenbldmaa
