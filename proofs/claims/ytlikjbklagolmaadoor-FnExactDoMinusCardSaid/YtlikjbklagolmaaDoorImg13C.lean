/-
  The specification's ConstOk and what it asks of a function of an image.
-/
import Derived.Test.YtlikjbklagolmaaDoorImg13B
import Derived.Test.YtlikjbklagolmaaDoorOrder
import Derived.Test.YtlikjbklagolmaaDoorGreat
import Derived.Deep.QuietTactic
import Derived.BigQuiet
import Derived.Lib.QuietBelow
namespace Go.Proofs.YtlikjbklagolmaaDoor
open Go.RowKit Go.Sort
set_option linter.unusedVariables false

theorem all_no {α : Type} {l : List α} {f : α → Bool} {k : Nat} {q : α} (h : l[k]? = some q) (hf : f q = false) : l.all f = false := by
  rw [List.all_eq_false]
  exact ⟨q, List.mem_iff_getElem?.2 ⟨k, h⟩, by rw [hf]; decide⟩
theorem all_yes {α : Type} {l : List α} {f : α → Bool} {n : Nat} (hn : l.length ≤ n) (h : ∀ j q, j < n → l[j]? = some q → f q = true) : l.all f = true := by
  rw [List.all_eq_true]
  intro q hq
  obtain ⟨j, hj⟩ := List.mem_iff_getElem?.1 hq
  exact h j q (Nat.lt_of_lt_of_le (List.getElem?_eq_some_iff.1 hj).1 hn) hj
theorem all_more {α : Type} {l : List α} {f : α → Bool} {k : Nat} {q : α} (h : ∀ j q, j < k → l[j]? = some q → f q = true) (hq : l[k]? = some q) (hf : f q = true) : ∀ j q, j < k + 1 → l[j]? = some q → f q = true := fun j x hj hx => by
  rcases Nat.lt_or_ge j k with h' | h'
  · exact h j x h' hx
  · have e : j = k := by omega
    subst e
    rw [hq] at hx
    injection hx with hx
    rw [← hx]
    exact hf

end Go.Proofs.YtlikjbklagolmaaDoor
