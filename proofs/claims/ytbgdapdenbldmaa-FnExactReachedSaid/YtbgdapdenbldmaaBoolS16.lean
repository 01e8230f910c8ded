/-
  Rows of truths: held against each other, marked, looked for their marks; over the law's own helpers.
-/
import Derived.Test.YtbgdapdenbldmaaIntS16
namespace Go.Proofs.Ytbgdapdenbldmaa
open Go.RowKit Go.Sort
set_option linter.unusedVariables false

def boolC (x : Bool) : List Value := [.bool x]

theorem boolC_len (x : Bool) : (boolC x).length = 1 := rfl

/-- truths are read at a slice -/
def ArgBo (w : World) (v : Value) (l : List Bool) : Prop := ArgFlat w v 1 l.length (l.flatMap boolC)

theorem ArgBo.below {w w' : World} {v : Value} {l : List Bool} (h : ArgBo w v l) (hb : Below w.heap.size w w') : ArgBo w' v l := ArgFlat.below h hb

/-- a row of truths of one's own -/
def OwnBo (w : World) (B : Nat) (v : Value) (l : List Bool) : Prop := w.ownsRow B 4 1 v l.length (l.flatMap boolC)

theorem OwnBo.below {w w' : World} {B : Nat} {v : Value} {l : List Bool} (h : OwnBo w B v l) (hb : Below w.heap.size w w') : OwnBo w' B v l := row_keep h hb

theorem OwnBo.arg {w : World} {B : Nat} {v : Value} {l : List Bool} (h : OwnBo w B v l) : ArgBo w v l := ArgFlat.of_own h

theorem bool_at {l : List Bool} {j : Nat} {z : Bool} (h : l[j]? = some z) : (l.flatMap boolC)[j]? = some (.bool z) := by
  have := flat_at boolC_len l j 0 z _ h rfl
  rwa [Nat.mul_one, Nat.add_zero] at this

theorem bools_is {l : List Bool} {xs : List Value} (hl : xs.length = l.length) (h : ∀ (j : Nat) (z : Bool), l[j]? = some z → xs[j]? = some (.bool z)) : xs = l.flatMap boolC :=
  flat_ext boolC_len (by decide) l xs (by omega) (fun j p c u hp hu => by
    have hc : c < 1 := (List.getElem?_eq_some_iff.1 hu).1
    have e : c = 0 := by omega
    subst e
    simp [boolC] at hu
    subst hu
    rw [Nat.mul_one, Nat.add_zero]
    exact h j p hp)

/-- truths, as a walk reads them -/
theorem ArgBo.opened {w : World} {v : Value} {l : List Bool} (h : ArgBo w v l) : ∃ x c, v = .slice x l.length c ∧ l.length ≤ maxLen ∧ (0 < l.length → ∃ b o, x = some ⟨b, o, none⟩ ∧ b < w.heap.size ∧ ∀ (j : Nat) (z : Bool), l[j]? = some z → w.cell? ⟨b, o + j, none⟩ = some (.bool z)) := by
  obtain ⟨x, c, e, hm, hl, hc⟩ := h
  refine ⟨x, c, e, hm, fun h0 => ?_⟩
  obtain ⟨b, o, e1, h1, h2⟩ := hc h0
  exact ⟨b, o, e1, h1, fun j z hz => h2 j _ (bool_at hz)⟩

/-- the marks from k on -/
def mkB (k : Nat) : Bool := (k : Int) % 3 == 0
def upB (k n : Nat) : List Bool := (List.range n).map fun j => mkB (k + j)

theorem upB_len (k n : Nat) : (upB k n).length = n := by simp [upB]

theorem upB_at {k n j : Nat} (h : j < n) : (upB k n)[j]? = some (mkB (k + j)) := by
  unfold upB
  rw [List.getElem?_map, List.getElem?_range h]
  rfl

theorem OwnBo.opened {w : World} {B : Nat} {v : Value} {l : List Bool} (h : OwnBo w B v l) : ∃ x c, v = .slice x l.length c ∧ l.length ≤ maxLen ∧ (0 < l.length → ∃ g, x = some ⟨g, 0, none⟩) := by
  obtain ⟨_, ⟨rfl, h0⟩ | ⟨g, cap, cur, rfl, _, _, hnc, hc, _⟩⟩ := h
  · exact ⟨none, 0, by rw [h0], by rw [h0]; exact Nat.zero_le _, fun h => by omega⟩
  · exact ⟨_, _, rfl, Nat.le_trans hnc hc, fun _ => ⟨g, rfl⟩⟩

end Go.Proofs.Ytbgdapdenbldmaa
