/-
  The specification's IsTrue, SameValue, DoMinus, and what makes values.
-/
import Derived.Test.YtlikjbklagolmaaDoorVal17S
import Derived.Test.YtlikjbklagolmaaDoorAdd
namespace Go.Proofs.YtlikjbklagolmaaDoor
open Go.RowKit Go.Sort
set_option linter.unusedVariables false

theorem text_ne {s t : ByteArray} (h : ¬ s = t) : (s.toList == t.toList) = false := by
  rw [beq_eq_false_iff_ne]
  intro e
  apply h
  rw [ByteArray.toList_eq, ByteArray.toList_eq] at e
  obtain ⟨a⟩ := s
  obtain ⟨b⟩ := t
  have : a = b := Array.ext' e
  rw [this]

/-- values that are made -/
def bitN (b : Bool) : Nat := if b then 1 else 0
def boolV (b : Bool) : PVal := ⟨1, bitN b, ⟨#[]⟩, 0⟩
def numV (x : Nat) : PVal := ⟨2, x, ⟨#[]⟩, 0⟩
def noneV : PVal := ⟨0, 0, ⟨#[]⟩, 0⟩
def textV (s : ByteArray) : PVal := ⟨3, 0, s, 0⟩
/-- a value, handed over -/
def valA (p : PVal) : Value := .agg #[.int .i64 p.kind, .int .u64 (p.num : Int), .string p.text, .int .i64 p.ref]

set_option maxHeartbeats 400000 in
set_option maxRecDepth 100000 in
theorem l17Number_any (x : Nat) (w : World) : Calls Tryd.prog 9 #[.int .u64 x] w fun e w' => e = .returned (.agg #[.int .i64 2, .int .u64 x, .string ⟨#[]⟩, .int .i64 0]) ∧ Below w.heap.size w w' := by
  go_enter Tryd.func9, Tryd.ntmps9
  go_wp2
  go_returns
  exact ⟨rfl, by go_grown⟩

end Go.Proofs.YtlikjbklagolmaaDoor
