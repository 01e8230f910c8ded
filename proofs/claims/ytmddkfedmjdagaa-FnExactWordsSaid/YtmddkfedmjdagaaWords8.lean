/-
  The walks of Words, the specification's and the program's: a list of new memory.
-/
import Derived.Test.YtmddkfedmjdagaaStrs
namespace Go.Proofs.Ytmddkfedmjdagaa
open Go.RowKit
set_option linter.unusedVariables false

def wordsB : List ByteArray := [⟨#[108, 101, 116]⟩, ⟨#[112, 114, 105, 110, 116]⟩, ⟨#[105, 102]⟩, ⟨#[101, 108, 115, 101]⟩, ⟨#[119, 104, 105, 108, 101]⟩, ⟨#[114, 101, 116, 117, 114, 110]⟩, ⟨#[116, 104, 114, 111, 119]⟩, ⟨#[116, 114, 121]⟩, ⟨#[99, 97, 116, 99, 104]⟩, ⟨#[102, 117, 110]⟩, ⟨#[116, 114, 117, 101]⟩, ⟨#[102, 97, 108, 115, 101]⟩, ⟨#[110, 111, 110, 101]⟩]
def wordsC : Array Value := (wordsB.map Value.string).toArray

theorem words_own (w : World) : (w.alloc (.cells wordsC 9)).ownsRow w.heap.size 9 1 (.slice (some ⟨w.heap.size, 0, none⟩) 13 13) 13 (wordsB.map Value.string) :=
  ⟨rfl, .inr ⟨w.heap.size, 13, wordsC, rfl, Nat.le_refl _, heap_alloc_new w _, Nat.le_refl _, by unfold maxLen; omega, rfl, rfl⟩⟩

set_option maxHeartbeats 400000 in
set_option maxRecDepth 100000 in
theorem specWords_own (w : World) :
    Calls Try.prog 4 #[] w fun e w' => ∃ v, e = .returned v ∧ w'.ownsRow w.heap.size 9 1 v 13 (wordsB.map Value.string) ∧ Below w.heap.size w w' := by
  have h := words_own w
  unfold wordsC wordsB at h
  have HO : Hid ((w.alloc (.cells wordsC 9)).ownsRow w.heap.size 9 1 (.slice (some ⟨w.heap.size, 0, none⟩) 13 13) 13 (wordsB.map Value.string)) := words_own w
  clear h
  go_enter Try.func4, Try.ntmps4
  go_wp2
  go_ret
  exact ⟨_, rfl, HO.out, (Below.refl _ _).alloc (Nat.le_refl _) _⟩

set_option maxHeartbeats 400000 in
set_option maxRecDepth 100000 in
theorem implWords_own (w : World) :
    Calls Try.prog 5 #[] w fun e w' => ∃ v, e = .returned v ∧ w'.ownsRow w.heap.size 9 1 v 13 (wordsB.map Value.string) ∧ Below w.heap.size w w' := by
  have HO : Hid ((w.alloc (.cells wordsC 9)).ownsRow w.heap.size 9 1 (.slice (some ⟨w.heap.size, 0, none⟩) 13 13) 13 (wordsB.map Value.string)) := words_own w
  go_enter Try.func5, Try.ntmps5
  go_wp2
  go_ret
  exact ⟨_, rfl, HO.out, (Below.refl _ _).alloc (Nat.le_refl _) _⟩

end Go.Proofs.Ytmddkfedmjdagaa
