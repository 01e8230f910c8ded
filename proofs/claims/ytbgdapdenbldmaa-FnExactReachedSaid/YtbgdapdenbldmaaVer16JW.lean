/-
  The law FnExactJoin, walked.
-/
import Derived.Test.YtbgdapdenbldmaaSta16M
import Derived.Test.YtbgdapdenbldmaaVer16A
import Derived.Test.YtbgdapdenbldmaaSta16J
import Derived.Test.YtbgdapdenbldmaaIVer16J
namespace Go.Proofs.Ytbgdapdenbldmaa
open Go.RowKit Go.Sort
set_option linter.unusedVariables false

theorem own_in {w : World} {B g : Nat} {v : Value} {l : List Int} (h : OwnI w B v l) (hg : v.ownBlock = some g) : g < w.heap.size ∧ B ≤ g := by
  obtain ⟨_, ⟨h2, _⟩ | ⟨g2, cap, cur, h2, h3, h4, _⟩⟩ := h
  · rw [h2] at hg; cases hg
  · rw [h2] at hg
    have e : g2 = g := Option.some.inj hg
    rw [← e]
    exact ⟨lt16 h4, h3⟩
/-- a row is marked: boxes of states and other rows stand -/
structure Marked (B0 : Nat) (wc w w' : World) (v : Value) : Prop where
  boxes : ∀ (X : Nat) (cs : Array Value), w.heap[X]? = some (.cells cs 98 (0, 0)) → w'.heap[X]? = some (.cells cs 98 (0, 0))
  rows : ∀ (B : Nat) (u : Value) (l : List Int), OwnI w B u l → (∀ g, v.ownBlock = some g → u.ownBlock ≠ some g) → OwnI w' B u l
  bel : Below B0 wc w'
  size : w.heap.size ≤ w'.heap.size
theorem marked {B0 B : Nat} {wc w w' : World} {v : Value} {l : List Int} (ho : OwnI w B v l) (hB : B0 ≤ B) (hb : Below B0 wc w) (hw : B0 ≤ w.heap.size) (gr : w.grownBy w' v.ownBlock) : Marked B0 wc w w' v := by
  refine ⟨fun X cs hX => (gr.block X (lt16 hX) (fun e => apart16 ho hX (by decide) e.symm)).trans hX, fun B' u l' hu hn => hu.kept gr ?_, ⟨gr.os.trans hb.os, gr.tape.trans hb.tape, gr.output.trans hb.output, Nat.le_trans hb.size gr.size, fun k hk => (gr.block k (by omega) (fun e => ?_)).trans (hb.block k hk)⟩, gr.size⟩
  · cases hu2 : u.ownBlock with
    | none => exact .inl rfl
    | some g => exact .inr (fun e => hn g e.symm hu2)
  · have := (own_in ho e.symm).2
    omega

end Go.Proofs.Ytbgdapdenbldmaa
