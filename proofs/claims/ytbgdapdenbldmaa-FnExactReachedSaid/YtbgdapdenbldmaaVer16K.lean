/-
  The law's own marks in states that one owns.
-/
import Derived.Test.YtbgdapdenbldmaaVer16H
namespace Go.Proofs.Ytbgdapdenbldmaa
open Go.RowKit Go.Sort
set_option linter.unusedVariables false

/-- n states of one's own at block g, no two of whose rows are one -/
structure StM (w : World) (B g n : Nat) (rv : Nat → Value) (st : Nat → PSta) : Prop where
  row : ∃ cur, w.heap[g]? = some (.cells cur 98 (0, 0)) ∧ n * 2 ≤ cur.size ∧ ∀ q, q < n → cur[q * 2]? = some (.int .i64 (st q).acc) ∧ cur[q * 2 + 1]? = some (rv q)
  regs : ∀ q, q < n → OwnI w B (rv q) (st q).regs
  apart : ∀ q q', q < n → q' < n → q ≠ q' → (rv q).ownBlock = none ∨ (rv q).ownBlock ≠ (rv q').ownBlock

/-- nothing else is turned -/
structure GM (g n : Nat) (rv : Nat → Value) (w w' : World) : Prop where
  os : w'.os = w.os
  tape : w'.tape = w.tape
  output : w'.output = w.output
  size : w.heap.size ≤ w'.heap.size
  block : ∀ b, b < w.heap.size → b ≠ g → (∀ q, q < n → (rv q).ownBlock ≠ some b) → w'.heap[b]? = w.heap[b]?

theorem GM.refl (g n : Nat) (rv : Nat → Value) (w : World) : GM g n rv w w := ⟨rfl, rfl, rfl, Nat.le_refl _, fun _ _ _ _ => rfl⟩
theorem GM.trans {g n : Nat} {rv : Nat → Value} {a b c : World} (h : GM g n rv a b) (k : GM g n rv b c) : GM g n rv a c :=
  ⟨k.os.trans h.os, k.tape.trans h.tape, k.output.trans h.output, Nat.le_trans h.size k.size, fun i hi h1 h2 => (k.block i (Nat.lt_of_lt_of_le hi h.size) h1 h2).trans (h.block i hi h1 h2)⟩

theorem own_ne {w : World} {B g : Nat} {v : Value} {l : List Int} {cur : Array Value} (h : OwnI w B v l) (hg : w.heap[g]? = some (.cells cur 98 (0, 0))) : v.ownBlock ≠ some g := apart16 h hg (by decide)

def setSt (st : Nat → PSta) (q : Nat) (s : PSta) : Nat → PSta := fun i => if i = q then s else st i

theorem StM.acc {w : World} {B g n : Nat} {rv : Nat → Value} {st : Nat → PSta} (h : StM w B g n rv st) (q : Nat) (hq : q < n) (z : Int) : StM (w.setCell ⟨g, q * 2, none⟩ (.int .i64 z)) B g n rv (setSt st q ⟨z, (st q).regs⟩) ∧ GM g n rv w (w.setCell ⟨g, q * 2, none⟩ (.int .i64 z)) := by
  obtain ⟨cur, h1, h2, h3⟩ := h.row
  have o : ∀ k, k ≠ g → (w.setCell ⟨g, q * 2, none⟩ (.int .i64 z)).heap[k]? = w.heap[k]? := fun k hk => heap_setCell_other w ⟨g, q * 2, none⟩ k _ hk
  refine ⟨⟨⟨_, heap_setCell_same w g (q * 2) cur _ _ h1, by rw [Array.size_setIfInBounds]; exact h2, fun i hi => ?_⟩, fun i hi => ?_, h.apart⟩, ⟨rfl, rfl, rfl, by simp [World.setCell], fun b _ hb _ => o b hb⟩⟩
  · refine ⟨?_, ?_⟩
    · by_cases e : i = q
      · subst e
        rw [Array.getElem?_setIfInBounds, if_pos rfl, if_pos (by omega)]
        unfold setSt
        rw [if_pos rfl]
      · rw [Array.getElem?_setIfInBounds, if_neg (by omega)]
        unfold setSt
        rw [if_neg e]
        exact (h3 i hi).1
    · rw [Array.getElem?_setIfInBounds, if_neg (by omega)]
      exact (h3 i hi).2
  · have := far16 (o := q * 2) (u := .int .i64 z) (h.regs i hi) (own_ne (h.regs i hi) h1)
    unfold setSt
    by_cases e : i = q
    · subst e; rw [if_pos rfl]; exact this
    · rw [if_neg e]; exact this

theorem StM.marked {w w' : World} {B g n : Nat} {rv : Nat → Value} {st : Nat → PSta} (h : StM w B g n rv st) (q : Nat) (hq : q < n) (l : List Int) (ho : OwnI w' B (rv q) l) (hg : w.grownBy w' (rv q).ownBlock) : StM w' B g n rv (setSt st q ⟨(st q).acc, l⟩) ∧ GM g n rv w w' := by
  obtain ⟨cur, h1, h2, h3⟩ := h.row
  refine ⟨⟨⟨cur, (hg.block g (lt16 h1) (fun e => own_ne (h.regs q hq) h1 e.symm)).trans h1, h2, fun i hi => ?_⟩, fun i hi => ?_, h.apart⟩, ⟨hg.os, hg.tape, hg.output, hg.size, fun b hb _ hn => hg.block b hb (fun e => hn q hq e.symm)⟩⟩
  · unfold setSt
    by_cases e : i = q
    · subst e; rw [if_pos rfl]; exact h3 i hi
    · rw [if_neg e]; exact h3 i hi
  · unfold setSt
    by_cases e : i = q
    · subst e; rw [if_pos rfl]; exact ho
    · rw [if_neg e]
      exact (h.regs i hi).kept hg (h.apart i q hi hq e)

/-- how many registers each has -/
def nsOf (n : Nat) (st : Nat → PSta) : List Nat := (List.range n).map fun q => (st q).regs.length
/-- the first j are marked -/
def mst (k n j : Nat) (st : Nat → PSta) : Nat → PSta := fun q => if q < j then ⟨((k + mkN ((nsOf n st).take q) : Nat) : Int), upI (k + mkN ((nsOf n st).take q) + 1) (st q).regs.length⟩ else st q

theorem nsOf_at {n q : Nat} {st : Nat → PSta} (h : q < n) : (nsOf n st)[q]? = some (st q).regs.length := by
  unfold nsOf
  rw [List.getElem?_map, List.getElem?_range h]
  rfl

theorem StM.congr {w : World} {B g n : Nat} {rv : Nat → Value} {st st' : Nat → PSta} (h : StM w B g n rv st) (e : ∀ q, q < n → st q = st' q) : StM w B g n rv st' := by
  obtain ⟨cur, h1, h2, h3⟩ := h.row
  exact ⟨⟨cur, h1, h2, fun q hq => by rw [← e q hq]; exact h3 q hq⟩, fun q hq => by rw [← e q hq]; exact h.regs q hq, h.apart⟩

end Go.Proofs.Ytbgdapdenbldmaa
