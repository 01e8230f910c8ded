/-
  What the drawing of programs keeps: a cursor, the names told so far, and all else that was there.
-/
import Derived.Test.YtcabanghegddhaaGreatDoorDrawA
import Derived.Test.YtcabanghegddhaaGreatDoorDecA
import Derived.Test.YtcabanghegddhaaGreatDoorTokA
import Derived.Deep.RegionWith
namespace Go.Proofs.YtcabanghegddhaaGreatDoor
open Go.RowKit
set_option linter.unusedVariables false

/-- all blocks of w but g and c stand in w' -/
structure Two (g c : Nat) (w w' : World) : Prop where
  os : w'.os = w.os
  tape : w'.tape = w.tape
  output : w'.output = w.output
  size : w.heap.size ≤ w'.heap.size
  block : ∀ k, k < w.heap.size → k ≠ g → k ≠ c → w'.heap[k]? = w.heap[k]?
theorem Two.refl (g c : Nat) (w : World) : Two g c w w := ⟨rfl, rfl, rfl, Nat.le_refl _, fun _ _ _ _ => rfl⟩
theorem Two.trans {g c : Nat} {a b d : World} (h : Two g c a b) (k : Two g c b d) : Two g c a d :=
  ⟨k.os.trans h.os, k.tape.trans h.tape, k.output.trans h.output, Nat.le_trans h.size k.size, fun i hi h1 h2 => (k.block i (Nat.lt_of_lt_of_le hi h.size) h1 h2).trans (h.block i hi h1 h2)⟩
theorem Two.of_grown {g c : Nat} {w w' : World} (h : w.grownBy w' (some c)) : Two g c w w' := ⟨h.os, h.tape, h.output, h.size, fun k hk _ h2 => h.block k hk (fun e => h2 (Option.some.inj e))⟩
theorem Two.of_grown' {g c : Nat} {w w' : World} (h : w.grownBy w' (some g)) : Two g c w w' := ⟨h.os, h.tape, h.output, h.size, fun k hk h1 _ => h.block k hk (fun e => h1 (Option.some.inj e))⟩
theorem Two.of_below {g c : Nat} {w w' : World} (h : Below w.heap.size w w') : Two g c w w' := ⟨h.os, h.tape, h.output, h.size, fun k hk _ _ => h.block k hk⟩
theorem Two.alloc {g c : Nat} {w w' : World} (h : Two g c w w') (o : Obj) : Two g c w (w'.alloc o) := h.trans (.of_below ((Below.refl _ _).alloc (Nat.le_refl _) _))
theorem Two.drew {g c : Nat} {w w' : World} (h : Two g c w w') : Two g c w w'.drew := ⟨h.os, h.tape, h.output, h.size, h.block⟩
theorem Two.cell {g c : Nat} {w w' : World} (h : Two g c w w') {b j : Nat} (hb : b < w.heap.size) (h1 : b ≠ g) (h2 : b ≠ c) : w'.cell? ⟨b, j, none⟩ = w.cell? ⟨b, j, none⟩ := by
  unfold World.cell?
  rw [h.block b hb h1 h2]

/-- n texts of at most m bytes lie in block b -/
def StrRow (w : World) (b n m : Nat) : Prop := ∀ j, j < n → ∃ s : ByteArray, w.cell? ⟨b, j, none⟩ = some (.string s) ∧ s.size ≤ m
theorem StrRow.two {g c b n m : Nat} {w w' : World} (h : StrRow w b n m) (k : Two g c w w') (hb : b < w.heap.size) (h1 : b ≠ g) (h2 : b ≠ c) : StrRow w' b n m := fun j hj => by
  rw [k.cell hb h1 h2]
  exact h j hj
theorem row_new (w : World) (xs : List Value) (t : TypeId) (n m : Nat) (hn : xs.length = n) (h : ∀ v ∈ xs, ∃ s : ByteArray, v = .string s ∧ s.size ≤ m) : StrRow (w.alloc (.cells xs.toArray t)) w.heap.size n m := fun j hj => by
  rw [cell_of_row _ _ _ _ _ _ (heap_alloc_new w (.cells xs.toArray t))]
  obtain ⟨s, hs, h2⟩ := h xs[j] (List.getElem_mem _)
  refine ⟨s, ?_, h2⟩
  rw [← hs]
  simp

/-- the names told so far -/
def Names (nv : Value) (g c n : Nat) (w : World) : Prop := (n = 0 ∧ nv = .slice none 0 0) ∨ ∃ b nc, nv = .slice (some ⟨b, 0, none⟩) n nc ∧ 0 < n ∧ b ≠ g ∧ b ≠ c ∧ b < w.heap.size ∧ StrRow w b n 30
theorem Names.two {nv : Value} {g c n : Nat} {w w' : World} (h : Names nv g c n w) (k : Two g c w w') : Names nv g c n w' := by
  rcases h with h | ⟨b, nc, e, h0, h1, h2, h3, h4⟩
  · exact .inl h
  · exact .inr ⟨b, nc, e, h0, h1, h2, Nat.lt_of_lt_of_le h3 k.size, h4.two k h3 h1 h2⟩

/-- block g draws programs with cursor c -/
structure Gen (ac : Option Addr) (len cap g c : Nat) (nv : Value) (n : Nat) (w : World) : Prop where
  cur : Cur ac len cap w c
  code : CodeIn w ac len g
  ne : g ≠ c
  blk : ∃ l : Int, w.heap[g]? = some (.cells #[.pointer (some ⟨c, 0, none⟩), nv, .int .i64 l] 45 (0, 0))
  names : Names nv g c n w
  few : n ≤ 900
theorem codeIn_two {w w' : World} {ac : Option Addr} {len g c x : Nat} (h : CodeIn w ac len g) (h' : CodeIn w ac len c) (k : Two g c w w') (hx : x = g ∨ x = c) : CodeIn w' ac len x := by
  refine ⟨h.1, fun hp => ?_⟩
  obtain ⟨b, off, e, hb, hlt, hc⟩ := h.2 hp
  obtain ⟨b', off', e', hb', _, _⟩ := h'.2 hp
  have hbb : b' = b := by
    rw [e] at e'
    injection e' with e'
    injection e' with e1 e2
    exact e1.symm
  subst hbb
  refine ⟨b', off, e, by rcases hx with rfl | rfl <;> assumption, Nat.lt_of_lt_of_le hlt k.size, fun j hj => ?_⟩
  obtain ⟨z, hz, hcz⟩ := hc j hj
  exact ⟨z, hz, by rw [k.cell hlt hb hb']; exact hcz⟩
theorem Gen.lt {ac : Option Addr} {len cap g c : Nat} {nv : Value} {n : Nat} {w : World} (h : Gen ac len cap g c nv n w) : g < w.heap.size ∧ c < w.heap.size := by
  obtain ⟨l, hl⟩ := h.blk
  exact ⟨lt_of_block hl, h.cur.2.1⟩
/-- a draw from the cursor -/
theorem Gen.drawn {ac : Option Addr} {len cap g c : Nat} {nv : Value} {n : Nat} {w w' : World} (h : Gen ac len cap g c nv n w) (hc : Cur ac len cap w' c) (hg : w.grownBy w' (some c)) : Gen ac len cap g c nv n w' := by
  have k := Two.of_grown (g := g) hg
  obtain ⟨l, hl⟩ := h.blk
  exact ⟨hc, codeIn_two h.code h.cur.1 k (.inl rfl), h.ne, ⟨l, by rw [hg.block g h.lt.1 (fun e => h.ne (Option.some.inj e))]; exact hl⟩, h.names.two k, h.few⟩
theorem Gen.below {ac : Option Addr} {len cap g c : Nat} {nv : Value} {n : Nat} {w w' : World} (h : Gen ac len cap g c nv n w) (hb : Below w.heap.size w w') : Gen ac len cap g c nv n w' := by
  have k := Two.of_below (g := g) (c := c) hb
  obtain ⟨l, hl⟩ := h.blk
  obtain ⟨_, _, i, hh, h3, h4⟩ := h.cur
  exact ⟨⟨codeIn_two h.code h.cur.1 k (.inr rfl), Nat.lt_of_lt_of_le h.lt.2 hb.size, i, hh, h3, by rw [hb.block c h.lt.2]; exact h4⟩, codeIn_two h.code h.cur.1 k (.inl rfl), h.ne, ⟨l, by rw [hb.block g h.lt.1]; exact hl⟩, h.names.two k, h.few⟩
theorem Gen.alloc {ac : Option Addr} {len cap g c : Nat} {nv : Value} {n : Nat} {w : World} (h : Gen ac len cap g c nv n w) (o : Obj) : Gen ac len cap g c nv n (w.alloc o) := h.below ((Below.refl _ _).alloc (Nat.le_refl _) _)
theorem Gen.drew {ac : Option Addr} {len cap g c : Nat} {nv : Value} {n : Nat} {w : World} (h : Gen ac len cap g c nv n w) : Gen ac len cap g c nv n w.drew := h.below (Below.refl _ _).drew
/-- what the walk reads of block g -/
theorem Gen.cells {ac : Option Addr} {len cap g c : Nat} {nv : Value} {n : Nat} {w : World} (h : Gen ac len cap g c nv n w) : w.cell? ⟨g, 0, none⟩ = some (.pointer (some ⟨c, 0, none⟩)) ∧ w.cell? ⟨g, 1, none⟩ = some nv ∧ (∃ l : Int, w.cell? ⟨g, 2, none⟩ = some (.int .i64 l)) ∧ ∀ j, w.frozen? ⟨g, j, none⟩ = false := by
  obtain ⟨l, hl⟩ := h.blk
  obtain ⟨c0, c1, c2, hf⟩ := cur_cells hl
  exact ⟨c0, c1, ⟨l, c2⟩, hf⟩
theorem Gen.setLeft {ac : Option Addr} {len cap g c : Nat} {nv : Value} {n : Nat} {w : World} (h : Gen ac len cap g c nv n w) (l : Int) : Gen ac len cap g c nv n (w.setCell ⟨g, 2, none⟩ (.int .i64 l)) := by
  have k := Two.of_grown' (c := c) (grown_set w g 2 (.int .i64 l))
  obtain ⟨l', hl⟩ := h.blk
  obtain ⟨_, _, i, hh, h3, h4⟩ := h.cur
  refine ⟨⟨codeIn_two h.code h.cur.1 k (.inr rfl), Nat.lt_of_lt_of_le h.lt.2 k.size, i, hh, h3, ?_⟩, codeIn_two h.code h.cur.1 k (.inl rfl), h.ne, ⟨l, ?_⟩, h.names.two k, h.few⟩
  · rw [heap_setCell_other _ _ _ _ h.ne.symm]; exact h4
  · rw [heap_setCell_same _ _ _ _ _ _ hl]; rfl
theorem Gen.setNames {ac : Option Addr} {len cap g c : Nat} {nv nv' : Value} {n n' : Nat} {w : World} (h : Gen ac len cap g c nv n w) (hn : Names nv' g c n' w) (hf : n' ≤ 900) : Gen ac len cap g c nv' n' (w.setCell ⟨g, 1, none⟩ nv') := by
  have k := Two.of_grown' (c := c) (grown_set w g 1 nv')
  obtain ⟨l', hl⟩ := h.blk
  obtain ⟨_, _, i, hh, h3, h4⟩ := h.cur
  refine ⟨⟨codeIn_two h.code h.cur.1 k (.inr rfl), Nat.lt_of_lt_of_le h.lt.2 k.size, i, hh, h3, ?_⟩, codeIn_two h.code h.cur.1 k (.inl rfl), h.ne, ⟨l', ?_⟩, hn.two k, hf⟩
  · rw [heap_setCell_other _ _ _ _ h.ne.symm]; exact h4
  · rw [heap_setCell_same _ _ _ _ _ _ hl]; rfl
theorem two_set {g c j : Nat} {w : World} (v : Value) : Two g c w (w.setCell ⟨g, j, none⟩ v) := Two.of_grown' (grown_set w g j v)

set_option maxHeartbeats 1000000 in
set_option maxRecDepth 100000 in
theorem l01Pick_any (ac : Option Addr) (len cap c gl n m k : Nat) (w : World) (hC : Cur ac len cap w c) (hgl : gl ≠ c) (hb : gl < w.heap.size) (h0 : 0 < n) (hn : n ≤ 1000) (hz : StrRow w gl n m) :
    Calls Tryz.prog 19 #[.pointer (some ⟨c, 0, none⟩), .slice (some ⟨gl, 0, none⟩) n k] w fun e w' => ∃ s : ByteArray, s.size ≤ m ∧ e = .returned (.string s) ∧ Cur ac len cap w' c ∧ w.grownBy w' (some c) := by
  go_enter Tryz.func19, Tryz.ntmps19
  go_wp2_with fail
  refine (l01Below_nat ac len cap c n _ hC h0 (by omega)).mono ?_
  rintro e w1 ⟨x, hx, rfl, hc, gr⟩
  obtain ⟨s, hs, hsm⟩ := hz x hx
  have hcell : w1.cell? ⟨gl, x, none⟩ = some (.string s) := by rw [Two.cell (Two.of_grown (g := c) gr) hb hgl hgl]; exact hs
  have hx' : (x : Int) < n := by omega
  clear hz hs
  go_wp2
  go_ret
  exact ⟨s, hsm, rfl, hc, gr⟩

end Go.Proofs.YtcabanghegddhaaGreatDoor
