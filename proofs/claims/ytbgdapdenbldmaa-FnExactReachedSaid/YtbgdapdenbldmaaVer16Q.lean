/-
  The verifier's run in memory: its states, what is reached, what is yet to do (a slice that is cut from the front and appended to).
-/
import Derived.Test.YtbgdapdenbldmaaVer16S
import Derived.ArgAppend
namespace Go.Proofs.Ytbgdapdenbldmaa
open Go.RowKit Go.Sort
set_option linter.unusedVariables false

/-- the blocks that the run writes -/
def Own4 (X L H tb : Nat) (k : Nat) : Prop := k = X ∨ k = L ∨ k = H ∨ k = tb

/-- numbers read at a slice that lies in none of these blocks -/
def RegV (w : World) (S : Nat → Prop) (v : Value) (l : List Int) : Prop := ArgI w v l ∧ (0 < l.length → ∀ b o m c, v = .slice (some ⟨b, o, none⟩) m c → ¬ S b)

theorem RegV.keep {w w' : World} {S S' : Nat → Prop} {v : Value} {l : List Int} (h : RegV w S v l) (hb : ∀ k, k < w.heap.size → ¬ S k → w'.heap[k]? = w.heap[k]?) (hs : w.heap.size ≤ w'.heap.size) (hS : ∀ k, k < w.heap.size → S' k → S k) : RegV w' S' v l := by
  obtain ⟨⟨x, c, e, hm, hl, hc⟩, hn⟩ := h
  refine ⟨⟨x, c, e, hm, hl, fun h0 => ?_⟩, fun h0 b o m c' e2 hS' => ?_⟩
  · obtain ⟨b, o, e1, h1, h2⟩ := hc h0
    have ne := hn h0 b o _ _ (by rw [e, e1])
    refine ⟨b, o, e1, Nat.lt_of_lt_of_le h1 hs, fun j u hj => ?_⟩
    have q := h2 j u hj
    have hk := hb b h1 ne
    unfold World.cell? at q ⊢
    simp only [hk]
    exact q
  · obtain ⟨b1, o1, e1, h1, _⟩ := hc h0
    rw [e, e1] at e2
    injection e2 with e2 _ _
    injection e2 with e2
    injection e2 with e2 _ _
    subst e2
    exact hn h0 b1 o1 _ _ (by rw [e, e1]) (hS b1 h1 hS')

theorem RegV.of_own {w : World} {B : Nat} {S : Nat → Prop} {v : Value} {l : List Int} (h : OwnI w B v l) (hS : ∀ k, S k → k < B) : RegV w S v l := by
  refine ⟨h.arg, fun _ b o m c e hSb => ?_⟩
  obtain ⟨_, ⟨h0, _⟩ | ⟨g, cap, cur, h0, hB, _⟩⟩ := h
  · rw [h0] at e; cases e
  · rw [h0] at e
    injection e with e _ _
    injection e with e
    injection e with e _ _
    subst e
    have := hS _ hSb
    omega

theorem RegV.below {w w' : World} {S : Nat → Prop} {v : Value} {l : List Int} (h : RegV w S v l) (hb : Below w.heap.size w w') : RegV w' S v l :=
  h.keep (fun k hk _ => hb.block k hk) hb.size (fun _ _ => id)

/-- what is yet to do -/
def QAt (w : World) (tb : Nat) (tv : Value) (l : List Nat) : Prop :=
  (tv = .slice none 0 0 ∧ l = []) ∨ ∃ o cap cur, tv = .slice (some ⟨tb, o, none⟩) l.length cap ∧ w.heap[tb]? = some (.cells cur 3 (0, 0)) ∧ o + cap ≤ cur.size ∧ l.length ≤ cap ∧ cap ≤ maxLen ∧ ∀ (j z : Nat), l[j]? = some z → cur[o + j]? = some (.int .i64 (z : Int))

theorem QAt.keep {w w' : World} {tb : Nat} {tv : Value} {l : List Nat} (h : QAt w tb tv l) (hb : w'.heap[tb]? = w.heap[tb]?) : QAt w' tb tv l := by
  rcases h with h | ⟨o, cap, cur, e, hg, h⟩
  · exact .inl h
  · exact .inr ⟨o, cap, cur, e, hb.trans hg, h⟩

theorem QAt.slice {w : World} {tb : Nat} {tv : Value} {l : List Nat} (h : QAt w tb tv l) : ∃ x c, tv = .slice x l.length c := by
  rcases h with ⟨rfl, rfl⟩ | ⟨o, cap, cur, rfl, _⟩
  · exact ⟨_, _, rfl⟩
  · exact ⟨_, _, rfl⟩

/-- one more, behind the others -/
theorem run_push {P : Program} (w : World) (t ty e : TypeId) (i : TypeInfo) (ht : P.underlying t = some (.slice e)) (he : e = 3) (hi : P.info? e = some i) (hz : i.zero = some (.int .i64 0)) (hsize : i.size = 1) (hby : i.bytes = 8)
    (tb : Nat) (tv : Value) (l : List Nat) (h : QAt w tb tv l) (q : Nat) (ad : Addr) (c : Nat) (hc : w.cell? ad = some (.int .i64 (q : Int))) (hl : l.length ≤ 1000000) :
    ∃ v' w' tb', (Builtin.append_ #[t, t] ty #[tv, .slice (some ad) 1 c]).run P w = .ok v' w' ∧ QAt w' tb' v' (l ++ [q]) ∧ (tb' = tb ∨ w.heap.size ≤ tb') ∧ w.os = w'.os ∧ w.tape = w'.tape ∧ w.output = w'.output ∧ w.heap.size ≤ w'.heap.size ∧ ∀ k, k < w.heap.size → tv = .slice none 0 0 ∨ k ≠ tb → w'.heap[k]? = w.heap[k]? := by
  subst he
  have hnw : ∀ j u, [Value.int .i64 (q : Int)][j]? = some u → w.cell? (ad.add j) = some u := fun j u hj => by
    match j, hj with
    | 0, hj =>
      simp at hj
      subst hj
      rw [show ad.add 0 = ad by simp [Addr.add]]
      exact hc
  have hone : ∀ u ∈ [Value.int .i64 (q : Int)], u.oneCell' = true := fun u hu => by
    simp at hu
    rw [hu]
    rfl
  have fresh : ∀ (v' : Value) (w' : World), w'.ownsRow w.heap.size 3 1 v' (l.length + 1) ((l.map fun (z : Nat) => Value.int .i64 (z : Int)) ++ [.int .i64 (q : Int)]) → ∃ tb', QAt w' tb' v' (l ++ [q]) ∧ w.heap.size ≤ tb' := fun v' w' ho => by
    obtain ⟨_, ⟨_, h0⟩ | ⟨g, cap, cur, rfl, hB, hg, hn, hm, hs, htk⟩⟩ := ho
    · omega
    · refine ⟨g, .inr ⟨0, cap, cur, by rw [List.length_append]; rfl, hg, by omega, by rw [List.length_append]; exact hn, hm, fun j z hj => ?_⟩, hB⟩
      have hj2 : (((l ++ [q]).map fun (z : Nat) => Value.int .i64 (z : Int)))[j]? = some (.int .i64 (z : Int)) := by rw [List.getElem?_map, hj]; rfl
      rw [List.map_append] at hj2
      have hlt : j < l.length + 1 := by have := (List.getElem?_eq_some_iff.1 hj).1; rw [List.length_append] at this; exact this
      have h2 : (cur.toList.take ((l.length + 1) * 1))[j]? = some (.int .i64 (z : Int)) := by rw [htk]; exact hj2
      rw [List.getElem?_take, if_pos (by omega)] at h2
      rw [Nat.zero_add]
      simpa using h2
  rcases h with ⟨rfl, rfl⟩ | ⟨o, cap, cur, rfl, hg, hs, hlc, hcm, hcell⟩
  · obtain ⟨v', w', hr, ho, hgr, _⟩ := run_append_own (P := P) w w.heap.size t ty 3 i (.int .i64 0) 1 8 ht hi hz hsize hby rfl (by decide) (.slice none 0 0) 0 [] (World.ownsRow_nil w _ _ _) ad 1 c [.int .i64 (q : Int)] rfl hnw hone (by unfold maxLen; omega) (by omega) (Nat.le_refl _)
    obtain ⟨tb', hQ, hB⟩ := fresh v' w' (by simpa using ho)
    exact ⟨v', w', tb', hr, hQ, .inr hB, hgr.os.symm, hgr.tape.symm, hgr.output.symm, hgr.size, fun k hk _ => hgr.block k hk (by simp [Value.ownBlock])⟩
  · by_cases hroom : l.length + 1 ≤ cap
    · have hlt : o + l.length < cur.size := by omega
      have hr := run_append_room_cells (P := P) w t ty 3 i ht hi tb o l.length cap ad 1 c [.int .i64 (q : Int)] (by rw [hsize]; rfl) hnw hone hroom (fun j hj => by
          have : j = 0 := by simp at hj; exact hj
          subst this
          rw [hsize, Nat.mul_one, Nat.add_zero, cell_of_row _ _ _ _ _ _ hg, Array.getElem?_eq_getElem hlt]
          rfl) (fun j hj => frozen_of_row w tb _ cur _ hg)
      rw [hsize, Nat.mul_one] at hr
      refine ⟨_, _, tb, hr, .inr ⟨o, cap, cur.setIfInBounds (o + l.length) (.int .i64 (q : Int)), by rw [List.length_append]; rfl, heap_setCell_same w tb (o + l.length) cur _ _ hg, by rw [Array.size_setIfInBounds]; exact hs, by rw [List.length_append]; exact hroom, hcm, fun j z hj => ?_⟩, .inl rfl, rfl, rfl, rfl, by simp [World.setCells, World.setCell], fun k hk hne => ?_⟩
      · rw [Array.getElem?_setIfInBounds]
        by_cases e : j = l.length
        · subst e
          rw [List.getElem?_append_right (Nat.le_refl _), Nat.sub_self] at hj
          simp at hj
          subst hj
          rw [if_pos rfl, if_pos hlt]
        · have hj3 : j < l.length := by have := (List.getElem?_eq_some_iff.1 hj).1; rw [List.length_append] at this; simp at this; omega
          rw [List.getElem?_append_left hj3] at hj
          rw [if_neg (by omega)]
          exact hcell j z hj
      · rcases hne with hne | hne
        · cases hne
        · exact heap_setCell_other w ⟨tb, o + l.length, none⟩ k _ hne
    · obtain ⟨v', w', hr, ho, hgr⟩ := run_append_arg_grows (P := P) w t ty 3 i (.int .i64 0) 1 8 ht hi hz hsize hby rfl (by decide) ⟨tb, o, none⟩ l.length cap (l.map fun (z : Nat) => Value.int .i64 (z : Int)) (by simp) (fun j u hj => by
          rw [List.getElem?_map] at hj
          cases hx : l[j]? with
          | none => rw [hx] at hj; cases hj
          | some z =>
            rw [hx] at hj
            simp only [Option.map_some, Option.some.injEq] at hj
            subst hj
            have hadd : (⟨tb, o, none⟩ : Addr).add j = ⟨tb, o + j, none⟩ := by unfold Addr.add; split <;> simp_all
            rw [hadd, cell_of_row _ _ _ _ _ _ hg]
            exact hcell j z hx) ad 1 c [.int .i64 (q : Int)] rfl hnw (by omega) (by unfold maxLen; omega) (by omega)
      obtain ⟨tb', hQ, hB⟩ := fresh v' w' ho
      exact ⟨v', w', tb', hr, hQ, .inr hB, hgr.os.symm, hgr.tape.symm, hgr.output.symm, hgr.size, fun k hk _ => hgr.block k hk (by simp)⟩

/-- the run in memory -/
structure VAt (X L H tb n : Nat) (tv : Value) (r : RunP) (w : World) : Prop where
  box : w.heap[X]? = some (.cells #[.slice (some ⟨L, 0, none⟩) n n, .slice (some ⟨H, 0, none⟩) n n, tv, .bool r.bad] 96 (0, 0))
  rl : ∃ cur, w.heap[L]? = some (.cells cur 98 (0, 0)) ∧ cur.size = n * 2 ∧ ∀ (q : Nat) (s : PSta), r.list[q]? = some s → ∃ v, cur[q * 2]? = some (.int .i64 s.acc) ∧ cur[q * 2 + 1]? = some v ∧ RegV w (Own4 X L H tb) v s.regs
  rh : ∃ cur, w.heap[H]? = some (.cells cur 4 (0, 0)) ∧ cur.size = n ∧ ∀ (q : Nat) (b : Bool), r.hit[q]? = some b → cur[q]? = some (.bool b)
  rt : QAt w tb tv r.todo
  ll : r.list.length = n
  lt : tb < w.heap.size

/-- what the run turns: its own blocks, of those that were there -/
structure VStep (X L H tb tb' : Nat) (w w' : World) : Prop where
  os : w.os = w'.os
  tape : w.tape = w'.tape
  output : w.output = w'.output
  size : w.heap.size ≤ w'.heap.size
  block : ∀ k, k < w.heap.size → ¬ Own4 X L H tb k → w'.heap[k]? = w.heap[k]?
  tb : tb' = tb ∨ w.heap.size ≤ tb'

theorem VStep.of_below {X L H tb : Nat} {w w' : World} (h : Below w.heap.size w w') : VStep X L H tb tb w w' := ⟨h.os.symm, h.tape.symm, h.output.symm, h.size, fun k hk _ => h.block k hk, .inl rfl⟩

theorem VStep.own {X L H tb tb' : Nat} {w w' : World} (h : VStep X L H tb tb' w w') {k : Nat} (hk : k < w.heap.size) (hn : ¬ Own4 X L H tb k) : ¬ Own4 X L H tb' k := by
  intro hx
  apply hn
  rcases hx with hx | hx | hx | hx
  · exact .inl hx
  · exact .inr (.inl hx)
  · exact .inr (.inr (.inl hx))
  · rcases h.tb with e | e
    · exact .inr (.inr (.inr (by rw [hx, e])))
    · omega

theorem VStep.trans {X L H tb tb1 tb2 : Nat} {w w1 w2 : World} (h : VStep X L H tb tb1 w w1) (k : VStep X L H tb1 tb2 w1 w2) : VStep X L H tb tb2 w w2 := by
  refine ⟨h.os.trans k.os, h.tape.trans k.tape, h.output.trans k.output, Nat.le_trans h.size k.size, fun i hi hn => ?_, ?_⟩
  · exact (k.block i (Nat.lt_of_lt_of_le hi h.size) (h.own hi hn)).trans (h.block i hi hn)
  · rcases k.tb with e | e
    · rcases h.tb with e2 | e2
      · exact .inl (e.trans e2)
      · exact .inr (by omega)
    · exact .inr (Nat.le_trans h.size e)

theorem VStep.regs {X L H tb tb' : Nat} {w w' : World} (h : VStep X L H tb tb' w w') {v : Value} {l : List Int} (r : RegV w (Own4 X L H tb) v l) : RegV w' (Own4 X L H tb') v l :=
  r.keep h.block h.size (fun k hk hx => Classical.byContradiction (fun hn => h.own hk hn hx))

/-- from the blocks that were there ahead of the run nothing is turned -/
theorem VStep.low {X L H tb tb' B : Nat} {w0 w w' : World} (h : VStep X L H tb tb' w w') (hb : Below B w0 w) (hB : B ≤ w.heap.size) (hX : B ≤ X ∧ B ≤ L ∧ B ≤ H ∧ B ≤ tb) : Below B w0 w' :=
  ⟨h.os.symm.trans hb.os, h.tape.symm.trans hb.tape, h.output.symm.trans hb.output, Nat.le_trans hb.size h.size, fun k hk => (h.block k (by omega) (by unfold Own4; omega)).trans (hb.block k hk)⟩

theorem VAt.below {X L H tb n : Nat} {tv : Value} {r : RunP} {w w' : World} (h : VAt X L H tb n tv r w) (hb : Below w.heap.size w w') : VAt X L H tb n tv r w' := by
  obtain ⟨cl, l1, l2, l3⟩ := h.rl
  obtain ⟨ch, h1, h2, h3⟩ := h.rh
  refine ⟨(hb.block X (lt16 h.box)).trans h.box, ⟨cl, (hb.block L (lt16 l1)).trans l1, l2, fun q s hs => ?_⟩, ⟨ch, (hb.block H (lt16 h1)).trans h1, h2, h3⟩, h.rt.keep (hb.block tb h.lt), h.ll, Nat.lt_of_lt_of_le h.lt hb.size⟩
  obtain ⟨v, v1, v2, v3⟩ := l3 q s hs
  exact ⟨v, v1, v2, v3.below hb⟩

/-- the blocks are apart, by their types -/
theorem VAt.apart {X L H tb n : Nat} {tv : Value} {r : RunP} {w : World} (h : VAt X L H tb n tv r w) : X ≠ L ∧ X ≠ H ∧ L ≠ H ∧ (tv = .slice none 0 0 ∨ (X ≠ tb ∧ L ≠ tb ∧ H ≠ tb)) := by
  obtain ⟨cl, l1, _⟩ := h.rl
  obtain ⟨ch, h1, _⟩ := h.rh
  have ne : ∀ {a b : Nat} {c d : Array Value} {s t : TypeId}, w.heap[a]? = some (.cells c s (0, 0)) → w.heap[b]? = some (.cells d t (0, 0)) → s ≠ t → a ≠ b := fun p q hst e => by
    rw [e, q] at p
    injection p with p
    injection p with _ p
    exact hst p.symm
  refine ⟨ne h.box l1 (by decide), ne h.box h1 (by decide), ne l1 h1 (by decide), ?_⟩
  rcases h.rt with ⟨e, _⟩ | ⟨o, cap, cur, _, hg, _⟩
  · exact .inl e
  · exact .inr ⟨ne h.box hg (by decide), ne l1 hg (by decide), ne h1 hg (by decide)⟩

/-- a cell of the run's own box is turned -/
theorem VStep.put {X L H tb k j : Nat} {w : World} (u : Value) (hk : Own4 X L H tb k) : VStep X L H tb tb w (w.setCell ⟨k, j, none⟩ u) :=
  ⟨rfl, rfl, rfl, by simp [World.setCell], fun i _ hn => heap_setCell_other w ⟨k, j, none⟩ i u (fun e => hn (by rw [show i = k from e]; exact hk)), .inl rfl⟩

theorem VAt.setBad {X L H tb n : Nat} {tv : Value} {r : RunP} {w : World} (h : VAt X L H tb n tv r w) : VAt X L H tb n tv { r with bad := true } (w.setCell ⟨X, 3, none⟩ (.bool true)) := by
  have st : VStep X L H tb tb w (w.setCell ⟨X, 3, none⟩ (.bool true)) := VStep.put _ (.inl rfl)
  obtain ⟨a1, a2, a3, a4⟩ := h.apart
  obtain ⟨cl, l1, l2, l3⟩ := h.rl
  obtain ⟨ch, h1, h2, h3⟩ := h.rh
  have o : ∀ k, k ≠ X → (w.setCell ⟨X, 3, none⟩ (.bool true)).heap[k]? = w.heap[k]? := fun k hk => heap_setCell_other w ⟨X, 3, none⟩ k _ hk
  refine ⟨heap_setCell_same w X 3 _ _ _ h.box, ⟨cl, (o L a1.symm).trans l1, l2, fun q s hs => ?_⟩, ⟨ch, (o H a2.symm).trans h1, h2, h3⟩, ?_, h.ll, by simpa using h.lt⟩
  · obtain ⟨v, v1, v2, v3⟩ := l3 q s hs
    exact ⟨v, v1, v2, st.regs v3⟩
  · rcases a4 with e | e
    · rcases h.rt with h5 | ⟨o', cap, cur, e5, _⟩
      · exact .inl h5
      · rw [e] at e5; cases e5
    · exact h.rt.keep (o tb e.1.symm)

theorem VAt.setTodo {X L H tb tb' n : Nat} {tv tv' : Value} {r : RunP} {w w1 : World} {m : List Nat} (h : VAt X L H tb n tv r w) (st : VStep X L H tb tb' w w1) (hX : w1.heap[X]? = w.heap[X]?) (hL : w1.heap[L]? = w.heap[L]?) (hH : w1.heap[H]? = w.heap[H]?) (hq : QAt w1 tb' tv' m) (hlt : tb' < w1.heap.size) :
    VAt X L H tb' n tv' { r with todo := m } (w1.setCell ⟨X, 2, none⟩ tv') := by
  obtain ⟨a1, a2, a3, a4⟩ := h.apart
  obtain ⟨cl, l1, l2, l3⟩ := h.rl
  obtain ⟨ch, h1, h2, h3⟩ := h.rh
  have o : ∀ k, k ≠ X → (w1.setCell ⟨X, 2, none⟩ tv').heap[k]? = w1.heap[k]? := fun k hk => heap_setCell_other w1 ⟨X, 2, none⟩ k _ hk
  have sp : VStep X L H tb' tb' w1 (w1.setCell ⟨X, 2, none⟩ tv') := VStep.put _ (.inl rfl)
  refine ⟨heap_setCell_same w1 X 2 _ _ _ (hX.trans h.box), ⟨cl, (o L a1.symm).trans (hL.trans l1), l2, fun q s hs => ?_⟩, ⟨ch, (o H a2.symm).trans (hH.trans h1), h2, h3⟩, ?_, h.ll, by simpa using hlt⟩
  · obtain ⟨v, v1, v2, v3⟩ := l3 q s hs
    exact ⟨v, v1, v2, sp.regs (st.regs v3)⟩
  · rcases hq with h5 | ⟨o', cap, cur, e5, hg, h5⟩
    · exact .inl h5
    · refine .inr ⟨o', cap, cur, e5, (o tb' ?_).trans hg, h5⟩
      intro e
      have := hX.trans h.box
      rw [e, this] at hg
      injection hg with hg
      injection hg with _ hg
      exact absurd hg (by decide)

theorem VAt.mark {X L H tb n : Nat} {tv : Value} {r : RunP} {w : World} (h : VAt X L H tb n tv r w) (q : Nat) (hq : q < n) : VAt X L H tb n tv { r with hit := r.hit.set q true } (w.setCell ⟨H, q, none⟩ (.bool true)) := by
  have st : VStep X L H tb tb w (w.setCell ⟨H, q, none⟩ (.bool true)) := VStep.put _ (.inr (.inr (.inl rfl)))
  obtain ⟨a1, a2, a3, a4⟩ := h.apart
  obtain ⟨cl, l1, l2, l3⟩ := h.rl
  obtain ⟨ch, h1, h2, h3⟩ := h.rh
  have o : ∀ k, k ≠ H → (w.setCell ⟨H, q, none⟩ (.bool true)).heap[k]? = w.heap[k]? := fun k hk => heap_setCell_other w ⟨H, q, none⟩ k _ hk
  refine ⟨(o X a2).trans h.box, ⟨cl, (o L a3).trans l1, l2, fun k s hs => ?_⟩, ⟨_, heap_setCell_same w H q _ _ _ h1, by rw [Array.size_setIfInBounds]; exact h2, fun k b hb => ?_⟩, ?_, h.ll, by simpa using h.lt⟩
  · obtain ⟨v, v1, v2, v3⟩ := l3 k s hs
    exact ⟨v, v1, v2, st.regs v3⟩
  · rw [Array.getElem?_setIfInBounds]
    by_cases e : q = k
    · subst e
      rw [if_pos rfl, if_pos (by omega)]
      have hb' : (r.hit.set q true)[q]? = some b := hb
      rw [List.getElem?_set] at hb'
      simp only [if_true] at hb'
      split at hb'
      · injection hb' with hb'; rw [hb']
      · cases hb'
    · rw [if_neg e]
      have hb' : (r.hit.set q true)[k]? = some b := hb
      rw [List.getElem?_set_ne e] at hb'
      exact h3 k b hb'
  · rcases a4 with e | e
    · rcases h.rt with h5 | ⟨o', cap, cur, e5, _⟩
      · exact .inl h5
      · rw [e] at e5; cases e5
    · exact h.rt.keep (o tb e.2.2.symm)

theorem VAt.putState {X L H tb n : Nat} {tv v : Value} {r : RunP} {w : World} (h : VAt X L H tb n tv r w) (q : Nat) (hq : q < n) (s : PSta) (hv : RegV w (Own4 X L H tb) v s.regs) :
    VAt X L H tb n tv { r with list := r.list.set q s } ((w.setCell ⟨L, q * 2, none⟩ (.int .i64 s.acc)).setCell ⟨L, q * 2 + 1, none⟩ v) ∧ VStep X L H tb tb w ((w.setCell ⟨L, q * 2, none⟩ (.int .i64 s.acc)).setCell ⟨L, q * 2 + 1, none⟩ v) := by
  have st : VStep X L H tb tb w ((w.setCell ⟨L, q * 2, none⟩ (.int .i64 s.acc)).setCell ⟨L, q * 2 + 1, none⟩ v) := (VStep.put (w := w) (k := L) (j := q * 2) (.int .i64 s.acc) (.inr (.inl rfl))).trans (VStep.put _ (.inr (.inl rfl)))
  obtain ⟨a1, a2, a3, a4⟩ := h.apart
  obtain ⟨cl, l1, l2, l3⟩ := h.rl
  obtain ⟨ch, h1, h2, h3⟩ := h.rh
  have o : ∀ k, k ≠ L → ((w.setCell ⟨L, q * 2, none⟩ (.int .i64 s.acc)).setCell ⟨L, q * 2 + 1, none⟩ v).heap[k]? = w.heap[k]? := fun k hk => (heap_setCell_other _ ⟨L, q * 2 + 1, none⟩ k _ hk).trans (heap_setCell_other w ⟨L, q * 2, none⟩ k _ hk)
  refine ⟨⟨(o X a1).trans h.box, ⟨_, heap_setCell_same _ L (q * 2 + 1) _ _ v (heap_setCell_same w L (q * 2) _ _ (.int .i64 s.acc) l1), by rw [Array.size_setIfInBounds, Array.size_setIfInBounds]; exact l2, fun k t ht => ?_⟩, ⟨ch, (o H a3.symm).trans h1, h2, h3⟩, ?_, by show (r.list.set q s).length = n; rw [List.length_set]; exact h.ll, by simpa using h.lt⟩, st⟩
  · by_cases e : q = k
    · subst e
      have ht' : (r.list.set q s)[q]? = some t := ht
      rw [List.getElem?_set_self (by rw [h.ll]; exact hq)] at ht'
      injection ht' with ht'
      subst ht'
      refine ⟨v, ?_, ?_, st.regs hv⟩
      · rw [Array.getElem?_setIfInBounds, if_neg (by omega), Array.getElem?_setIfInBounds, if_pos rfl, if_pos (by omega)]
      · rw [Array.getElem?_setIfInBounds, if_pos rfl, if_pos (by rw [Array.size_setIfInBounds]; omega)]
    · have ht' : (r.list.set q s)[k]? = some t := ht
      rw [List.getElem?_set_ne e] at ht'
      obtain ⟨u, v1, v2, v3⟩ := l3 k t ht'
      refine ⟨u, ?_, ?_, st.regs v3⟩
      · rw [Array.getElem?_setIfInBounds, if_neg (by omega), Array.getElem?_setIfInBounds, if_neg (by omega)]
        exact v1
      · rw [Array.getElem?_setIfInBounds, if_neg (by omega), Array.getElem?_setIfInBounds, if_neg (by omega)]
        exact v2
  · rcases a4 with e | e
    · rcases h.rt with h5 | ⟨o', cap, cur, e5, _⟩
      · exact .inl h5
      · rw [e] at e5; cases e5
    · exact h.rt.keep (o tb e.2.1.symm)

end Go.Proofs.Ytbgdapdenbldmaa
