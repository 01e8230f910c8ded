/-
  Part 13 of what is proved of drawn right trees.
-/
import Derived.Test.YtbgdapdenbldmaaPaj
import Derived.Test.YtbgdapdenbldmaaPal

namespace Go.Proofs.Ytbgdapdenbldmaa
open Go.RowKit Go.Sort
set_option linter.unusedVariables false
def Own5 (X S H L K : Nat) (k : Nat) : Prop := k = X ∨ k = S ∨ k = H ∨ k = L ∨ k = K
def slotV : Option Nat → Value
  | some q => .iface 3 (.int .i64 (q : Int))
  | none => .nilIface
structure TAt (X S H L K n B : Nat) (fv cv : Value) (PA RE : Int) (qc qk qh : Value) (r : RunP) (fi : Nat) (w : World) : Prop where
  box : w.heap[X]? = some (.cells #[fv, cv, .int .i64 PA, .int .i64 RE, qc, qk, qh, .slice (some ⟨S, 0, none⟩) n n, .slice (some ⟨H, 0, none⟩) n n, .slice (some ⟨L, 0, none⟩) n n, .int .i64 (fi : Int), .int .i64 (((fi + r.todo.length) % n : Nat) : Int), .slice (some ⟨K, 0, none⟩) n n, .bool r.bad] 107 (0, 0))
  st : ∃ cur, w.heap[S]? = some (.cells cur 98 (0, 0)) ∧ cur.size = n * 2 ∧ (∀ (q : Nat) (s : PSta), r.list[q]? = some s → ∃ v, cur[q * 2]? = some (.int .i64 s.acc) ∧ cur[q * 2 + 1]? = some v ∧ OwnI w B v s.regs) ∧
    ∀ (q q' g : Nat) (v v' : Value), q ≠ q' → cur[q * 2 + 1]? = some v → cur[q' * 2 + 1]? = some v' → v.ownBlock = some g → v'.ownBlock ≠ some g
  ht : ∃ cur, w.heap[H]? = some (.cells cur 4 (0, 0)) ∧ cur.size = n ∧ ∀ (q : Nat) (b : Bool), r.hit[q]? = some b → cur[q]? = some (.bool b)
  sl : ∃ cur, w.heap[L]? = some (.cells cur 20 (0, 0)) ∧ cur.size = n ∧ ∀ j, j < n → cur[(fi + j) % n]? = some (slotV r.todo[j]?)
  wa : ∃ cur, w.heap[K]? = some (.cells cur 4 (0, 0)) ∧ cur.size = n ∧ ∀ q, q < n → cur[q]? = some (.bool (decide (q ∈ r.todo)))
  ll : r.list.length = n
  hl : r.hit.length = n
  ne : H ≠ K
  fl : fi < n
  nd : r.todo.Nodup
  tl : ∀ q ∈ r.todo, q < n
  lo : B ≤ X ∧ B ≤ S ∧ B ≤ H ∧ B ≤ L ∧ B ≤ K
structure TStep (X S H L K : Nat) (w w' : World) : Prop where
  os : w.os = w'.os
  tape : w.tape = w'.tape
  output : w.output = w'.output
  size : w.heap.size ≤ w'.heap.size
  block : ∀ k, k < w.heap.size → ¬ Own5 X S H L K k → w'.heap[k]? = w.heap[k]?
theorem TStep.of_below {X S H L K : Nat} {w w' : World} (h : Below w.heap.size w w') : TStep X S H L K w w' := ⟨h.os.symm, h.tape.symm, h.output.symm, h.size, fun k hk _ => h.block k hk⟩
theorem TStep.refl {X S H L K : Nat} (w : World) : TStep X S H L K w w := TStep.of_below (Below.refl _ _)
theorem TStep.trans {X S H L K : Nat} {w w1 w2 : World} (h : TStep X S H L K w w1) (k : TStep X S H L K w1 w2) : TStep X S H L K w w2 :=
  ⟨h.os.trans k.os, h.tape.trans k.tape, h.output.trans k.output, Nat.le_trans h.size k.size, fun i hi hn => (k.block i (Nat.lt_of_lt_of_le hi h.size) hn).trans (h.block i hi hn)⟩
theorem TStep.low {X S H L K B : Nat} {w0 w w' : World} (h : TStep X S H L K w w') (hb : Below B w0 w) (hB : B ≤ w.heap.size) (hX : B ≤ X ∧ B ≤ S ∧ B ≤ H ∧ B ≤ L ∧ B ≤ K) : Below B w0 w' :=
  ⟨h.os.symm.trans hb.os, h.tape.symm.trans hb.tape, h.output.symm.trans hb.output, Nat.le_trans hb.size h.size, fun k hk => (h.block k (by omega) (by unfold Own5; omega)).trans (hb.block k hk)⟩
theorem TStep.put {X S H L K k j : Nat} {w : World} (u : Value) (hk : Own5 X S H L K k) : TStep X S H L K w (w.setCell ⟨k, j, none⟩ u) :=
  ⟨rfl, rfl, rfl, by simp [World.setCell], fun i _ hn => heap_setCell_other w ⟨k, j, none⟩ i u (fun e => hn (by rw [show i = k from e]; exact hk))⟩
theorem blk_ne {w : World} {a b : Nat} {c d : Array Value} {s t : TypeId} (p : w.heap[a]? = some (.cells c s (0, 0))) (q : w.heap[b]? = some (.cells d t (0, 0))) (hst : s ≠ t) : a ≠ b := fun e => by
  rw [e, q] at p
  injection p with p
  injection p with _ p
  exact hst p.symm
variable {X S H L K n B : Nat} {fv cv : Value} {PA RE : Int} {qc qk qh : Value} {r : RunP} {fi : Nat} {w w' : World}
structure Apart5 (X S H L K : Nat) : Prop where
  xs : X ≠ S
  xh : X ≠ H
  xl : X ≠ L
  xk : X ≠ K
  sh : S ≠ H
  sl : S ≠ L
  sk : S ≠ K
  hl : H ≠ L
  hk : H ≠ K
  lk : L ≠ K
theorem TAt.apart (h : TAt X S H L K n B fv cv PA RE qc qk qh r fi w) : Apart5 X S H L K := by
  obtain ⟨c1, s1, _⟩ := h.st
  obtain ⟨c2, s2, _⟩ := h.ht
  obtain ⟨c3, s3, _⟩ := h.sl
  obtain ⟨c4, s4, _⟩ := h.wa
  exact ⟨blk_ne h.box s1 (by decide), blk_ne h.box s2 (by decide), blk_ne h.box s3 (by decide), blk_ne h.box s4 (by decide), blk_ne s1 s2 (by decide), blk_ne s1 s3 (by decide), blk_ne s1 s4 (by decide), blk_ne s2 s3 (by decide), h.ne, blk_ne s3 s4 (by decide)⟩
theorem TAt.in_ (h : TAt X S H L K n B fv cv PA RE qc qk qh r fi w) : X < w.heap.size ∧ S < w.heap.size ∧ H < w.heap.size ∧ L < w.heap.size ∧ K < w.heap.size := by
  obtain ⟨c1, s1, _⟩ := h.st
  obtain ⟨c2, s2, _⟩ := h.ht
  obtain ⟨c3, s3, _⟩ := h.sl
  obtain ⟨c4, s4, _⟩ := h.wa
  exact ⟨lt16 h.box, lt16 s1, lt16 s2, lt16 s3, lt16 s4⟩
theorem TAt.row_ne (h : TAt X S H L K n B fv cv PA RE qc qk qh r fi w) {v : Value} {l : List Int} (ho : OwnI w B v l) {k : Nat} (hk : Own5 X S H L K k) : v.ownBlock ≠ some k := by
  obtain ⟨c1, s1, _⟩ := h.st
  obtain ⟨c2, s2, _⟩ := h.ht
  obtain ⟨c3, s3, _⟩ := h.sl
  obtain ⟨c4, s4, _⟩ := h.wa
  rcases hk with rfl | rfl | rfl | rfl | rfl
  · exact apart16 ho h.box (by decide)
  · exact apart16 ho s1 (by decide)
  · exact apart16 ho s2 (by decide)
  · exact apart16 ho s3 (by decide)
  · exact apart16 ho s4 (by decide)
theorem own_step {e : TypeId} {k B n : Nat} {v : Value} {xs : List Value} (h : w.ownsRow B e k v n xs) (hs : w.heap.size ≤ w'.heap.size) (hb : ∀ g, v.ownBlock = some g → w'.heap[g]? = w.heap[g]?) : w'.ownsRow B e k v n xs := by
  obtain ⟨h1, ⟨h2, h3⟩ | ⟨g, cap, cur, h2, h3, h4, h5⟩⟩ := h
  · exact ⟨h1, .inl ⟨h2, h3⟩⟩
  · exact ⟨h1, .inr ⟨g, cap, cur, h2, h3, (hb g (by rw [h2]; rfl)).trans h4, h5⟩⟩
theorem TAt.row (h : TAt X S H L K n B fv cv PA RE qc qk qh r fi w) (st : TStep X S H L K w w') {v : Value} {l : List Int} (ho : OwnI w B v l) : OwnI w' B v l := by
  refine own_step ho st.size (fun g hg => ?_)
  have hlt : g < w.heap.size := by
    obtain ⟨_, ⟨h2, _⟩ | ⟨g2, cap, cur, h2, _, h4, _⟩⟩ := ho
    · rw [h2] at hg; cases hg
    · rw [h2] at hg
      have e : g2 = g := Option.some.inj hg
      rw [← e]; exact lt16 h4
  exact st.block g hlt (fun hk => h.row_ne ho hk hg)
theorem TAt.below (h : TAt X S H L K n B fv cv PA RE qc qk qh r fi w) (hb : Below w.heap.size w w') : TAt X S H L K n B fv cv PA RE qc qk qh r fi w' := by
  obtain ⟨c1, s1, s2, s3, s4⟩ := h.st
  obtain ⟨c2, t1, t2⟩ := h.ht
  obtain ⟨c3, u1, u2⟩ := h.sl
  obtain ⟨c4, v1, v2⟩ := h.wa
  refine ⟨(hb.block X (lt16 h.box)).trans h.box, ⟨c1, (hb.block S (lt16 s1)).trans s1, s2, fun q s hs => ?_, s4⟩, ⟨c2, (hb.block H (lt16 t1)).trans t1, t2⟩, ⟨c3, (hb.block L (lt16 u1)).trans u1, u2⟩, ⟨c4, (hb.block K (lt16 v1)).trans v1, v2⟩, h.ll, h.hl, h.ne, h.fl, h.nd, h.tl, h.lo⟩
  obtain ⟨v, k1, k2, k3⟩ := s3 q s hs
  exact ⟨v, k1, k2, k3.below hb⟩
structure BoxC (X S H L K n : Nat) (fv cv : Value) (PA RE : Int) (qc qk qh : Value) (fi fr : Int) (bad : Bool) (w : World) : Prop where
  c0 : w.cell? ⟨X, 0, none⟩ = some fv
  c1 : w.cell? ⟨X, 1, none⟩ = some cv
  c2 : w.cell? ⟨X, 2, none⟩ = some (.int .i64 PA)
  c3 : w.cell? ⟨X, 3, none⟩ = some (.int .i64 RE)
  c4 : w.cell? ⟨X, 4, none⟩ = some qc
  c5 : w.cell? ⟨X, 5, none⟩ = some qk
  c6 : w.cell? ⟨X, 6, none⟩ = some qh
  c7 : w.cell? ⟨X, 7, none⟩ = some (.slice (some ⟨S, 0, none⟩) n n)
  c8 : w.cell? ⟨X, 8, none⟩ = some (.slice (some ⟨H, 0, none⟩) n n)
  c9 : w.cell? ⟨X, 9, none⟩ = some (.slice (some ⟨L, 0, none⟩) n n)
  c10 : w.cell? ⟨X, 10, none⟩ = some (.int .i64 fi)
  c11 : w.cell? ⟨X, 11, none⟩ = some (.int .i64 fr)
  c12 : w.cell? ⟨X, 12, none⟩ = some (.slice (some ⟨K, 0, none⟩) n n)
  c13 : w.cell? ⟨X, 13, none⟩ = some (.bool bad)
  fz : ∀ j, w.frozen? ⟨X, j, none⟩ = false
theorem boxC {fr : Int} {bad : Bool} {fi : Int} (h : w.heap[X]? = some (.cells #[fv, cv, .int .i64 PA, .int .i64 RE, qc, qk, qh, .slice (some ⟨S, 0, none⟩) n n, .slice (some ⟨H, 0, none⟩) n n, .slice (some ⟨L, 0, none⟩) n n, .int .i64 fi, .int .i64 fr, .slice (some ⟨K, 0, none⟩) n n, .bool bad] 107 (0, 0))) : BoxC X S H L K n fv cv PA RE qc qk qh fi fr bad w := by
  refine ⟨?_, ?_, ?_, ?_, ?_, ?_, ?_, ?_, ?_, ?_, ?_, ?_, ?_, ?_, fun j => frozen_of_row w X j _ _ h⟩ <;> (rw [cell_of_row _ _ _ _ _ _ h]; rfl)
theorem TAt.setBad (h : TAt X S H L K n B fv cv PA RE qc qk qh r fi w) : TAt X S H L K n B fv cv PA RE qc qk qh { r with bad := true } fi (w.setCell ⟨X, 13, none⟩ (.bool true)) := by
  have st : TStep X S H L K w (w.setCell ⟨X, 13, none⟩ (.bool true)) := TStep.put _ (.inl rfl)
  have ap := h.apart
  obtain ⟨c1, s1, s2, s3, s4⟩ := h.st
  obtain ⟨c2, t1, t2⟩ := h.ht
  obtain ⟨c3, u1, u2⟩ := h.sl
  obtain ⟨c4, v1, v2⟩ := h.wa
  have o : ∀ k, k ≠ X → (w.setCell ⟨X, 13, none⟩ (.bool true)).heap[k]? = w.heap[k]? := fun k hk => heap_setCell_other w ⟨X, 13, none⟩ k _ hk
  refine ⟨heap_setCell_same w X 13 _ _ _ h.box, ⟨c1, (o S ap.xs.symm).trans s1, s2, fun q s hs => ?_, s4⟩, ⟨c2, (o H ap.xh.symm).trans t1, t2⟩, ⟨c3, (o L ap.xl.symm).trans u1, u2⟩, ⟨c4, (o K ap.xk.symm).trans v1, v2⟩, h.ll, h.hl, h.ne, h.fl, h.nd, h.tl, h.lo⟩
  obtain ⟨v, k1, k2, k3⟩ := s3 q s hs
  exact ⟨v, k1, k2, h.row st k3⟩
theorem TAt.mark (h : TAt X S H L K n B fv cv PA RE qc qk qh r fi w) (q : Nat) (hq : q < n) : TAt X S H L K n B fv cv PA RE qc qk qh { r with hit := r.hit.set q true } fi (w.setCell ⟨H, q, none⟩ (.bool true)) := by
  have st : TStep X S H L K w (w.setCell ⟨H, q, none⟩ (.bool true)) := TStep.put _ (.inr (.inr (.inl rfl)))
  have ap := h.apart
  obtain ⟨c1, s1, s2, s3, s4⟩ := h.st
  obtain ⟨c2, t1, t2, t3⟩ := h.ht
  obtain ⟨c3, u1, u2⟩ := h.sl
  obtain ⟨c4, v1, v2⟩ := h.wa
  have o : ∀ k, k ≠ H → (w.setCell ⟨H, q, none⟩ (.bool true)).heap[k]? = w.heap[k]? := fun k hk => heap_setCell_other w ⟨H, q, none⟩ k _ hk
  refine ⟨(o X ap.xh).trans h.box, ⟨c1, (o S ap.sh).trans s1, s2, fun q s hs => ?_, s4⟩, ⟨_, heap_setCell_same w H q _ _ _ t1, by rw [Array.size_setIfInBounds]; exact t2, fun k b hb => ?_⟩, ⟨c3, (o L ap.hl.symm).trans u1, u2⟩, ⟨c4, (o K ap.hk.symm).trans v1, v2⟩, h.ll, by show (r.hit.set q true).length = n; rw [List.length_set]; exact h.hl, h.ne, h.fl, h.nd, h.tl, h.lo⟩
  · obtain ⟨v, k1, k2, k3⟩ := s3 q s hs
    exact ⟨v, k1, k2, h.row st k3⟩
  · rw [Array.getElem?_setIfInBounds]
    by_cases e : q = k
    · subst e
      rw [if_pos rfl, if_pos (by omega)]
      have hb' : (r.hit.set q true)[q]? = some b := hb
      rw [List.getElem?_set] at hb'
      simp only [if_true] at hb'
      split at hb'
      · injection hb' with hb'; rw [hb']
      · cases hb'
    · rw [if_neg e]
      have hb' : (r.hit.set q true)[k]? = some b := hb
      rw [List.getElem?_set_ne e] at hb'
      exact t3 k b hb'
def NewRow (S : Nat) (w : World) (v : Value) : Prop := ∀ (cur : Array Value) (k g : Nat) (u : Value), w.heap[S]? = some (.cells cur 98 (0, 0)) → cur[k]? = some u → v.ownBlock = some g → u.ownBlock ≠ some g
theorem TAt.putState (h : TAt X S H L K n B fv cv PA RE qc qk qh r fi w) (q : Nat) (hq : q < n) (s : PSta) (v : Value) (hv : OwnI w B v s.regs) (hn : NewRow S w v) :
    TAt X S H L K n B fv cv PA RE qc qk qh { r with list := r.list.set q s } fi ((w.setCell ⟨S, q * 2, none⟩ (.int .i64 s.acc)).setCell ⟨S, q * 2 + 1, none⟩ v) ∧ TStep X S H L K w ((w.setCell ⟨S, q * 2, none⟩ (.int .i64 s.acc)).setCell ⟨S, q * 2 + 1, none⟩ v) := by
  have st : TStep X S H L K w ((w.setCell ⟨S, q * 2, none⟩ (.int .i64 s.acc)).setCell ⟨S, q * 2 + 1, none⟩ v) := (TStep.put (w := w) (k := S) (j := q * 2) (.int .i64 s.acc) (.inr (.inl rfl))).trans (TStep.put _ (.inr (.inl rfl)))
  have ap := h.apart
  obtain ⟨c1, s1, s2, s3, s4⟩ := h.st
  obtain ⟨c2, t1, t2⟩ := h.ht
  obtain ⟨c3, u1, u2⟩ := h.sl
  obtain ⟨c4, v1, v2⟩ := h.wa
  have o : ∀ k, k ≠ S → ((w.setCell ⟨S, q * 2, none⟩ (.int .i64 s.acc)).setCell ⟨S, q * 2 + 1, none⟩ v).heap[k]? = w.heap[k]? := fun k hk => (heap_setCell_other _ ⟨S, q * 2 + 1, none⟩ k _ hk).trans (heap_setCell_other w ⟨S, q * 2, none⟩ k _ hk)
  have hz : q * 2 + 1 < c1.size := by omega
  have other : ∀ k, q ≠ k → ((c1.setIfInBounds (q * 2) (.int .i64 s.acc)).setIfInBounds (q * 2 + 1) v)[k * 2 + 1]? = c1[k * 2 + 1]? := fun k hk => by
    rw [Array.getElem?_setIfInBounds, if_neg (by omega), Array.getElem?_setIfInBounds, if_neg (by omega)]
  have same : ((c1.setIfInBounds (q * 2) (.int .i64 s.acc)).setIfInBounds (q * 2 + 1) v)[q * 2 + 1]? = some v := by
    rw [Array.getElem?_setIfInBounds, if_pos rfl, if_pos (by rw [Array.size_setIfInBounds]; omega)]
  refine ⟨⟨(o X ap.xs).trans h.box, ⟨_, heap_setCell_same _ S (q * 2 + 1) _ _ v (heap_setCell_same w S (q * 2) _ _ (.int .i64 s.acc) s1), by rw [Array.size_setIfInBounds, Array.size_setIfInBounds]; exact s2, fun k t ht => ?_, fun a a' g y y' hne hy hy' hg => ?_⟩, ⟨c2, (o H ap.sh.symm).trans t1, t2⟩, ⟨c3, (o L ap.sl.symm).trans u1, u2⟩, ⟨c4, (o K ap.sk.symm).trans v1, v2⟩, by show (r.list.set q s).length = n; rw [List.length_set]; exact h.ll, h.hl, h.ne, h.fl, h.nd, h.tl, h.lo⟩, st⟩
  · by_cases e : q = k
    · subst e
      have ht' : (r.list.set q s)[q]? = some t := ht
      rw [List.getElem?_set_self (by rw [h.ll]; exact hq)] at ht'
      injection ht' with ht'
      subst ht'
      refine ⟨v, ?_, same, h.row st hv⟩
      rw [Array.getElem?_setIfInBounds, if_neg (by omega), Array.getElem?_setIfInBounds, if_pos rfl, if_pos (by omega)]
    · have ht' : (r.list.set q s)[k]? = some t := ht
      rw [List.getElem?_set_ne e] at ht'
      obtain ⟨u, k1, k2, k3⟩ := s3 k t ht'
      refine ⟨u, ?_, (other k e).trans k2, h.row st k3⟩
      rw [Array.getElem?_setIfInBounds, if_neg (by omega), Array.getElem?_setIfInBounds, if_neg (by omega)]
      exact k1
  · by_cases e : q = a
    · subst e
      rw [same] at hy
      injection hy with hy
      subst hy
      rw [other a' hne] at hy'
      exact hn c1 _ g y' s1 hy' hg
    · rw [other a e] at hy
      by_cases e' : q = a'
      · subst e'
        rw [same] at hy'
        injection hy' with hy'
        subst hy'
        exact fun hx => hn c1 _ g y s1 hy hx hg
      · rw [other a' e'] at hy'
        exact s4 a a' g y y' hne hy hy' hg
theorem getElem_next {m : List Nat} {q j : Nat} : (q :: m)[j + 1]? = m[j]? := List.getElem?_cons_succ
theorem mod_next (fi n j : Nat) (hn : 0 < n) : ((fi + 1) % n + j) % n = (fi + (j + 1)) % n := by
  rw [Nat.mod_add_mod]
  congr 1
  omega
theorem mod_inj {fi n i j : Nat} (hi : i < n) (hj : j < n) (h : (fi + i) % n = (fi + j) % n) : i = j := by
  have hn : 0 < n := by omega
  have key : ∀ a b : Nat, a ≤ b → b < n → (fi + a) % n = (fi + b) % n → a = b := fun a b hab hb e => by
    have h1 := Nat.sub_mod_eq_zero_of_mod_eq e.symm
    rw [show fi + b - (fi + a) = b - a by omega, Nat.mod_eq_of_lt (by omega)] at h1
    omega
  rcases Nat.le_total i j with h1 | h1
  · exact key i j h1 hj h
  · exact (key j i h1 hi h.symm).symm
theorem TAt.ringPut (h : TAt X S H L K n B fv cv PA RE qc qk qh r fi w) (q : Nat) (hq : q < n) (hn : q ∉ r.todo) :
    TAt X S H L K n B fv cv PA RE qc qk qh { r with todo := putL r.todo q } fi (((w.setCell ⟨K, q, none⟩ (.bool true)).setCell ⟨L, (fi + r.todo.length) % n, none⟩ (.iface 3 (.int .i64 (q : Int)))).setCell ⟨X, 11, none⟩ (.int .i64 (((((fi + r.todo.length) % n) + 1) % n : Nat) : Int))) ∧
    TStep X S H L K w (((w.setCell ⟨K, q, none⟩ (.bool true)).setCell ⟨L, (fi + r.todo.length) % n, none⟩ (.iface 3 (.int .i64 (q : Int)))).setCell ⟨X, 11, none⟩ (.int .i64 (((((fi + r.todo.length) % n) + 1) % n : Nat) : Int))) := by
  have hlen : r.todo.length < n := nodup_lt h.nd h.tl hq hn
  have e0 : putL r.todo q = r.todo ++ [q] := if_neg hn
  have st : TStep X S H L K w (((w.setCell ⟨K, q, none⟩ (.bool true)).setCell ⟨L, (fi + r.todo.length) % n, none⟩ (.iface 3 (.int .i64 (q : Int)))).setCell ⟨X, 11, none⟩ (.int .i64 (((((fi + r.todo.length) % n) + 1) % n : Nat) : Int))) :=
    ((TStep.put (w := w) (k := K) (j := q) (.bool true) (.inr (.inr (.inr (.inr rfl))))).trans (TStep.put (k := L) (j := (fi + r.todo.length) % n) _ (.inr (.inr (.inr (.inl rfl)))))).trans (TStep.put (k := X) (j := 11) _ (.inl rfl))
  have ap := h.apart
  obtain ⟨c1, s1, s2, s3, s4⟩ := h.st
  obtain ⟨c2, t1, t2⟩ := h.ht
  obtain ⟨c3, u1, u2, u3⟩ := h.sl
  obtain ⟨c4, v1, v2, v3⟩ := h.wa
  have o : ∀ k, k ≠ K → k ≠ L → k ≠ X → (((w.setCell ⟨K, q, none⟩ (.bool true)).setCell ⟨L, (fi + r.todo.length) % n, none⟩ (.iface 3 (.int .i64 (q : Int)))).setCell ⟨X, 11, none⟩ (.int .i64 (((((fi + r.todo.length) % n) + 1) % n : Nat) : Int))).heap[k]? = w.heap[k]? := fun k h1 h2 h3 => (heap_setCell_other _ ⟨X, 11, none⟩ k _ h3).trans ((heap_setCell_other _ ⟨L, _, none⟩ k _ h2).trans (heap_setCell_other w ⟨K, q, none⟩ k _ h1))
  refine ⟨⟨?_, ⟨c1, (o S ap.sk ap.sl ap.xs.symm).trans s1, s2, fun k s hs => ?_, s4⟩, ⟨c2, (o H ap.hk ap.hl ap.xh.symm).trans t1, t2⟩, ⟨c3.setIfInBounds ((fi + r.todo.length) % n) (.iface 3 (.int .i64 (q : Int))), ?_, by rw [Array.size_setIfInBounds]; exact u2, fun j hj => ?_⟩, ⟨c4.setIfInBounds q (.bool true), ?_, by rw [Array.size_setIfInBounds]; exact v2, fun k hk => ?_⟩, h.ll, h.hl, h.ne, h.fl, putL_nodup h.nd q, fun k hk => ?_, h.lo⟩, st⟩
  · rw [heap_setCell_same _ X 11 _ _ _ ((heap_setCell_other _ ⟨L, _, none⟩ X _ ap.xl).trans ((heap_setCell_other w ⟨K, q, none⟩ X _ ap.xk).trans h.box))]
    show some (Obj.cells #[fv, cv, .int .i64 PA, .int .i64 RE, qc, qk, qh, .slice (some ⟨S, 0, none⟩) n n, .slice (some ⟨H, 0, none⟩) n n, .slice (some ⟨L, 0, none⟩) n n, .int .i64 (fi : Int), .int .i64 (((((fi + r.todo.length) % n) + 1) % n : Nat) : Int), .slice (some ⟨K, 0, none⟩) n n, .bool r.bad] 107 (0, 0)) = _
    rw [show (((fi + r.todo.length) % n) + 1) % n = (fi + (putL r.todo q).length) % n by rw [e0, List.length_append, Nat.mod_add_mod]; rfl]
  · obtain ⟨v, k1, k2, k3⟩ := s3 k s hs
    exact ⟨v, k1, k2, h.row st k3⟩
  · rw [heap_setCell_other _ ⟨X, 11, none⟩ L _ ap.xl.symm]
    exact heap_setCell_same _ L _ _ _ _ ((heap_setCell_other w ⟨K, q, none⟩ L _ ap.lk).trans u1)
  · have hlt : (fi + j) % n < n := Nat.mod_lt _ (by omega)
    rw [Array.getElem?_setIfInBounds]
    show _ = some (slotV (putL r.todo q)[j]?)
    by_cases e : j = r.todo.length
    · subst e
      rw [if_pos rfl, if_pos (by omega), e0, List.getElem?_append_right (Nat.le_refl _), Nat.sub_self]
      rfl
    · rw [if_neg (fun e2 => e (mod_inj hlen hj e2).symm), u3 j hj, e0]
      rcases Nat.lt_or_ge j r.todo.length with h1 | h1
      · rw [List.getElem?_append_left h1]
      · rw [List.getElem?_eq_none h1, List.getElem?_eq_none (by rw [List.length_append]; simp; omega)]
  · rw [heap_setCell_other _ ⟨X, 11, none⟩ K _ ap.xk.symm, heap_setCell_other _ ⟨L, _, none⟩ K _ ap.lk.symm]
    exact heap_setCell_same _ K _ _ _ _ v1
  · rw [Array.getElem?_setIfInBounds]
    show _ = some (Value.bool (decide (k ∈ putL r.todo q)))
    by_cases e : q = k
    · subst e
      rw [if_pos rfl, if_pos (by omega), decide_eq_true ((putL_mem _ _ _).2 (.inr rfl))]
    · rw [if_neg e, v3 k hk]
      congr 2
      exact decide_eq_decide.2 ⟨fun h => (putL_mem _ _ _).2 (.inl h), fun h => ((putL_mem _ _ _).1 h).elim id (fun e2 => absurd e2.symm e)⟩
  · rcases (putL_mem _ _ _).1 hk with h1 | h1
    · exact h.tl k h1
    · rw [h1]; exact hq
theorem TAt.ringTake {q : Nat} {m : List Nat} (h : TAt X S H L K n B fv cv PA RE qc qk qh r fi w) (ht : r.todo = q :: m) :
    TAt X S H L K n B fv cv PA RE qc qk qh { r with todo := m } ((fi + 1) % n) (((w.setCell ⟨K, q, none⟩ (.bool false)).setCell ⟨L, fi, none⟩ .nilIface).setCell ⟨X, 10, none⟩ (.int .i64 (((fi + 1) % n : Nat) : Int))) ∧
    TStep X S H L K w (((w.setCell ⟨K, q, none⟩ (.bool false)).setCell ⟨L, fi, none⟩ .nilIface).setCell ⟨X, 10, none⟩ (.int .i64 (((fi + 1) % n : Nat) : Int))) := by
  have hn : 0 < n := by have := h.fl; omega
  have hq : q < n := h.tl q (by rw [ht]; simp)
  have hlen := nodup_le n r.todo h.nd h.tl
  have st : TStep X S H L K w (((w.setCell ⟨K, q, none⟩ (.bool false)).setCell ⟨L, fi, none⟩ .nilIface).setCell ⟨X, 10, none⟩ (.int .i64 (((fi + 1) % n : Nat) : Int))) :=
    ((TStep.put (w := w) (k := K) (j := q) (.bool false) (.inr (.inr (.inr (.inr rfl))))).trans (TStep.put (k := L) (j := fi) _ (.inr (.inr (.inr (.inl rfl)))))).trans (TStep.put (k := X) (j := 10) _ (.inl rfl))
  have ap := h.apart
  have hnd := h.nd
  rw [ht] at hnd
  obtain ⟨hqm, hmd⟩ := List.nodup_cons.1 hnd
  rw [ht, List.length_cons] at hlen
  obtain ⟨c1, s1, s2, s3, s4⟩ := h.st
  obtain ⟨c2, t1, t2⟩ := h.ht
  obtain ⟨c3, u1, u2, u3⟩ := h.sl
  obtain ⟨c4, v1, v2, v3⟩ := h.wa
  have o : ∀ k, k ≠ K → k ≠ L → k ≠ X → (((w.setCell ⟨K, q, none⟩ (.bool false)).setCell ⟨L, fi, none⟩ .nilIface).setCell ⟨X, 10, none⟩ (.int .i64 (((fi + 1) % n : Nat) : Int))).heap[k]? = w.heap[k]? := fun k h1 h2 h3 => (heap_setCell_other _ ⟨X, 10, none⟩ k _ h3).trans ((heap_setCell_other _ ⟨L, _, none⟩ k _ h2).trans (heap_setCell_other w ⟨K, q, none⟩ k _ h1))
  refine ⟨⟨?_, ⟨c1, (o S ap.sk ap.sl ap.xs.symm).trans s1, s2, fun k s hs => ?_, s4⟩, ⟨c2, (o H ap.hk ap.hl ap.xh.symm).trans t1, t2⟩, ⟨c3.setIfInBounds fi .nilIface, ?_, by rw [Array.size_setIfInBounds]; exact u2, fun j hj => ?_⟩, ⟨c4.setIfInBounds q (.bool false), ?_, by rw [Array.size_setIfInBounds]; exact v2, fun k hk => ?_⟩, h.ll, h.hl, h.ne, Nat.mod_lt _ hn, hmd, fun k hk => h.tl k (by rw [ht]; exact List.mem_cons_of_mem _ hk), h.lo⟩, st⟩
  · rw [heap_setCell_same _ X 10 _ _ _ ((heap_setCell_other _ ⟨L, _, none⟩ X _ ap.xl).trans ((heap_setCell_other w ⟨K, q, none⟩ X _ ap.xk).trans h.box))]
    show some (Obj.cells #[fv, cv, .int .i64 PA, .int .i64 RE, qc, qk, qh, .slice (some ⟨S, 0, none⟩) n n, .slice (some ⟨H, 0, none⟩) n n, .slice (some ⟨L, 0, none⟩) n n, .int .i64 (((fi + 1) % n : Nat) : Int), .int .i64 (((fi + r.todo.length) % n : Nat) : Int), .slice (some ⟨K, 0, none⟩) n n, .bool r.bad] 107 (0, 0)) = _
    rw [ht, List.length_cons, ← mod_next fi n m.length hn]
  · obtain ⟨v, k1, k2, k3⟩ := s3 k s hs
    exact ⟨v, k1, k2, h.row st k3⟩
  · rw [heap_setCell_other _ ⟨X, 10, none⟩ L _ ap.xl.symm]
    exact heap_setCell_same _ L _ _ _ _ ((heap_setCell_other w ⟨K, q, none⟩ L _ ap.lk).trans u1)
  · rw [mod_next fi n j hn, Array.getElem?_setIfInBounds]
    show _ = some (slotV m[j]?)
    by_cases e : j + 1 = n
    · have e1 : (fi + (j + 1)) % n = fi := by rw [e, Nat.add_mod_right, Nat.mod_eq_of_lt h.fl]
      rw [e1, if_pos rfl, if_pos (by have := h.fl; omega), List.getElem?_eq_none (by omega)]
      rfl
    · have e1 : fi ≠ (fi + (j + 1)) % n := fun e2 => by
        have e3 : (fi + 0) % n = (fi + (j + 1)) % n := by rw [Nat.add_zero, Nat.mod_eq_of_lt h.fl]; exact e2
        have := mod_inj hn (by omega) e3
        omega
      rw [if_neg e1, u3 (j + 1) (by omega), ht, getElem_next]
  · rw [heap_setCell_other _ ⟨X, 10, none⟩ K _ ap.xk.symm, heap_setCell_other _ ⟨L, _, none⟩ K _ ap.lk.symm]
    exact heap_setCell_same _ K _ _ _ _ v1
  · rw [Array.getElem?_setIfInBounds]
    show _ = some (Value.bool (decide (k ∈ m)))
    by_cases e : q = k
    · subst e
      rw [if_pos rfl, if_pos (by omega), decide_eq_false hqm]
    · rw [if_neg e, v3 k hk, ht]
      congr 2
      exact decide_eq_decide.2 ⟨fun h => (List.mem_cons.1 h).elim (fun e2 => absurd e2.symm e) id, fun h => List.mem_cons_of_mem _ h⟩
end Go.Proofs.Ytbgdapdenbldmaa
namespace Go.Proofs.Ytbgdapdenbldmaa
open Go.RowKit Go.Sort
set_option linter.unusedVariables false
set_option maxHeartbeats 1000000 in
set_option maxRecDepth 100000 in
theorem iBehind (X L n k : Nat) (w : World) (c9 : w.cell? ⟨X, 9, none⟩ = some (.slice (some ⟨L, 0, none⟩) n n)) (hk : k ≤ 1000) (hn : 0 < n) (hn2 : n ≤ 1000) :
    Calls Try.prog 116 #[.pointer (some ⟨X, 9, none⟩), .int .i64 (k : Int)] w fun e w' => e = .returned (.int .i64 (((k + 1) % n : Nat) : Int)) ∧ w = w' := by
  have hw1 : IntKind.i64.wrap ((k : Int) + 1) = (k : Int) + 1 := wrap_small (by omega) (by omega)
  have hm : (k + 1) % n < n := Nat.mod_lt _ hn
  have e1 : ((k : Int) + 1).tmod (n : Int) = (((k + 1) % n : Nat) : Int) := by rw [Int.ofNat_tmod]; rfl
  have hn0 : ((n : Int) == 0) = false := by rw [beq_eq_false_iff_ne]; omega
  have hn1 : ¬ (n : Int) = 0 := by omega
  obtain ⟨R, hR⟩ : ∃ R, (k + 1) % n = R := ⟨_, rfl⟩
  rw [hR] at e1 hm ⊢
  have hw2 : IntKind.i64.wrap (R : Int) = (R : Int) := wrap_small (by omega) (by omega)
  clear hR
  go_enter Try.func116, Try.ntmps116
  go_wp2
  go_ret
  exact ⟨rfl, rfl⟩
variable {X S H L K n B : Nat} {fv cv : Value} {PA RE : Int} {qc qk qh : Value} {r : RunP} {fi : Nat} {w : World}
set_option maxHeartbeats 1000000 in
set_option maxRecDepth 100000 in
theorem iPut (h : TAt X S H L K n B fv cv PA RE qc qk qh r fi w) (q : Nat) (hq : q < n) (hn : n ≤ 300) :
    Calls Try.prog 132 #[.pointer (some ⟨X, 9, none⟩), .int .i64 (q : Int)] w fun e w' => e = .returned (.tuple #[]) ∧ TAt X S H L K n B fv cv PA RE qc qk qh { r with todo := putL r.todo q } fi w' ∧ TStep X S H L K w w' := by
  obtain ⟨c3, u1, u2, u3⟩ := h.sl
  obtain ⟨c4, v1, v2, v3⟩ := h.wa
  have bc := boxC h.box
  have x12 := bc.c12
  have hq0 : (0 : Int) ≤ (q : Int) := by omega
  have hq1 : (q : Int) < (n : Int) := by omega
  by_cases hin : q ∈ r.todo
  · have hE : TAt X S H L K n B fv cv PA RE qc qk qh { r with todo := putL r.todo q } fi w := by
      rw [show putL r.todo q = r.todo from if_pos hin]
      exact h
    have HE : Hid _ := hE
    have k1 : w.cell? ⟨K, q, none⟩ = some (.bool true) := by rw [cell_of_row _ _ _ _ _ _ v1, v3 q hq, decide_eq_true hin]
    clear hE v3 v1 v2 u1 u2 u3 bc h
    go_enter Try.func132, Try.ntmps132
    go_wp2
    go_returns
    exact ⟨rfl, HE.out, TStep.refl _⟩
  · have HE0 := h.ringPut q hq hin
    have ap := h.apart
    have k1 : w.cell? ⟨K, q, none⟩ = some (.bool false) := by rw [cell_of_row _ _ _ _ _ _ v1, v3 q hq, decide_eq_false hin]
    have z1 := fun j => frozen_of_row w K j _ _ v1
    have hXK := ap.xk
    have hXL := ap.xl
    have hLK := ap.lk
    have hx1 : (w.setCell ⟨K, q, none⟩ (.bool true)).heap[X]? = w.heap[X]? := heap_setCell_other w ⟨K, q, none⟩ X _ ap.xk
    have hl1 : (w.setCell ⟨K, q, none⟩ (.bool true)).heap[L]? = w.heap[L]? := heap_setCell_other w ⟨K, q, none⟩ L _ ap.lk
    obtain ⟨fr, hfr⟩ : ∃ x, (fi + r.todo.length) % n = x := ⟨_, rfl⟩
    have hfn : fr < n := by rw [← hfr]; exact Nat.mod_lt _ (by omega)
    have bx1 := hx1.trans h.box
    rw [hfr] at bx1 HE0
    have bc1 := boxC bx1
    have bl1 := hl1.trans u1
    obtain ⟨W1, hW1⟩ : ∃ W, w.setCell ⟨K, q, none⟩ (.bool true) = W := ⟨_, rfl⟩
    simp only [hW1] at bc1 bl1 HE0 bx1
    have hx2 : (W1.setCell ⟨L, fr, none⟩ (.iface 3 (.int .i64 (q : Int)))).heap[X]? = W1.heap[X]? := heap_setCell_other W1 ⟨L, fr, none⟩ X _ ap.xl
    have bc2 := boxC (hx2.trans bx1)
    obtain ⟨cl, hcl⟩ : ∃ u, c3[fr]? = some u := ⟨_, Array.getElem?_eq_getElem (by omega)⟩
    have l1 : W1.cell? ⟨L, fr, none⟩ = some cl := by rw [cell_of_row _ _ _ _ _ _ bl1]; exact hcl
    have lz := fun j => frozen_of_row W1 L j _ _ bl1
    obtain ⟨W2, hW2⟩ : ∃ W, W1.setCell ⟨L, fr, none⟩ (.iface 3 (.int .i64 (q : Int))) = W := ⟨_, rfl⟩
    simp only [hW2] at bc2 HE0
    have cB := fun W c9 => iBehind X L n fr W c9 (by omega) (by omega) (by omega)
    obtain ⟨nx, hnx⟩ : ∃ x, (fr + 1) % n = x := ⟨_, rfl⟩
    simp only [hnx] at cB HE0
    have HE : Hid _ := HE0
    have d9 := bc1.c9
    have d11 := bc1.c11
    have e9 := bc2.c9
    have e11 := bc2.c11
    have ez := bc2.fz
    have hf0 : (0 : Int) ≤ (fr : Int) := by omega
    have hf1 : (fr : Int) < (n : Int) := by omega
    have HW1 : Hid (w.setCell ⟨K, q, none⟩ (.bool true) = W1) := hW1
    have HW2 : Hid (W1.setCell ⟨L, fr, none⟩ (.iface 3 (.int .i64 (q : Int))) = W2) := hW2
    have HS : Hid (W1.cell? ⟨X, 9, none⟩ = some (.slice (some ⟨L, 0, none⟩) n n) ∧ W1.cell? ⟨X, 11, none⟩ = some (.int .i64 (fr : Int))) := ⟨d9, d11⟩
    have HS2 : Hid (W2.cell? ⟨X, 9, none⟩ = some (.slice (some ⟨L, 0, none⟩) n n) ∧ W2.cell? ⟨X, 11, none⟩ = some (.int .i64 (fr : Int))) := ⟨e9, e11⟩
    have hmi : ∀ (v : Value) (W : World), (Instr.makeInterface 3 v).run Try.prog W = .ok (.iface 3 v) W := fun v W => rfl
    clear HE0 v1 v2 v3 u1 u2 u3 bc bc1 bc2 bl1 bx1 hx1 hx2 hl1 hW1 hW2 hcl hnx hfr h ap
    go_enter Try.func132, Try.ntmps132
    go_upto_region 2 with fail
    simp only [HW1.out]
    clear HW1 k1 z1 x12
    go_region_held_law (fun W => W.cell? ⟨X, 9, none⟩ = some (.slice (some ⟨L, 0, none⟩) n n) ∧ W.cell? ⟨X, 11, none⟩ = some (.int .i64 (fr : Int)))
      (first | exact HS.out | exact HS2.out | (rw [HW2.out]; exact HS2.out))
      (first | (fail))
    simp only [HW2.out]
    clear HW2 l1 lz d9 d11 HS HS2
    have e9' : W2.drew.cell? ⟨X, 9, none⟩ = some (.slice (some ⟨L, 0, none⟩) n n) := e9
    have e11' : W2.drew.cell? ⟨X, 11, none⟩ = some (.int .i64 (fr : Int)) := e11
    have ez' : ∀ j, W2.drew.frozen? ⟨X, j, none⟩ = false := ez
    go_wp2_with (go_at_call 116; (refine (cB _ e9').mono ?_); rintro e w5 ⟨rfl, rfl⟩)
    go_returns
    have hd := (Below.refl (W2.setCell ⟨X, 11, none⟩ (.int .i64 (nx : Int))).heap.size (W2.setCell ⟨X, 11, none⟩ (.int .i64 (nx : Int)))).drew
    exact ⟨rfl, HE.out.1.below hd, HE.out.2.trans (TStep.of_below hd)⟩
set_option maxHeartbeats 1000000 in
set_option maxRecDepth 100000 in
theorem iTake_none (h : TAt X S H L K n B fv cv PA RE qc qk qh r fi w) (ht : r.todo = []) (hn : n ≤ 300) :
    Calls Try.prog 82 #[.pointer (some ⟨X, 9, none⟩)] w fun e w' => e = .returned (.tuple #[.int .i64 0, .bool false]) ∧ Below w.heap.size w w' := by
  obtain ⟨c3, u1, u2, u3⟩ := h.sl
  have bc := boxC h.box
  have x9 := bc.c9
  have x10 := bc.c10
  have hfl := h.fl
  have l1 : w.cell? ⟨L, fi, none⟩ = some .nilIface := by
    have := u3 0 (by omega)
    rw [Nat.add_zero, Nat.mod_eq_of_lt h.fl, ht] at this
    rw [cell_of_row _ _ _ _ _ _ u1]
    exact this
  have hf0 : (0 : Int) ≤ (fi : Int) := by omega
  have hf1 : (fi : Int) < (n : Int) := by omega
  have hta : ∀ W, (Instr.typeAssert .nilIface 20 3 true).run Try.prog W = .ok (.tuple #[.int .i64 0, .bool false]) W := fun W => by kernel_rfl
  clear u1 u2 u3 bc h
  go_enter Try.func82, Try.ntmps82
  go_wp2
  go_quiet (fail)
  go_wp2
  go_ret2
  exact ⟨rfl, below_drewN (Below.refl _ _) _⟩
set_option maxHeartbeats 1000000 in
set_option maxRecDepth 100000 in
theorem iTake_some {q : Nat} {m : List Nat} (h : TAt X S H L K n B fv cv PA RE qc qk qh r fi w) (ht : r.todo = q :: m) (hn : n ≤ 300) :
    Calls Try.prog 82 #[.pointer (some ⟨X, 9, none⟩)] w fun e w' => e = .returned (.tuple #[.int .i64 (q : Int), .bool true]) ∧ TAt X S H L K n B fv cv PA RE qc qk qh { r with todo := m } ((fi + 1) % n) w' ∧ TStep X S H L K w w' := by
  have hq : q < n := h.tl q (by rw [ht]; simp)
  have hfl := h.fl
  have hf0 : (0 : Int) ≤ (fi : Int) := by omega
  have hf1 : (fi : Int) < (n : Int) := by omega
  have hq0 : (0 : Int) ≤ (q : Int) := by omega
  have hq1 : (q : Int) < (n : Int) := by omega
  have hta : ∀ W, (Instr.typeAssert (.iface 3 (.int .i64 (q : Int))) 20 3 true).run Try.prog W = .ok (.tuple #[.int .i64 (q : Int), .bool true]) W := fun W => by kernel_rfl
  have bc := boxC h.box
  have x9 := bc.c9
  have x10 := bc.c10
  obtain ⟨c3, u1, u2, u3⟩ := h.sl
  have l1 : w.cell? ⟨L, fi, none⟩ = some (.iface 3 (.int .i64 (q : Int))) := by
    have := u3 0 (by omega)
    rw [Nat.add_zero, Nat.mod_eq_of_lt h.fl, ht] at this
    rw [cell_of_row _ _ _ _ _ _ u1]
    exact this
  have HT : Hid _ := h
  clear u1 u2 u3 bc h
  go_enter Try.func82, Try.ntmps82
  go_upto_region 1 with fail
  go_quiet (fail)
  obtain ⟨W0, hW0⟩ : ∃ W, w.drewN nq = W := ⟨_, rfl⟩
  have b0 : Below w.heap.size w W0 := by rw [← hW0]; exact below_drewN (Below.refl _ _) _
  simp only [hW0]
  clear hW0 x9 x10 l1
  have h := HT.out.below b0
  have HE0 := h.ringTake ht
  have ap := h.apart
  obtain ⟨c3, u1, u2, u3⟩ := h.sl
  obtain ⟨c4, v1, v2, v3⟩ := h.wa
  have bc := boxC h.box
  have x12 := bc.c12
  have k1 : W0.cell? ⟨K, q, none⟩ = some (.bool true) := by rw [cell_of_row _ _ _ _ _ _ v1, v3 q hq, decide_eq_true (by rw [ht]; simp)]
  have z1 := fun j => frozen_of_row W0 K j _ _ v1
  have hXK := ap.xk
  have hXL := ap.xl
  have hLK := ap.lk
  have hx1 : (W0.setCell ⟨K, q, none⟩ (.bool false)).heap[X]? = W0.heap[X]? := heap_setCell_other W0 ⟨K, q, none⟩ X _ ap.xk
  have hl1 : (W0.setCell ⟨K, q, none⟩ (.bool false)).heap[L]? = W0.heap[L]? := heap_setCell_other W0 ⟨K, q, none⟩ L _ ap.lk
  have bx1 := hx1.trans h.box
  have bc1 := boxC bx1
  have bl1 := hl1.trans u1
  obtain ⟨W1, hW1⟩ : ∃ W, W0.setCell ⟨K, q, none⟩ (.bool false) = W := ⟨_, rfl⟩
  simp only [hW1] at bc1 bl1 HE0 bx1
  have hx2 : (W1.setCell ⟨L, fi, none⟩ .nilIface).heap[X]? = W1.heap[X]? := heap_setCell_other W1 ⟨L, fi, none⟩ X _ ap.xl
  have bc2 := boxC (hx2.trans bx1)
  obtain ⟨cl, hcl⟩ : ∃ u, c3[fi]? = some u := ⟨_, Array.getElem?_eq_getElem (by omega)⟩
  have l1 : W1.cell? ⟨L, fi, none⟩ = some cl := by rw [cell_of_row _ _ _ _ _ _ bl1]; exact hcl
  have lz := fun j => frozen_of_row W1 L j _ _ bl1
  obtain ⟨W2, hW2⟩ : ∃ W, W1.setCell ⟨L, fi, none⟩ .nilIface = W := ⟨_, rfl⟩
  simp only [hW2] at bc2 HE0
  have cB := fun W c9 => iBehind X L n fi W c9 (by omega) (by omega) (by omega)
  obtain ⟨nx, hnx⟩ : ∃ x, (fi + 1) % n = x := ⟨_, rfl⟩
  simp only [hnx] at cB HE0
  have HNX : Hid ((fi + 1) % n = nx) := hnx
  have HE : Hid _ := HE0
  have d9 := bc1.c9
  have d10 := bc1.c10
  have e9 := bc2.c9
  have e10 := bc2.c10
  have ez := bc2.fz
  have HW1 : Hid (W0.setCell ⟨K, q, none⟩ (.bool false) = W1) := hW1
  have HW2 : Hid (W1.setCell ⟨L, fi, none⟩ .nilIface = W2) := hW2
  have HS : Hid (W1.cell? ⟨X, 9, none⟩ = some (.slice (some ⟨L, 0, none⟩) n n) ∧ W1.cell? ⟨X, 10, none⟩ = some (.int .i64 (fi : Int))) := ⟨d9, d10⟩
  have HS2 : Hid (W2.cell? ⟨X, 9, none⟩ = some (.slice (some ⟨L, 0, none⟩) n n) ∧ W2.cell? ⟨X, 10, none⟩ = some (.int .i64 (fi : Int))) := ⟨e9, e10⟩
  have HB0 : Hid (TStep X S H L K w W0) := TStep.of_below b0
  clear HE0 v1 v2 v3 u1 u2 u3 bc bc1 bc2 bl1 bx1 hx1 hx2 hl1 hW1 hW2 hcl hnx h ap b0 HT hta
  go_upto_region 5 with fail
  simp only [HW1.out]
  clear HW1 k1 z1 x12
  go_region_held_law (fun W => W.cell? ⟨X, 9, none⟩ = some (.slice (some ⟨L, 0, none⟩) n n) ∧ W.cell? ⟨X, 10, none⟩ = some (.int .i64 (fi : Int)))
    (first | exact HS.out | exact HS2.out | (rw [HW2.out]; exact HS2.out))
    (first | (fail))
  simp only [HW2.out]
  clear HW2 l1 lz d9 d10 HS HS2
  have e9' : W2.drew.cell? ⟨X, 9, none⟩ = some (.slice (some ⟨L, 0, none⟩) n n) := e9
  have e10' : W2.drew.cell? ⟨X, 10, none⟩ = some (.int .i64 (fi : Int)) := e10
  have ez' : ∀ j, W2.drew.frozen? ⟨X, j, none⟩ = false := ez
  go_wp2_with (go_at_call 116; (refine (cB _ e9').mono ?_); rintro e w5 ⟨rfl, rfl⟩)
  go_ret2
  rw [HNX.out]
  have hd := (Below.refl (W2.setCell ⟨X, 10, none⟩ (.int .i64 (nx : Int))).heap.size (W2.setCell ⟨X, 10, none⟩ (.int .i64 (nx : Int)))).drew
  exact ⟨rfl, HE.out.1.below hd, HB0.out.trans (HE.out.2.trans (TStep.of_below hd))⟩
end Go.Proofs.Ytbgdapdenbldmaa
