/-
  Part 13 of what is proved of drawn right trees.
-/
import Derived.Test.YtedhfdgcofboeaaPal
import Derived.Test.YtedhfdgcofboeaaPae

namespace Go.Proofs.Ytedhfdgcofboeaa
open Go.RowKit Go.Sort
set_option linter.unusedVariables false
def lenV15 : Value → Nat
  | .slice _ n _ => n
  | _ => 0
structure LRd (w0 : World) (C Y : Nat) (s : ByteArray) (w : World) (st : RS) (cs : Array Value) (T e : TypeId) (k : Nat) (v : Value) (n : Nat) (xs : List Value) : Prop where
  cur : UAt w C s st
  box : w.heap[Y]? = some (.cells cs T (0, 0))
  row : w.ownsRow w0.heap.size e k v n xs
  gr : w0.grownBy w (some C)
  lo : C < w0.heap.size ∧ w0.heap.size ≤ Y
theorem LRd.call {w0 w w' : World} {C Y : Nat} {s : ByteArray} {st st' : RS} {cs : Array Value} {T e : TypeId} {k n : Nat} {v : Value} {xs : List Value} (h : LRd w0 C Y s w st cs T e k v n xs) (hc : UAt w' C s st') (hg : w.grownBy w' (some C)) : LRd w0 C Y s w' st' cs T e k v n xs := by
  have hl := h.lo
  exact ⟨hc, box_grown h.box hg (by omega), row_grown h.row hg hl.1, h.gr.trans hg, hl⟩
theorem LRd.alloc {w0 w : World} {C Y : Nat} {s : ByteArray} {st : RS} {cs : Array Value} {T e : TypeId} {k n : Nat} {v : Value} {xs : List Value} (h : LRd w0 C Y s w st cs T e k v n xs) (o : Obj) : LRd w0 C Y s (w.alloc o) st cs T e k v n xs :=
  h.call (h.cur.below ((Below.refl _ _).alloc (Nat.le_refl _) o)) (grown_lo ((Below.refl _ _).alloc (Nat.le_refl _) o))
theorem LRd.add {w0 w w' : World} {C Y : Nat} {s : ByteArray} {st : RS} {cs : Array Value} {T e : TypeId} {k n n' : Nat} {v v' : Value} {xs xs' : List Value} (h : LRd w0 C Y s w st cs T e k v n xs) (hT : T ≠ e) (hg : w.grownBy w' v.ownBlock) (ho : w'.ownsRow w0.heap.size e k v' n' xs') : LRd w0 C Y s w' st cs T e k v' n' xs' := by
  have hl := h.lo
  have nY : some Y ≠ v.ownBlock := fun e1 => row_apart h.row h.box hT e1.symm
  have nC : some C ≠ v.ownBlock := fun e1 => by have := (own_type h.row e1.symm).1; omega
  refine ⟨(hg.block C h.cur.lt nC).trans h.cur, (hg.block Y (box_lt h.box) nY).trans h.box, ho, ?_, hl⟩
  refine ⟨hg.os.trans h.gr.os, hg.tape.trans h.gr.tape, hg.output.trans h.gr.output, Nat.le_trans h.gr.size hg.size, fun i hi hne => (hg.block i (Nat.lt_of_lt_of_le hi h.gr.size) (fun e1 => ?_)).trans (h.gr.block i hi hne)⟩
  have := (own_type h.row e1.symm).1
  omega
set_option maxHeartbeats 1000000 in
set_option maxRecDepth 100000 in
theorem iReadCaps (s : ByteArray) (r : RS) (C : Nat) (w : World) (hC : UAt w C s r) (hs : s.size ≤ 1048576) (hp : r.pos ≤ s.size) :
    Calls Try.prog 48 #[.agg #[.pointer (some ⟨C, 0, none⟩), .func (.func 47) #[] #[]]] w fun e w' => ∃ v, e = .returned v ∧ UAt w' C s (jList jCap s r).2 ∧ w.grownBy w' (some C) ∧ w'.ownsRow w.heap.size 73 2 v (jList jCap s r).1.length ((jList jCap s r).1.flatMap capC) := by
  obtain ⟨i1, hi1, hz10, hz11, hz12⟩ := info_in Try.infoCap13
  have hzC := hC.lt
  have hb0 : Below w.heap.size w (w.alloc (.cells #[.pointer (some ⟨C, 0, none⟩), .func (.func 47) #[] #[]] 90)) := (Below.refl _ _).alloc (Nat.le_refl _) _
  have hY0 := heap_alloc_new w (.cells #[.pointer (some ⟨C, 0, none⟩), .func (.func 47) #[] #[]] 90)
  have hu0 := hC.below hb0
  have hg0 := grown_lo (C := some C) hb0
  have L0 : LRd w C w.heap.size s (w.alloc (.cells #[.pointer (some ⟨C, 0, none⟩), .func (.func 47) #[] #[]] 90)) r #[.pointer (some ⟨C, 0, none⟩), .func (.func 47) #[] #[]] 90 73 2 (.slice none 0 0) 0 [] := ⟨hu0, hY0, World.ownsRow_nil _ _ _ _, hg0, hzC, Nat.le_refl _⟩
  obtain ⟨Y, hY⟩ : ∃ Y, w.heap.size = Y := ⟨_, rfl⟩
  have HY : Hid (w.heap.size = Y) := hY
  obtain ⟨W0, hW0⟩ : ∃ W, w.alloc (.cells #[.pointer (some ⟨C, 0, none⟩), .func (.func 47) #[] #[]] 90) = W := ⟨_, rfl⟩
  have HW0 : Hid (_ = W0) := hW0
  rw [hW0, hY] at L0
  clear hW0 hb0 hY0 hu0 hg0 hC
  have hp1 := rVar_pos s r hp
  have cB := iReadNumber s r C W0 L0.cur hs hp
  obtain ⟨x1, hx1⟩ : ∃ x, rVar s r = x := ⟨_, rfl⟩
  obtain ⟨N, r1⟩ := x1
  simp only [hx1] at cB hp1
  have HX1 : Hid (_ = _) := hx1
  obtain ⟨full, hfull⟩ : ∃ f, rMany (jCap s) N r1 = f := ⟨_, rfl⟩
  have HF : Hid (rMany (jCap s) N r1 = full) := hfull
  have HD : Hid (jList jCap s r = full) := by
    show _ = _
    unfold jList
    rw [HX1.out]
    exact HF.out
  have q0 := box_at L0.box 0 _ rfl
  have q1 := box_at L0.box 1 _ rfl
  have HS : Hid (∀ (W : World) (st : RS), UAt W C s st → st.pos ≤ s.size → Calls Try.prog 47 #[.pointer (some ⟨C, 0, none⟩)] W fun e w' => e = .returned (.agg #[.bool (jCap s st).1.reg, .int .i64 (jCap s st).1.index]) ∧ UAt w' C s (jCap s st).2 ∧ W.grownBy w' (some C)) := fun W st h h2 => iReadCap s st C W h hs h2
  have HP : Hid (r1.pos ≤ s.size ∧ N ≤ 1000000000) := ⟨hp1.1, hp1.2.2⟩
  clear hx1 hfull hp1 hY
  go_enter Try.func48, Try.ntmps48
  go_upto_region 2 with fail
  rw [HW0.out, HY.out]
  go_wp2_with (go_at_call 46; (with_reducible refine cB.mono ?_); rintro e w1 ⟨rfl, hu1, hk1⟩)
  have L1 := L0.call hu1 hk1
  clear L0 cB hu1 hk1 q0 q1
  go_loopw [3] (fun v wr => ∃ (j : Nat) (l : List PCap) (st : RS) (x : Option Addr) (c : Nat), v = .slice x j c ∧ j ≤ N ∧ l.length = j ∧ LRd w C Y s wr st #[.pointer (some ⟨C, 0, none⟩), .func (.func 47) #[] #[]] 90 73 2 (.slice x j c) j (l.flatMap capC) ∧ st.pos ≤ s.size ∧ Hid (Left (jCap s) N j l st full)) (fun v _ => N - lenV15 v)
  case atStart => exact ⟨0, [], r1, none, 0, rfl, Nat.zero_le _, rfl, L1, HP.out.1, by rw [← HF.out]; exact Left.begin _ _ _⟩
  case round =>
    clear L1
    obtain ⟨j, l, st, x, c, rfl, hj, hll, L2, ps, HL⟩ := hrel
    have HLL : Hid (l.length = j) := hll
    clear hll
    have q0 := box_at L2.box 0 _ rfl
    have q1 := box_at L2.box 1 _ rfl
    have c2 := L2.cur.c2
    obtain ⟨bd, hbd⟩ : ∃ b, st.bad = b := ⟨_, rfl⟩
    rw [hbd] at c2
    by_cases hjN : j < N
    · have hji : (j : Int) < (N : Int) := by omega
      cases bd with
      | false =>
        have HLM : Hid (Left (jCap s) N (j + 1) (l ++ [(jCap s st).1]) (jCap s st).2 full) := HL.out.more hjN hbd
        have HPN : Hid ((jCap s st).2.pos ≤ s.size) := jCap_pos s st ps
        have cB := HS.out wr st L2.cur ps
        obtain ⟨x1, hx1⟩ : ∃ x, jCap s st = x := ⟨_, rfl⟩
        obtain ⟨e1, r2⟩ := x1
        simp only [hx1] at cB HLM HPN
        have HB : Hid (Unit → j < 1000000000) := fun _ => by have := HP.out.2; omega
        have HJN : Hid (j < N) := hjN
        have HS1 : Hid (w.heap.size ≤ wr.heap.size) := L2.gr.size
        clear hx1 hbd HL hjN hj
        go_wp2_with fail
        refine cB.mono ?_
        rintro e w2 ⟨rfl, hu2, hk2⟩
        have L3 := L2.call hu2 hk2
        have hone : ∀ u ∈ (#[.bool e1.reg, .int .i64 e1.index] : Array Value).toList, u.oneCell' = true := fun u hu => by
          simp only [List.mem_cons, List.not_mem_nil, or_false] at hu
          rcases hu with rfl | rfl <;> rfl
        have hro := L3.row
        have hsz := L3.gr.size
        clear hu2 hk2 cB L2 q0 q1 c2
        go_wp2_with (at_builtin; refine append_elem rfl _ _ 42 rfl w.heap.size 73 i1 _ 2 16 Try.underlying42 hi1 hz10 hz11 hz12 rfl (by decide) (by decide) (.slice x j c) j _ rfl hro #[.bool e1.reg, .int .i64 e1.index] rfl hone rfl (HB.out ()) hsz ?_)
        intro v5 w5 o5 g5 _
        obtain ⟨vx, vc, rfl⟩ := row_slice o5
        have L5 := (L3.alloc (.cells #[.bool e1.reg, .int .i64 e1.index] 73)).add (by decide) g5 (xs' := (l ++ [e1]).flatMap capC) (by rw [List.flatMap_append]; simpa [capC] using o5)
        have HL5 : Hid (LRd _ _ _ _ _ _ _ _ _ _ _ _ _) := L5
        clear L5 L3 o5 g5 hro hsz hone
        go_wp2
        go_roundw
        case rel => exact ⟨j + 1, l ++ [e1], r2, vx, vc, rfl, HJN.out, by rw [List.length_append, HLL.out]; rfl, HL5.out, HPN.out, HLM.out⟩
        case measure =>
          have := HJN.out
          show N - (j + 1) < N - j
          omega
      | true =>
        have HE : Hid (full = (l, st)) := HL.out.done (by rw [hbd]; simp)
        have HL2 : Hid (LRd _ _ _ _ _ _ _ _ _ _ _ _ _) := L2
        clear L2 HL hbd
        go_wp2
        go_ret
        rw [HD.out, HE.out]
        exact ⟨_, rfl, HL2.out.cur, HL2.out.gr, by rw [HLL.out]; exact HL2.out.row⟩
    · have hji : decide ((j : Int) < (N : Int)) = false := decide_eq_false (by omega)
      have HE : Hid (full = (l, st)) := HL.out.done (by rw [decide_eq_false hjN]; rfl)
      have HL2 : Hid (LRd _ _ _ _ _ _ _ _ _ _ _ _ _) := L2
      clear L2 HL hbd
      go_wp2
      go_ret
      rw [HD.out, HE.out]
      exact ⟨_, rfl, HL2.out.cur, HL2.out.gr, by rw [HLL.out]; exact HL2.out.row⟩
set_option maxHeartbeats 1000000 in
set_option maxRecDepth 100000 in
theorem iReadInss (s : ByteArray) (r : RS) (C : Nat) (w : World) (hC : UAt w C s r) (hs : s.size ≤ 1048576) (hp : r.pos ≤ s.size) :
    Calls Try.prog 50 #[.agg #[.pointer (some ⟨C, 0, none⟩), .func (.func 49) #[] #[]]] w fun e w' => ∃ v, e = .returned v ∧ UAt w' C s (jList rIns s r).2 ∧ w.grownBy w' (some C) ∧ w'.ownsRow w.heap.size 75 3 v (jList rIns s r).1.length ((jList rIns s r).1.flatMap insC) := by
  obtain ⟨i1, hi1, hz10, hz11, hz12⟩ := info_in Try.infoIns13
  have hzC := hC.lt
  have hb0 : Below w.heap.size w (w.alloc (.cells #[.pointer (some ⟨C, 0, none⟩), .func (.func 49) #[] #[]] 94)) := (Below.refl _ _).alloc (Nat.le_refl _) _
  have hY0 := heap_alloc_new w (.cells #[.pointer (some ⟨C, 0, none⟩), .func (.func 49) #[] #[]] 94)
  have hu0 := hC.below hb0
  have hg0 := grown_lo (C := some C) hb0
  have L0 : LRd w C w.heap.size s (w.alloc (.cells #[.pointer (some ⟨C, 0, none⟩), .func (.func 49) #[] #[]] 94)) r #[.pointer (some ⟨C, 0, none⟩), .func (.func 49) #[] #[]] 94 75 3 (.slice none 0 0) 0 [] := ⟨hu0, hY0, World.ownsRow_nil _ _ _ _, hg0, hzC, Nat.le_refl _⟩
  obtain ⟨Y, hY⟩ : ∃ Y, w.heap.size = Y := ⟨_, rfl⟩
  have HY : Hid (w.heap.size = Y) := hY
  obtain ⟨W0, hW0⟩ : ∃ W, w.alloc (.cells #[.pointer (some ⟨C, 0, none⟩), .func (.func 49) #[] #[]] 94) = W := ⟨_, rfl⟩
  have HW0 : Hid (_ = W0) := hW0
  rw [hW0, hY] at L0
  clear hW0 hb0 hY0 hu0 hg0 hC
  have hp1 := rVar_pos s r hp
  have cB := iReadNumber s r C W0 L0.cur hs hp
  obtain ⟨x1, hx1⟩ : ∃ x, rVar s r = x := ⟨_, rfl⟩
  obtain ⟨N, r1⟩ := x1
  simp only [hx1] at cB hp1
  have HX1 : Hid (_ = _) := hx1
  obtain ⟨full, hfull⟩ : ∃ f, rMany (rIns s) N r1 = f := ⟨_, rfl⟩
  have HF : Hid (rMany (rIns s) N r1 = full) := hfull
  have HD : Hid (jList rIns s r = full) := by
    show _ = _
    unfold jList
    rw [HX1.out]
    exact HF.out
  have q0 := box_at L0.box 0 _ rfl
  have q1 := box_at L0.box 1 _ rfl
  have HS : Hid (∀ (W : World) (st : RS), UAt W C s st → st.pos ≤ s.size → Calls Try.prog 49 #[.pointer (some ⟨C, 0, none⟩)] W fun e w' => e = .returned (.agg #[.int .i64 (rIns s st).1.op, .int .i64 (rIns s st).1.a, .int .i64 (rIns s st).1.b]) ∧ UAt w' C s (rIns s st).2 ∧ W.grownBy w' (some C)) := fun W st h h2 => iReadIns s st C W h hs h2
  have HP : Hid (r1.pos ≤ s.size ∧ N ≤ 1000000000) := ⟨hp1.1, hp1.2.2⟩
  clear hx1 hfull hp1 hY
  go_enter Try.func50, Try.ntmps50
  go_upto_region 2 with fail
  rw [HW0.out, HY.out]
  go_wp2_with (go_at_call 46; (with_reducible refine cB.mono ?_); rintro e w1 ⟨rfl, hu1, hk1⟩)
  have L1 := L0.call hu1 hk1
  clear L0 cB hu1 hk1 q0 q1
  go_loopw [3] (fun v wr => ∃ (j : Nat) (l : List PIns) (st : RS) (x : Option Addr) (c : Nat), v = .slice x j c ∧ j ≤ N ∧ l.length = j ∧ LRd w C Y s wr st #[.pointer (some ⟨C, 0, none⟩), .func (.func 49) #[] #[]] 94 75 3 (.slice x j c) j (l.flatMap insC) ∧ st.pos ≤ s.size ∧ Hid (Left (rIns s) N j l st full)) (fun v _ => N - lenV15 v)
  case atStart => exact ⟨0, [], r1, none, 0, rfl, Nat.zero_le _, rfl, L1, HP.out.1, by rw [← HF.out]; exact Left.begin _ _ _⟩
  case round =>
    clear L1
    obtain ⟨j, l, st, x, c, rfl, hj, hll, L2, ps, HL⟩ := hrel
    have HLL : Hid (l.length = j) := hll
    clear hll
    have q0 := box_at L2.box 0 _ rfl
    have q1 := box_at L2.box 1 _ rfl
    have c2 := L2.cur.c2
    obtain ⟨bd, hbd⟩ : ∃ b, st.bad = b := ⟨_, rfl⟩
    rw [hbd] at c2
    by_cases hjN : j < N
    · have hji : (j : Int) < (N : Int) := by omega
      cases bd with
      | false =>
        have HLM : Hid (Left (rIns s) N (j + 1) (l ++ [(rIns s st).1]) (rIns s st).2 full) := HL.out.more hjN hbd
        have HPN : Hid ((rIns s st).2.pos ≤ s.size) := rIns_pos s st ps
        have cB := HS.out wr st L2.cur ps
        obtain ⟨x1, hx1⟩ : ∃ x, rIns s st = x := ⟨_, rfl⟩
        obtain ⟨e1, r2⟩ := x1
        simp only [hx1] at cB HLM HPN
        have HB : Hid (Unit → j < 1000000000) := fun _ => by have := HP.out.2; omega
        have HJN : Hid (j < N) := hjN
        have HS1 : Hid (w.heap.size ≤ wr.heap.size) := L2.gr.size
        clear hx1 hbd HL hjN hj
        go_wp2_with fail
        refine cB.mono ?_
        rintro e w2 ⟨rfl, hu2, hk2⟩
        have L3 := L2.call hu2 hk2
        have hone : ∀ u ∈ (#[.int .i64 e1.op, .int .i64 e1.a, .int .i64 e1.b] : Array Value).toList, u.oneCell' = true := fun u hu => by
          simp only [List.mem_cons, List.not_mem_nil, or_false] at hu
          rcases hu with rfl | rfl | rfl <;> rfl
        have hro := L3.row
        have hsz := L3.gr.size
        clear hu2 hk2 cB L2 q0 q1 c2
        go_wp2_with (at_builtin; refine append_elem rfl _ _ 43 rfl w.heap.size 75 i1 _ 3 24 Try.underlying43 hi1 hz10 hz11 hz12 rfl (by decide) (by decide) (.slice x j c) j _ rfl hro #[.int .i64 e1.op, .int .i64 e1.a, .int .i64 e1.b] rfl hone rfl (HB.out ()) hsz ?_)
        intro v5 w5 o5 g5 _
        obtain ⟨vx, vc, rfl⟩ := row_slice o5
        have L5 := (L3.alloc (.cells #[.int .i64 e1.op, .int .i64 e1.a, .int .i64 e1.b] 75)).add (by decide) g5 (xs' := (l ++ [e1]).flatMap insC) (by rw [List.flatMap_append]; simpa [insC] using o5)
        have HL5 : Hid (LRd _ _ _ _ _ _ _ _ _ _ _ _ _) := L5
        clear L5 L3 o5 g5 hro hsz hone
        go_wp2
        go_roundw
        case rel => exact ⟨j + 1, l ++ [e1], r2, vx, vc, rfl, HJN.out, by rw [List.length_append, HLL.out]; rfl, HL5.out, HPN.out, HLM.out⟩
        case measure =>
          have := HJN.out
          show N - (j + 1) < N - j
          omega
      | true =>
        have HE : Hid (full = (l, st)) := HL.out.done (by rw [hbd]; simp)
        have HL2 : Hid (LRd _ _ _ _ _ _ _ _ _ _ _ _ _) := L2
        clear L2 HL hbd
        go_wp2
        go_ret
        rw [HD.out, HE.out]
        exact ⟨_, rfl, HL2.out.cur, HL2.out.gr, by rw [HLL.out]; exact HL2.out.row⟩
    · have hji : decide ((j : Int) < (N : Int)) = false := decide_eq_false (by omega)
      have HE : Hid (full = (l, st)) := HL.out.done (by rw [decide_eq_false hjN]; rfl)
      have HL2 : Hid (LRd _ _ _ _ _ _ _ _ _ _ _ _ _) := L2
      clear L2 HL hbd
      go_wp2
      go_ret
      rw [HD.out, HE.out]
      exact ⟨_, rfl, HL2.out.cur, HL2.out.gr, by rw [HLL.out]; exact HL2.out.row⟩
set_option maxHeartbeats 1000000 in
set_option maxRecDepth 100000 in
theorem iReadHandlers (s : ByteArray) (r : RS) (C : Nat) (w : World) (hC : UAt w C s r) (hs : s.size ≤ 1048576) (hp : r.pos ≤ s.size) :
    Calls Try.prog 52 #[.agg #[.pointer (some ⟨C, 0, none⟩), .func (.func 51) #[] #[]]] w fun e w' => ∃ v, e = .returned v ∧ UAt w' C s (jList rHnd s r).2 ∧ w.grownBy w' (some C) ∧ w'.ownsRow w.heap.size 77 3 v (jList rHnd s r).1.length ((jList rHnd s r).1.flatMap hndC) := by
  obtain ⟨i1, hi1, hz10, hz11, hz12⟩ := info_in Try.infoHandler13
  have hzC := hC.lt
  have hb0 : Below w.heap.size w (w.alloc (.cells #[.pointer (some ⟨C, 0, none⟩), .func (.func 51) #[] #[]] 98)) := (Below.refl _ _).alloc (Nat.le_refl _) _
  have hY0 := heap_alloc_new w (.cells #[.pointer (some ⟨C, 0, none⟩), .func (.func 51) #[] #[]] 98)
  have hu0 := hC.below hb0
  have hg0 := grown_lo (C := some C) hb0
  have L0 : LRd w C w.heap.size s (w.alloc (.cells #[.pointer (some ⟨C, 0, none⟩), .func (.func 51) #[] #[]] 98)) r #[.pointer (some ⟨C, 0, none⟩), .func (.func 51) #[] #[]] 98 77 3 (.slice none 0 0) 0 [] := ⟨hu0, hY0, World.ownsRow_nil _ _ _ _, hg0, hzC, Nat.le_refl _⟩
  obtain ⟨Y, hY⟩ : ∃ Y, w.heap.size = Y := ⟨_, rfl⟩
  have HY : Hid (w.heap.size = Y) := hY
  obtain ⟨W0, hW0⟩ : ∃ W, w.alloc (.cells #[.pointer (some ⟨C, 0, none⟩), .func (.func 51) #[] #[]] 98) = W := ⟨_, rfl⟩
  have HW0 : Hid (_ = W0) := hW0
  rw [hW0, hY] at L0
  clear hW0 hb0 hY0 hu0 hg0 hC
  have hp1 := rVar_pos s r hp
  have cB := iReadNumber s r C W0 L0.cur hs hp
  obtain ⟨x1, hx1⟩ : ∃ x, rVar s r = x := ⟨_, rfl⟩
  obtain ⟨N, r1⟩ := x1
  simp only [hx1] at cB hp1
  have HX1 : Hid (_ = _) := hx1
  obtain ⟨full, hfull⟩ : ∃ f, rMany (rHnd s) N r1 = f := ⟨_, rfl⟩
  have HF : Hid (rMany (rHnd s) N r1 = full) := hfull
  have HD : Hid (jList rHnd s r = full) := by
    show _ = _
    unfold jList
    rw [HX1.out]
    exact HF.out
  have q0 := box_at L0.box 0 _ rfl
  have q1 := box_at L0.box 1 _ rfl
  have HS : Hid (∀ (W : World) (st : RS), UAt W C s st → st.pos ≤ s.size → Calls Try.prog 51 #[.pointer (some ⟨C, 0, none⟩)] W fun e w' => e = .returned (.agg #[.int .i64 (rHnd s st).1.lo, .int .i64 (rHnd s st).1.hi, .int .i64 (rHnd s st).1.target]) ∧ UAt w' C s (rHnd s st).2 ∧ W.grownBy w' (some C)) := fun W st h h2 => iReadHandler s st C W h hs h2
  have HP : Hid (r1.pos ≤ s.size ∧ N ≤ 1000000000) := ⟨hp1.1, hp1.2.2⟩
  clear hx1 hfull hp1 hY
  go_enter Try.func52, Try.ntmps52
  go_upto_region 2 with fail
  rw [HW0.out, HY.out]
  go_wp2_with (go_at_call 46; (with_reducible refine cB.mono ?_); rintro e w1 ⟨rfl, hu1, hk1⟩)
  have L1 := L0.call hu1 hk1
  clear L0 cB hu1 hk1 q0 q1
  go_loopw [3] (fun v wr => ∃ (j : Nat) (l : List PHnd) (st : RS) (x : Option Addr) (c : Nat), v = .slice x j c ∧ j ≤ N ∧ l.length = j ∧ LRd w C Y s wr st #[.pointer (some ⟨C, 0, none⟩), .func (.func 51) #[] #[]] 98 77 3 (.slice x j c) j (l.flatMap hndC) ∧ st.pos ≤ s.size ∧ Hid (Left (rHnd s) N j l st full)) (fun v _ => N - lenV15 v)
  case atStart => exact ⟨0, [], r1, none, 0, rfl, Nat.zero_le _, rfl, L1, HP.out.1, by rw [← HF.out]; exact Left.begin _ _ _⟩
  case round =>
    clear L1
    obtain ⟨j, l, st, x, c, rfl, hj, hll, L2, ps, HL⟩ := hrel
    have HLL : Hid (l.length = j) := hll
    clear hll
    have q0 := box_at L2.box 0 _ rfl
    have q1 := box_at L2.box 1 _ rfl
    have c2 := L2.cur.c2
    obtain ⟨bd, hbd⟩ : ∃ b, st.bad = b := ⟨_, rfl⟩
    rw [hbd] at c2
    by_cases hjN : j < N
    · have hji : (j : Int) < (N : Int) := by omega
      cases bd with
      | false =>
        have HLM : Hid (Left (rHnd s) N (j + 1) (l ++ [(rHnd s st).1]) (rHnd s st).2 full) := HL.out.more hjN hbd
        have HPN : Hid ((rHnd s st).2.pos ≤ s.size) := rHnd_pos s st ps
        have cB := HS.out wr st L2.cur ps
        obtain ⟨x1, hx1⟩ : ∃ x, rHnd s st = x := ⟨_, rfl⟩
        obtain ⟨e1, r2⟩ := x1
        simp only [hx1] at cB HLM HPN
        have HB : Hid (Unit → j < 1000000000) := fun _ => by have := HP.out.2; omega
        have HJN : Hid (j < N) := hjN
        have HS1 : Hid (w.heap.size ≤ wr.heap.size) := L2.gr.size
        clear hx1 hbd HL hjN hj
        go_wp2_with fail
        refine cB.mono ?_
        rintro e w2 ⟨rfl, hu2, hk2⟩
        have L3 := L2.call hu2 hk2
        have hone : ∀ u ∈ (#[.int .i64 e1.lo, .int .i64 e1.hi, .int .i64 e1.target] : Array Value).toList, u.oneCell' = true := fun u hu => by
          simp only [List.mem_cons, List.not_mem_nil, or_false] at hu
          rcases hu with rfl | rfl | rfl <;> rfl
        have hro := L3.row
        have hsz := L3.gr.size
        clear hu2 hk2 cB L2 q0 q1 c2
        go_wp2_with (at_builtin; refine append_elem rfl _ _ 44 rfl w.heap.size 77 i1 _ 3 24 Try.underlying44 hi1 hz10 hz11 hz12 rfl (by decide) (by decide) (.slice x j c) j _ rfl hro #[.int .i64 e1.lo, .int .i64 e1.hi, .int .i64 e1.target] rfl hone rfl (HB.out ()) hsz ?_)
        intro v5 w5 o5 g5 _
        obtain ⟨vx, vc, rfl⟩ := row_slice o5
        have L5 := (L3.alloc (.cells #[.int .i64 e1.lo, .int .i64 e1.hi, .int .i64 e1.target] 77)).add (by decide) g5 (xs' := (l ++ [e1]).flatMap hndC) (by rw [List.flatMap_append]; simpa [hndC] using o5)
        have HL5 : Hid (LRd _ _ _ _ _ _ _ _ _ _ _ _ _) := L5
        clear L5 L3 o5 g5 hro hsz hone
        go_wp2
        go_roundw
        case rel => exact ⟨j + 1, l ++ [e1], r2, vx, vc, rfl, HJN.out, by rw [List.length_append, HLL.out]; rfl, HL5.out, HPN.out, HLM.out⟩
        case measure =>
          have := HJN.out
          show N - (j + 1) < N - j
          omega
      | true =>
        have HE : Hid (full = (l, st)) := HL.out.done (by rw [hbd]; simp)
        have HL2 : Hid (LRd _ _ _ _ _ _ _ _ _ _ _ _ _) := L2
        clear L2 HL hbd
        go_wp2
        go_ret
        rw [HD.out, HE.out]
        exact ⟨_, rfl, HL2.out.cur, HL2.out.gr, by rw [HLL.out]; exact HL2.out.row⟩
    · have hji : decide ((j : Int) < (N : Int)) = false := decide_eq_false (by omega)
      have HE : Hid (full = (l, st)) := HL.out.done (by rw [decide_eq_false hjN]; rfl)
      have HL2 : Hid (LRd _ _ _ _ _ _ _ _ _ _ _ _ _) := L2
      clear L2 HL hbd
      go_wp2
      go_ret
      rw [HD.out, HE.out]
      exact ⟨_, rfl, HL2.out.cur, HL2.out.gr, by rw [HLL.out]; exact HL2.out.row⟩
set_option maxHeartbeats 1000000 in
set_option maxRecDepth 100000 in
theorem iReadConsts (s : ByteArray) (r : RS) (C : Nat) (w : World) (hC : UAt w C s r) (hs : s.size ≤ 1048576) (hp : r.pos ≤ s.size) :
    Calls Try.prog 19 #[.agg #[.pointer (some ⟨C, 0, none⟩), .func (.func 18) #[] #[]]] w fun e w' => ∃ v, e = .returned v ∧ UAt w' C s (jList jConst s r).2 ∧ w.grownBy w' (some C) ∧ w'.ownsRow w.heap.size 40 3 v (jList jConst s r).1.length ((jList jConst s r).1.flatMap conC) := by
  obtain ⟨i1, hi1, hz10, hz11, hz12⟩ := info_in Try.infoConst13
  have hzC := hC.lt
  have hb0 : Below w.heap.size w (w.alloc (.cells #[.pointer (some ⟨C, 0, none⟩), .func (.func 18) #[] #[]] 56)) := (Below.refl _ _).alloc (Nat.le_refl _) _
  have hY0 := heap_alloc_new w (.cells #[.pointer (some ⟨C, 0, none⟩), .func (.func 18) #[] #[]] 56)
  have hu0 := hC.below hb0
  have hg0 := grown_lo (C := some C) hb0
  have L0 : LRd w C w.heap.size s (w.alloc (.cells #[.pointer (some ⟨C, 0, none⟩), .func (.func 18) #[] #[]] 56)) r #[.pointer (some ⟨C, 0, none⟩), .func (.func 18) #[] #[]] 56 40 3 (.slice none 0 0) 0 [] := ⟨hu0, hY0, World.ownsRow_nil _ _ _ _, hg0, hzC, Nat.le_refl _⟩
  obtain ⟨Y, hY⟩ : ∃ Y, w.heap.size = Y := ⟨_, rfl⟩
  have HY : Hid (w.heap.size = Y) := hY
  obtain ⟨W0, hW0⟩ : ∃ W, w.alloc (.cells #[.pointer (some ⟨C, 0, none⟩), .func (.func 18) #[] #[]] 56) = W := ⟨_, rfl⟩
  have HW0 : Hid (_ = W0) := hW0
  rw [hW0, hY] at L0
  clear hW0 hb0 hY0 hu0 hg0 hC
  have hp1 := rVar_pos s r hp
  have cB := iReadNumber s r C W0 L0.cur hs hp
  obtain ⟨x1, hx1⟩ : ∃ x, rVar s r = x := ⟨_, rfl⟩
  obtain ⟨N, r1⟩ := x1
  simp only [hx1] at cB hp1
  have HX1 : Hid (_ = _) := hx1
  obtain ⟨full, hfull⟩ : ∃ f, rMany (jConst s) N r1 = f := ⟨_, rfl⟩
  have HF : Hid (rMany (jConst s) N r1 = full) := hfull
  have HD : Hid (jList jConst s r = full) := by
    show _ = _
    unfold jList
    rw [HX1.out]
    exact HF.out
  have q0 := box_at L0.box 0 _ rfl
  have q1 := box_at L0.box 1 _ rfl
  have HS : Hid (∀ (W : World) (st : RS), UAt W C s st → st.pos ≤ s.size → Calls Try.prog 18 #[.pointer (some ⟨C, 0, none⟩)] W fun e w' => e = .returned (.agg #[.int .i64 (jConst s st).1.kind, .int .u64 ((jConst s st).1.num : Int), .string (jConst s st).1.text]) ∧ UAt w' C s (jConst s st).2 ∧ W.grownBy w' (some C)) := fun W st h h2 => iReadConst s st C W h hs h2
  have HP : Hid (r1.pos ≤ s.size ∧ N ≤ 1000000000) := ⟨hp1.1, hp1.2.2⟩
  clear hx1 hfull hp1 hY
  go_enter Try.func19, Try.ntmps19
  go_upto_region 2 with fail
  rw [HW0.out, HY.out]
  go_wp2_with (go_at_call 46; (with_reducible refine cB.mono ?_); rintro e w1 ⟨rfl, hu1, hk1⟩)
  have L1 := L0.call hu1 hk1
  clear L0 cB hu1 hk1 q0 q1
  go_loopw [3] (fun v wr => ∃ (j : Nat) (l : List PCon) (st : RS) (x : Option Addr) (c : Nat), v = .slice x j c ∧ j ≤ N ∧ l.length = j ∧ LRd w C Y s wr st #[.pointer (some ⟨C, 0, none⟩), .func (.func 18) #[] #[]] 56 40 3 (.slice x j c) j (l.flatMap conC) ∧ st.pos ≤ s.size ∧ Hid (Left (jConst s) N j l st full)) (fun v _ => N - lenV15 v)
  case atStart => exact ⟨0, [], r1, none, 0, rfl, Nat.zero_le _, rfl, L1, HP.out.1, by rw [← HF.out]; exact Left.begin _ _ _⟩
  case round =>
    clear L1
    obtain ⟨j, l, st, x, c, rfl, hj, hll, L2, ps, HL⟩ := hrel
    have HLL : Hid (l.length = j) := hll
    clear hll
    have q0 := box_at L2.box 0 _ rfl
    have q1 := box_at L2.box 1 _ rfl
    have c2 := L2.cur.c2
    obtain ⟨bd, hbd⟩ : ∃ b, st.bad = b := ⟨_, rfl⟩
    rw [hbd] at c2
    by_cases hjN : j < N
    · have hji : (j : Int) < (N : Int) := by omega
      cases bd with
      | false =>
        have HLM : Hid (Left (jConst s) N (j + 1) (l ++ [(jConst s st).1]) (jConst s st).2 full) := HL.out.more hjN hbd
        have HPN : Hid ((jConst s st).2.pos ≤ s.size) := jConst_pos s st ps
        have cB := HS.out wr st L2.cur ps
        obtain ⟨x1, hx1⟩ : ∃ x, jConst s st = x := ⟨_, rfl⟩
        obtain ⟨e1, r2⟩ := x1
        simp only [hx1] at cB HLM HPN
        have HB : Hid (Unit → j < 1000000000) := fun _ => by have := HP.out.2; omega
        have HJN : Hid (j < N) := hjN
        have HS1 : Hid (w.heap.size ≤ wr.heap.size) := L2.gr.size
        clear hx1 hbd HL hjN hj
        go_wp2_with fail
        refine cB.mono ?_
        rintro e w2 ⟨rfl, hu2, hk2⟩
        have L3 := L2.call hu2 hk2
        have hone : ∀ u ∈ (#[.int .i64 e1.kind, .int .u64 (e1.num : Int), .string e1.text] : Array Value).toList, u.oneCell' = true := fun u hu => by
          simp only [List.mem_cons, List.not_mem_nil, or_false] at hu
          rcases hu with rfl | rfl | rfl <;> rfl
        have hro := L3.row
        have hsz := L3.gr.size
        clear hu2 hk2 cB L2 q0 q1 c2
        go_wp2_with (at_builtin; refine append_elem rfl _ _ 23 rfl w.heap.size 40 i1 _ 3 32 Try.underlying23 hi1 hz10 hz11 hz12 rfl (by decide) (by decide) (.slice x j c) j _ rfl hro #[.int .i64 e1.kind, .int .u64 (e1.num : Int), .string e1.text] rfl hone rfl (HB.out ()) hsz ?_)
        intro v5 w5 o5 g5 _
        obtain ⟨vx, vc, rfl⟩ := row_slice o5
        have L5 := (L3.alloc (.cells #[.int .i64 e1.kind, .int .u64 (e1.num : Int), .string e1.text] 40)).add (by decide) g5 (xs' := (l ++ [e1]).flatMap conC) (by rw [List.flatMap_append]; simpa [conC] using o5)
        have HL5 : Hid (LRd _ _ _ _ _ _ _ _ _ _ _ _ _) := L5
        clear L5 L3 o5 g5 hro hsz hone
        go_wp2
        go_roundw
        case rel => exact ⟨j + 1, l ++ [e1], r2, vx, vc, rfl, HJN.out, by rw [List.length_append, HLL.out]; rfl, HL5.out, HPN.out, HLM.out⟩
        case measure =>
          have := HJN.out
          show N - (j + 1) < N - j
          omega
      | true =>
        have HE : Hid (full = (l, st)) := HL.out.done (by rw [hbd]; simp)
        have HL2 : Hid (LRd _ _ _ _ _ _ _ _ _ _ _ _ _) := L2
        clear L2 HL hbd
        go_wp2
        go_ret
        rw [HD.out, HE.out]
        exact ⟨_, rfl, HL2.out.cur, HL2.out.gr, by rw [HLL.out]; exact HL2.out.row⟩
    · have hji : decide ((j : Int) < (N : Int)) = false := decide_eq_false (by omega)
      have HE : Hid (full = (l, st)) := HL.out.done (by rw [decide_eq_false hjN]; rfl)
      have HL2 : Hid (LRd _ _ _ _ _ _ _ _ _ _ _ _ _) := L2
      clear L2 HL hbd
      go_wp2
      go_ret
      rw [HD.out, HE.out]
      exact ⟨_, rfl, HL2.out.cur, HL2.out.gr, by rw [HLL.out]; exact HL2.out.row⟩
end Go.Proofs.Ytedhfdgcofboeaa
namespace Go.Proofs.Ytedhfdgcofboeaa
open Go.RowKit Go.Sort
set_option linter.unusedVariables false
theorem own_ge {w : World} {B k n R : Nat} {e : TypeId} {v : Value} {xs : List Value} (h : w.ownsRow B e k v n xs) (hR : R < B) : v.ownBlock ≠ some R := fun e1 => by
  have := (own_type h e1).1
  omega
theorem row_puts {w : World} {B k n R : Nat} {e : TypeId} {v a b c d f : Value} {xs : List Value} (h : w.ownsRow B e k v n xs) (hX : v.ownBlock ≠ some R) : (((((w.setCell ⟨R, 0, none⟩ a).setCell ⟨R, 1, none⟩ b).setCell ⟨R, 2, none⟩ c).setCell ⟨R, 3, none⟩ d).setCell ⟨R, 4, none⟩ f).ownsRow B e k v n xs :=
  row_put15 (row_put15 (row_put15 (row_put15 (row_put15 h hX) hX) hX) hX) hX
set_option maxHeartbeats 1000000 in
set_option maxRecDepth 100000 in
theorem iReadFunc (s : ByteArray) (r : RS) (C : Nat) (w : World) (hC : UAt w C s r) (hs : s.size ≤ 1048576) (hp : r.pos ≤ s.size) :
    Calls Try.prog 20 #[.pointer (some ⟨C, 0, none⟩)] w fun e w' => ∃ cv kv hv, e = .returned (.agg #[.int .i64 (jFunc s r).1.params, .int .i64 (jFunc s r).1.regs, cv, kv, hv]) ∧ UAt w' C s (jFunc s r).2 ∧ w.grownBy w' (some C) ∧ w'.ownsRow w.heap.size 73 2 cv (jFunc s r).1.caps.length ((jFunc s r).1.caps.flatMap capC) ∧ w'.ownsRow w.heap.size 75 3 kv (jFunc s r).1.code.length ((jFunc s r).1.code.flatMap insC) ∧ w'.ownsRow w.heap.size 77 3 hv (jFunc s r).1.hnds.length ((jFunc s r).1.hnds.flatMap hndC) := by
  have hzC := hC.lt
  have hb0 : Below w.heap.size w (w.alloc (.cells #[.int .i64 0, .int .i64 0, .slice none 0 0, .slice none 0 0, .slice none 0 0] 46)) := (Below.refl _ _).alloc (Nat.le_refl _) _
  have hR0 := heap_alloc_new w (.cells #[.int .i64 0, .int .i64 0, .slice none 0 0, .slice none 0 0, .slice none 0 0] 46)
  have hu0 := hC.below hb0
  have hg0 := grown_lo (C := some C) hb0
  obtain ⟨R, hR⟩ : ∃ R, w.heap.size = R := ⟨_, rfl⟩
  have HR : Hid (w.heap.size = R) := hR
  obtain ⟨W0, hW0⟩ : ∃ W, w.alloc (.cells #[.int .i64 0, .int .i64 0, .slice none 0 0, .slice none 0 0, .slice none 0 0] 46) = W := ⟨_, rfl⟩
  have HW0 : Hid (_ = W0) := hW0
  rw [hW0] at hR0 hu0 hg0
  rw [hR] at hR0 hzC
  clear hW0 hR hC hb0
  have hCR : C ≠ R := by omega
  have hp1 := (rVar_pos s r hp).1
  have cB := iReadNumber s r C W0 hu0 hs hp
  obtain ⟨x1, hx1⟩ : ∃ x, rVar s r = x := ⟨_, rfl⟩
  obtain ⟨n1, r1⟩ := x1
  simp only [hx1] at cB hp1
  have HX1 : Hid (_ = _) := hx1
  clear hx1
  go_enter Try.func20, Try.ntmps20
  go_upto_region 1 with fail
  rw [HW0.out, HR.out]
  go_wp2_with fail
  refine cB.mono ?_
  rintro e w1 ⟨rfl, hu1, hk1⟩
  have hR1 := box_grown hR0 hk1 (by omega)
  have hg1 := hg0.trans hk1
  clear hu0 hk1 hR0 hg0 cB
  have hp2 := (rVar_pos s r1 hp1).1
  have cB := iReadNumber s r1 C w1 hu1 hs hp1
  obtain ⟨x2, hx2⟩ : ∃ x, rVar s r1 = x := ⟨_, rfl⟩
  obtain ⟨n2, r2⟩ := x2
  simp only [hx2] at cB hp2
  have HX2 : Hid (_ = _) := hx2
  clear hx2
  go_wp2_with fail
  refine cB.mono ?_
  rintro e w2 ⟨rfl, hu2, hk2⟩
  have hR2 := box_grown hR1 hk2 (by omega)
  have hg2 := hg1.trans hk2
  clear hu1 hk2 hR1 hg1 cB
  have hp3 := list_pos s (fun r hr => jCap_pos s r hr) r2 hp2
  have cB := iReadCaps s r2 C w2 hu2 hs hp2
  obtain ⟨x3, hx3⟩ : ∃ x, jList jCap s r2 = x := ⟨_, rfl⟩
  obtain ⟨l3, r3⟩ := x3
  simp only [hx3] at cB hp3
  have HX3 : Hid (_ = _) := hx3
  clear hx3
  go_wp2_with fail
  refine cB.mono ?_
  rintro e w3 ⟨v3, rfl, hu3, hk3, ow3⟩
  have hl2 : R < w2.heap.size := box_lt hR2
  have hc2 : C < w2.heap.size := by omega
  have hne3 := own_ge ow3 hl2
  have hR3 := box_grown hR2 hk3 (by omega)
  have hg3 := hg2.trans hk3
  clear hu2 hR2 hg2 cB
  obtain ⟨s3, t3, rfl⟩ := row_slice ow3
  obtain ⟨N3, hN3⟩ : ∃ n, l3.length = n := ⟨_, rfl⟩
  have HN3 : Hid (_ = _) := hN3
  rw [hN3] at ow3 hne3 ⊢
  clear hN3
  have hp4 := list_pos s (fun r hr => rIns_pos s r hr) r3 hp3
  have cB := iReadInss s r3 C w3 hu3 hs hp3
  obtain ⟨x4, hx4⟩ : ∃ x, jList rIns s r3 = x := ⟨_, rfl⟩
  obtain ⟨l4, r4⟩ := x4
  simp only [hx4] at cB hp4
  have HX4 : Hid (_ = _) := hx4
  clear hx4
  go_wp2_with fail
  refine cB.mono ?_
  rintro e w4 ⟨v4, rfl, hu4, hk4, ow4⟩
  have hl3 : R < w3.heap.size := box_lt hR3
  have hc3 : C < w3.heap.size := by omega
  have hne4 := own_ge ow4 hl3
  have hR4 := box_grown hR3 hk4 (by omega)
  have hg4 := hg3.trans hk4
  have ow3 := row_grown ow3 hk4 hc2
  clear hu3 hR3 hg3 cB
  obtain ⟨s4, t4, rfl⟩ := row_slice ow4
  obtain ⟨N4, hN4⟩ : ∃ n, l4.length = n := ⟨_, rfl⟩
  have HN4 : Hid (_ = _) := hN4
  rw [hN4] at ow4 hne4 ⊢
  clear hN4
  have hp5 := list_pos s (fun r hr => rHnd_pos s r hr) r4 hp4
  have cB := iReadHandlers s r4 C w4 hu4 hs hp4
  obtain ⟨x5, hx5⟩ : ∃ x, jList rHnd s r4 = x := ⟨_, rfl⟩
  obtain ⟨l5, r5⟩ := x5
  simp only [hx5] at cB hp5
  have HX5 : Hid (_ = _) := hx5
  clear hx5
  go_wp2_with fail
  refine cB.mono ?_
  rintro e w5 ⟨v5, rfl, hu5, hk5, ow5⟩
  have hl4 : R < w4.heap.size := box_lt hR4
  have hc4 : C < w4.heap.size := by omega
  have hne5 := own_ge ow5 hl4
  have hR5 := box_grown hR4 hk5 (by omega)
  have hg5 := hg4.trans hk5
  have ow3 := row_grown ow3 hk5 hc2
  have ow4 := row_grown ow4 hk5 hc3
  clear hu4 hR4 hg4 cB
  obtain ⟨s5, t5, rfl⟩ := row_slice ow5
  obtain ⟨N5, hN5⟩ : ∃ n, l5.length = n := ⟨_, rfl⟩
  have HN5 : Hid (_ = _) := hN5
  rw [hN5] at ow5 hne5 ⊢
  clear hN5
  have HV : Hid (jFunc s r = (⟨n1, n2, l3, l4, l5⟩, r5)) := by
    show _ = _
    unfold jFunc
    simp only [HX1.out, HX2.out, HX3.out, HX4.out, HX5.out]
  have z0 := box_at hR5 0 _ rfl
  have y0 := frozen_of_row _ _ 0 _ _ hR5
  have z1 := box_at hR5 1 _ rfl
  have y1 := frozen_of_row _ _ 1 _ _ hR5
  have z2 := box_at hR5 2 _ rfl
  have y2 := frozen_of_row _ _ 2 _ _ hR5
  have z3 := box_at hR5 3 _ rfl
  have y3 := frozen_of_row _ _ 3 _ _ hR5
  have z4 := box_at hR5 4 _ rfl
  have y4 := frozen_of_row _ _ 4 _ _ hR5
  have HP : Hid _ := five_put (b0 := .int .i64 (n1 : Nat)) (b1 := .int .i64 (n2 : Nat)) (b2 := .slice s3 N3 t3) (b3 := .slice s4 N4 t4) (b4 := .slice s5 N5 t5) hR5
  have HU : Hid _ := uat_put (o := 4) (v := .slice s5 N5 t5) (uat_put (o := 3) (v := .slice s4 N4 t4) (uat_put (o := 2) (v := .slice s3 N3 t3) (uat_put (o := 1) (v := .int .i64 (n2 : Nat)) (uat_put (o := 0) (v := .int .i64 (n1 : Nat)) (hu5) hCR) hCR) hCR) hCR) hCR
  have HG : Hid _ := grown_put (X := R) (o := 4) (v := .slice s5 N5 t5) (grown_put (X := R) (o := 3) (v := .slice s4 N4 t4) (grown_put (X := R) (o := 2) (v := .slice s3 N3 t3) (grown_put (X := R) (o := 1) (v := .int .i64 (n2 : Nat)) (grown_put (X := R) (o := 0) (v := .int .i64 (n1 : Nat)) (hg5) (by have := HR.out; omega)) (by have := HR.out; omega)) (by have := HR.out; omega)) (by have := HR.out; omega)) (by have := HR.out; omega)
  have O3 : Hid _ := row_puts (a := .int .i64 (n1 : Nat)) (b := .int .i64 (n2 : Nat)) (c := .slice s3 N3 t3) (d := .slice s4 N4 t4) (f := .slice s5 N5 t5) ow3 hne3
  have HB3 : Hid (w.heap.size ≤ w2.heap.size) := by show _ ≤ _; have := HR.out; omega
  have O4 : Hid _ := row_puts (a := .int .i64 (n1 : Nat)) (b := .int .i64 (n2 : Nat)) (c := .slice s3 N3 t3) (d := .slice s4 N4 t4) (f := .slice s5 N5 t5) ow4 hne4
  have HB4 : Hid (w.heap.size ≤ w3.heap.size) := by show _ ≤ _; have := HR.out; omega
  have O5 : Hid _ := row_puts (a := .int .i64 (n1 : Nat)) (b := .int .i64 (n2 : Nat)) (c := .slice s3 N3 t3) (d := .slice s4 N4 t4) (f := .slice s5 N5 t5) ow5 hne5
  have HB5 : Hid (w.heap.size ≤ w4.heap.size) := by show _ ≤ _; have := HR.out; omega
  clear hu5 hg5 hR5 ow3 ow4 ow5 hne3 hne4 hne5
  go_wp2
  have e0 := box_at HP.out 0 _ rfl
  have e1 := box_at HP.out 1 _ rfl
  have e2 := box_at HP.out 2 _ rfl
  have e3 := box_at HP.out 3 _ rfl
  have e4 := box_at HP.out 4 _ rfl
  refine bodyPost_ret (v := .agg #[.int .i64 (n1 : Nat), .int .i64 (n2 : Nat), .slice s3 N3 t3, .slice s4 N4 t4, .slice s5 N5 t5]) (by simp [results, Try.results20, go_sem, e0, e1, e2, e3, e4]) rfl ?_
  rw [HV.out]
  refine ⟨_, _, _, rfl, HU.out, HG.out, ?_, ?_, ?_⟩
  · rw [HN3.out]; exact row_low O3.out HB3.out
  · rw [HN4.out]; exact row_low O4.out HB4.out
  · rw [HN5.out]; exact row_low O5.out HB5.out
end Go.Proofs.Ytedhfdgcofboeaa
