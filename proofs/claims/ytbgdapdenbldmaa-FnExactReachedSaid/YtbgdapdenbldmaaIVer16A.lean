/-
  The program's own state behind an instruction.
-/
import Derived.Test.YtbgdapdenbldmaaIVer16C
namespace Go.Proofs.Ytbgdapdenbldmaa
open Go.RowKit Go.Sort
set_option linter.unusedVariables false

set_option maxHeartbeats 2000000 in
set_option maxRecDepth 100000 in
theorem iStepped (i : PIns) (s : PSta) (v : Value) (w : World) (h : ArgI w v s.regs) (hr : s.regs.length ≤ 1000) (hin : i.op = 3 ∨ i.op = 4 → regIn s i.a = true) :
    Calls Try.prog 118 #[.agg #[.int .i64 i.op, .int .i64 i.a, .int .i64 i.b], .agg #[.int .i64 s.acc, v]] w fun e w' => ∃ v', e = .returned (.agg #[.int .i64 (aftS i s).acc, v']) ∧ OwnI w' w.heap.size v' (aftS i s).regs ∧ Below w.heap.size w w' := by
  obtain ⟨x, c, rfl, hm, _⟩ := h.opened
  obtain ⟨n, hn⟩ : ∃ n, s.regs.length = n := ⟨_, rfl⟩
  have HA : Hid (∀ W, Below w.heap.size w W → ArgFlat W (.slice x n c) 1 n (s.regs.flatMap intC)) := fun W hW => by
    have := h.below hW
    unfold ArgI at this
    rw [hn] at this
    exact this
  have HN : Hid (s.regs.length = n) := hn
  rw [hn] at hr hm ⊢
  obtain ⟨OP, eO⟩ : ∃ n, i.op = n := ⟨_, rfl⟩
  obtain ⟨IA, eA⟩ : ∃ n, i.a = n := ⟨_, rfl⟩
  obtain ⟨IB, eB⟩ : ∃ n, i.b = n := ⟨_, rfl⟩
  obtain ⟨AC, eC⟩ : ∃ n, s.acc = n := ⟨_, rfl⟩
  rw [eO, eA] at hin
  have HE : Hid (aftS i s = if givesB OP then ⟨1, s.regs⟩ else if OP = 3 then ⟨AC, s.regs.set IA.toNat 1⟩ else if OP = 4 then ⟨AC, s.regs.set IA.toNat 2⟩ else ⟨AC, s.regs⟩) := by
    show aftS i s = _
    unfold aftS
    rw [eO, eA, eC]
    repeat' split
    all_goals first | rfl | (rw [← eC])
  obtain ⟨R, eR⟩ : ∃ R, aftS i s = R := ⟨_, rfl⟩
  rw [eR] at HE
  simp only [eO, eA, eB, eC, eR]
  obtain ⟨RA, eRA⟩ : ∃ x, R.acc = x := ⟨_, rfl⟩
  obtain ⟨RR, eRR⟩ : ∃ x, R.regs = x := ⟨_, rfl⟩
  have HR : Hid (R.acc = RA ∧ R.regs = RR) := ⟨eRA, eRR⟩
  simp only [eRA, eRR]
  clear eO eA eB eC eR h hn eRA eRR
  have T := made_three w (Obj.cells #[.int .i64 OP, .int .i64 IA, .int .i64 IB] 72) (Obj.cells #[.int .i64 AC, .slice x n c] 98) (Obj.cells #[.int .i64 0, .slice none 0 0] 98)
  obtain ⟨W3, hW3⟩ : ∃ W, (((w.alloc (Obj.cells #[.int .i64 OP, .int .i64 IA, .int .i64 IB] 72)).alloc (Obj.cells #[.int .i64 AC, .slice x n c] 98)).alloc (Obj.cells #[.int .i64 0, .slice none 0 0] 98)) = W := ⟨_, rfl⟩
  rw [hW3] at T
  have HW3 : Hid (_ = W3) := hW3
  clear hW3
  obtain ⟨t0, t1, t2, tz, tb⟩ := T
  obtain ⟨G, hG⟩ : ∃ G, w.heap.size = G := ⟨_, rfl⟩
  rw [hG] at t0 t1 t2 tz
  obtain ⟨Z, hZ⟩ : ∃ Z, W3.heap.size = Z := ⟨_, rfl⟩
  have hZ3 : Z = G + 3 := by rw [← hZ, tz]
  have HZ : Hid (W3.heap.size = Z ∧ Z = G + 3) := ⟨hZ, hZ3⟩
  have HG : Hid (w.heap.size = G) := hG
  have HB3 : Hid (Below w.heap.size w W3) := tb
  have HT : Hid (W3.heap[G]? = some (.cells #[.int .i64 OP, .int .i64 IA, .int .i64 IB] 72 (0, 0)) ∧ W3.heap[G + 1]? = some (.cells #[.int .i64 AC, .slice x n c] 98 (0, 0)) ∧ W3.heap[G + 1 + 1]? = some (.cells #[.int .i64 0, .slice none 0 0] 98 (0, 0))) := ⟨t0, t1, t2⟩
  have HK : Hid (∀ W, Below W3.heap.size W3 W → W.cell? ⟨G + 1, 0, none⟩ = some (.int .i64 AC) ∧ W.cell? ⟨G + 1, 1, none⟩ = some (.slice x n c)) := fun W hW => by
    have q := (hW.block (G + 1) (by have := HZ.out; omega)).trans HT.out.2.1
    exact two_cells_of q
  clear tz hG hZ3 t0 t1 t2 tb
  go_enter Try.func118, Try.ntmps118
  go_upto_region 1 with fail
  rw [HW3.out]
  clear HW3
  simp only [HG.out]
  go_cut [5] (fun p wr => ∃ (C : Nat) (x' : Option Addr) (c' : Nat), p = .pointer (some ⟨C, 0, none⟩) ∧ Hid (AftAt w G C #[.int .i64 OP, .int .i64 IA, .int .i64 IB] #[.int .i64 AC, .slice x n c] AC (.slice x' n c') s.regs wr))
  case first =>
    have bS : ∀ {W : World} (o : Obj), Below W3.heap.size W3 W → Below W3.heap.size W3 (W.alloc o) := fun o h => h.alloc h.size o
    have bP : ∀ (X j : Nat) (u : Value) {W : World}, Below W3.heap.size W3 W → Z ≤ X → Below W3.heap.size W3 (W.setCell ⟨X, j, none⟩ u) := fun X j u W h hX => h.setCell (p := ⟨X, j, none⟩) (by show W3.heap.size ≤ X; omega) u
    have hbS : ∀ (k : Int) (a : Option Addr) (m d : Nat) (W : World), (Instr.build 98 #[(0, .int .i64 k), (1, .slice a m d)]).run Try.prog W = .ok (.agg #[.int .i64 k, .slice a m d]) W := fun k a m d W => run_build W 98 _ _ (by kernel_rfl)
    have hEnd : ∀ (C : Nat) (W : World) (y : Option Addr) (d : Nat), Below W3.heap.size W3 W → W.heap[C]? = some (.cells #[.int .i64 AC, .slice y n d] 98 (0, 0)) → OwnI W w.heap.size (.slice y n d) s.regs → Z ≤ C → Hid (AftAt w G C #[.int .i64 OP, .int .i64 IA, .int .i64 IB] #[.int .i64 AC, .slice x n c] AC (.slice y n d) s.regs W) := fun C W y d hB hC hO hZC => by
      have z := HZ.out
      have t := HT.out
      exact ⟨(hB.block _ (by omega)).trans t.1, (hB.block _ (by omega)).trans t.2.1, (hB.block _ (by omega)).trans t.2.2, hC, hO, chain HB3.out hB, by have := HG.out; omega, by omega⟩
    have hEndA : ∀ (W : World) (y : Option Addr) (d : Nat), Hid (Below W3.heap.size W3 W) → Hid (OwnI W w.heap.size (.slice y n d) s.regs) → Hid (AftAt w G W.heap.size #[.int .i64 OP, .int .i64 IA, .int .i64 IB] #[.int .i64 AC, .slice x n c] AC (.slice y n d) s.regs (W.alloc (.cells #[.int .i64 AC, .slice y n d] 98))) := fun W y d hB hO =>
      hEnd _ _ y d (bS _ hB.out) (heap_alloc_new W _) (hO.out.alloc _) (by have := hB.out.size; omega)
    have hEndB : ∀ (X : Nat) (W : World) (y : Option Addr) (d : Nat), Hid (Below W3.heap.size W3 W) → Hid (OwnI W w.heap.size (.slice y n d) s.regs) → Hid (W.heap[X]? = some (.cells #[.int .i64 0, .slice none 0 0] 98 (0, 0))) → Z ≤ X → Hid (AftAt w G X #[.int .i64 OP, .int .i64 IA, .int .i64 IB] #[.int .i64 AC, .slice x n c] AC (.slice y n d) s.regs ((W.setCell ⟨X, 0, none⟩ (.int .i64 AC)).setCell ⟨X, 1, none⟩ (.slice y n d))) := fun X W y d hB hO hX hZX => by
      have k0 := heap_setCell_same W X 0 _ _ (.int .i64 AC) hX.out
      have k1 := heap_setCell_same _ X 1 _ _ (.slice y n d) k0
      have ne := apart16 hO.out hX.out (by decide)
      exact hEnd X _ y d (bP _ _ _ (bP _ _ _ hB.out hZX) hZX) k1 (far16 (far16 hO.out ne) ne) hZX
    have cC : ∀ W, Below W3.heap.size W3 W → Calls Try.prog 136 #[.slice x n c] W fun e w' => ∃ y d, e = .returned (.slice y n d) ∧ Hid (OwnI w' w.heap.size (.slice y n d) s.regs) ∧ Hid (Below W3.heap.size W3 w') ∧ Hid (Below W.heap.size W w') := fun W hW => by
      have hA2 : ArgI W (.slice x n c) s.regs := by
        have h := HA.out W (chain HB3.out hW)
        unfold ArgI
        rw [HN.out]
        exact h
      refine (iClone s.regs (.slice x n c) W hA2 (by have := HN.out; omega)).mono ?_
      rintro e w' ⟨v', rfl, ho, hb⟩
      have ho2 : OwnI w' w.heap.size v' s.regs := row_low ho (Nat.le_trans HB3.out.size hW.size)
      obtain ⟨y, d, e2⟩ := row_slice ho2
      rw [HN.out] at e2
      subst e2
      exact ⟨y, d, rfl, ho2, chain hW hb, hb⟩
    have hU : ∀ (o : Obj) (W V : World), Hid (Below W.heap.size W V) → W.heap[Z]? = some o → Hid (V.heap[Z]? = some o) := fun o W V h k => (h.out.block Z (lt16 k)).trans k
    have q7 : ∀ (o : Obj), (W3.alloc o).heap[Z]? = some o := fun o => by
      have h := heap_alloc_new W3 o
      rw [hZ] at h
      exact h
    have q8 : ∀ (o : Obj), (W3.alloc o).drew.heap[Z]? = some o := q7
    go_region_held_law (fun W => W.cell? ⟨G + 1, 0, none⟩ = some (.int .i64 AC) ∧ W.cell? ⟨G + 1, 1, none⟩ = some (.slice x n c))
      (exact HK.out _ (by repeat (first | with_reducible exact Below.refl _ _ | with_reducible exact HB5.out | (with_reducible refine RowKit.Below.drew ?_) | (with_reducible refine bS _ ?_) | (with_reducible refine bP _ _ _ ?_ (Nat.le_refl _)))))
      (first
        | (go_at_call 136; (with_reducible refine (cC _ (by first | with_reducible exact Below.refl _ _ | with_reducible exact (Below.refl _ _).drew)).mono ?_); rintro e w5 ⟨y5, d5, rfl, HO5, HB5, HC5⟩)
        | (go_at_call 136; (with_reducible refine (cC _ (by first | with_reducible exact bS _ (Below.refl _ _) | with_reducible exact (bS _ (Below.refl _ _)).drew)).mono ?_); rintro e w5 ⟨y5, d5, rfl, HO5, HB5, HC5⟩; have U5 := hU _ _ _ HC5 (by first | with_reducible exact q7 _ | with_reducible exact q8 _); have p5 := two_cells_of U5.out; have p6 := p5.1; have p7 := p5.2; have z5 := fun j => frozen_of_row w5 Z j _ _ U5.out; clear p5))
    · have HE := hEndA _ _ _ HB5 HO5
      clear HK HA HT HZ hEnd hEndA hEndB bP bS hU q7 q8 cC HB5 HO5 HC5
      go_wp2
      go_meet
      case rel => exact ⟨_, _, _, rfl, HE⟩
    · have HE := hEndB _ _ _ _ HB5 HO5 U5 (Nat.le_refl _)
      clear HK HA HT HZ hEnd hEndA hEndB bP bS hU q7 q8 cC HB5 HO5 HC5 U5 p6 p7 z5
      go_wp2
      go_meet
      case rel => exact ⟨_, _, _, rfl, HE⟩
  case rest =>
    obtain ⟨C, x', c', rfl, HD⟩ := hcut
    have D := HD.out
    clear HK HA HT HZ HB3 hZ HD
    obtain ⟨i1, i2, i3⟩ := three_cells D.b0
    obtain ⟨r1, r2⟩ := two_cells_of D.b2
    obtain ⟨s1, s2⟩ := two_cells_of D.c
    have fR := fun j => frozen_of_row wc (G + 1 + 1) j _ _ D.b2
    have fC := fun j => frozen_of_row wc C j _ _ D.c
    have hlo := D.lo
    have hCR : C ≠ G + 1 + 1 := by omega
    -- what is handed back, out of a world whose block C holds it
    have hOut : ∀ (W : World) (ac : Int) (l : List Int), Below w.heap.size w W → W.heap[G + 1 + 1]? = some (.cells #[.int .i64 0, .slice none 0 0] 98 (0, 0)) → OwnI W w.heap.size (.slice x' n c') l → Hid (((W.setCell ⟨G + 1 + 1, 0, none⟩ (.int .i64 ac)).setCell ⟨G + 1 + 1, 1, none⟩ (.slice x' n c')).heap[G + 1 + 1]? = some (.cells #[.int .i64 ac, .slice x' n c'] 98 (0, 0)) ∧ OwnI ((W.setCell ⟨G + 1 + 1, 0, none⟩ (.int .i64 ac)).setCell ⟨G + 1 + 1, 1, none⟩ (.slice x' n c')) w.heap.size (.slice x' n c') l ∧ Below w.heap.size w ((W.setCell ⟨G + 1 + 1, 0, none⟩ (.int .i64 ac)).setCell ⟨G + 1 + 1, 1, none⟩ (.slice x' n c'))) := fun W ac l hB hR hO => by
      have k0 := heap_setCell_same W (G + 1 + 1) 0 _ _ (.int .i64 ac) hR
      have k1 := heap_setCell_same _ (G + 1 + 1) 1 _ _ (.slice x' n c') k0
      have ne := apart16 hO hR (by decide)
      have q : ∀ (W : World) (j : Nat) (u : Value), Below w.heap.size w W → Below w.heap.size w (W.setCell ⟨G + 1 + 1, j, none⟩ u) := fun W j u h => h.setCell (p := ⟨G + 1 + 1, j, none⟩) (by show _ ≤ G + 1 + 1; omega) u
      exact ⟨k1, far16 (far16 hO ne) ne, q _ _ _ (q _ _ _ hB)⟩
    by_cases hg : givesB OP = true
    · have eR : R = ⟨1, s.regs⟩ := by rw [HE.out, if_pos hg]
      have hRA : RA = 1 := by rw [← HR.out.1, eR]
      have hRR : RR = s.regs := by rw [← HR.out.2, eR]
      subst hRA hRR
      have d1 := heap_setCell_same wc C 0 _ _ (.int .i64 1) D.c
      have d2 : (wc.setCell ⟨C, 0, none⟩ (.int .i64 1)).heap[G + 1 + 1]? = some (.cells #[.int .i64 0, .slice none 0 0] 98 (0, 0)) := by
        rw [heap_setCell_other _ _ _ _ (by show G + 1 + 1 ≠ C; omega)]
        exact D.b2
      have d3 : OwnI (wc.setCell ⟨C, 0, none⟩ (.int .i64 1)) w.heap.size (.slice x' n c') s.regs := far16 D.own (apart16 D.own D.c (by decide))
      have d4 : Below w.heap.size w (wc.setCell ⟨C, 0, none⟩ (.int .i64 1)) := D.bel.setCell (p := ⟨C, 0, none⟩) (by show _ ≤ C; omega) _
      have HO := hOut _ 1 s.regs d4 d2 d3
      obtain ⟨y1, y2⟩ := two_cells_of d1
      obtain ⟨z1, z2⟩ := two_cells_of HO.out.1
      have fR2 := fun j => frozen_of_row _ (G + 1 + 1) j _ _ d2
      obtain ⟨p1, p2⟩ := two_cells_of d2
      obtain ⟨WC, hWC⟩ : ∃ W, wc.setCell ⟨C, 0, none⟩ (.int .i64 1) = W := ⟨_, rfl⟩
      rw [hWC] at y1 y2 z1 z2 fR2 HO p1 p2
      have hop : OP = 1 ∨ OP = 2 ∨ OP = 5 ∨ OP = 7 ∨ OP = 9 ∨ OP = 10 ∨ OP = 11 ∨ OP = 15 ∨ OP = 16 := by unfold givesB at hg; exact of_decide_eq_true hg
      clear d1 d2 d3 d4 D hOut hg HE HR eR hin
      rcases hop with rfl | rfl | rfl | rfl | rfl | rfl | rfl | rfl | rfl
      all_goals
        go_upto_region 17 with fail
        try simp only [hWC]
        clear hWC
        go_wp2
        refine bodyPost_ret (by simp [results, Try.results118, go_sem, z1, z2]; try rfl) rfl ?_
        exact ⟨_, rfl, HO.out.2.1, HO.out.2.2⟩
    by_cases h3 : OP = 3
    · subst h3
      have hin' := hin (by decide)
      unfold regIn inB at hin'
      rw [HN.out] at hin'
      simp only [Bool.and_eq_true, decide_eq_true_eq] at hin'
      obtain ⟨K, rfl⟩ : ∃ K : Nat, IA = (K : Int) := ⟨IA.toNat, by omega⟩
      have eR : R = ⟨AC, s.regs.set K 1⟩ := by rw [HE.out, if_neg (by decide), if_pos rfl, Int.toNat_natCast]
      have hRA : RA = AC := by rw [← HR.out.1, eR]
      have hRR : RR = s.regs.set K 1 := by rw [← HR.out.2, eR]
      subst hRA hRR
      obtain ⟨_, _, e3, _, hg3⟩ := D.own.opened
      obtain ⟨g, hx'⟩ := hg3 (by rw [HN.out]; omega)
      injection e3 with e3 e4 e5
      subst e3 hx'
      try clear e4
      try clear e5
      have hK : (K : Int) < (n : Int) := by omega
      have hK0 : (0 : Int) ≤ (K : Int) := by omega
      have hgC : g ≠ C := fun e => apart16 D.own D.c (by decide) (by show some g = some C; rw [e])
      have hgR : g ≠ G + 1 + 1 := fun e => apart16 D.own D.b2 (by decide) (by show some g = some (G + 1 + 1); rw [e])
      obtain ⟨⟨u, hu⟩, hfz⟩ := row_cell (by have h := D.own; unfold OwnI at h; rw [HN.out] at h; exact h) K (by omega)
      have hgl : w.heap.size ≤ g := by
        obtain ⟨_, ⟨h0, _⟩ | ⟨g2, _, _, h0, h1, _⟩⟩ := D.own
        · cases h0
        · injection h0 with h0 _ _
          injection h0 with h0
          injection h0 with h0
          omega
      have d1 : (wc.setCell ⟨g, K, none⟩ (.int .i64 1)).heap[C]? = some (.cells #[.int .i64 RA, .slice (some ⟨g, 0, none⟩) n c'] 98 (0, 0)) := by
        rw [heap_setCell_other _ _ _ _ (by show C ≠ g; exact hgC.symm)]
        exact D.c
      have d2 : (wc.setCell ⟨g, K, none⟩ (.int .i64 1)).heap[G + 1 + 1]? = some (.cells #[.int .i64 0, .slice none 0 0] 98 (0, 0)) := by
        rw [heap_setCell_other _ _ _ _ (by show G + 1 + 1 ≠ g; exact hgR.symm)]
        exact D.b2
      have d3 := D.own.put K 1
      have d4 : Below w.heap.size w (wc.setCell ⟨g, K, none⟩ (.int .i64 1)) := D.bel.setCell (p := ⟨g, K, none⟩) hgl _
      have HO := hOut _ RA (s.regs.set K 1) d4 d2 d3
      obtain ⟨y1, y2⟩ := two_cells_of d1
      obtain ⟨z1, z2⟩ := two_cells_of HO.out.1
      have fR2 := fun j => frozen_of_row _ (G + 1 + 1) j _ _ d2
      obtain ⟨p1, p2⟩ := two_cells_of d2
      obtain ⟨WC, hWC⟩ : ∃ W, wc.setCell ⟨g, K, none⟩ (.int .i64 1) = W := ⟨_, rfl⟩
      rw [hWC] at y1 y2 z1 z2 fR2 HO p1 p2
      obtain ⟨_, q2⟩ := three_cells (by have h := D.b0; exact h)
      clear d1 d2 d3 d4 D hOut hg HE HR eR hin hin' q2
      go_upto_region 17 with fail
      try simp only [hWC]
      clear hWC
      go_wp2
      refine bodyPost_ret (by simp [results, Try.results118, go_sem, z1, z2]; try rfl) rfl ?_
      exact ⟨_, rfl, HO.out.2.1, HO.out.2.2⟩
    by_cases h4 : OP = 4
    · subst h4
      have hin' := hin (by decide)
      unfold regIn inB at hin'
      rw [HN.out] at hin'
      simp only [Bool.and_eq_true, decide_eq_true_eq] at hin'
      obtain ⟨K, rfl⟩ : ∃ K : Nat, IA = (K : Int) := ⟨IA.toNat, by omega⟩
      have eR : R = ⟨AC, s.regs.set K 2⟩ := by rw [HE.out, if_neg (by decide), if_neg (by decide), if_pos rfl, Int.toNat_natCast]
      have hRA : RA = AC := by rw [← HR.out.1, eR]
      have hRR : RR = s.regs.set K 2 := by rw [← HR.out.2, eR]
      subst hRA hRR
      obtain ⟨_, _, e3, _, hg3⟩ := D.own.opened
      obtain ⟨g, hx'⟩ := hg3 (by rw [HN.out]; omega)
      injection e3 with e3 e4 e5
      subst e3 hx'
      try clear e4
      try clear e5
      have hK : (K : Int) < (n : Int) := by omega
      have hK0 : (0 : Int) ≤ (K : Int) := by omega
      have hgC : g ≠ C := fun e => apart16 D.own D.c (by decide) (by show some g = some C; rw [e])
      have hgR : g ≠ G + 1 + 1 := fun e => apart16 D.own D.b2 (by decide) (by show some g = some (G + 1 + 1); rw [e])
      obtain ⟨⟨u, hu⟩, hfz⟩ := row_cell (by have h := D.own; unfold OwnI at h; rw [HN.out] at h; exact h) K (by omega)
      have hgl : w.heap.size ≤ g := by
        obtain ⟨_, ⟨h0, _⟩ | ⟨g2, _, _, h0, h1, _⟩⟩ := D.own
        · cases h0
        · injection h0 with h0 _ _
          injection h0 with h0
          injection h0 with h0
          omega
      have d1 : (wc.setCell ⟨g, K, none⟩ (.int .i64 2)).heap[C]? = some (.cells #[.int .i64 RA, .slice (some ⟨g, 0, none⟩) n c'] 98 (0, 0)) := by
        rw [heap_setCell_other _ _ _ _ (by show C ≠ g; exact hgC.symm)]
        exact D.c
      have d2 : (wc.setCell ⟨g, K, none⟩ (.int .i64 2)).heap[G + 1 + 1]? = some (.cells #[.int .i64 0, .slice none 0 0] 98 (0, 0)) := by
        rw [heap_setCell_other _ _ _ _ (by show G + 1 + 1 ≠ g; exact hgR.symm)]
        exact D.b2
      have d3 := D.own.put K 2
      have d4 : Below w.heap.size w (wc.setCell ⟨g, K, none⟩ (.int .i64 2)) := D.bel.setCell (p := ⟨g, K, none⟩) hgl _
      have HO := hOut _ RA (s.regs.set K 2) d4 d2 d3
      obtain ⟨y1, y2⟩ := two_cells_of d1
      obtain ⟨z1, z2⟩ := two_cells_of HO.out.1
      have fR2 := fun j => frozen_of_row _ (G + 1 + 1) j _ _ d2
      obtain ⟨p1, p2⟩ := two_cells_of d2
      obtain ⟨WC, hWC⟩ : ∃ W, wc.setCell ⟨g, K, none⟩ (.int .i64 2) = W := ⟨_, rfl⟩
      rw [hWC] at y1 y2 z1 z2 fR2 HO p1 p2
      obtain ⟨_, q2⟩ := three_cells (by have h := D.b0; exact h)
      clear d1 d2 d3 d4 D hOut hg HE HR eR hin hin' q2
      go_upto_region 17 with fail
      try simp only [hWC]
      clear hWC
      go_wp2
      refine bodyPost_ret (by simp [results, Try.results118, go_sem, z1, z2]; try rfl) rfl ?_
      exact ⟨_, rfl, HO.out.2.1, HO.out.2.2⟩
    have eR : R = ⟨AC, s.regs⟩ := by rw [HE.out, if_neg hg, if_neg h3, if_neg h4]
    have hRA : RA = AC := by rw [← HR.out.1, eR]
    have hRR : RR = s.regs := by rw [← HR.out.2, eR]
    subst hRA hRR
    have HO := hOut _ RA s.regs D.bel D.b2 D.own
    obtain ⟨z1, z2⟩ := two_cells_of HO.out.1
    have hng : ¬ (OP = 1 ∨ OP = 2 ∨ OP = 5 ∨ OP = 7 ∨ OP = 9 ∨ OP = 10 ∨ OP = 11 ∨ OP = 15 ∨ OP = 16) := fun h => hg (by unfold givesB; exact decide_eq_true h)
    have w1 : (OP == 1) = false := by rw [beq_eq_false_iff_ne]; omega
    have w2 : (OP == 2) = false := by rw [beq_eq_false_iff_ne]; omega
    have w3 : (OP == 3) = false := by rw [beq_eq_false_iff_ne]; omega
    have w4 : (OP == 4) = false := by rw [beq_eq_false_iff_ne]; omega
    have w5 : (OP == 5) = false := by rw [beq_eq_false_iff_ne]; omega
    have w7 : (OP == 7) = false := by rw [beq_eq_false_iff_ne]; omega
    have w9 : (OP == 9) = false := by rw [beq_eq_false_iff_ne]; omega
    have w10 : (OP == 10) = false := by rw [beq_eq_false_iff_ne]; omega
    have w11 : (OP == 11) = false := by rw [beq_eq_false_iff_ne]; omega
    have w15 : (OP == 15) = false := by rw [beq_eq_false_iff_ne]; omega
    have w16 : (OP == 16) = false := by rw [beq_eq_false_iff_ne]; omega
    clear D hOut hg HE HR eR hin hng h3 h4
    go_wp2
    refine bodyPost_ret (by simp [results, Try.results118, go_sem, z1, z2]; try rfl) rfl ?_
    exact ⟨_, rfl, HO.out.2.1, HO.out.2.2⟩

end Go.Proofs.Ytbgdapdenbldmaa
