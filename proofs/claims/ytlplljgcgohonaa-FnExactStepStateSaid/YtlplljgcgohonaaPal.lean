/-
  Part 12 of what is proved of drawn right trees.
-/
import Derived.Test.YtlplljgcgohonaaPak
import Derived.Test.YtlplljgcgohonaaPad
import Derived.Test.YtlplljgcgohonaaPac
import Derived.Laws.BitsAllLaws

namespace Go.Proofs.Ytlplljgcgohonaa
open Go.RowKit Go.Sort
set_option linter.unusedVariables false
set_option maxHeartbeats 2000000 in
set_option maxRecDepth 100000 in
theorem iStepped (i : PIns) (s : PSta) (v : Value) (w : World) (h : ArgI w v s.regs) (hr : s.regs.length ≤ 1000) (hin : i.op = 3 ∨ i.op = 4 → regIn s i.a = true) :
    Calls Try.prog 65 #[.agg #[.int .i64 i.op, .int .i64 i.a, .int .i64 i.b], .agg #[.int .i64 s.acc, v]] w fun e w' => ∃ v', e = .returned (.agg #[.int .i64 (aftS i s).acc, v']) ∧ OwnI w' w.heap.size v' (aftS i s).regs ∧ Below w.heap.size w w' := by
  obtain ⟨x, c, rfl, hm, _⟩ := h.opened
  obtain ⟨n, hn⟩ : ∃ n, s.regs.length = n := ⟨_, rfl⟩
  have HA : Hid (∀ W, Below w.heap.size w W → ArgFlat W (.slice x n c) 1 n (s.regs.flatMap intC)) := fun W hW => by
    have := h.below hW
    unfold ArgI at this
    rw [hn] at this
    exact this
  have HN : Hid (s.regs.length = n) := hn
  rw [hn] at hr hm ⊢
  obtain ⟨OP, eO⟩ : ∃ n, i.op = n := ⟨_, rfl⟩
  obtain ⟨IA, eA⟩ : ∃ n, i.a = n := ⟨_, rfl⟩
  obtain ⟨IB, eB⟩ : ∃ n, i.b = n := ⟨_, rfl⟩
  obtain ⟨AC, eC⟩ : ∃ n, s.acc = n := ⟨_, rfl⟩
  rw [eO, eA] at hin
  have HE : Hid (aftS i s = if givesB OP then ⟨1, s.regs⟩ else if OP = 3 then ⟨AC, s.regs.set IA.toNat 1⟩ else if OP = 4 then ⟨AC, s.regs.set IA.toNat 2⟩ else ⟨AC, s.regs⟩) := by
    show aftS i s = _
    unfold aftS
    rw [eO, eA, eC]
    repeat' split
    all_goals first | rfl | (rw [← eC])
  obtain ⟨R, eR⟩ : ∃ R, aftS i s = R := ⟨_, rfl⟩
  rw [eR] at HE
  simp only [eO, eA, eB, eC, eR]
  obtain ⟨RA, eRA⟩ : ∃ x, R.acc = x := ⟨_, rfl⟩
  obtain ⟨RR, eRR⟩ : ∃ x, R.regs = x := ⟨_, rfl⟩
  have HR : Hid (R.acc = RA ∧ R.regs = RR) := ⟨eRA, eRR⟩
  simp only [eRA, eRR]
  clear eO eA eB eC eR h hn eRA eRR
  have T := made_three w (Obj.cells #[.int .i64 OP, .int .i64 IA, .int .i64 IB] 104) (Obj.cells #[.int .i64 AC, .slice x n c] 26) (Obj.cells #[.int .i64 0, .slice none 0 0] 26)
  obtain ⟨W3, hW3⟩ : ∃ W, (((w.alloc (Obj.cells #[.int .i64 OP, .int .i64 IA, .int .i64 IB] 104)).alloc (Obj.cells #[.int .i64 AC, .slice x n c] 26)).alloc (Obj.cells #[.int .i64 0, .slice none 0 0] 26)) = W := ⟨_, rfl⟩
  rw [hW3] at T
  have HW3 : Hid (_ = W3) := hW3
  clear hW3
  obtain ⟨t0, t1, t2, tz, tb⟩ := T
  obtain ⟨G, hG⟩ : ∃ G, w.heap.size = G := ⟨_, rfl⟩
  rw [hG] at t0 t1 t2 tz
  obtain ⟨Z, hZ⟩ : ∃ Z, W3.heap.size = Z := ⟨_, rfl⟩
  have hZ3 : Z = G + 3 := by rw [← hZ, tz]
  have HZ : Hid (W3.heap.size = Z ∧ Z = G + 3) := ⟨hZ, hZ3⟩
  have HG : Hid (w.heap.size = G) := hG
  have HB3 : Hid (Below w.heap.size w W3) := tb
  have HT : Hid (W3.heap[G]? = some (.cells #[.int .i64 OP, .int .i64 IA, .int .i64 IB] 104 (0, 0)) ∧ W3.heap[G + 1]? = some (.cells #[.int .i64 AC, .slice x n c] 26 (0, 0)) ∧ W3.heap[G + 1 + 1]? = some (.cells #[.int .i64 0, .slice none 0 0] 26 (0, 0))) := ⟨t0, t1, t2⟩
  have HK : Hid (∀ W, Below W3.heap.size W3 W → W.cell? ⟨G + 1, 0, none⟩ = some (.int .i64 AC) ∧ W.cell? ⟨G + 1, 1, none⟩ = some (.slice x n c)) := fun W hW => by
    have q := (hW.block (G + 1) (by have := HZ.out; omega)).trans HT.out.2.1
    exact two_cells_of q
  clear tz hG hZ3 t0 t1 t2 tb
  go_enter Try.func65, Try.ntmps65
  go_upto_region 1 with fail
  rw [HW3.out]
  clear HW3
  simp only [HG.out]
  go_cut [5] (fun p wr => ∃ (C : Nat) (x' : Option Addr) (c' : Nat), p = .pointer (some ⟨C, 0, none⟩) ∧ Hid (AftAt w G C #[.int .i64 OP, .int .i64 IA, .int .i64 IB] #[.int .i64 AC, .slice x n c] AC (.slice x' n c') s.regs wr))
  case first =>
    have bS : ∀ {W : World} (o : Obj), Below W3.heap.size W3 W → Below W3.heap.size W3 (W.alloc o) := fun o h => h.alloc h.size o
    have bP : ∀ (X j : Nat) (u : Value) {W : World}, Below W3.heap.size W3 W → Z ≤ X → Below W3.heap.size W3 (W.setCell ⟨X, j, none⟩ u) := fun X j u W h hX => h.setCell (p := ⟨X, j, none⟩) (by show W3.heap.size ≤ X; omega) u
    have hbS : ∀ (k : Int) (a : Option Addr) (m d : Nat) (W : World), (Instr.build 26 #[(0, .int .i64 k), (1, .slice a m d)]).run Try.prog W = .ok (.agg #[.int .i64 k, .slice a m d]) W := fun k a m d W => run_build W 26 _ _ (by kernel_rfl)
    have hEnd : ∀ (C : Nat) (W : World) (y : Option Addr) (d : Nat), Below W3.heap.size W3 W → W.heap[C]? = some (.cells #[.int .i64 AC, .slice y n d] 26 (0, 0)) → OwnI W w.heap.size (.slice y n d) s.regs → Z ≤ C → Hid (AftAt w G C #[.int .i64 OP, .int .i64 IA, .int .i64 IB] #[.int .i64 AC, .slice x n c] AC (.slice y n d) s.regs W) := fun C W y d hB hC hO hZC => by
      have z := HZ.out
      have t := HT.out
      exact ⟨(hB.block _ (by omega)).trans t.1, (hB.block _ (by omega)).trans t.2.1, (hB.block _ (by omega)).trans t.2.2, hC, hO, chain HB3.out hB, by have := HG.out; omega, by omega⟩
    have hEndA : ∀ (W : World) (y : Option Addr) (d : Nat), Hid (Below W3.heap.size W3 W) → Hid (OwnI W w.heap.size (.slice y n d) s.regs) → Hid (AftAt w G W.heap.size #[.int .i64 OP, .int .i64 IA, .int .i64 IB] #[.int .i64 AC, .slice x n c] AC (.slice y n d) s.regs (W.alloc (.cells #[.int .i64 AC, .slice y n d] 26))) := fun W y d hB hO =>
      hEnd _ _ y d (bS _ hB.out) (heap_alloc_new W _) (hO.out.alloc _) (by have := hB.out.size; omega)
    have hEndB : ∀ (X : Nat) (W : World) (y : Option Addr) (d : Nat), Hid (Below W3.heap.size W3 W) → Hid (OwnI W w.heap.size (.slice y n d) s.regs) → Hid (W.heap[X]? = some (.cells #[.int .i64 0, .slice none 0 0] 26 (0, 0))) → Z ≤ X → Hid (AftAt w G X #[.int .i64 OP, .int .i64 IA, .int .i64 IB] #[.int .i64 AC, .slice x n c] AC (.slice y n d) s.regs ((W.setCell ⟨X, 0, none⟩ (.int .i64 AC)).setCell ⟨X, 1, none⟩ (.slice y n d))) := fun X W y d hB hO hX hZX => by
      have k0 := heap_setCell_same W X 0 _ _ (.int .i64 AC) hX.out
      have k1 := heap_setCell_same _ X 1 _ _ (.slice y n d) k0
      have ne := apart16 hO.out hX.out (by decide)
      exact hEnd X _ y d (bP _ _ _ (bP _ _ _ hB.out hZX) hZX) k1 (far16 (far16 hO.out ne) ne) hZX
    have cC : ∀ W, Below W3.heap.size W3 W → Calls Try.prog 124 #[.slice x n c] W fun e w' => ∃ y d, e = .returned (.slice y n d) ∧ Hid (OwnI w' w.heap.size (.slice y n d) s.regs) ∧ Hid (Below W3.heap.size W3 w') ∧ Hid (Below W.heap.size W w') := fun W hW => by
      have hA2 : ArgI W (.slice x n c) s.regs := by
        have h := HA.out W (chain HB3.out hW)
        unfold ArgI
        rw [HN.out]
        exact h
      refine (iClone s.regs (.slice x n c) W hA2 (by have := HN.out; omega)).mono ?_
      rintro e w' ⟨v', rfl, ho, hb⟩
      have ho2 : OwnI w' w.heap.size v' s.regs := row_low ho (Nat.le_trans HB3.out.size hW.size)
      obtain ⟨y, d, e2⟩ := row_slice ho2
      rw [HN.out] at e2
      subst e2
      exact ⟨y, d, rfl, ho2, chain hW hb, hb⟩
    have hU : ∀ (o : Obj) (W V : World), Hid (Below W.heap.size W V) → W.heap[Z]? = some o → Hid (V.heap[Z]? = some o) := fun o W V h k => (h.out.block Z (lt16 k)).trans k
    have q7 : ∀ (o : Obj), (W3.alloc o).heap[Z]? = some o := fun o => by
      have h := heap_alloc_new W3 o
      rw [hZ] at h
      exact h
    have q8 : ∀ (o : Obj), (W3.alloc o).drew.heap[Z]? = some o := q7
    go_region_held_law (fun W => W.cell? ⟨G + 1, 0, none⟩ = some (.int .i64 AC) ∧ W.cell? ⟨G + 1, 1, none⟩ = some (.slice x n c))
      (exact HK.out _ (by repeat (first | with_reducible exact Below.refl _ _ | with_reducible exact HB5.out | (with_reducible refine RowKit.Below.drew ?_) | (with_reducible refine bS _ ?_) | (with_reducible refine bP _ _ _ ?_ (Nat.le_refl _)))))
      (first
        | (go_at_call 124; (with_reducible refine (cC _ (by first | with_reducible exact Below.refl _ _ | with_reducible exact (Below.refl _ _).drew)).mono ?_); rintro e w5 ⟨y5, d5, rfl, HO5, HB5, HC5⟩)
        | (go_at_call 124; (with_reducible refine (cC _ (by first | with_reducible exact bS _ (Below.refl _ _) | with_reducible exact (bS _ (Below.refl _ _)).drew)).mono ?_); rintro e w5 ⟨y5, d5, rfl, HO5, HB5, HC5⟩; have U5 := hU _ _ _ HC5 (by first | with_reducible exact q7 _ | with_reducible exact q8 _); have p5 := two_cells_of U5.out; have p6 := p5.1; have p7 := p5.2; have z5 := fun j => frozen_of_row w5 Z j _ _ U5.out; clear p5))
    · have HE := hEndA _ _ _ HB5 HO5
      clear HK HA HT HZ hEnd hEndA hEndB bP bS hU q7 q8 cC HB5 HO5 HC5
      go_wp2
      go_meet
      case rel => exact ⟨_, _, _, rfl, HE⟩
    · have HE := hEndB _ _ _ _ HB5 HO5 U5 (Nat.le_refl _)
      clear HK HA HT HZ hEnd hEndA hEndB bP bS hU q7 q8 cC HB5 HO5 HC5 U5 p6 p7 z5
      go_wp2
      go_meet
      case rel => exact ⟨_, _, _, rfl, HE⟩
  case rest =>
    obtain ⟨C, x', c', rfl, HD⟩ := hcut
    have D := HD.out
    clear HK HA HT HZ HB3 hZ HD
    obtain ⟨i1, i2, i3⟩ := three_cells D.b0
    obtain ⟨r1, r2⟩ := two_cells_of D.b2
    obtain ⟨s1, s2⟩ := two_cells_of D.c
    have fR := fun j => frozen_of_row wc (G + 1 + 1) j _ _ D.b2
    have fC := fun j => frozen_of_row wc C j _ _ D.c
    have hlo := D.lo
    have hCR : C ≠ G + 1 + 1 := by omega
    have hOut : ∀ (W : World) (ac : Int) (l : List Int), Below w.heap.size w W → W.heap[G + 1 + 1]? = some (.cells #[.int .i64 0, .slice none 0 0] 26 (0, 0)) → OwnI W w.heap.size (.slice x' n c') l → Hid (((W.setCell ⟨G + 1 + 1, 0, none⟩ (.int .i64 ac)).setCell ⟨G + 1 + 1, 1, none⟩ (.slice x' n c')).heap[G + 1 + 1]? = some (.cells #[.int .i64 ac, .slice x' n c'] 26 (0, 0)) ∧ OwnI ((W.setCell ⟨G + 1 + 1, 0, none⟩ (.int .i64 ac)).setCell ⟨G + 1 + 1, 1, none⟩ (.slice x' n c')) w.heap.size (.slice x' n c') l ∧ Below w.heap.size w ((W.setCell ⟨G + 1 + 1, 0, none⟩ (.int .i64 ac)).setCell ⟨G + 1 + 1, 1, none⟩ (.slice x' n c'))) := fun W ac l hB hR hO => by
      have k0 := heap_setCell_same W (G + 1 + 1) 0 _ _ (.int .i64 ac) hR
      have k1 := heap_setCell_same _ (G + 1 + 1) 1 _ _ (.slice x' n c') k0
      have ne := apart16 hO hR (by decide)
      have q : ∀ (W : World) (j : Nat) (u : Value), Below w.heap.size w W → Below w.heap.size w (W.setCell ⟨G + 1 + 1, j, none⟩ u) := fun W j u h => h.setCell (p := ⟨G + 1 + 1, j, none⟩) (by show _ ≤ G + 1 + 1; omega) u
      exact ⟨k1, far16 (far16 hO ne) ne, q _ _ _ (q _ _ _ hB)⟩
    by_cases hg : givesB OP = true
    · have eR : R = ⟨1, s.regs⟩ := by rw [HE.out, if_pos hg]
      have hRA : RA = 1 := by rw [← HR.out.1, eR]
      have hRR : RR = s.regs := by rw [← HR.out.2, eR]
      subst hRA hRR
      have d1 := heap_setCell_same wc C 0 _ _ (.int .i64 1) D.c
      have d2 : (wc.setCell ⟨C, 0, none⟩ (.int .i64 1)).heap[G + 1 + 1]? = some (.cells #[.int .i64 0, .slice none 0 0] 26 (0, 0)) := by
        rw [heap_setCell_other _ _ _ _ (by show G + 1 + 1 ≠ C; omega)]
        exact D.b2
      have d3 : OwnI (wc.setCell ⟨C, 0, none⟩ (.int .i64 1)) w.heap.size (.slice x' n c') s.regs := far16 D.own (apart16 D.own D.c (by decide))
      have d4 : Below w.heap.size w (wc.setCell ⟨C, 0, none⟩ (.int .i64 1)) := D.bel.setCell (p := ⟨C, 0, none⟩) (by show _ ≤ C; omega) _
      have HO := hOut _ 1 s.regs d4 d2 d3
      obtain ⟨y1, y2⟩ := two_cells_of d1
      obtain ⟨z1, z2⟩ := two_cells_of HO.out.1
      have fR2 := fun j => frozen_of_row _ (G + 1 + 1) j _ _ d2
      obtain ⟨p1, p2⟩ := two_cells_of d2
      obtain ⟨WC, hWC⟩ : ∃ W, wc.setCell ⟨C, 0, none⟩ (.int .i64 1) = W := ⟨_, rfl⟩
      rw [hWC] at y1 y2 z1 z2 fR2 HO p1 p2
      have hop : OP = 1 ∨ OP = 2 ∨ OP = 5 ∨ OP = 7 ∨ OP = 9 ∨ OP = 10 ∨ OP = 11 ∨ OP = 15 ∨ OP = 16 := by unfold givesB at hg; exact of_decide_eq_true hg
      clear d1 d2 d3 d4 D hOut hg HE HR eR hin
      rcases hop with rfl | rfl | rfl | rfl | rfl | rfl | rfl | rfl | rfl
      all_goals
        go_upto_region 17 with fail
        try simp only [hWC]
        clear hWC
        go_wp2
        refine bodyPost_ret (by simp [results, Try.results65, go_sem, z1, z2]; try rfl) rfl ?_
        exact ⟨_, rfl, HO.out.2.1, HO.out.2.2⟩
    by_cases h3 : OP = 3
    · subst h3
      have hin' := hin (by decide)
      unfold regIn inB at hin'
      rw [HN.out] at hin'
      simp only [Bool.and_eq_true, decide_eq_true_eq] at hin'
      obtain ⟨K, rfl⟩ : ∃ K : Nat, IA = (K : Int) := ⟨IA.toNat, by omega⟩
      have eR : R = ⟨AC, s.regs.set K 1⟩ := by rw [HE.out, if_neg (by decide), if_pos rfl, Int.toNat_natCast]
      have hRA : RA = AC := by rw [← HR.out.1, eR]
      have hRR : RR = s.regs.set K 1 := by rw [← HR.out.2, eR]
      subst hRA hRR
      obtain ⟨_, _, e3, _, hg3⟩ := D.own.opened
      obtain ⟨g, hx'⟩ := hg3 (by rw [HN.out]; omega)
      injection e3 with e3 e4 e5
      subst e3 hx'
      try clear e4
      try clear e5
      have hK : (K : Int) < (n : Int) := by omega
      have hK0 : (0 : Int) ≤ (K : Int) := by omega
      have hgC : g ≠ C := fun e => apart16 D.own D.c (by decide) (by show some g = some C; rw [e])
      have hgR : g ≠ G + 1 + 1 := fun e => apart16 D.own D.b2 (by decide) (by show some g = some (G + 1 + 1); rw [e])
      obtain ⟨⟨u, hu⟩, hfz⟩ := row_cell (by have h := D.own; unfold OwnI at h; rw [HN.out] at h; exact h) K (by omega)
      have hgl : w.heap.size ≤ g := by
        obtain ⟨_, ⟨h0, _⟩ | ⟨g2, _, _, h0, h1, _⟩⟩ := D.own
        · cases h0
        · injection h0 with h0 _ _
          injection h0 with h0
          injection h0 with h0
          omega
      have d1 : (wc.setCell ⟨g, K, none⟩ (.int .i64 1)).heap[C]? = some (.cells #[.int .i64 RA, .slice (some ⟨g, 0, none⟩) n c'] 26 (0, 0)) := by
        rw [heap_setCell_other _ _ _ _ (by show C ≠ g; exact hgC.symm)]
        exact D.c
      have d2 : (wc.setCell ⟨g, K, none⟩ (.int .i64 1)).heap[G + 1 + 1]? = some (.cells #[.int .i64 0, .slice none 0 0] 26 (0, 0)) := by
        rw [heap_setCell_other _ _ _ _ (by show G + 1 + 1 ≠ g; exact hgR.symm)]
        exact D.b2
      have d3 := D.own.put K 1
      have d4 : Below w.heap.size w (wc.setCell ⟨g, K, none⟩ (.int .i64 1)) := D.bel.setCell (p := ⟨g, K, none⟩) hgl _
      have HO := hOut _ RA (s.regs.set K 1) d4 d2 d3
      obtain ⟨y1, y2⟩ := two_cells_of d1
      obtain ⟨z1, z2⟩ := two_cells_of HO.out.1
      have fR2 := fun j => frozen_of_row _ (G + 1 + 1) j _ _ d2
      obtain ⟨p1, p2⟩ := two_cells_of d2
      obtain ⟨WC, hWC⟩ : ∃ W, wc.setCell ⟨g, K, none⟩ (.int .i64 1) = W := ⟨_, rfl⟩
      rw [hWC] at y1 y2 z1 z2 fR2 HO p1 p2
      obtain ⟨_, q2⟩ := three_cells (by have h := D.b0; exact h)
      clear d1 d2 d3 d4 D hOut hg HE HR eR hin hin' q2
      go_upto_region 17 with fail
      try simp only [hWC]
      clear hWC
      go_wp2
      refine bodyPost_ret (by simp [results, Try.results65, go_sem, z1, z2]; try rfl) rfl ?_
      exact ⟨_, rfl, HO.out.2.1, HO.out.2.2⟩
    by_cases h4 : OP = 4
    · subst h4
      have hin' := hin (by decide)
      unfold regIn inB at hin'
      rw [HN.out] at hin'
      simp only [Bool.and_eq_true, decide_eq_true_eq] at hin'
      obtain ⟨K, rfl⟩ : ∃ K : Nat, IA = (K : Int) := ⟨IA.toNat, by omega⟩
      have eR : R = ⟨AC, s.regs.set K 2⟩ := by rw [HE.out, if_neg (by decide), if_neg (by decide), if_pos rfl, Int.toNat_natCast]
      have hRA : RA = AC := by rw [← HR.out.1, eR]
      have hRR : RR = s.regs.set K 2 := by rw [← HR.out.2, eR]
      subst hRA hRR
      obtain ⟨_, _, e3, _, hg3⟩ := D.own.opened
      obtain ⟨g, hx'⟩ := hg3 (by rw [HN.out]; omega)
      injection e3 with e3 e4 e5
      subst e3 hx'
      try clear e4
      try clear e5
      have hK : (K : Int) < (n : Int) := by omega
      have hK0 : (0 : Int) ≤ (K : Int) := by omega
      have hgC : g ≠ C := fun e => apart16 D.own D.c (by decide) (by show some g = some C; rw [e])
      have hgR : g ≠ G + 1 + 1 := fun e => apart16 D.own D.b2 (by decide) (by show some g = some (G + 1 + 1); rw [e])
      obtain ⟨⟨u, hu⟩, hfz⟩ := row_cell (by have h := D.own; unfold OwnI at h; rw [HN.out] at h; exact h) K (by omega)
      have hgl : w.heap.size ≤ g := by
        obtain ⟨_, ⟨h0, _⟩ | ⟨g2, _, _, h0, h1, _⟩⟩ := D.own
        · cases h0
        · injection h0 with h0 _ _
          injection h0 with h0
          injection h0 with h0
          omega
      have d1 : (wc.setCell ⟨g, K, none⟩ (.int .i64 2)).heap[C]? = some (.cells #[.int .i64 RA, .slice (some ⟨g, 0, none⟩) n c'] 26 (0, 0)) := by
        rw [heap_setCell_other _ _ _ _ (by show C ≠ g; exact hgC.symm)]
        exact D.c
      have d2 : (wc.setCell ⟨g, K, none⟩ (.int .i64 2)).heap[G + 1 + 1]? = some (.cells #[.int .i64 0, .slice none 0 0] 26 (0, 0)) := by
        rw [heap_setCell_other _ _ _ _ (by show G + 1 + 1 ≠ g; exact hgR.symm)]
        exact D.b2
      have d3 := D.own.put K 2
      have d4 : Below w.heap.size w (wc.setCell ⟨g, K, none⟩ (.int .i64 2)) := D.bel.setCell (p := ⟨g, K, none⟩) hgl _
      have HO := hOut _ RA (s.regs.set K 2) d4 d2 d3
      obtain ⟨y1, y2⟩ := two_cells_of d1
      obtain ⟨z1, z2⟩ := two_cells_of HO.out.1
      have fR2 := fun j => frozen_of_row _ (G + 1 + 1) j _ _ d2
      obtain ⟨p1, p2⟩ := two_cells_of d2
      obtain ⟨WC, hWC⟩ : ∃ W, wc.setCell ⟨g, K, none⟩ (.int .i64 2) = W := ⟨_, rfl⟩
      rw [hWC] at y1 y2 z1 z2 fR2 HO p1 p2
      obtain ⟨_, q2⟩ := three_cells (by have h := D.b0; exact h)
      clear d1 d2 d3 d4 D hOut hg HE HR eR hin hin' q2
      go_upto_region 17 with fail
      try simp only [hWC]
      clear hWC
      go_wp2
      refine bodyPost_ret (by simp [results, Try.results65, go_sem, z1, z2]; try rfl) rfl ?_
      exact ⟨_, rfl, HO.out.2.1, HO.out.2.2⟩
    have eR : R = ⟨AC, s.regs⟩ := by rw [HE.out, if_neg hg, if_neg h3, if_neg h4]
    have hRA : RA = AC := by rw [← HR.out.1, eR]
    have hRR : RR = s.regs := by rw [← HR.out.2, eR]
    subst hRA hRR
    have HO := hOut _ RA s.regs D.bel D.b2 D.own
    obtain ⟨z1, z2⟩ := two_cells_of HO.out.1
    have hng : ¬ (OP = 1 ∨ OP = 2 ∨ OP = 5 ∨ OP = 7 ∨ OP = 9 ∨ OP = 10 ∨ OP = 11 ∨ OP = 15 ∨ OP = 16) := fun h => hg (by unfold givesB; exact decide_eq_true h)
    have w1 : (OP == 1) = false := by rw [beq_eq_false_iff_ne]; omega
    have w2 : (OP == 2) = false := by rw [beq_eq_false_iff_ne]; omega
    have w3 : (OP == 3) = false := by rw [beq_eq_false_iff_ne]; omega
    have w4 : (OP == 4) = false := by rw [beq_eq_false_iff_ne]; omega
    have w5 : (OP == 5) = false := by rw [beq_eq_false_iff_ne]; omega
    have w7 : (OP == 7) = false := by rw [beq_eq_false_iff_ne]; omega
    have w9 : (OP == 9) = false := by rw [beq_eq_false_iff_ne]; omega
    have w10 : (OP == 10) = false := by rw [beq_eq_false_iff_ne]; omega
    have w11 : (OP == 11) = false := by rw [beq_eq_false_iff_ne]; omega
    have w15 : (OP == 15) = false := by rw [beq_eq_false_iff_ne]; omega
    have w16 : (OP == 16) = false := by rw [beq_eq_false_iff_ne]; omega
    clear D hOut hg HE HR eR hin hng h3 h4
    go_wp2
    refine bodyPost_ret (by simp [results, Try.results65, go_sem, z1, z2]; try rfl) rfl ?_
    exact ⟨_, rfl, HO.out.2.1, HO.out.2.2⟩
end Go.Proofs.Ytlplljgcgohonaa
namespace Go.Proofs.Ytlplljgcgohonaa
open Go.RowKit Go.Sort
set_option linter.unusedVariables false
set_option maxHeartbeats 1000000 in
set_option maxRecDepth 100000 in
theorem iHolds (s : PSta) (v : Value) (r want : Int) (w : World) (h : ArgI w v s.regs) (h0 : 0 ≤ r) :
    Calls Try.prog 121 #[.agg #[.int .i64 s.acc, v], .int .i64 r, .int .i64 want] w fun e w' => e = .returned (.bool (regIs s r want)) ∧ Below w.heap.size w w' := by
  obtain ⟨x, c, rfl, hm, hc⟩ := h.opened
  clear h
  unfold maxLen at hm
  have HF0 : regIs s r want = (inB r 0 ((s.regs.length : Int) - 1) && decide (s.regs[r.toNat]? = some want)) := rfl
  obtain ⟨F, hF⟩ : ∃ F, regIs s r want = F := ⟨_, rfl⟩
  rw [hF] at HF0 ⊢
  obtain ⟨n, hn⟩ : ∃ n, s.regs.length = n := ⟨_, rfl⟩
  rw [hn] at hm hc HF0 ⊢
  have HN : Hid (s.regs.length = n) := hn
  clear hn hF
  have b0 : Below w.heap.size w (w.alloc (.cells #[.int .i64 s.acc, .slice x n c] 26)) := (Below.refl _ _).alloc (Nat.le_refl _) _
  have HF : Hid (F = (inB r 0 ((n : Int) - 1) && decide (s.regs[r.toNat]? = some want))) := HF0
  clear HF0
  obtain ⟨K, rfl⟩ : ∃ K : Nat, r = (K : Int) := ⟨r.toNat, by omega⟩
  by_cases hk : K < n
  case neg =>
    have hF : F = false := by
      rw [HF.out]
      have : inB (K : Int) 0 ((n : Int) - 1) = false := by
        unfold inB
        rw [decide_eq_false (p := (K : Int) ≤ (n : Int) - 1) (by omega), Bool.and_false]
      rw [this]; rfl
    subst hF
    have hk1 : ¬ (K : Int) < (n : Int) := by omega
    clear HF hc HN
    go_enter Try.func121, Try.ntmps121
    go_wp2
    go_ret
    exact ⟨rfl, b0⟩
  case pos =>
    obtain ⟨b, o, rfl, hb, hcell⟩ := hc (by omega)
    obtain ⟨z, hz⟩ : ∃ z, s.regs[K]? = some z := ⟨_, List.getElem?_eq_getElem (by have := HN.out; omega)⟩
    have g1 : (w.alloc (.cells #[.int .i64 s.acc, .slice (some ⟨b, o, none⟩) n c] 26)).cell? ⟨b, o + K, none⟩ = some (.int .i64 z) := (b0.cell hb).trans (hcell K z hz)
    have hk1 : (K : Int) < (n : Int) := by omega
    have hk0 : (0 : Int) ≤ (K : Int) := by omega
    have hF : F = decide (z = want) := by
      have : inB (K : Int) 0 ((n : Int) - 1) = true := by
        unfold inB
        rw [decide_eq_true (p := (K : Int) ≤ (n : Int) - 1) (by omega), decide_eq_true (p := (0 : Int) ≤ (K : Int)) (by omega)]
        rfl
      rw [HF.out, this, Int.toNat_natCast, hz, Bool.true_and]
      simp
    clear HF HN hcell hz hc
    obtain ⟨W0, hW0⟩ : ∃ W, w.alloc (.cells #[.int .i64 s.acc, .slice (some ⟨b, o, none⟩) n c] 26) = W := ⟨_, rfl⟩
    have g2 : W0.cell? ⟨w.heap.size, 1, none⟩ = some (.slice (some ⟨b, o, none⟩) n c) := by
      rw [← hW0, cell_of_row _ _ 1 _ _ _ (heap_alloc_new w _)]
      rfl
    rw [hW0] at g1 b0
    have HW0 : Hid (w.alloc (.cells #[.int .i64 s.acc, .slice (some ⟨b, o, none⟩) n c] 26) = W0) := hW0
    clear hW0
    by_cases e : z = want
    · subst e
      have hF' : F = true := by rw [hF]; simp
      subst hF'
      clear hF
      go_enter Try.func121, Try.ntmps121
      go_upto_region 1 with fail
      rw [HW0.out]
      clear HW0
      go_wp2
      go_ret
      exact ⟨rfl, b0⟩
    · have hF' : F = false := by rw [hF]; exact decide_eq_false e
      subst hF'
      have hne : (z == want) = false := by rw [beq_eq_false_iff_ne]; exact e
      clear hF
      go_enter Try.func121, Try.ntmps121
      go_upto_region 1 with fail
      rw [HW0.out]
      clear HW0
      go_wp2
      go_ret
      exact ⟨rfl, b0⟩
set_option maxHeartbeats 1000000 in
set_option maxRecDepth 100000 in
theorem iHoldValues (s : PSta) (v : Value) (a b : Int) (w : World) (h : ArgI w v s.regs) (h0 : 0 ≤ a) (h1 : 0 ≤ b) (h2 : a ≤ 300) (h3 : b ≤ 300) :
    Calls Try.prog 123 #[.agg #[.int .i64 s.acc, v], .int .i64 a, .int .i64 (a + b)] w fun e w' => e = .returned (.bool ((List.range (b + 1).toNat).all fun (k : Nat) => regIs s (a + k) 1)) ∧ Below w.heap.size w w' := by
  obtain ⟨x, c, rfl, hm, hc⟩ := h.opened
  obtain ⟨n, hn⟩ : ∃ n, s.regs.length = n := ⟨_, rfl⟩
  rw [hn] at hm h ⊢
  have HI : Hid (ArgI w (.slice x n c) s.regs) := h
  clear hn hm hc h
  obtain ⟨F, hF⟩ : ∃ F, ((List.range (b + 1).toNat).all fun (k : Nat) => regIs s (a + k) 1) = F := ⟨_, rfl⟩
  rw [hF]
  have HF : Hid (((List.range (b + 1).toNat).all fun (k : Nat) => regIs s (a + k) 1) = F) := hF
  clear hF
  obtain ⟨Q, hQ⟩ : ∃ q, a + b = q := ⟨_, rfl⟩
  rw [hQ]
  have HQ : Hid (a + b = Q) := hQ
  have hQ3 : Q ≤ 600 := by omega
  clear hQ
  have b0 : Below w.heap.size w (w.alloc (.cells #[.int .i64 s.acc, .slice x n c] 26)) := (Below.refl _ _).alloc (Nat.le_refl _) _
  have hG : (w.alloc (.cells #[.int .i64 s.acc, .slice x n c] 26)).heap[w.heap.size]? = some (.cells #[.int .i64 s.acc, .slice x n c] 26 (0, 0)) := heap_alloc_new w _
  obtain ⟨W0, hW0⟩ : ∃ W, w.alloc (.cells #[.int .i64 s.acc, .slice x n c] 26) = W := ⟨_, rfl⟩
  rw [hW0] at b0 hG
  have hlt : w.heap.size < W0.heap.size := by rw [← hW0]; simp
  have HW0 : Hid (_ = W0) := hW0
  clear hW0
  go_enter Try.func123, Try.ntmps123
  go_upto_region 1 with fail
  rw [HW0.out]
  clear HW0
  go_wp2
  go_loopw [7] (fun i wr => ∃ k : Nat, i = .int .i64 (a + k) ∧ (k : Int) ≤ b + 1 ∧ Hid (∀ j, j < k → regIs s (a + (j : Int)) 1 = true) ∧ Below W0.heap.size W0 wr) (fun i _ => (Q + 1 - intOf i).toNat)
  case atStart => exact ⟨0, by simp, by omega, fun j hj => absurd hj (Nat.not_lt_zero _), Below.refl _ _⟩
  case round =>
    obtain ⟨k, rfl, hk, HA, hb⟩ := hrel
    obtain ⟨p0, p1⟩ := two_cells_of ((hb.block _ hlt).trans hG)
    obtain ⟨R, hR⟩ : ∃ r, a + (k : Int) = r := ⟨_, rfl⟩
    have HR : Hid (a + (k : Int) = R) := hR
    have hR0 : 0 ≤ R := by omega
    have hR1 : R ≤ 700 := by have := HQ.out; omega
    have cH := iHolds s (.slice x n c) R 1 wr (HI.out.below (chain b0 hb)) hR0
    obtain ⟨B, eB⟩ : ∃ B, regIs s R 1 = B := ⟨_, rfl⟩
    rw [eB] at cH
    have HBB : Hid (regIs s R 1 = B) := eB
    rw [hR]
    clear hR eB
    by_cases hlt2 : R ≤ Q
    · cases B with
      | true =>
        go_wp2_with (go_at_call 121; (with_reducible refine cH.mono ?_); rintro e w5 ⟨rfl, hb5⟩)
        go_roundw
        case rel =>
          refine ⟨k + 1, ?_, ?_, fun j hj => ?_, chain hb hb5⟩
          · rw [← HR.out]
            go_num
          · have := HR.out; have := HQ.out; omega
          · rcases Nat.lt_or_ge j k with h' | h'
            · exact HA.out j h'
            · have e : j = k := by omega
              subst e
              rw [HR.out]; exact HBB.out
        case measure => simp [intOf]; omega
      | false =>
        have hF : F = false := by
          rw [← HF.out, List.all_eq_false]
          exact ⟨k, List.mem_range.2 (by have := HR.out; have := HQ.out; omega), by rw [HR.out, HBB.out]; simp⟩
        subst hF
        go_wp2_with (go_at_call 121; (with_reducible refine cH.mono ?_); rintro e w5 ⟨rfl, hb5⟩)
        go_ret
        exact ⟨rfl, chain b0 (chain hb hb5)⟩
    · have hF : F = true := by
        rw [← HF.out, List.all_eq_true]
        intro j hj
        exact HA.out j (by have := List.mem_range.1 hj; have := HR.out; have := HQ.out; omega)
      subst hF
      clear cH
      go_wp2
      go_ret
      exact ⟨rfl, chain b0 hb⟩
end Go.Proofs.Ytlplljgcgohonaa
namespace Go.Proofs.Ytlplljgcgohonaa
theorem kind_nan {x : Nat} (h : 9218868437227405312 < x % 9223372036854775808) : kindN x = 1 := by
  unfold kindN expBits fracBits
  rw [if_pos (by omega), if_neg (by omega)]
theorem kind_inf {x : Nat} (h : x % 9223372036854775808 = 9218868437227405312) : kindN x = 2 := by
  unfold kindN expBits fracBits
  rw [if_pos (by omega), if_pos (by omega)]
theorem kind_zero {x : Nat} (h : x % 9223372036854775808 = 0) : kindN x = 3 := by
  unfold kindN expBits fracBits
  rw [if_neg (by omega), if_pos (by omega)]
theorem kind_fin {x : Nat} (h : x % 9223372036854775808 < 9218868437227405312) (h0 : x % 9223372036854775808 ≠ 0) : kindN x = 4 := by
  unfold kindN expBits fracBits
  rw [if_neg (by omega), if_neg (by omega)]
end Go.Proofs.Ytlplljgcgohonaa
namespace Go.Proofs.Ytlplljgcgohonaa
open Go.RowKit
set_option linter.unusedVariables false
set_option maxRecDepth 100000 in
theorem iSize (x : Nat) (w : World) :
    Calls Try.prog 173 #[.int .u64 x] w fun e w' => e = .returned (.int .u64 ((x : Int) % 9223372036854775808)) ∧ w = w' := by
  go_enter Try.func173, Try.ntmps173
  go_wp2
  go_ret
  exact ⟨rfl, rfl⟩
set_option maxHeartbeats 400000 in
set_option maxRecDepth 100000 in
theorem iKind (x : Nat) (w : World) :
    Calls Try.prog 162 #[.int .u64 x] w fun e w' => e = .returned (.int .i64 (kindN x : Nat)) ∧ w = w' := by
  have cS := fun W => iSize x W
  obtain ⟨s, hs⟩ : ∃ s : Int, (x : Int) % 9223372036854775808 = s := ⟨_, rfl⟩
  rw [hs] at cS
  by_cases h1 : 9218868437227405312 < s
  · have HK : Hid (Unit → kindN x = 1) := fun _ => kind_nan (by omega)
    clear hs
    go_enter Try.func162, Try.ntmps162
    go_wp2_with (go_at_call 173; refine (cS _).mono ?_; rintro e w' ⟨rfl, rfl⟩)
    go_ret
    exact ⟨by rw [HK.out ()]; rfl, rfl⟩
  · have d1 : decide (9218868437227405312 < s) = false := by simp; omega
    by_cases h2 : s = 9218868437227405312
    · have HK : Hid (Unit → kindN x = 2) := fun _ => kind_inf (by omega)
      clear hs h1 d1
      subst h2
      go_enter Try.func162, Try.ntmps162
      go_wp2_with (go_at_call 173; refine (cS _).mono ?_; rintro e w' ⟨rfl, rfl⟩)
      go_ret
      exact ⟨by rw [HK.out ()]; rfl, rfl⟩
    · have d2 : (s == 9218868437227405312) = false := by rw [beq_eq_false_iff_ne]; exact h2
      by_cases h3 : s = 0
      · have HK : Hid (Unit → kindN x = 3) := fun _ => kind_zero (by omega)
        clear hs h1 d1 h2 d2
        subst h3
        go_enter Try.func162, Try.ntmps162
        go_wp2_with (go_at_call 173; refine (cS _).mono ?_; rintro e w' ⟨rfl, rfl⟩)
        go_ret
        exact ⟨by rw [HK.out ()]; rfl, rfl⟩
      · have d3 : (s == 0) = false := by rw [beq_eq_false_iff_ne]; exact h3
        have HK : Hid (Unit → kindN x = 4) := fun _ => kind_fin (by omega) (by omega)
        clear hs h1 h2 h3
        go_enter Try.func162, Try.ntmps162
        go_wp2_with (go_at_call 173; refine (cS _).mono ?_; rintro e w' ⟨rfl, rfl⟩)
        go_ret
        exact ⟨by rw [HK.out ()]; rfl, rfl⟩
end Go.Proofs.Ytlplljgcgohonaa
namespace Go.Proofs.Ytlplljgcgohonaa
open Go.RowKit Go.Sort
set_option linter.unusedVariables false
set_option maxHeartbeats 400000 in
set_option maxRecDepth 100000 in
theorem iMayBeConst (x : Nat) (w : World) :
    Calls Try.prog 139 #[.int .u64 x] w fun e w' => e = .returned (.bool (decide (kindN x ≠ 1) || decide (x = 9221120237041090560))) ∧ w = w' := by
  have cK := fun W => iKind x W
  obtain ⟨k, hk⟩ : ∃ k, kindN x = k := ⟨_, rfl⟩
  rw [hk]
  simp only [hk] at cK
  by_cases k1 : k = 1
  · subst k1
    by_cases hN : x = 9221120237041090560
    · have hF : (decide ((1 : Nat) ≠ 1) || decide (x = 9221120237041090560)) = true := by rw [decide_eq_true hN]; rfl
      rw [hF]
      have HN : ((x : Int) == 9221120237041090560) = true := by rw [hN]; rfl
      clear hF hN hk
      go_enter Try.func139, Try.ntmps139
      go_wp2_with (go_at_call 162; refine (cK _).mono ?_; rintro e w' ⟨rfl, rfl⟩)
      go_ret
      exact ⟨rfl, rfl⟩
    · have hF : (decide ((1 : Nat) ≠ 1) || decide (x = 9221120237041090560)) = false := by rw [decide_eq_false hN]; rfl
      rw [hF]
      have HN : ((x : Int) == 9221120237041090560) = false := by rw [beq_eq_false_iff_ne]; omega
      clear hF hN hk
      go_enter Try.func139, Try.ntmps139
      go_wp2_with (go_at_call 162; refine (cK _).mono ?_; rintro e w' ⟨rfl, rfl⟩)
      go_ret
      exact ⟨rfl, rfl⟩
  · have hF : (decide (k ≠ 1) || decide (x = 9221120237041090560)) = true := by rw [decide_eq_true k1]; rfl
    rw [hF]
    have HN : ¬ (k : Int) = 1 := by omega
    clear hF hk k1
    go_enter Try.func139, Try.ntmps139
    go_wp2_with (go_at_call 162; refine (cK _).mono ?_; rintro e w' ⟨rfl, rfl⟩)
    go_ret
    exact ⟨rfl, rfl⟩
set_option maxHeartbeats 1000000 in
set_option maxRecDepth 100000 in
theorem iConstOk_any (p : PCon) (w : World) (hp : conW p) :
    Calls Try.prog 100 #[.agg #[.int .i64 p.kind, .int .u64 (p.num : Int), .string p.text]] w fun e w' => e = .returned (.bool (conOk p)) ∧ Below w.heap.size w w' := by
  have hx := hp.2.1
  have hs := hp.2.2
  clear hp
  have HF0 : conOk p = (if p.kind = 1 then decide (p.text.size = 0) && (decide (kindN p.num ≠ 1) || decide (p.num = 9221120237041090560)) else if p.kind = 2 then decide (p.num = 0) && decide (p.text.size ≤ 40) else if p.kind = 3 ∨ p.kind = 4 ∨ p.kind = 5 then decide (p.num = 0) && decide (p.text.size = 0) else false) := rfl
  obtain ⟨F, hF⟩ : ∃ F, conOk p = F := ⟨_, rfl⟩
  obtain ⟨k, hk⟩ : ∃ k, p.kind = k := ⟨_, rfl⟩
  obtain ⟨x, hxx⟩ : ∃ x, p.num = x := ⟨_, rfl⟩
  obtain ⟨s, hss⟩ : ∃ s, p.text = s := ⟨_, rfl⟩
  rw [hF, hk, hxx, hss] at HF0
  rw [hF, hk, hxx, hss]
  rw [hxx] at hx
  rw [hss] at hs
  clear hF hk hxx hss p
  unfold maxLen at hs
  have cN := fun W => iMayBeConst x W
  obtain ⟨bn, en⟩ : ∃ b, (decide (kindN x ≠ 1) || decide (x = 9221120237041090560)) = b := ⟨_, rfl⟩
  simp only [en] at cN HF0
  have HF : Hid _ := HF0
  clear en hx HF0
  have b0 : ∀ cs t, Below w.heap.size w (w.alloc (.cells cs t)) := fun cs t => (Below.refl _ _).alloc (Nat.le_refl _) _
  have hse : ¬ s.size = 0 → s.toList.isEmpty = false := full_text
  by_cases k1 : k = 1
  · subst k1
    cases bn with
    | false =>
      have hF : F = false := by rw [HF.out, if_pos rfl]; simp
      subst hF
      clear HF hse
      go_enter Try.func100, Try.ntmps100
      go_wp2_with (go_at_call 139; refine (cN _).mono ?_; rintro e w' ⟨rfl, rfl⟩)
      go_ret
      exact ⟨rfl, b0 _ _⟩
    | true =>
      by_cases z : s.size = 0
      · have es := empty_is z
        subst es
        have hF : F = true := by rw [HF.out, if_pos rfl, decide_eq_true z]; rfl
        subst hF
        clear HF hse
        go_enter Try.func100, Try.ntmps100
        go_wp2_with (go_at_call 139; refine (cN _).mono ?_; rintro e w' ⟨rfl, rfl⟩)
        go_ret
        exact ⟨rfl, b0 _ _⟩
      · have hF : F = false := by rw [HF.out, if_pos rfl, decide_eq_false z]; rfl
        subst hF
        have hne := hse z
        clear HF hse
        go_enter Try.func100, Try.ntmps100
        go_wp2_with (go_at_call 139; refine (cN _).mono ?_; rintro e w' ⟨rfl, rfl⟩)
        go_ret
        exact ⟨rfl, b0 _ _⟩
  by_cases k2 : k = 2
  · subst k2
    by_cases hx0 : x = 0
    · subst hx0
      by_cases z : s.size ≤ 40
      · have hF : F = true := by rw [HF.out, if_neg (by decide), if_pos rfl, decide_eq_true z]; rfl
        subst hF
        have zi : (s.size : Int) ≤ 40 := by omega
        clear HF hse cN
        go_enter Try.func100, Try.ntmps100
        go_wp2
        go_ret
        exact ⟨rfl, b0 _ _⟩
      · have hF : F = false := by rw [HF.out, if_neg (by decide), if_pos rfl, decide_eq_false z]; rfl
        subst hF
        have zi : ¬ (s.size : Int) ≤ 40 := by omega
        clear HF hse cN
        go_enter Try.func100, Try.ntmps100
        go_wp2
        go_ret
        exact ⟨rfl, b0 _ _⟩
    · have hF : F = false := by rw [HF.out, if_neg (by decide), if_pos rfl, decide_eq_false hx0]; rfl
      subst hF
      have zi : ((x : Int) == 0) = false := by rw [beq_eq_false_iff_ne]; omega
      clear HF hse cN
      go_enter Try.func100, Try.ntmps100
      go_wp2
      go_ret
      exact ⟨rfl, b0 _ _⟩
  by_cases k3 : k = 3 ∨ k = 4 ∨ k = 5
  · have HF1 : Hid (F = (decide (x = 0) && decide (s.size = 0))) := by
      have h := HF.out
      rw [if_neg k1, if_neg k2, if_pos k3] at h
      exact h
    clear HF cN k1 k2
    by_cases hx0 : x = 0
    · subst hx0
      by_cases z : s.size = 0
      · have es := empty_is z
        subst es
        have hF : F = true := by rw [HF1.out]; rfl
        subst hF
        clear HF1 hse
        rcases k3 with rfl | rfl | rfl
        all_goals
          go_enter Try.func100, Try.ntmps100
          go_wp2
          go_ret
          exact ⟨rfl, b0 _ _⟩
      · have hF : F = false := by rw [HF1.out, decide_eq_false z]; rfl
        subst hF
        have hne := hse z
        clear HF1 hse
        rcases k3 with rfl | rfl | rfl
        all_goals
          go_enter Try.func100, Try.ntmps100
          go_wp2
          go_ret
          exact ⟨rfl, b0 _ _⟩
    · have hF : F = false := by rw [HF1.out, decide_eq_false hx0]; rfl
      subst hF
      have zi : ((x : Int) == 0) = false := by rw [beq_eq_false_iff_ne]; omega
      clear HF1 hse
      rcases k3 with rfl | rfl | rfl
      all_goals
        go_enter Try.func100, Try.ntmps100
        go_wp2
        go_ret
        exact ⟨rfl, b0 _ _⟩
  have hF : F = false := by rw [HF.out, if_neg k1, if_neg k2, if_neg k3]
  subst hF
  have k3a : ¬ k = 3 := fun h => k3 (.inl h)
  have k4a : ¬ k = 4 := fun h => k3 (.inr (.inl h))
  have k5a : ¬ k = 5 := fun h => k3 (.inr (.inr h))
  clear HF cN hse k3
  go_enter Try.func100, Try.ntmps100
  go_wp2
  go_ret
  exact ⟨rfl, b0 _ _⟩
end Go.Proofs.Ytlplljgcgohonaa
