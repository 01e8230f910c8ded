/-
  Outcomes: as arguments, counted, copied, held against each other.
-/
import Derived.Test.YtbgdapdenbldmaaNode9A
import Derived.Test.YtbgdapdenbldmaaNode9S
import Derived.Test.YtbgdapdenbldmaaNode9T
import Derived.Test.YtbgdapdenbldmaaNode9E
import Derived.Test.YtbgdapdenbldmaaImg13U
namespace Go.Proofs.Ytbgdapdenbldmaa
open Go.RowKit Go.ChangeShapes Go.WideShapes
set_option linter.unusedVariables false

structure POut where
  fin : Int
  shown : ByteArray
  log : List ByteArray
  fuel : Int

theorem Try.cellsOut19 : Try.prog.cellsOf 41 = 4 := by kernel_rfl

def OwnStrs (w : World) (B : Nat) (v : Value) (l : List ByteArray) : Prop := w.ownsRow B 9 1 v l.length (l.map Value.string)
theorem ArgStrs.of_own {w : World} {B : Nat} {v : Value} {l : List ByteArray} (h : OwnStrs w B v l) (hs : ∀ s ∈ l, s.size ≤ maxLen) : ArgStrs w v l := by
  obtain ⟨x, c, e, hm, hl, ho⟩ := own_rows h
  refine ⟨x, c, e, hm, hs, fun h0 => ?_⟩
  obtain ⟨g, rfl, hg, hc⟩ := ho h0
  refine ⟨g, 0, rfl, hg, fun j hj => ?_⟩
  rw [Nat.zero_add]
  refine hc j _ ?_
  rw [List.getElem?_map, List.getD_eq_getElem?_getD, List.getElem?_eq_getElem hj]
  rfl

set_option maxRecDepth 100000 in
theorem open_out {H : Type} {enc : TypeId × Value → H} {w : World} {fuel : Nat} {cs : List Value} {x : DataW H × List MemPlace} (h : DataW.trod enc Try.prog w 0 (fun _ => true) true fuel 41 cs = some x) : ∃ (p : POut) (v : Value), cs = [.int .i64 p.fin, .string p.shown, v, .int .i64 p.fuel] ∧ ArgStrs w v p.log ∧ p.shown.size ≤ maxLen := by
  obtain ⟨xs, n, _, rfl, hl, hlen, hf⟩ := DataW.trod_struct Try.underlying41 h
  rw [Try.cellsOut19] at hl
  match cs, hl with
  | [v0, v1, v2, v3], _ =>
    obtain ⟨y0, g0⟩ := some_at (by rw [hlen]; decide) (hf 0 _ rfl)
    obtain ⟨y1, g1⟩ := some_at (by rw [hlen]; decide) (hf 1 _ rfl)
    obtain ⟨y2, g2⟩ := some_at (by rw [hlen]; decide) (hf 2 _ rfl)
    obtain ⟨y3, g3⟩ := some_at (by rw [hlen]; decide) (hf 3 _ rfl)
    replace g0 : DataW.trod enc Try.prog w 0 (fun _ => true) true n 3 (([v0, v1, v2, v3].drop 0).take (Try.prog.cellsOf 3)) = some y0 := g0
    rw [Try.cellsInt9] at g0
    replace g1 : DataW.trod enc Try.prog w 0 (fun _ => true) true n 9 (([v0, v1, v2, v3].drop 1).take (Try.prog.cellsOf 9)) = some y1 := g1
    rw [Try.cellsStr9] at g1
    replace g2 : DataW.trod enc Try.prog w 0 (fun _ => true) true n 39 (([v0, v1, v2, v3].drop 2).take (Try.prog.cellsOf 39)) = some y2 := g2
    rw [Try.cellsStrs9] at g2
    replace g2 : DataW.trod enc Try.prog w 0 (fun _ => true) true n 39 [v2] = some y2 := g2
    replace g3 : DataW.trod enc Try.prog w 0 (fun _ => true) true n 3 (([v0, v1, v2, v3].drop 3).take (Try.prog.cellsOf 3)) = some y3 := g3
    rw [Try.cellsInt9] at g3
    obtain ⟨n0, e0, _, w0⟩ := DataW.trod_int Try.underlying3 g0
    obtain ⟨n1, e1, _, w1⟩ := DataW.trod_string Try.underlying9 g1
    obtain ⟨l, k2⟩ := open_arg_strs g2
    obtain ⟨n3, e3, _, w3⟩ := DataW.trod_int Try.underlying3 g3
    simp only [List.drop_zero, List.take_succ_cons, List.take_zero, List.drop_succ_cons, List.cons.injEq, and_true] at e0 e1 e3
    subst e0 e1 e3
    exact ⟨⟨n0, n1, l, n3⟩, v2, rfl, k2, w1⟩

set_option maxHeartbeats 400000 in
set_option maxRecDepth 100000 in
theorem szOutcome_any (p : POut) (v : Value) (left : Int) (w : World) (hv : ArgStrs w v p.log) (hs : p.shown.size ≤ maxLen) (h0 : 0 ≤ left) (h1 : left ≤ 1048576) :
    Calls Try.prog 17 #[.agg #[.int .i64 p.fin, .string p.shown, v, .int .i64 p.fuel], .int .i64 left] w fun e w' => ∃ r : Int, e = .returned (.int .i64 r) ∧ (r = -1 ∨ (0 ≤ r ∧ r ≤ left ∧ (p.log.length : Int) ≤ left ∧ (p.shown.size : Int) ≤ left)) ∧ Below w.heap.size w w' := by
  have b0 : Below w.heap.size w (w.alloc (.cells #[.int .i64 p.fin, .string p.shown, v, .int .i64 p.fuel] 41)) := (Below.refl _ _).alloc (Nat.le_refl _) _
  have d := hv.below b0
  clear hv
  unfold maxLen at hs
  obtain ⟨k0, s, l, k3⟩ := p
  simp only at hs d b0 ⊢
  obtain ⟨z, hz⟩ : ∃ z, s.size = z := ⟨_, rfl⟩
  by_cases hn : left < (z : Int)
  · have hneg : left - (z : Int) < 0 := by omega
    go_enter Try.func17, Try.ntmps17
    simp only [hz]
    go_wp2
    go_ret
    exact ⟨_, rfl, .inl rfl, b0⟩
  · have hpos : ¬ left - (z : Int) < 0 := by omega
    have cS := szStringS_any v l (left - (z : Int)) _ d (by omega) (by omega)
    go_enter Try.func17, Try.ntmps17
    simp only [hz]
    go_wp2_with fail
    refine cS.mono ?_
    rintro e w1 ⟨r, rfl, hr, rfl⟩
    rcases hr with rfl | ⟨r0, r1, r2⟩
    · go_wp2
      go_ret
      exact ⟨_, rfl, .inl rfl, b0⟩
    have hneg : ¬ r < 0 := by omega
    go_wp2
    go_ret
    exact ⟨_, rfl, .inr ⟨r0, by omega, by omega, by omega⟩, b0⟩

theorem ArgStrs.sizes {w : World} {v : Value} {l : List ByteArray} (h : ArgStrs w v l) : ∀ s ∈ l, s.size ≤ maxLen := by
  obtain ⟨_, _, _, _, h, _⟩ := h
  exact h
theorem two_made19 (w : World) (o1 o2 : Obj) : ((w.alloc o1).alloc o2).heap[w.heap.size]? = some o1 ∧ ((w.alloc o1).alloc o2).heap[w.heap.size + 1]? = some o2 ∧ ((w.alloc o1).alloc o2).heap.size = w.heap.size + 2 ∧ Below w.heap.size w ((w.alloc o1).alloc o2) := by
  have z1 : (w.alloc o1).heap.size = w.heap.size + 1 := by simp
  refine ⟨?_, ?_, by simp, ((Below.refl _ _).alloc (Nat.le_refl _) _).alloc (by simp) _⟩
  · rw [heap_alloc_old (r := w.heap.size) _ _ (by omega)]
    exact heap_alloc_new _ _
  · rw [← z1]
    exact heap_alloc_new _ _
theorem four_box19 {w : World} {g : Nat} {a b c d : Value} {t : TypeId} {r : Nat × Nat} (h : w.heap[g]? = some (.cells #[a, b, c, d] t r)) : w.cell? ⟨g, 0, none⟩ = some a ∧ w.cell? ⟨g, 1, none⟩ = some b ∧ w.cell? ⟨g, 2, none⟩ = some c ∧ w.cell? ⟨g, 3, none⟩ = some d := by
  refine ⟨?_, ?_, ?_, ?_⟩ <;> (rw [cell_of_row _ _ _ _ _ _ h]; rfl)
theorem four_set19 {w : World} {g : Nat} {a0 a1 a2 a3 b0 b1 b2 b3 : Value} {t : TypeId} (h : w.heap[g]? = some (.cells #[a0, a1, a2, a3] t)) :
    ((((w.setCell ⟨g, 0, none⟩ b0).setCell ⟨g, 1, none⟩ b1).setCell ⟨g, 2, none⟩ b2).setCell ⟨g, 3, none⟩ b3).heap[g]? = some (.cells #[b0, b1, b2, b3] t) := by
  have k0 : (w.setCell ⟨g, 0, none⟩ b0).heap[g]? = some (.cells #[b0, a1, a2, a3] t) := heap_setCell_same _ _ _ _ _ _ h
  have k1 := heap_setCell_same _ _ 1 _ _ b1 k0
  have k2 : _ = some (Obj.cells #[b0, b1, b2, a3] t) := heap_setCell_same _ _ 2 _ _ b2 k1
  exact heap_setCell_same _ _ 3 _ _ b3 k2

set_option maxHeartbeats 1000000 in
set_option maxRecDepth 100000 in
theorem toOutcome_any (p : POut) (v : Value) (w : World) (h : ArgStrs w v p.log) (hf : p.log.length ≤ 1048576) :
    Calls Try.prog 19 #[.agg #[.int .i64 p.fin, .string p.shown, v, .int .i64 p.fuel]] w fun e w' => ∃ v', e = .returned (.agg #[.int .i64 p.fin, .string p.shown, v', .int .i64 p.fuel]) ∧ OwnStrs w' w.heap.size v' p.log ∧ Below w.heap.size w w' := by
  obtain ⟨k0, s, l, k3⟩ := p
  simp only at h hf ⊢
  have cI := fun W (hb : Below w.heap.size w W) => toStringS_any v l W (h.below hb) hf
  clear h hf
  have T := made_three w (Obj.cells #[.int .i64 k0, .string s, v, .int .i64 k3] 41) (Obj.cells #[.int .i64 0, .string ⟨#[]⟩, .slice none 0 0, .int .i64 0] 44) (Obj.cells #[.int .i64 0, .string ⟨#[]⟩, .slice none 0 0, .int .i64 0] 44)
  obtain ⟨W3, hW3⟩ : ∃ W, (((w.alloc (Obj.cells #[.int .i64 k0, .string s, v, .int .i64 k3] 41)).alloc (Obj.cells #[.int .i64 0, .string ⟨#[]⟩, .slice none 0 0, .int .i64 0] 44)).alloc (Obj.cells #[.int .i64 0, .string ⟨#[]⟩, .slice none 0 0, .int .i64 0] 44)) = W := ⟨_, rfl⟩
  rw [hW3] at T
  have HW3 : Hid (_ = W3) := hW3
  clear hW3
  obtain ⟨t0, t1, t2, tz, tb⟩ := T
  obtain ⟨G, hG⟩ : ∃ G, w.heap.size = G := ⟨_, rfl⟩
  obtain ⟨D, hD⟩ : ∃ D, G + 1 + 1 = D := ⟨_, rfl⟩
  have HG : Hid (w.heap.size = G) := hG
  have HD : Hid (G + 1 + 1 = D) := hD
  rw [hG] at t0 t1 tz
  rw [show w.heap.size + 2 = D by omega] at t2
  have hsz : D + 1 ≤ W3.heap.size := by omega
  have hB : w.heap.size ≤ G := by omega
  clear tz
  go_enter Try.func19, Try.ntmps19
  go_upto_region 2 with fail
  rw [HW3.out]
  try simp only [HG.out]
  try simp only [HD.out]
  clear HW3 HG HD
  obtain ⟨d0, d1, d2, d3⟩ := four_box19 t2
  obtain ⟨i0, i1, i2, i3⟩ := four_box19 t0
  have fD := fun j => frozen_of_row W3 D j _ _ t2
  have nGD : G ≠ D := by omega
  have nRD : G + 1 ≠ D := by omega
  have nGR : G ≠ G + 1 := by omega
  have s2 : ((W3.setCell ⟨D, 0, none⟩ (.int .i64 k0)).setCell ⟨D, 1, none⟩ (.string s)).heap[D]? = some (.cells #[.int .i64 k0, .string s, .slice none 0 0, .int .i64 0] 44) := heap_setCell_same _ _ 1 _ _ _ (heap_setCell_same _ _ 0 _ _ _ t2)
  have s0 : ((W3.setCell ⟨D, 0, none⟩ (.int .i64 k0)).setCell ⟨D, 1, none⟩ (.string s)).heap[G]? = _ := (heap_setCell_other _ ⟨D, 1, none⟩ G _ nGD).trans ((heap_setCell_other W3 ⟨D, 0, none⟩ G _ nGD).trans t0)
  have s1 : ((W3.setCell ⟨D, 0, none⟩ (.int .i64 k0)).setCell ⟨D, 1, none⟩ (.string s)).heap[G + 1]? = _ := (heap_setCell_other _ ⟨D, 1, none⟩ (G + 1) _ nRD).trans ((heap_setCell_other W3 ⟨D, 0, none⟩ (G + 1) _ nRD).trans t1)
  have sb : Below w.heap.size w ((W3.setCell ⟨D, 0, none⟩ (.int .i64 k0)).setCell ⟨D, 1, none⟩ (.string s)) := (tb.setCell (p := ⟨D, 0, none⟩) (by show _ ≤ D; omega) _).setCell (p := ⟨D, 1, none⟩) (by show _ ≤ D; omega) _
  have ss : D + 1 ≤ ((W3.setCell ⟨D, 0, none⟩ (.int .i64 k0)).setCell ⟨D, 1, none⟩ (.string s)).heap.size := by simp [World.setCell]; omega
  obtain ⟨W4, hW4⟩ : ∃ W, (W3.setCell ⟨D, 0, none⟩ (.int .i64 k0)).setCell ⟨D, 1, none⟩ (.string s) = W := ⟨_, rfl⟩
  have HW4 : Hid (_ = W4) := hW4
  rw [hW4] at s0 s1 s2 sb ss
  clear t0 t1 t2 tb hsz hW4
  go_upto_region 4 with fail
  rw [HW4.out]
  clear HW4 d0 d1 d2 d3 i0 i1 i2 i3 fD
  obtain ⟨d0, d1, d2, d3⟩ := four_box19 s2
  obtain ⟨i0, i1, i2, i3⟩ := four_box19 s0
  go_wp2_with fail
  refine (cI W4 sb).mono ?_
  rintro e w1 ⟨v1, rfl, own1, b1⟩
  obtain ⟨x1, y1, rfl⟩ := row_slice own1
  have u0 := (b1.block G (by omega)).trans s0
  have u1 := (b1.block (G + 1) (by omega)).trans s1
  have u2 := (b1.block D (by omega)).trans s2
  have ub := chain sb b1
  have own2 := row_low own1 (B' := D + 1) ss
  clear s0 s1 s2 sb b1 own1 cI d0 d1 d2 d3 i0 i1 i2 i3
  obtain ⟨d0, d1, d2, d3⟩ := four_box19 u2
  obtain ⟨i0, i1, i2, i3⟩ := four_box19 u0
  have fD := fun j => frozen_of_row w1 D j _ _ u2
  have z2 : ((w1.setCell ⟨D, 2, none⟩ (.slice x1 l.length y1)).setCell ⟨D, 3, none⟩ (.int .i64 k3)).heap[D]? = some (.cells #[.int .i64 k0, .string s, .slice x1 l.length y1, .int .i64 k3] 44) := heap_setCell_same _ _ 3 _ _ _ (heap_setCell_same _ _ 2 _ _ _ u2)
  have z1 : ((w1.setCell ⟨D, 2, none⟩ (.slice x1 l.length y1)).setCell ⟨D, 3, none⟩ (.int .i64 k3)).heap[G + 1]? = _ := (heap_setCell_other _ ⟨D, 3, none⟩ (G + 1) _ nRD).trans ((heap_setCell_other w1 ⟨D, 2, none⟩ (G + 1) _ nRD).trans u1)
  have zb : Below w.heap.size w ((w1.setCell ⟨D, 2, none⟩ (.slice x1 l.length y1)).setCell ⟨D, 3, none⟩ (.int .i64 k3)) := (ub.setCell (p := ⟨D, 2, none⟩) (by show _ ≤ D; omega) _).setCell (p := ⟨D, 3, none⟩) (by show _ ≤ D; omega) _
  have o1 := ownsRow_setCell_below (ownsRow_setCell_below own2 (a := ⟨D, 2, none⟩) (by show D < D + 1; omega) (.slice x1 l.length y1)) (a := ⟨D, 3, none⟩) (by show D < D + 1; omega) (.int .i64 k3)
  obtain ⟨V, hV⟩ : ∃ W, (w1.setCell ⟨D, 2, none⟩ (.slice x1 l.length y1)).setCell ⟨D, 3, none⟩ (.int .i64 k3) = W := ⟨_, rfl⟩
  have HV : Hid (_ = V) := hV
  rw [hV] at z1 z2 zb o1
  clear u0 u1 u2 ub own2 hV
  go_upto_region 6 with fail
  rw [HV.out]
  clear HV d0 d1 d2 d3 i0 i1 i2 i3 fD
  obtain ⟨d0, d1, d2, d3⟩ := four_box19 z2
  obtain ⟨r0, r1, r2, r3⟩ := four_box19 z1
  have fR := fun j => frozen_of_row V (G + 1) j _ _ z1
  have q := four_set19 (b0 := .int .i64 k0) (b1 := .string s) (b2 := .slice x1 l.length y1) (b3 := .int .i64 k3) z1
  obtain ⟨g0, g1, g2, g3⟩ := four_box19 q
  have HT : Hid (Below w.heap.size w ((((V.setCell ⟨G + 1, 0, none⟩ (.int .i64 k0)).setCell ⟨G + 1, 1, none⟩ (.string s)).setCell ⟨G + 1, 2, none⟩ (.slice x1 l.length y1)).setCell ⟨G + 1, 3, none⟩ (.int .i64 k3)) ∧ OwnStrs ((((V.setCell ⟨G + 1, 0, none⟩ (.int .i64 k0)).setCell ⟨G + 1, 1, none⟩ (.string s)).setCell ⟨G + 1, 2, none⟩ (.slice x1 l.length y1)).setCell ⟨G + 1, 3, none⟩ (.int .i64 k3)) w.heap.size (.slice x1 l.length y1) l) := by
    have f : ∀ (W : World) (j : Nat) (u : Value), Below w.heap.size w W → Below w.heap.size w (W.setCell ⟨G + 1, j, none⟩ u) := fun W j u h => h.setCell (p := ⟨G + 1, j, none⟩) (by show _ ≤ G + 1; omega) u
    have k : ∀ (W : World) (j : Nat) (u : Value), W.ownsRow (D + 1) 9 1 (.slice x1 l.length y1) l.length (l.map Value.string) → (W.setCell ⟨G + 1, j, none⟩ u).ownsRow (D + 1) 9 1 (.slice x1 l.length y1) l.length (l.map Value.string) := fun W j u h => ownsRow_setCell_below h (a := ⟨G + 1, j, none⟩) (by show G + 1 < D + 1; omega) u
    exact ⟨f _ 3 (.int .i64 k3) (f _ 2 (.slice x1 l.length y1) (f _ 1 (.string s) (f _ 0 (.int .i64 k0) zb))), row_low (k _ _ _ (k _ _ _ (k _ _ _ (k _ _ _ o1)))) (by omega)⟩
  clear z1 z2 zb o1 q
  go_wp2
  refine bodyPost_ret (by simp [results, Try.results19, go_sem, g0, g1, g2, g3]; try rfl) rfl ?_
  exact ⟨_, rfl, HT.out.2, HT.out.1⟩

set_option maxHeartbeats 1000000 in
set_option maxRecDepth 100000 in
theorem eqOutcome_same (B B' : Nat) (p : POut) (u v : Value) (w : World) (hu : OwnStrs w B u p.log) (hv : OwnStrs w B' v p.log) :
    Calls Try.prog 21 #[.agg #[.int .i64 p.fin, .string p.shown, u, .int .i64 p.fuel], .agg #[.int .i64 p.fin, .string p.shown, v, .int .i64 p.fuel]] w fun e w' => e = .returned (.bool true) ∧ Below w.heap.size w w' := by
  obtain ⟨k0, s, l, k3⟩ := p
  simp only at hu hv ⊢
  have b0 : Below w.heap.size w ((w.alloc (.cells #[.int .i64 k0, .string s, u, .int .i64 k3] 44)).alloc (.cells #[.int .i64 k0, .string s, v, .int .i64 k3] 44)) := ((Below.refl _ _).alloc (Nat.le_refl _) _).alloc (by simp) _
  have cE := eqStrs_same B B' u v l.length l _ (row_keep hu b0) (row_keep hv b0)
  have T0 : ((w.alloc (.cells #[.int .i64 k0, .string s, u, .int .i64 k3] 44)).alloc (.cells #[.int .i64 k0, .string s, v, .int .i64 k3] 44)).heap[w.heap.size]? = some (.cells #[.int .i64 k0, .string s, u, .int .i64 k3] 44) := by
    rw [heap_alloc_old (r := w.heap.size) _ _ (by simp)]
    exact heap_alloc_new _ _
  have T1 : ((w.alloc (.cells #[.int .i64 k0, .string s, u, .int .i64 k3] 44)).alloc (.cells #[.int .i64 k0, .string s, v, .int .i64 k3] 44)).heap[w.heap.size + 1]? = some (.cells #[.int .i64 k0, .string s, v, .int .i64 k3] 44) := by
    rw [show w.heap.size + 1 = (w.alloc (.cells #[.int .i64 k0, .string s, u, .int .i64 k3] 44)).heap.size by simp]
    exact heap_alloc_new _ _
  have Tz : w.heap.size + 2 ≤ ((w.alloc (.cells #[.int .i64 k0, .string s, u, .int .i64 k3] 44)).alloc (.cells #[.int .i64 k0, .string s, v, .int .i64 k3] 44)).heap.size := by simp
  obtain ⟨W2, hW2⟩ : ∃ W, (w.alloc (.cells #[.int .i64 k0, .string s, u, .int .i64 k3] 44)).alloc (.cells #[.int .i64 k0, .string s, v, .int .i64 k3] 44) = W := ⟨_, rfl⟩
  rw [hW2] at b0 cE T0 T1 Tz
  have HW2 : Hid (_ = W2) := hW2
  obtain ⟨G, hG⟩ : ∃ G, w.heap.size = G := ⟨_, rfl⟩
  have HG : Hid (w.heap.size = G) := hG
  rw [hG] at T0 T1 Tz
  clear hu hv hW2 hG
  go_enter Try.func21, Try.ntmps21
  go_upto_region 1 with fail
  rw [HW2.out]
  try simp only [HG.out]
  obtain ⟨i0, i1, i2, i3⟩ := four_box19 T0
  obtain ⟨j0, j1, j2, j3⟩ := four_box19 T1
  go_wp2_with fail
  refine cE.mono ?_
  rintro e w' ⟨rfl, hb⟩
  clear i0 i1 i2 i3 j0 j1 j2 j3
  obtain ⟨i0, i1, i2, i3⟩ := four_box19 ((hb.block G (by omega)).trans T0)
  obtain ⟨j0, j1, j2, j3⟩ := four_box19 ((hb.block (G + 1) (by omega)).trans T1)
  go_wp2
  go_ret
  exact ⟨rfl, chain b0 hb⟩

end Go.Proofs.Ytbgdapdenbldmaa
