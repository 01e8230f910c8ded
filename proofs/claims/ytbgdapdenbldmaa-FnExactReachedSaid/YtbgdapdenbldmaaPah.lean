/-
  Part 8 of what is proved of drawn right trees.
-/
import Derived.Test.YtbgdapdenbldmaaPag

namespace Go.Proofs.Ytbgdapdenbldmaa
open Go.RowKit Go.Sort
set_option linter.unusedVariables false
theorem may_1 {p : PImg} {f : PFun} {i : PIns} {s : PSta} (h : i.op = 1) : mayB p f i s = (decide (i.a < p.consts.length)) := by
  unfold mayB
  rw [if_pos (by omega)]
theorem may_2 {p : PImg} {f : PFun} {i : PIns} {s : PSta} (h : i.op = 2) : mayB p f i s = (regIs s i.a 1) := by
  unfold mayB
  rw [if_neg (by omega), if_pos (by omega)]
theorem may_3 {p : PImg} {f : PFun} {i : PIns} {s : PSta} (h : i.op = 3) : mayB p f i s = ((regIn s i.a && decide (s.acc = 1))) := by
  unfold mayB
  rw [if_neg (by omega), if_neg (by omega), if_pos (by omega)]
theorem may_4 {p : PImg} {f : PFun} {i : PIns} {s : PSta} (h : i.op = 4) : mayB p f i s = ((regIn s i.a && decide (s.acc = 1))) := by
  unfold mayB
  rw [if_neg (by omega), if_neg (by omega), if_pos (by omega)]
theorem may_5 {p : PImg} {f : PFun} {i : PIns} {s : PSta} (h : i.op = 5) : mayB p f i s = (regIs s i.a 2) := by
  unfold mayB
  rw [if_neg (by omega), if_neg (by omega), if_neg (by omega), if_pos (by omega)]
theorem may_6 {p : PImg} {f : PFun} {i : PIns} {s : PSta} (h : i.op = 6) : mayB p f i s = ((regIs s i.a 2 && decide (s.acc = 1))) := by
  unfold mayB
  rw [if_neg (by omega), if_neg (by omega), if_neg (by omega), if_neg (by omega), if_pos (by omega)]
theorem may_7 {p : PImg} {f : PFun} {i : PIns} {s : PSta} (h : i.op = 7) : mayB p f i s = (decide (i.a < f.caps.length)) := by
  unfold mayB
  rw [if_neg (by omega), if_neg (by omega), if_neg (by omega), if_neg (by omega), if_neg (by omega), if_pos (by omega)]
theorem may_8 {p : PImg} {f : PFun} {i : PIns} {s : PSta} (h : i.op = 8) : mayB p f i s = ((decide (i.a < f.caps.length) && decide (s.acc = 1))) := by
  unfold mayB
  rw [if_neg (by omega), if_neg (by omega), if_neg (by omega), if_neg (by omega), if_neg (by omega), if_neg (by omega), if_pos (by omega)]
theorem may_9 {p : PImg} {f : PFun} {i : PIns} {s : PSta} (h : i.op = 9) : mayB p f i s = ((inB i.a 1 11 && (regIs s i.b 1 && decide (s.acc = 1)))) := by
  unfold mayB
  rw [if_neg (by omega), if_neg (by omega), if_neg (by omega), if_neg (by omega), if_neg (by omega), if_neg (by omega), if_neg (by omega), if_pos (by omega)]
theorem may_12 {p : PImg} {f : PFun} {i : PIns} {s : PSta} (h : i.op = 12) : mayB p f i s = (decide (i.a < f.code.length)) := by
  unfold mayB
  rw [if_neg (by omega), if_neg (by omega), if_neg (by omega), if_neg (by omega), if_neg (by omega), if_neg (by omega), if_neg (by omega), if_neg (by omega), if_neg (by omega), if_pos (by omega)]
theorem may_13 {p : PImg} {f : PFun} {i : PIns} {s : PSta} (h : i.op = 13) : mayB p f i s = ((decide (i.a < f.code.length) && decide (s.acc = 1))) := by
  unfold mayB
  rw [if_neg (by omega), if_neg (by omega), if_neg (by omega), if_neg (by omega), if_neg (by omega), if_neg (by omega), if_neg (by omega), if_neg (by omega), if_pos (by omega)]
theorem may_14 {p : PImg} {f : PFun} {i : PIns} {s : PSta} (h : i.op = 14) : mayB p f i s = ((decide (i.a < f.code.length) && decide (s.acc = 1))) := by
  unfold mayB
  rw [if_neg (by omega), if_neg (by omega), if_neg (by omega), if_neg (by omega), if_neg (by omega), if_neg (by omega), if_neg (by omega), if_neg (by omega), if_pos (by omega)]
theorem may_15 {p : PImg} {f : PFun} {i : PIns} {s : PSta} (h : i.op = 15) : mayB p f i s = ((inB i.a 1 ((p.funcs.length : Int) - 1) && capsMay p f s i.a)) := by
  unfold mayB
  rw [if_neg (by omega), if_neg (by omega), if_neg (by omega), if_neg (by omega), if_neg (by omega), if_neg (by omega), if_neg (by omega), if_neg (by omega), if_neg (by omega), if_neg (by omega), if_pos (by omega)]
theorem may_16 {p : PImg} {f : PFun} {i : PIns} {s : PSta} (h : i.op = 16) : mayB p f i s = ((List.range (i.b + 1).toNat).all fun (k : Nat) => regIs s (i.a + k) 1) := by
  unfold mayB
  rw [if_neg (by omega), if_neg (by omega), if_neg (by omega), if_neg (by omega), if_neg (by omega), if_neg (by omega), if_neg (by omega), if_neg (by omega), if_neg (by omega), if_neg (by omega), if_neg (by omega), if_pos (by omega)]
theorem may_0 {p : PImg} {f : PFun} {i : PIns} {s : PSta} (h : ¬ (1 ≤ i.op ∧ i.op ≤ 9) ∧ ¬ (12 ≤ i.op ∧ i.op ≤ 16)) : mayB p f i s = decide (s.acc = 1) := by
  unfold mayB
  rw [if_neg (by omega), if_neg (by omega), if_neg (by omega), if_neg (by omega), if_neg (by omega), if_neg (by omega), if_neg (by omega), if_neg (by omega), if_neg (by omega), if_neg (by omega), if_neg (by omega), if_neg (by omega)]
structure MayAt (G b oo : Nat) (n1 c1 n2 c2 : Nat) (x2 : Option Addr) (OP IA IB AC : Int) (xs : Option Addr) (nr cs : Nat) (PA RE : Int) (qc qk qh : Value) (w : World) : Prop where
  t0 : w.heap[G]? = some (.cells #[.slice (some ⟨b, oo, none⟩) n1 c1, .slice x2 n2 c2] 31)
  t1 : w.heap[G + 1]? = some (.cells #[.int .i64 OP, .int .i64 IA, .int .i64 IB] 72)
  t2 : w.heap[G + 1 + 1]? = some (.cells #[.int .i64 AC, .slice xs nr cs] 98)
  t3 : w.heap[G + 3]? = some (.cells #[.int .i64 PA, .int .i64 RE, qc, qk, qh] 70)
theorem MayAt.below {G b oo n1 c1 n2 c2 : Nat} {x2 : Option Addr} {OP IA IB AC : Int} {xs : Option Addr} {nr cs : Nat} {PA RE : Int} {qc qk qh : Value} {w w' : World} (h : MayAt G b oo n1 c1 n2 c2 x2 OP IA IB AC xs nr cs PA RE qc qk qh w) (hb : Below w.heap.size w w') : MayAt G b oo n1 c1 n2 c2 x2 OP IA IB AC xs nr cs PA RE qc qk qh w' := by
  have q : ∀ k o, w.heap[k]? = some o → w'.heap[k]? = some o := fun k o hk => by
    have hlt : k < w.heap.size := by
      rcases Nat.lt_or_ge k w.heap.size with x | x
      · exact x
      · rw [Array.getElem?_eq_none x] at hk; cases hk
    exact (hb.block k hlt).trans hk
  exact ⟨q _ _ h.t0, q _ _ h.t1, q _ _ h.t2, q _ _ h.t3⟩
theorem five_cells {w : World} {g : Nat} {a b c d e : Value} {t : TypeId} {r : Nat × Nat} (h : w.heap[g]? = some (.cells #[a, b, c, d, e] t r)) : w.cell? ⟨g, 0, none⟩ = some a ∧ w.cell? ⟨g, 1, none⟩ = some b ∧ w.cell? ⟨g, 2, none⟩ = some c ∧ w.cell? ⟨g, 3, none⟩ = some d ∧ w.cell? ⟨g, 4, none⟩ = some e := by
  refine ⟨?_, ?_, ?_, ?_, ?_⟩ <;> (rw [cell_of_row _ _ _ _ _ _ h]; rfl)
theorem three_cells {w : World} {g : Nat} {a b c : Value} {t : TypeId} {r : Nat × Nat} (h : w.heap[g]? = some (.cells #[a, b, c] t r)) : w.cell? ⟨g, 0, none⟩ = some a ∧ w.cell? ⟨g, 1, none⟩ = some b ∧ w.cell? ⟨g, 2, none⟩ = some c := by
  refine ⟨?_, ?_, ?_⟩ <;> (rw [cell_of_row _ _ _ _ _ _ h]; rfl)
set_option maxHeartbeats 2000000 in
set_option maxRecDepth 100000 in
theorem l16May_1 (p : PImg) (f : PFun) (K : Nat) (i : PIns) (s : PSta) (fv cv v : Value) (w : World) (h : ArgImg w fv cv p) (hf : p.funcs[K]? = some f) (hi : insOk i = true) (hs : ArgI w v s.regs) (hop : i.op = 1) :
    Calls Try.prog 69 #[.agg #[fv, cv], .int .i64 K, .agg #[.int .i64 i.op, .int .i64 i.a, .int .i64 i.b], .agg #[.int .i64 s.acc, v]] w fun e w' => e = .returned (.bool (mayB p f i s)) ∧ Below w.heap.size w w' := by
  obtain ⟨hF, hC⟩ := h
  obtain ⟨x1, c1, rfl, m1, o1⟩ := hF
  obtain ⟨x2, c2, rfl, m2, _⟩ := hC.opened conC_len
  obtain ⟨xs, cs, rfl, ms, os⟩ := hs.opened
  have hKl : K < p.funcs.length := (List.getElem?_eq_some_iff.1 hf).1
  obtain ⟨b, o, rfl, hb, hcell⟩ := o1 (by omega)
  obtain ⟨qc, qk, qh, hA⟩ := hcell K f hf
  obtain ⟨xc, cc, rfl, mc, _⟩ := hA.caps.opened capC_len
  obtain ⟨xk, ck, rfl, mk, _⟩ := hA.code.opened insC_len
  obtain ⟨xh, ch, rfl, mh, _⟩ := hA.hnds.opened hndC_len
  obtain ⟨n1, e1⟩ : ∃ n, p.funcs.length = n := ⟨_, rfl⟩
  rw [e1] at hKl m1 ⊢
  unfold maxLen at m1 m2 ms mc mk mh
  have hki : (K : Int) < (n1 : Int) := by omega
  have hk0 : (0 : Int) ≤ (K : Int) := by omega
  obtain ⟨n2, e2⟩ : ∃ n, p.consts.length = n := ⟨_, rfl⟩
  obtain ⟨nr, e3⟩ : ∃ n, s.regs.length = n := ⟨_, rfl⟩
  obtain ⟨nc, e4⟩ : ∃ n, f.caps.length = n := ⟨_, rfl⟩
  obtain ⟨nk, e5⟩ : ∃ n, f.code.length = n := ⟨_, rfl⟩
  obtain ⟨nh, e6⟩ : ∃ n, f.hnds.length = n := ⟨_, rfl⟩
  obtain ⟨PA, e7⟩ : ∃ n, f.params = n := ⟨_, rfl⟩
  obtain ⟨RE, e8⟩ : ∃ n, f.regs = n := ⟨_, rfl⟩
  rw [e2] at m2
  rw [e3] at ms
  rw [e4] at mc
  rw [e5] at mk
  rw [e6] at mh
  simp only [e2, e3]
  have hio := hi
  unfold insOk inB at hio
  simp only [Bool.and_eq_true, decide_eq_true_eq] at hio
  obtain ⟨⟨ho1, ho2⟩, ⟨ha1, ha2⟩, hb1', hb2⟩ := hio
  obtain ⟨IA, eA⟩ : ∃ n : Nat, i.a = (n : Int) := ⟨i.a.toNat, by omega⟩
  obtain ⟨IB, eB⟩ : ∃ n : Nat, i.b = (n : Int) := ⟨i.b.toNat, by omega⟩
  have hia : IA ≤ 300 := by omega
  have hib : IB ≤ 300 := by omega
  have eO : i.op = 1 := hop
  obtain ⟨AC, eC⟩ : ∃ n, s.acc = n := ⟨_, rfl⟩
  simp only [eO, eA, eB, eC]
  obtain ⟨F, eF⟩ : ∃ F, mayB p f i s = F := ⟨_, rfl⟩
  rw [eF]
  have eF0 : F = decide ((IA : Int) < (n2 : Int)) := by rw [← eF, may_1 hop, eA, e2]
  have cR0 := fun (r want : Int) (W : World) (hW : Below w.heap.size w W) => l16Reg_any s _ r want W (hs.below hW)
  have cI0 := fun (r : Int) (W : World) (hW : Below w.heap.size w W) => l16Room_any s _ r W (hs.below hW)
  simp only [e3, eC] at cR0 cI0
  have HS : Hid (ArgI w (.slice xs nr cs) s.regs) := by have h := hs; rw [e3] at h; exact h
  have HC : Hid (∀ (j : Nat) (g : PFun), p.funcs[j]? = some g → ∃ cv kv hv, FunAt w b (o + j * 5) g cv kv hv) := hcell
  have HL : Hid (p.funcs.length = n1 ∧ f.caps.length = nc) := ⟨e1, e4⟩
  have T := made_three w (Obj.cells #[.slice (some ⟨b, o, none⟩) n1 c1, .slice x2 n2 c2] 31) (Obj.cells #[.int .i64 1, .int .i64 IA, .int .i64 IB] 72) (Obj.cells #[.int .i64 AC, .slice xs nr cs] 98)
  obtain ⟨W3, hW3⟩ : ∃ W, (((w.alloc (Obj.cells #[.slice (some ⟨b, o, none⟩) n1 c1, .slice x2 n2 c2] 31)).alloc (Obj.cells #[.int .i64 1, .int .i64 IA, .int .i64 IB] 72)).alloc (Obj.cells #[.int .i64 AC, .slice xs nr cs] 98)) = W := ⟨_, rfl⟩
  rw [hW3] at T
  have HW3 : Hid (_ = W3) := hW3
  clear hW3
  obtain ⟨t0, t1, t2, tz, tb⟩ := T
  obtain ⟨G, hG⟩ : ∃ G, w.heap.size = G := ⟨_, rfl⟩
  rw [hG] at t0 t1 t2 tz
  have HA3 := hA.below tb
  have g0 := HA3.c0
  have g1 := HA3.c1
  have g2 := HA3.c2
  have g3 := HA3.c3
  have g4 := HA3.c4
  rw [e7] at g0
  rw [e8] at g1
  rw [e4] at g2
  rw [e5] at g3
  rw [e6] at g4
  clear HA3 hA hcell hC hs os e1 e2 e3 e4 e5 e6 e7 e8 eA eB eC eF hi hf o1 ho1 ho2 ha1 ha2 hb1' hb2
  obtain ⟨i0, i1⟩ := two_cells_of t0
  go_enter Try.func69, Try.ntmps69
  go_upto_region 1 with fail
  rw [HW3.out]
  clear HW3
  try simp only [hG]
  go_upto_region 2 with fail
  have T4 : Below W3.heap.size W3 (W3.alloc (Obj.cells #[.int .i64 PA, .int .i64 RE, .slice xc nc cc, .slice xk nk ck, .slice xh nh ch] 70)) := (Below.refl _ _).alloc (Nat.le_refl _) _
  have t3 : (W3.alloc (Obj.cells #[.int .i64 PA, .int .i64 RE, .slice xc nc cc, .slice xk nk ck, .slice xh nh ch] 70)).heap[G + 3]? = some (.cells #[.int .i64 PA, .int .i64 RE, .slice xc nc cc, .slice xk nk ck, .slice xh nh ch] 70) := by
    rw [← tz]
    exact heap_alloc_new _ _
  obtain ⟨W4, hW4⟩ : ∃ W, (W3.alloc (Obj.cells #[.int .i64 PA, .int .i64 RE, .slice xc nc cc, .slice xk nk ck, .slice xh nh ch] 70)) = W := ⟨_, rfl⟩
  rw [hW4] at T4 t3
  simp only [hW4]
  clear hW4 i0 i1 g0 g1 g2 g3 g4
  have M : MayAt G b o n1 c1 n2 c2 x2 1 IA IB AC xs nr cs PA RE (.slice xc nc cc) (.slice xk nk ck) (.slice xh nh ch) W4 := ⟨(T4.block _ (by omega)).trans t0, (T4.block _ (by omega)).trans t1, (T4.block _ (by omega)).trans t2, t3⟩
  have B4 : Below w.heap.size w W4 := chain tb T4
  clear t0 t1 t2 t3 tb T4 tz hG
  have cR := fun (r want : Int) (W : World) (hW : Below W4.heap.size W4 W) => cR0 r want W (chain B4 hW)
  have cI := fun (r : Int) (W : World) (hW : Below W4.heap.size W4 W) => cI0 r W (chain B4 hW)
  clear cR0 cI0
  obtain ⟨i0, i1⟩ := two_cells_of M.t0
  obtain ⟨j0, j1, j2⟩ := three_cells M.t1
  obtain ⟨s0, s1⟩ := two_cells_of M.t2
  obtain ⟨f0, f1, f2, f3, f4⟩ := five_cells M.t3
  by_cases hlt : (IA : Int) < (n2 : Int)
  · have hF : F = true := by rw [eF0]; exact decide_eq_true hlt
    subst hF
    clear M eF0
    go_wp2
    go_ret
    exact ⟨rfl, B4⟩
  · have hF : F = false := by rw [eF0]; exact decide_eq_false hlt
    subst hF
    clear M eF0
    go_wp2
    go_ret
    exact ⟨rfl, B4⟩
set_option maxHeartbeats 2000000 in
set_option maxRecDepth 100000 in
theorem l16May_7 (p : PImg) (f : PFun) (K : Nat) (i : PIns) (s : PSta) (fv cv v : Value) (w : World) (h : ArgImg w fv cv p) (hf : p.funcs[K]? = some f) (hi : insOk i = true) (hs : ArgI w v s.regs) (hop : i.op = 7) :
    Calls Try.prog 69 #[.agg #[fv, cv], .int .i64 K, .agg #[.int .i64 i.op, .int .i64 i.a, .int .i64 i.b], .agg #[.int .i64 s.acc, v]] w fun e w' => e = .returned (.bool (mayB p f i s)) ∧ Below w.heap.size w w' := by
  obtain ⟨hF, hC⟩ := h
  obtain ⟨x1, c1, rfl, m1, o1⟩ := hF
  obtain ⟨x2, c2, rfl, m2, _⟩ := hC.opened conC_len
  obtain ⟨xs, cs, rfl, ms, os⟩ := hs.opened
  have hKl : K < p.funcs.length := (List.getElem?_eq_some_iff.1 hf).1
  obtain ⟨b, o, rfl, hb, hcell⟩ := o1 (by omega)
  obtain ⟨qc, qk, qh, hA⟩ := hcell K f hf
  obtain ⟨xc, cc, rfl, mc, _⟩ := hA.caps.opened capC_len
  obtain ⟨xk, ck, rfl, mk, _⟩ := hA.code.opened insC_len
  obtain ⟨xh, ch, rfl, mh, _⟩ := hA.hnds.opened hndC_len
  obtain ⟨n1, e1⟩ : ∃ n, p.funcs.length = n := ⟨_, rfl⟩
  rw [e1] at hKl m1 ⊢
  unfold maxLen at m1 m2 ms mc mk mh
  have hki : (K : Int) < (n1 : Int) := by omega
  have hk0 : (0 : Int) ≤ (K : Int) := by omega
  obtain ⟨n2, e2⟩ : ∃ n, p.consts.length = n := ⟨_, rfl⟩
  obtain ⟨nr, e3⟩ : ∃ n, s.regs.length = n := ⟨_, rfl⟩
  obtain ⟨nc, e4⟩ : ∃ n, f.caps.length = n := ⟨_, rfl⟩
  obtain ⟨nk, e5⟩ : ∃ n, f.code.length = n := ⟨_, rfl⟩
  obtain ⟨nh, e6⟩ : ∃ n, f.hnds.length = n := ⟨_, rfl⟩
  obtain ⟨PA, e7⟩ : ∃ n, f.params = n := ⟨_, rfl⟩
  obtain ⟨RE, e8⟩ : ∃ n, f.regs = n := ⟨_, rfl⟩
  rw [e2] at m2
  rw [e3] at ms
  rw [e4] at mc
  rw [e5] at mk
  rw [e6] at mh
  simp only [e2, e3]
  have hio := hi
  unfold insOk inB at hio
  simp only [Bool.and_eq_true, decide_eq_true_eq] at hio
  obtain ⟨⟨ho1, ho2⟩, ⟨ha1, ha2⟩, hb1', hb2⟩ := hio
  obtain ⟨IA, eA⟩ : ∃ n : Nat, i.a = (n : Int) := ⟨i.a.toNat, by omega⟩
  obtain ⟨IB, eB⟩ : ∃ n : Nat, i.b = (n : Int) := ⟨i.b.toNat, by omega⟩
  have hia : IA ≤ 300 := by omega
  have hib : IB ≤ 300 := by omega
  have eO : i.op = 7 := hop
  obtain ⟨AC, eC⟩ : ∃ n, s.acc = n := ⟨_, rfl⟩
  simp only [eO, eA, eB, eC]
  obtain ⟨F, eF⟩ : ∃ F, mayB p f i s = F := ⟨_, rfl⟩
  rw [eF]
  have eF0 : F = decide ((IA : Int) < (nc : Int)) := by rw [← eF, may_7 hop, eA, e4]
  have cR0 := fun (r want : Int) (W : World) (hW : Below w.heap.size w W) => l16Reg_any s _ r want W (hs.below hW)
  have cI0 := fun (r : Int) (W : World) (hW : Below w.heap.size w W) => l16Room_any s _ r W (hs.below hW)
  simp only [e3, eC] at cR0 cI0
  have HS : Hid (ArgI w (.slice xs nr cs) s.regs) := by have h := hs; rw [e3] at h; exact h
  have HC : Hid (∀ (j : Nat) (g : PFun), p.funcs[j]? = some g → ∃ cv kv hv, FunAt w b (o + j * 5) g cv kv hv) := hcell
  have HL : Hid (p.funcs.length = n1 ∧ f.caps.length = nc) := ⟨e1, e4⟩
  have T := made_three w (Obj.cells #[.slice (some ⟨b, o, none⟩) n1 c1, .slice x2 n2 c2] 31) (Obj.cells #[.int .i64 7, .int .i64 IA, .int .i64 IB] 72) (Obj.cells #[.int .i64 AC, .slice xs nr cs] 98)
  obtain ⟨W3, hW3⟩ : ∃ W, (((w.alloc (Obj.cells #[.slice (some ⟨b, o, none⟩) n1 c1, .slice x2 n2 c2] 31)).alloc (Obj.cells #[.int .i64 7, .int .i64 IA, .int .i64 IB] 72)).alloc (Obj.cells #[.int .i64 AC, .slice xs nr cs] 98)) = W := ⟨_, rfl⟩
  rw [hW3] at T
  have HW3 : Hid (_ = W3) := hW3
  clear hW3
  obtain ⟨t0, t1, t2, tz, tb⟩ := T
  obtain ⟨G, hG⟩ : ∃ G, w.heap.size = G := ⟨_, rfl⟩
  rw [hG] at t0 t1 t2 tz
  have HA3 := hA.below tb
  have g0 := HA3.c0
  have g1 := HA3.c1
  have g2 := HA3.c2
  have g3 := HA3.c3
  have g4 := HA3.c4
  rw [e7] at g0
  rw [e8] at g1
  rw [e4] at g2
  rw [e5] at g3
  rw [e6] at g4
  clear HA3 hA hcell hC hs os e1 e2 e3 e4 e5 e6 e7 e8 eA eB eC eF hi hf o1 ho1 ho2 ha1 ha2 hb1' hb2
  obtain ⟨i0, i1⟩ := two_cells_of t0
  go_enter Try.func69, Try.ntmps69
  go_upto_region 1 with fail
  rw [HW3.out]
  clear HW3
  try simp only [hG]
  go_upto_region 2 with fail
  have T4 : Below W3.heap.size W3 (W3.alloc (Obj.cells #[.int .i64 PA, .int .i64 RE, .slice xc nc cc, .slice xk nk ck, .slice xh nh ch] 70)) := (Below.refl _ _).alloc (Nat.le_refl _) _
  have t3 : (W3.alloc (Obj.cells #[.int .i64 PA, .int .i64 RE, .slice xc nc cc, .slice xk nk ck, .slice xh nh ch] 70)).heap[G + 3]? = some (.cells #[.int .i64 PA, .int .i64 RE, .slice xc nc cc, .slice xk nk ck, .slice xh nh ch] 70) := by
    rw [← tz]
    exact heap_alloc_new _ _
  obtain ⟨W4, hW4⟩ : ∃ W, (W3.alloc (Obj.cells #[.int .i64 PA, .int .i64 RE, .slice xc nc cc, .slice xk nk ck, .slice xh nh ch] 70)) = W := ⟨_, rfl⟩
  rw [hW4] at T4 t3
  simp only [hW4]
  clear hW4 i0 i1 g0 g1 g2 g3 g4
  have M : MayAt G b o n1 c1 n2 c2 x2 7 IA IB AC xs nr cs PA RE (.slice xc nc cc) (.slice xk nk ck) (.slice xh nh ch) W4 := ⟨(T4.block _ (by omega)).trans t0, (T4.block _ (by omega)).trans t1, (T4.block _ (by omega)).trans t2, t3⟩
  have B4 : Below w.heap.size w W4 := chain tb T4
  clear t0 t1 t2 t3 tb T4 tz hG
  have cR := fun (r want : Int) (W : World) (hW : Below W4.heap.size W4 W) => cR0 r want W (chain B4 hW)
  have cI := fun (r : Int) (W : World) (hW : Below W4.heap.size W4 W) => cI0 r W (chain B4 hW)
  clear cR0 cI0
  obtain ⟨i0, i1⟩ := two_cells_of M.t0
  obtain ⟨j0, j1, j2⟩ := three_cells M.t1
  obtain ⟨s0, s1⟩ := two_cells_of M.t2
  obtain ⟨f0, f1, f2, f3, f4⟩ := five_cells M.t3
  by_cases hlt : (IA : Int) < (nc : Int)
  · have hF : F = true := by rw [eF0]; exact decide_eq_true hlt
    subst hF
    clear M eF0
    go_wp2
    go_ret
    exact ⟨rfl, B4⟩
  · have hF : F = false := by rw [eF0]; exact decide_eq_false hlt
    subst hF
    clear M eF0
    go_wp2
    go_ret
    exact ⟨rfl, B4⟩
set_option maxHeartbeats 2000000 in
set_option maxRecDepth 100000 in
theorem l16May_12 (p : PImg) (f : PFun) (K : Nat) (i : PIns) (s : PSta) (fv cv v : Value) (w : World) (h : ArgImg w fv cv p) (hf : p.funcs[K]? = some f) (hi : insOk i = true) (hs : ArgI w v s.regs) (hop : i.op = 12) :
    Calls Try.prog 69 #[.agg #[fv, cv], .int .i64 K, .agg #[.int .i64 i.op, .int .i64 i.a, .int .i64 i.b], .agg #[.int .i64 s.acc, v]] w fun e w' => e = .returned (.bool (mayB p f i s)) ∧ Below w.heap.size w w' := by
  obtain ⟨hF, hC⟩ := h
  obtain ⟨x1, c1, rfl, m1, o1⟩ := hF
  obtain ⟨x2, c2, rfl, m2, _⟩ := hC.opened conC_len
  obtain ⟨xs, cs, rfl, ms, os⟩ := hs.opened
  have hKl : K < p.funcs.length := (List.getElem?_eq_some_iff.1 hf).1
  obtain ⟨b, o, rfl, hb, hcell⟩ := o1 (by omega)
  obtain ⟨qc, qk, qh, hA⟩ := hcell K f hf
  obtain ⟨xc, cc, rfl, mc, _⟩ := hA.caps.opened capC_len
  obtain ⟨xk, ck, rfl, mk, _⟩ := hA.code.opened insC_len
  obtain ⟨xh, ch, rfl, mh, _⟩ := hA.hnds.opened hndC_len
  obtain ⟨n1, e1⟩ : ∃ n, p.funcs.length = n := ⟨_, rfl⟩
  rw [e1] at hKl m1 ⊢
  unfold maxLen at m1 m2 ms mc mk mh
  have hki : (K : Int) < (n1 : Int) := by omega
  have hk0 : (0 : Int) ≤ (K : Int) := by omega
  obtain ⟨n2, e2⟩ : ∃ n, p.consts.length = n := ⟨_, rfl⟩
  obtain ⟨nr, e3⟩ : ∃ n, s.regs.length = n := ⟨_, rfl⟩
  obtain ⟨nc, e4⟩ : ∃ n, f.caps.length = n := ⟨_, rfl⟩
  obtain ⟨nk, e5⟩ : ∃ n, f.code.length = n := ⟨_, rfl⟩
  obtain ⟨nh, e6⟩ : ∃ n, f.hnds.length = n := ⟨_, rfl⟩
  obtain ⟨PA, e7⟩ : ∃ n, f.params = n := ⟨_, rfl⟩
  obtain ⟨RE, e8⟩ : ∃ n, f.regs = n := ⟨_, rfl⟩
  rw [e2] at m2
  rw [e3] at ms
  rw [e4] at mc
  rw [e5] at mk
  rw [e6] at mh
  simp only [e2, e3]
  have hio := hi
  unfold insOk inB at hio
  simp only [Bool.and_eq_true, decide_eq_true_eq] at hio
  obtain ⟨⟨ho1, ho2⟩, ⟨ha1, ha2⟩, hb1', hb2⟩ := hio
  obtain ⟨IA, eA⟩ : ∃ n : Nat, i.a = (n : Int) := ⟨i.a.toNat, by omega⟩
  obtain ⟨IB, eB⟩ : ∃ n : Nat, i.b = (n : Int) := ⟨i.b.toNat, by omega⟩
  have hia : IA ≤ 300 := by omega
  have hib : IB ≤ 300 := by omega
  have eO : i.op = 12 := hop
  obtain ⟨AC, eC⟩ : ∃ n, s.acc = n := ⟨_, rfl⟩
  simp only [eO, eA, eB, eC]
  obtain ⟨F, eF⟩ : ∃ F, mayB p f i s = F := ⟨_, rfl⟩
  rw [eF]
  have eF0 : F = decide ((IA : Int) < (nk : Int)) := by rw [← eF, may_12 hop, eA, e5]
  have cR0 := fun (r want : Int) (W : World) (hW : Below w.heap.size w W) => l16Reg_any s _ r want W (hs.below hW)
  have cI0 := fun (r : Int) (W : World) (hW : Below w.heap.size w W) => l16Room_any s _ r W (hs.below hW)
  simp only [e3, eC] at cR0 cI0
  have HS : Hid (ArgI w (.slice xs nr cs) s.regs) := by have h := hs; rw [e3] at h; exact h
  have HC : Hid (∀ (j : Nat) (g : PFun), p.funcs[j]? = some g → ∃ cv kv hv, FunAt w b (o + j * 5) g cv kv hv) := hcell
  have HL : Hid (p.funcs.length = n1 ∧ f.caps.length = nc) := ⟨e1, e4⟩
  have T := made_three w (Obj.cells #[.slice (some ⟨b, o, none⟩) n1 c1, .slice x2 n2 c2] 31) (Obj.cells #[.int .i64 12, .int .i64 IA, .int .i64 IB] 72) (Obj.cells #[.int .i64 AC, .slice xs nr cs] 98)
  obtain ⟨W3, hW3⟩ : ∃ W, (((w.alloc (Obj.cells #[.slice (some ⟨b, o, none⟩) n1 c1, .slice x2 n2 c2] 31)).alloc (Obj.cells #[.int .i64 12, .int .i64 IA, .int .i64 IB] 72)).alloc (Obj.cells #[.int .i64 AC, .slice xs nr cs] 98)) = W := ⟨_, rfl⟩
  rw [hW3] at T
  have HW3 : Hid (_ = W3) := hW3
  clear hW3
  obtain ⟨t0, t1, t2, tz, tb⟩ := T
  obtain ⟨G, hG⟩ : ∃ G, w.heap.size = G := ⟨_, rfl⟩
  rw [hG] at t0 t1 t2 tz
  have HA3 := hA.below tb
  have g0 := HA3.c0
  have g1 := HA3.c1
  have g2 := HA3.c2
  have g3 := HA3.c3
  have g4 := HA3.c4
  rw [e7] at g0
  rw [e8] at g1
  rw [e4] at g2
  rw [e5] at g3
  rw [e6] at g4
  clear HA3 hA hcell hC hs os e1 e2 e3 e4 e5 e6 e7 e8 eA eB eC eF hi hf o1 ho1 ho2 ha1 ha2 hb1' hb2
  obtain ⟨i0, i1⟩ := two_cells_of t0
  go_enter Try.func69, Try.ntmps69
  go_upto_region 1 with fail
  rw [HW3.out]
  clear HW3
  try simp only [hG]
  go_upto_region 2 with fail
  have T4 : Below W3.heap.size W3 (W3.alloc (Obj.cells #[.int .i64 PA, .int .i64 RE, .slice xc nc cc, .slice xk nk ck, .slice xh nh ch] 70)) := (Below.refl _ _).alloc (Nat.le_refl _) _
  have t3 : (W3.alloc (Obj.cells #[.int .i64 PA, .int .i64 RE, .slice xc nc cc, .slice xk nk ck, .slice xh nh ch] 70)).heap[G + 3]? = some (.cells #[.int .i64 PA, .int .i64 RE, .slice xc nc cc, .slice xk nk ck, .slice xh nh ch] 70) := by
    rw [← tz]
    exact heap_alloc_new _ _
  obtain ⟨W4, hW4⟩ : ∃ W, (W3.alloc (Obj.cells #[.int .i64 PA, .int .i64 RE, .slice xc nc cc, .slice xk nk ck, .slice xh nh ch] 70)) = W := ⟨_, rfl⟩
  rw [hW4] at T4 t3
  simp only [hW4]
  clear hW4 i0 i1 g0 g1 g2 g3 g4
  have M : MayAt G b o n1 c1 n2 c2 x2 12 IA IB AC xs nr cs PA RE (.slice xc nc cc) (.slice xk nk ck) (.slice xh nh ch) W4 := ⟨(T4.block _ (by omega)).trans t0, (T4.block _ (by omega)).trans t1, (T4.block _ (by omega)).trans t2, t3⟩
  have B4 : Below w.heap.size w W4 := chain tb T4
  clear t0 t1 t2 t3 tb T4 tz hG
  have cR := fun (r want : Int) (W : World) (hW : Below W4.heap.size W4 W) => cR0 r want W (chain B4 hW)
  have cI := fun (r : Int) (W : World) (hW : Below W4.heap.size W4 W) => cI0 r W (chain B4 hW)
  clear cR0 cI0
  obtain ⟨i0, i1⟩ := two_cells_of M.t0
  obtain ⟨j0, j1, j2⟩ := three_cells M.t1
  obtain ⟨s0, s1⟩ := two_cells_of M.t2
  obtain ⟨f0, f1, f2, f3, f4⟩ := five_cells M.t3
  by_cases hlt : (IA : Int) < (nk : Int)
  · have hF : F = true := by rw [eF0]; exact decide_eq_true hlt
    subst hF
    clear M eF0
    go_wp2
    go_ret
    exact ⟨rfl, B4⟩
  · have hF : F = false := by rw [eF0]; exact decide_eq_false hlt
    subst hF
    clear M eF0
    go_wp2
    go_ret
    exact ⟨rfl, B4⟩
set_option maxHeartbeats 2000000 in
set_option maxRecDepth 100000 in
theorem l16May_8 (p : PImg) (f : PFun) (K : Nat) (i : PIns) (s : PSta) (fv cv v : Value) (w : World) (h : ArgImg w fv cv p) (hf : p.funcs[K]? = some f) (hi : insOk i = true) (hs : ArgI w v s.regs) (hop : i.op = 8) :
    Calls Try.prog 69 #[.agg #[fv, cv], .int .i64 K, .agg #[.int .i64 i.op, .int .i64 i.a, .int .i64 i.b], .agg #[.int .i64 s.acc, v]] w fun e w' => e = .returned (.bool (mayB p f i s)) ∧ Below w.heap.size w w' := by
  obtain ⟨hF, hC⟩ := h
  obtain ⟨x1, c1, rfl, m1, o1⟩ := hF
  obtain ⟨x2, c2, rfl, m2, _⟩ := hC.opened conC_len
  obtain ⟨xs, cs, rfl, ms, os⟩ := hs.opened
  have hKl : K < p.funcs.length := (List.getElem?_eq_some_iff.1 hf).1
  obtain ⟨b, o, rfl, hb, hcell⟩ := o1 (by omega)
  obtain ⟨qc, qk, qh, hA⟩ := hcell K f hf
  obtain ⟨xc, cc, rfl, mc, _⟩ := hA.caps.opened capC_len
  obtain ⟨xk, ck, rfl, mk, _⟩ := hA.code.opened insC_len
  obtain ⟨xh, ch, rfl, mh, _⟩ := hA.hnds.opened hndC_len
  obtain ⟨n1, e1⟩ : ∃ n, p.funcs.length = n := ⟨_, rfl⟩
  rw [e1] at hKl m1 ⊢
  unfold maxLen at m1 m2 ms mc mk mh
  have hki : (K : Int) < (n1 : Int) := by omega
  have hk0 : (0 : Int) ≤ (K : Int) := by omega
  obtain ⟨n2, e2⟩ : ∃ n, p.consts.length = n := ⟨_, rfl⟩
  obtain ⟨nr, e3⟩ : ∃ n, s.regs.length = n := ⟨_, rfl⟩
  obtain ⟨nc, e4⟩ : ∃ n, f.caps.length = n := ⟨_, rfl⟩
  obtain ⟨nk, e5⟩ : ∃ n, f.code.length = n := ⟨_, rfl⟩
  obtain ⟨nh, e6⟩ : ∃ n, f.hnds.length = n := ⟨_, rfl⟩
  obtain ⟨PA, e7⟩ : ∃ n, f.params = n := ⟨_, rfl⟩
  obtain ⟨RE, e8⟩ : ∃ n, f.regs = n := ⟨_, rfl⟩
  rw [e2] at m2
  rw [e3] at ms
  rw [e4] at mc
  rw [e5] at mk
  rw [e6] at mh
  simp only [e2, e3]
  have hio := hi
  unfold insOk inB at hio
  simp only [Bool.and_eq_true, decide_eq_true_eq] at hio
  obtain ⟨⟨ho1, ho2⟩, ⟨ha1, ha2⟩, hb1', hb2⟩ := hio
  obtain ⟨IA, eA⟩ : ∃ n : Nat, i.a = (n : Int) := ⟨i.a.toNat, by omega⟩
  obtain ⟨IB, eB⟩ : ∃ n : Nat, i.b = (n : Int) := ⟨i.b.toNat, by omega⟩
  have hia : IA ≤ 300 := by omega
  have hib : IB ≤ 300 := by omega
  have eO : i.op = 8 := hop
  obtain ⟨AC, eC⟩ : ∃ n, s.acc = n := ⟨_, rfl⟩
  simp only [eO, eA, eB, eC]
  obtain ⟨F, eF⟩ : ∃ F, mayB p f i s = F := ⟨_, rfl⟩
  rw [eF]
  have eF0 : F = (decide ((IA : Int) < (nc : Int)) && decide (AC = 1)) := by rw [← eF, may_8 hop, eA, eC, e4]
  have cR0 := fun (r want : Int) (W : World) (hW : Below w.heap.size w W) => l16Reg_any s _ r want W (hs.below hW)
  have cI0 := fun (r : Int) (W : World) (hW : Below w.heap.size w W) => l16Room_any s _ r W (hs.below hW)
  simp only [e3, eC] at cR0 cI0
  have HS : Hid (ArgI w (.slice xs nr cs) s.regs) := by have h := hs; rw [e3] at h; exact h
  have HC : Hid (∀ (j : Nat) (g : PFun), p.funcs[j]? = some g → ∃ cv kv hv, FunAt w b (o + j * 5) g cv kv hv) := hcell
  have HL : Hid (p.funcs.length = n1 ∧ f.caps.length = nc) := ⟨e1, e4⟩
  have T := made_three w (Obj.cells #[.slice (some ⟨b, o, none⟩) n1 c1, .slice x2 n2 c2] 31) (Obj.cells #[.int .i64 8, .int .i64 IA, .int .i64 IB] 72) (Obj.cells #[.int .i64 AC, .slice xs nr cs] 98)
  obtain ⟨W3, hW3⟩ : ∃ W, (((w.alloc (Obj.cells #[.slice (some ⟨b, o, none⟩) n1 c1, .slice x2 n2 c2] 31)).alloc (Obj.cells #[.int .i64 8, .int .i64 IA, .int .i64 IB] 72)).alloc (Obj.cells #[.int .i64 AC, .slice xs nr cs] 98)) = W := ⟨_, rfl⟩
  rw [hW3] at T
  have HW3 : Hid (_ = W3) := hW3
  clear hW3
  obtain ⟨t0, t1, t2, tz, tb⟩ := T
  obtain ⟨G, hG⟩ : ∃ G, w.heap.size = G := ⟨_, rfl⟩
  rw [hG] at t0 t1 t2 tz
  have HA3 := hA.below tb
  have g0 := HA3.c0
  have g1 := HA3.c1
  have g2 := HA3.c2
  have g3 := HA3.c3
  have g4 := HA3.c4
  rw [e7] at g0
  rw [e8] at g1
  rw [e4] at g2
  rw [e5] at g3
  rw [e6] at g4
  clear HA3 hA hcell hC hs os e1 e2 e3 e4 e5 e6 e7 e8 eA eB eC eF hi hf o1 ho1 ho2 ha1 ha2 hb1' hb2
  obtain ⟨i0, i1⟩ := two_cells_of t0
  go_enter Try.func69, Try.ntmps69
  go_upto_region 1 with fail
  rw [HW3.out]
  clear HW3
  try simp only [hG]
  go_upto_region 2 with fail
  have T4 : Below W3.heap.size W3 (W3.alloc (Obj.cells #[.int .i64 PA, .int .i64 RE, .slice xc nc cc, .slice xk nk ck, .slice xh nh ch] 70)) := (Below.refl _ _).alloc (Nat.le_refl _) _
  have t3 : (W3.alloc (Obj.cells #[.int .i64 PA, .int .i64 RE, .slice xc nc cc, .slice xk nk ck, .slice xh nh ch] 70)).heap[G + 3]? = some (.cells #[.int .i64 PA, .int .i64 RE, .slice xc nc cc, .slice xk nk ck, .slice xh nh ch] 70) := by
    rw [← tz]
    exact heap_alloc_new _ _
  obtain ⟨W4, hW4⟩ : ∃ W, (W3.alloc (Obj.cells #[.int .i64 PA, .int .i64 RE, .slice xc nc cc, .slice xk nk ck, .slice xh nh ch] 70)) = W := ⟨_, rfl⟩
  rw [hW4] at T4 t3
  simp only [hW4]
  clear hW4 i0 i1 g0 g1 g2 g3 g4
  have M : MayAt G b o n1 c1 n2 c2 x2 8 IA IB AC xs nr cs PA RE (.slice xc nc cc) (.slice xk nk ck) (.slice xh nh ch) W4 := ⟨(T4.block _ (by omega)).trans t0, (T4.block _ (by omega)).trans t1, (T4.block _ (by omega)).trans t2, t3⟩
  have B4 : Below w.heap.size w W4 := chain tb T4
  clear t0 t1 t2 t3 tb T4 tz hG
  have cR := fun (r want : Int) (W : World) (hW : Below W4.heap.size W4 W) => cR0 r want W (chain B4 hW)
  have cI := fun (r : Int) (W : World) (hW : Below W4.heap.size W4 W) => cI0 r W (chain B4 hW)
  clear cR0 cI0
  obtain ⟨i0, i1⟩ := two_cells_of M.t0
  obtain ⟨j0, j1, j2⟩ := three_cells M.t1
  obtain ⟨s0, s1⟩ := two_cells_of M.t2
  obtain ⟨f0, f1, f2, f3, f4⟩ := five_cells M.t3
  obtain ⟨ac, hac⟩ : ∃ b, (AC == 1) = b := ⟨_, rfl⟩
  have hac' : decide (AC = 1) = ac := by rw [← hac]; rfl
  have hF : F = (decide ((IA : Int) < (nc : Int)) && ac) := by rw [eF0, hac']
  clear eF0 hac'
  by_cases hlt : (IA : Int) < (nc : Int)
  · have hF' : F = ac := by rw [hF, decide_eq_true hlt, Bool.true_and]
    subst hF'
    clear M hF
    go_wp2
    go_ret
    exact ⟨rfl, B4⟩
  · have hF' : F = false := by rw [hF, decide_eq_false hlt, Bool.false_and]
    subst hF'
    clear M hF
    cases ac
    all_goals
      go_wp2
      go_ret
      exact ⟨rfl, B4⟩
set_option maxHeartbeats 2000000 in
set_option maxRecDepth 100000 in
theorem l16May_13 (p : PImg) (f : PFun) (K : Nat) (i : PIns) (s : PSta) (fv cv v : Value) (w : World) (h : ArgImg w fv cv p) (hf : p.funcs[K]? = some f) (hi : insOk i = true) (hs : ArgI w v s.regs) (hop : i.op = 13) :
    Calls Try.prog 69 #[.agg #[fv, cv], .int .i64 K, .agg #[.int .i64 i.op, .int .i64 i.a, .int .i64 i.b], .agg #[.int .i64 s.acc, v]] w fun e w' => e = .returned (.bool (mayB p f i s)) ∧ Below w.heap.size w w' := by
  obtain ⟨hF, hC⟩ := h
  obtain ⟨x1, c1, rfl, m1, o1⟩ := hF
  obtain ⟨x2, c2, rfl, m2, _⟩ := hC.opened conC_len
  obtain ⟨xs, cs, rfl, ms, os⟩ := hs.opened
  have hKl : K < p.funcs.length := (List.getElem?_eq_some_iff.1 hf).1
  obtain ⟨b, o, rfl, hb, hcell⟩ := o1 (by omega)
  obtain ⟨qc, qk, qh, hA⟩ := hcell K f hf
  obtain ⟨xc, cc, rfl, mc, _⟩ := hA.caps.opened capC_len
  obtain ⟨xk, ck, rfl, mk, _⟩ := hA.code.opened insC_len
  obtain ⟨xh, ch, rfl, mh, _⟩ := hA.hnds.opened hndC_len
  obtain ⟨n1, e1⟩ : ∃ n, p.funcs.length = n := ⟨_, rfl⟩
  rw [e1] at hKl m1 ⊢
  unfold maxLen at m1 m2 ms mc mk mh
  have hki : (K : Int) < (n1 : Int) := by omega
  have hk0 : (0 : Int) ≤ (K : Int) := by omega
  obtain ⟨n2, e2⟩ : ∃ n, p.consts.length = n := ⟨_, rfl⟩
  obtain ⟨nr, e3⟩ : ∃ n, s.regs.length = n := ⟨_, rfl⟩
  obtain ⟨nc, e4⟩ : ∃ n, f.caps.length = n := ⟨_, rfl⟩
  obtain ⟨nk, e5⟩ : ∃ n, f.code.length = n := ⟨_, rfl⟩
  obtain ⟨nh, e6⟩ : ∃ n, f.hnds.length = n := ⟨_, rfl⟩
  obtain ⟨PA, e7⟩ : ∃ n, f.params = n := ⟨_, rfl⟩
  obtain ⟨RE, e8⟩ : ∃ n, f.regs = n := ⟨_, rfl⟩
  rw [e2] at m2
  rw [e3] at ms
  rw [e4] at mc
  rw [e5] at mk
  rw [e6] at mh
  simp only [e2, e3]
  have hio := hi
  unfold insOk inB at hio
  simp only [Bool.and_eq_true, decide_eq_true_eq] at hio
  obtain ⟨⟨ho1, ho2⟩, ⟨ha1, ha2⟩, hb1', hb2⟩ := hio
  obtain ⟨IA, eA⟩ : ∃ n : Nat, i.a = (n : Int) := ⟨i.a.toNat, by omega⟩
  obtain ⟨IB, eB⟩ : ∃ n : Nat, i.b = (n : Int) := ⟨i.b.toNat, by omega⟩
  have hia : IA ≤ 300 := by omega
  have hib : IB ≤ 300 := by omega
  have eO : i.op = 13 := hop
  obtain ⟨AC, eC⟩ : ∃ n, s.acc = n := ⟨_, rfl⟩
  simp only [eO, eA, eB, eC]
  obtain ⟨F, eF⟩ : ∃ F, mayB p f i s = F := ⟨_, rfl⟩
  rw [eF]
  have eF0 : F = (decide ((IA : Int) < (nk : Int)) && decide (AC = 1)) := by rw [← eF, may_13 hop, eA, eC, e5]
  have cR0 := fun (r want : Int) (W : World) (hW : Below w.heap.size w W) => l16Reg_any s _ r want W (hs.below hW)
  have cI0 := fun (r : Int) (W : World) (hW : Below w.heap.size w W) => l16Room_any s _ r W (hs.below hW)
  simp only [e3, eC] at cR0 cI0
  have HS : Hid (ArgI w (.slice xs nr cs) s.regs) := by have h := hs; rw [e3] at h; exact h
  have HC : Hid (∀ (j : Nat) (g : PFun), p.funcs[j]? = some g → ∃ cv kv hv, FunAt w b (o + j * 5) g cv kv hv) := hcell
  have HL : Hid (p.funcs.length = n1 ∧ f.caps.length = nc) := ⟨e1, e4⟩
  have T := made_three w (Obj.cells #[.slice (some ⟨b, o, none⟩) n1 c1, .slice x2 n2 c2] 31) (Obj.cells #[.int .i64 13, .int .i64 IA, .int .i64 IB] 72) (Obj.cells #[.int .i64 AC, .slice xs nr cs] 98)
  obtain ⟨W3, hW3⟩ : ∃ W, (((w.alloc (Obj.cells #[.slice (some ⟨b, o, none⟩) n1 c1, .slice x2 n2 c2] 31)).alloc (Obj.cells #[.int .i64 13, .int .i64 IA, .int .i64 IB] 72)).alloc (Obj.cells #[.int .i64 AC, .slice xs nr cs] 98)) = W := ⟨_, rfl⟩
  rw [hW3] at T
  have HW3 : Hid (_ = W3) := hW3
  clear hW3
  obtain ⟨t0, t1, t2, tz, tb⟩ := T
  obtain ⟨G, hG⟩ : ∃ G, w.heap.size = G := ⟨_, rfl⟩
  rw [hG] at t0 t1 t2 tz
  have HA3 := hA.below tb
  have g0 := HA3.c0
  have g1 := HA3.c1
  have g2 := HA3.c2
  have g3 := HA3.c3
  have g4 := HA3.c4
  rw [e7] at g0
  rw [e8] at g1
  rw [e4] at g2
  rw [e5] at g3
  rw [e6] at g4
  clear HA3 hA hcell hC hs os e1 e2 e3 e4 e5 e6 e7 e8 eA eB eC eF hi hf o1 ho1 ho2 ha1 ha2 hb1' hb2
  obtain ⟨i0, i1⟩ := two_cells_of t0
  go_enter Try.func69, Try.ntmps69
  go_upto_region 1 with fail
  rw [HW3.out]
  clear HW3
  try simp only [hG]
  go_upto_region 2 with fail
  have T4 : Below W3.heap.size W3 (W3.alloc (Obj.cells #[.int .i64 PA, .int .i64 RE, .slice xc nc cc, .slice xk nk ck, .slice xh nh ch] 70)) := (Below.refl _ _).alloc (Nat.le_refl _) _
  have t3 : (W3.alloc (Obj.cells #[.int .i64 PA, .int .i64 RE, .slice xc nc cc, .slice xk nk ck, .slice xh nh ch] 70)).heap[G + 3]? = some (.cells #[.int .i64 PA, .int .i64 RE, .slice xc nc cc, .slice xk nk ck, .slice xh nh ch] 70) := by
    rw [← tz]
    exact heap_alloc_new _ _
  obtain ⟨W4, hW4⟩ : ∃ W, (W3.alloc (Obj.cells #[.int .i64 PA, .int .i64 RE, .slice xc nc cc, .slice xk nk ck, .slice xh nh ch] 70)) = W := ⟨_, rfl⟩
  rw [hW4] at T4 t3
  simp only [hW4]
  clear hW4 i0 i1 g0 g1 g2 g3 g4
  have M : MayAt G b o n1 c1 n2 c2 x2 13 IA IB AC xs nr cs PA RE (.slice xc nc cc) (.slice xk nk ck) (.slice xh nh ch) W4 := ⟨(T4.block _ (by omega)).trans t0, (T4.block _ (by omega)).trans t1, (T4.block _ (by omega)).trans t2, t3⟩
  have B4 : Below w.heap.size w W4 := chain tb T4
  clear t0 t1 t2 t3 tb T4 tz hG
  have cR := fun (r want : Int) (W : World) (hW : Below W4.heap.size W4 W) => cR0 r want W (chain B4 hW)
  have cI := fun (r : Int) (W : World) (hW : Below W4.heap.size W4 W) => cI0 r W (chain B4 hW)
  clear cR0 cI0
  obtain ⟨i0, i1⟩ := two_cells_of M.t0
  obtain ⟨j0, j1, j2⟩ := three_cells M.t1
  obtain ⟨s0, s1⟩ := two_cells_of M.t2
  obtain ⟨f0, f1, f2, f3, f4⟩ := five_cells M.t3
  obtain ⟨ac, hac⟩ : ∃ b, (AC == 1) = b := ⟨_, rfl⟩
  have hac' : decide (AC = 1) = ac := by rw [← hac]; rfl
  have hF : F = (decide ((IA : Int) < (nk : Int)) && ac) := by rw [eF0, hac']
  clear eF0 hac'
  by_cases hlt : (IA : Int) < (nk : Int)
  · have hF' : F = ac := by rw [hF, decide_eq_true hlt, Bool.true_and]
    subst hF'
    clear M hF
    go_wp2
    go_ret
    exact ⟨rfl, B4⟩
  · have hF' : F = false := by rw [hF, decide_eq_false hlt, Bool.false_and]
    subst hF'
    clear M hF
    cases ac
    all_goals
      go_wp2
      go_ret
      exact ⟨rfl, B4⟩
set_option maxHeartbeats 2000000 in
set_option maxRecDepth 100000 in
theorem l16May_14 (p : PImg) (f : PFun) (K : Nat) (i : PIns) (s : PSta) (fv cv v : Value) (w : World) (h : ArgImg w fv cv p) (hf : p.funcs[K]? = some f) (hi : insOk i = true) (hs : ArgI w v s.regs) (hop : i.op = 14) :
    Calls Try.prog 69 #[.agg #[fv, cv], .int .i64 K, .agg #[.int .i64 i.op, .int .i64 i.a, .int .i64 i.b], .agg #[.int .i64 s.acc, v]] w fun e w' => e = .returned (.bool (mayB p f i s)) ∧ Below w.heap.size w w' := by
  obtain ⟨hF, hC⟩ := h
  obtain ⟨x1, c1, rfl, m1, o1⟩ := hF
  obtain ⟨x2, c2, rfl, m2, _⟩ := hC.opened conC_len
  obtain ⟨xs, cs, rfl, ms, os⟩ := hs.opened
  have hKl : K < p.funcs.length := (List.getElem?_eq_some_iff.1 hf).1
  obtain ⟨b, o, rfl, hb, hcell⟩ := o1 (by omega)
  obtain ⟨qc, qk, qh, hA⟩ := hcell K f hf
  obtain ⟨xc, cc, rfl, mc, _⟩ := hA.caps.opened capC_len
  obtain ⟨xk, ck, rfl, mk, _⟩ := hA.code.opened insC_len
  obtain ⟨xh, ch, rfl, mh, _⟩ := hA.hnds.opened hndC_len
  obtain ⟨n1, e1⟩ : ∃ n, p.funcs.length = n := ⟨_, rfl⟩
  rw [e1] at hKl m1 ⊢
  unfold maxLen at m1 m2 ms mc mk mh
  have hki : (K : Int) < (n1 : Int) := by omega
  have hk0 : (0 : Int) ≤ (K : Int) := by omega
  obtain ⟨n2, e2⟩ : ∃ n, p.consts.length = n := ⟨_, rfl⟩
  obtain ⟨nr, e3⟩ : ∃ n, s.regs.length = n := ⟨_, rfl⟩
  obtain ⟨nc, e4⟩ : ∃ n, f.caps.length = n := ⟨_, rfl⟩
  obtain ⟨nk, e5⟩ : ∃ n, f.code.length = n := ⟨_, rfl⟩
  obtain ⟨nh, e6⟩ : ∃ n, f.hnds.length = n := ⟨_, rfl⟩
  obtain ⟨PA, e7⟩ : ∃ n, f.params = n := ⟨_, rfl⟩
  obtain ⟨RE, e8⟩ : ∃ n, f.regs = n := ⟨_, rfl⟩
  rw [e2] at m2
  rw [e3] at ms
  rw [e4] at mc
  rw [e5] at mk
  rw [e6] at mh
  simp only [e2, e3]
  have hio := hi
  unfold insOk inB at hio
  simp only [Bool.and_eq_true, decide_eq_true_eq] at hio
  obtain ⟨⟨ho1, ho2⟩, ⟨ha1, ha2⟩, hb1', hb2⟩ := hio
  obtain ⟨IA, eA⟩ : ∃ n : Nat, i.a = (n : Int) := ⟨i.a.toNat, by omega⟩
  obtain ⟨IB, eB⟩ : ∃ n : Nat, i.b = (n : Int) := ⟨i.b.toNat, by omega⟩
  have hia : IA ≤ 300 := by omega
  have hib : IB ≤ 300 := by omega
  have eO : i.op = 14 := hop
  obtain ⟨AC, eC⟩ : ∃ n, s.acc = n := ⟨_, rfl⟩
  simp only [eO, eA, eB, eC]
  obtain ⟨F, eF⟩ : ∃ F, mayB p f i s = F := ⟨_, rfl⟩
  rw [eF]
  have eF0 : F = (decide ((IA : Int) < (nk : Int)) && decide (AC = 1)) := by rw [← eF, may_14 hop, eA, eC, e5]
  have cR0 := fun (r want : Int) (W : World) (hW : Below w.heap.size w W) => l16Reg_any s _ r want W (hs.below hW)
  have cI0 := fun (r : Int) (W : World) (hW : Below w.heap.size w W) => l16Room_any s _ r W (hs.below hW)
  simp only [e3, eC] at cR0 cI0
  have HS : Hid (ArgI w (.slice xs nr cs) s.regs) := by have h := hs; rw [e3] at h; exact h
  have HC : Hid (∀ (j : Nat) (g : PFun), p.funcs[j]? = some g → ∃ cv kv hv, FunAt w b (o + j * 5) g cv kv hv) := hcell
  have HL : Hid (p.funcs.length = n1 ∧ f.caps.length = nc) := ⟨e1, e4⟩
  have T := made_three w (Obj.cells #[.slice (some ⟨b, o, none⟩) n1 c1, .slice x2 n2 c2] 31) (Obj.cells #[.int .i64 14, .int .i64 IA, .int .i64 IB] 72) (Obj.cells #[.int .i64 AC, .slice xs nr cs] 98)
  obtain ⟨W3, hW3⟩ : ∃ W, (((w.alloc (Obj.cells #[.slice (some ⟨b, o, none⟩) n1 c1, .slice x2 n2 c2] 31)).alloc (Obj.cells #[.int .i64 14, .int .i64 IA, .int .i64 IB] 72)).alloc (Obj.cells #[.int .i64 AC, .slice xs nr cs] 98)) = W := ⟨_, rfl⟩
  rw [hW3] at T
  have HW3 : Hid (_ = W3) := hW3
  clear hW3
  obtain ⟨t0, t1, t2, tz, tb⟩ := T
  obtain ⟨G, hG⟩ : ∃ G, w.heap.size = G := ⟨_, rfl⟩
  rw [hG] at t0 t1 t2 tz
  have HA3 := hA.below tb
  have g0 := HA3.c0
  have g1 := HA3.c1
  have g2 := HA3.c2
  have g3 := HA3.c3
  have g4 := HA3.c4
  rw [e7] at g0
  rw [e8] at g1
  rw [e4] at g2
  rw [e5] at g3
  rw [e6] at g4
  clear HA3 hA hcell hC hs os e1 e2 e3 e4 e5 e6 e7 e8 eA eB eC eF hi hf o1 ho1 ho2 ha1 ha2 hb1' hb2
  obtain ⟨i0, i1⟩ := two_cells_of t0
  go_enter Try.func69, Try.ntmps69
  go_upto_region 1 with fail
  rw [HW3.out]
  clear HW3
  try simp only [hG]
  go_upto_region 2 with fail
  have T4 : Below W3.heap.size W3 (W3.alloc (Obj.cells #[.int .i64 PA, .int .i64 RE, .slice xc nc cc, .slice xk nk ck, .slice xh nh ch] 70)) := (Below.refl _ _).alloc (Nat.le_refl _) _
  have t3 : (W3.alloc (Obj.cells #[.int .i64 PA, .int .i64 RE, .slice xc nc cc, .slice xk nk ck, .slice xh nh ch] 70)).heap[G + 3]? = some (.cells #[.int .i64 PA, .int .i64 RE, .slice xc nc cc, .slice xk nk ck, .slice xh nh ch] 70) := by
    rw [← tz]
    exact heap_alloc_new _ _
  obtain ⟨W4, hW4⟩ : ∃ W, (W3.alloc (Obj.cells #[.int .i64 PA, .int .i64 RE, .slice xc nc cc, .slice xk nk ck, .slice xh nh ch] 70)) = W := ⟨_, rfl⟩
  rw [hW4] at T4 t3
  simp only [hW4]
  clear hW4 i0 i1 g0 g1 g2 g3 g4
  have M : MayAt G b o n1 c1 n2 c2 x2 14 IA IB AC xs nr cs PA RE (.slice xc nc cc) (.slice xk nk ck) (.slice xh nh ch) W4 := ⟨(T4.block _ (by omega)).trans t0, (T4.block _ (by omega)).trans t1, (T4.block _ (by omega)).trans t2, t3⟩
  have B4 : Below w.heap.size w W4 := chain tb T4
  clear t0 t1 t2 t3 tb T4 tz hG
  have cR := fun (r want : Int) (W : World) (hW : Below W4.heap.size W4 W) => cR0 r want W (chain B4 hW)
  have cI := fun (r : Int) (W : World) (hW : Below W4.heap.size W4 W) => cI0 r W (chain B4 hW)
  clear cR0 cI0
  obtain ⟨i0, i1⟩ := two_cells_of M.t0
  obtain ⟨j0, j1, j2⟩ := three_cells M.t1
  obtain ⟨s0, s1⟩ := two_cells_of M.t2
  obtain ⟨f0, f1, f2, f3, f4⟩ := five_cells M.t3
  obtain ⟨ac, hac⟩ : ∃ b, (AC == 1) = b := ⟨_, rfl⟩
  have hac' : decide (AC = 1) = ac := by rw [← hac]; rfl
  have hF : F = (decide ((IA : Int) < (nk : Int)) && ac) := by rw [eF0, hac']
  clear eF0 hac'
  by_cases hlt : (IA : Int) < (nk : Int)
  · have hF' : F = ac := by rw [hF, decide_eq_true hlt, Bool.true_and]
    subst hF'
    clear M hF
    go_wp2
    go_ret
    exact ⟨rfl, B4⟩
  · have hF' : F = false := by rw [hF, decide_eq_false hlt, Bool.false_and]
    subst hF'
    clear M hF
    cases ac
    all_goals
      go_wp2
      go_ret
      exact ⟨rfl, B4⟩
set_option maxHeartbeats 2000000 in
set_option maxRecDepth 100000 in
theorem l16May_2 (p : PImg) (f : PFun) (K : Nat) (i : PIns) (s : PSta) (fv cv v : Value) (w : World) (h : ArgImg w fv cv p) (hf : p.funcs[K]? = some f) (hi : insOk i = true) (hs : ArgI w v s.regs) (hop : i.op = 2) :
    Calls Try.prog 69 #[.agg #[fv, cv], .int .i64 K, .agg #[.int .i64 i.op, .int .i64 i.a, .int .i64 i.b], .agg #[.int .i64 s.acc, v]] w fun e w' => e = .returned (.bool (mayB p f i s)) ∧ Below w.heap.size w w' := by
  obtain ⟨hF, hC⟩ := h
  obtain ⟨x1, c1, rfl, m1, o1⟩ := hF
  obtain ⟨x2, c2, rfl, m2, _⟩ := hC.opened conC_len
  obtain ⟨xs, cs, rfl, ms, os⟩ := hs.opened
  have hKl : K < p.funcs.length := (List.getElem?_eq_some_iff.1 hf).1
  obtain ⟨b, o, rfl, hb, hcell⟩ := o1 (by omega)
  obtain ⟨qc, qk, qh, hA⟩ := hcell K f hf
  obtain ⟨xc, cc, rfl, mc, _⟩ := hA.caps.opened capC_len
  obtain ⟨xk, ck, rfl, mk, _⟩ := hA.code.opened insC_len
  obtain ⟨xh, ch, rfl, mh, _⟩ := hA.hnds.opened hndC_len
  obtain ⟨n1, e1⟩ : ∃ n, p.funcs.length = n := ⟨_, rfl⟩
  rw [e1] at hKl m1 ⊢
  unfold maxLen at m1 m2 ms mc mk mh
  have hki : (K : Int) < (n1 : Int) := by omega
  have hk0 : (0 : Int) ≤ (K : Int) := by omega
  obtain ⟨n2, e2⟩ : ∃ n, p.consts.length = n := ⟨_, rfl⟩
  obtain ⟨nr, e3⟩ : ∃ n, s.regs.length = n := ⟨_, rfl⟩
  obtain ⟨nc, e4⟩ : ∃ n, f.caps.length = n := ⟨_, rfl⟩
  obtain ⟨nk, e5⟩ : ∃ n, f.code.length = n := ⟨_, rfl⟩
  obtain ⟨nh, e6⟩ : ∃ n, f.hnds.length = n := ⟨_, rfl⟩
  obtain ⟨PA, e7⟩ : ∃ n, f.params = n := ⟨_, rfl⟩
  obtain ⟨RE, e8⟩ : ∃ n, f.regs = n := ⟨_, rfl⟩
  rw [e2] at m2
  rw [e3] at ms
  rw [e4] at mc
  rw [e5] at mk
  rw [e6] at mh
  simp only [e2, e3]
  have hio := hi
  unfold insOk inB at hio
  simp only [Bool.and_eq_true, decide_eq_true_eq] at hio
  obtain ⟨⟨ho1, ho2⟩, ⟨ha1, ha2⟩, hb1', hb2⟩ := hio
  obtain ⟨IA, eA⟩ : ∃ n : Nat, i.a = (n : Int) := ⟨i.a.toNat, by omega⟩
  obtain ⟨IB, eB⟩ : ∃ n : Nat, i.b = (n : Int) := ⟨i.b.toNat, by omega⟩
  have hia : IA ≤ 300 := by omega
  have hib : IB ≤ 300 := by omega
  have eO : i.op = 2 := hop
  obtain ⟨AC, eC⟩ : ∃ n, s.acc = n := ⟨_, rfl⟩
  simp only [eO, eA, eB, eC]
  obtain ⟨F, eF⟩ : ∃ F, mayB p f i s = F := ⟨_, rfl⟩
  rw [eF]
  have eF0 : F = regIs s (IA : Int) 1 := by rw [← eF, may_2 hop, eA]
  have cR0 := fun (r want : Int) (W : World) (hW : Below w.heap.size w W) => l16Reg_any s _ r want W (hs.below hW)
  have cI0 := fun (r : Int) (W : World) (hW : Below w.heap.size w W) => l16Room_any s _ r W (hs.below hW)
  simp only [e3, eC] at cR0 cI0
  have HS : Hid (ArgI w (.slice xs nr cs) s.regs) := by have h := hs; rw [e3] at h; exact h
  have HC : Hid (∀ (j : Nat) (g : PFun), p.funcs[j]? = some g → ∃ cv kv hv, FunAt w b (o + j * 5) g cv kv hv) := hcell
  have HL : Hid (p.funcs.length = n1 ∧ f.caps.length = nc) := ⟨e1, e4⟩
  have T := made_three w (Obj.cells #[.slice (some ⟨b, o, none⟩) n1 c1, .slice x2 n2 c2] 31) (Obj.cells #[.int .i64 2, .int .i64 IA, .int .i64 IB] 72) (Obj.cells #[.int .i64 AC, .slice xs nr cs] 98)
  obtain ⟨W3, hW3⟩ : ∃ W, (((w.alloc (Obj.cells #[.slice (some ⟨b, o, none⟩) n1 c1, .slice x2 n2 c2] 31)).alloc (Obj.cells #[.int .i64 2, .int .i64 IA, .int .i64 IB] 72)).alloc (Obj.cells #[.int .i64 AC, .slice xs nr cs] 98)) = W := ⟨_, rfl⟩
  rw [hW3] at T
  have HW3 : Hid (_ = W3) := hW3
  clear hW3
  obtain ⟨t0, t1, t2, tz, tb⟩ := T
  obtain ⟨G, hG⟩ : ∃ G, w.heap.size = G := ⟨_, rfl⟩
  rw [hG] at t0 t1 t2 tz
  have HA3 := hA.below tb
  have g0 := HA3.c0
  have g1 := HA3.c1
  have g2 := HA3.c2
  have g3 := HA3.c3
  have g4 := HA3.c4
  rw [e7] at g0
  rw [e8] at g1
  rw [e4] at g2
  rw [e5] at g3
  rw [e6] at g4
  clear HA3 hA hcell hC hs os e1 e2 e3 e4 e5 e6 e7 e8 eA eB eC eF hi hf o1 ho1 ho2 ha1 ha2 hb1' hb2
  obtain ⟨i0, i1⟩ := two_cells_of t0
  go_enter Try.func69, Try.ntmps69
  go_upto_region 1 with fail
  rw [HW3.out]
  clear HW3
  try simp only [hG]
  go_upto_region 2 with fail
  have T4 : Below W3.heap.size W3 (W3.alloc (Obj.cells #[.int .i64 PA, .int .i64 RE, .slice xc nc cc, .slice xk nk ck, .slice xh nh ch] 70)) := (Below.refl _ _).alloc (Nat.le_refl _) _
  have t3 : (W3.alloc (Obj.cells #[.int .i64 PA, .int .i64 RE, .slice xc nc cc, .slice xk nk ck, .slice xh nh ch] 70)).heap[G + 3]? = some (.cells #[.int .i64 PA, .int .i64 RE, .slice xc nc cc, .slice xk nk ck, .slice xh nh ch] 70) := by
    rw [← tz]
    exact heap_alloc_new _ _
  obtain ⟨W4, hW4⟩ : ∃ W, (W3.alloc (Obj.cells #[.int .i64 PA, .int .i64 RE, .slice xc nc cc, .slice xk nk ck, .slice xh nh ch] 70)) = W := ⟨_, rfl⟩
  rw [hW4] at T4 t3
  simp only [hW4]
  clear hW4 i0 i1 g0 g1 g2 g3 g4
  have M : MayAt G b o n1 c1 n2 c2 x2 2 IA IB AC xs nr cs PA RE (.slice xc nc cc) (.slice xk nk ck) (.slice xh nh ch) W4 := ⟨(T4.block _ (by omega)).trans t0, (T4.block _ (by omega)).trans t1, (T4.block _ (by omega)).trans t2, t3⟩
  have B4 : Below w.heap.size w W4 := chain tb T4
  clear t0 t1 t2 t3 tb T4 tz hG
  have cR := fun (r want : Int) (W : World) (hW : Below W4.heap.size W4 W) => cR0 r want W (chain B4 hW)
  have cI := fun (r : Int) (W : World) (hW : Below W4.heap.size W4 W) => cI0 r W (chain B4 hW)
  clear cR0 cI0
  obtain ⟨i0, i1⟩ := two_cells_of M.t0
  obtain ⟨j0, j1, j2⟩ := three_cells M.t1
  obtain ⟨s0, s1⟩ := two_cells_of M.t2
  obtain ⟨f0, f1, f2, f3, f4⟩ := five_cells M.t3
  have cB := fun W hW => cR (IA : Int) 1 W hW
  obtain ⟨B, hB⟩ : ∃ b, regIs s (IA : Int) 1 = b := ⟨_, rfl⟩
  simp only [hB] at cB
  have hF : F = B := by rw [eF0, hB]
  subst hF
  clear M cR cI hB eF0
  go_wp2_with (go_at_call 102; with_reducible refine (cB _ (by first | exact Below.refl _ _ | assumption)).mono ?_; rintro e w' ⟨rfl, hb1⟩)
  go_ret
  exact ⟨rfl, chain B4 hb1⟩
set_option maxHeartbeats 2000000 in
set_option maxRecDepth 100000 in
theorem l16May_5 (p : PImg) (f : PFun) (K : Nat) (i : PIns) (s : PSta) (fv cv v : Value) (w : World) (h : ArgImg w fv cv p) (hf : p.funcs[K]? = some f) (hi : insOk i = true) (hs : ArgI w v s.regs) (hop : i.op = 5) :
    Calls Try.prog 69 #[.agg #[fv, cv], .int .i64 K, .agg #[.int .i64 i.op, .int .i64 i.a, .int .i64 i.b], .agg #[.int .i64 s.acc, v]] w fun e w' => e = .returned (.bool (mayB p f i s)) ∧ Below w.heap.size w w' := by
  obtain ⟨hF, hC⟩ := h
  obtain ⟨x1, c1, rfl, m1, o1⟩ := hF
  obtain ⟨x2, c2, rfl, m2, _⟩ := hC.opened conC_len
  obtain ⟨xs, cs, rfl, ms, os⟩ := hs.opened
  have hKl : K < p.funcs.length := (List.getElem?_eq_some_iff.1 hf).1
  obtain ⟨b, o, rfl, hb, hcell⟩ := o1 (by omega)
  obtain ⟨qc, qk, qh, hA⟩ := hcell K f hf
  obtain ⟨xc, cc, rfl, mc, _⟩ := hA.caps.opened capC_len
  obtain ⟨xk, ck, rfl, mk, _⟩ := hA.code.opened insC_len
  obtain ⟨xh, ch, rfl, mh, _⟩ := hA.hnds.opened hndC_len
  obtain ⟨n1, e1⟩ : ∃ n, p.funcs.length = n := ⟨_, rfl⟩
  rw [e1] at hKl m1 ⊢
  unfold maxLen at m1 m2 ms mc mk mh
  have hki : (K : Int) < (n1 : Int) := by omega
  have hk0 : (0 : Int) ≤ (K : Int) := by omega
  obtain ⟨n2, e2⟩ : ∃ n, p.consts.length = n := ⟨_, rfl⟩
  obtain ⟨nr, e3⟩ : ∃ n, s.regs.length = n := ⟨_, rfl⟩
  obtain ⟨nc, e4⟩ : ∃ n, f.caps.length = n := ⟨_, rfl⟩
  obtain ⟨nk, e5⟩ : ∃ n, f.code.length = n := ⟨_, rfl⟩
  obtain ⟨nh, e6⟩ : ∃ n, f.hnds.length = n := ⟨_, rfl⟩
  obtain ⟨PA, e7⟩ : ∃ n, f.params = n := ⟨_, rfl⟩
  obtain ⟨RE, e8⟩ : ∃ n, f.regs = n := ⟨_, rfl⟩
  rw [e2] at m2
  rw [e3] at ms
  rw [e4] at mc
  rw [e5] at mk
  rw [e6] at mh
  simp only [e2, e3]
  have hio := hi
  unfold insOk inB at hio
  simp only [Bool.and_eq_true, decide_eq_true_eq] at hio
  obtain ⟨⟨ho1, ho2⟩, ⟨ha1, ha2⟩, hb1', hb2⟩ := hio
  obtain ⟨IA, eA⟩ : ∃ n : Nat, i.a = (n : Int) := ⟨i.a.toNat, by omega⟩
  obtain ⟨IB, eB⟩ : ∃ n : Nat, i.b = (n : Int) := ⟨i.b.toNat, by omega⟩
  have hia : IA ≤ 300 := by omega
  have hib : IB ≤ 300 := by omega
  have eO : i.op = 5 := hop
  obtain ⟨AC, eC⟩ : ∃ n, s.acc = n := ⟨_, rfl⟩
  simp only [eO, eA, eB, eC]
  obtain ⟨F, eF⟩ : ∃ F, mayB p f i s = F := ⟨_, rfl⟩
  rw [eF]
  have eF0 : F = regIs s (IA : Int) 2 := by rw [← eF, may_5 hop, eA]
  have cR0 := fun (r want : Int) (W : World) (hW : Below w.heap.size w W) => l16Reg_any s _ r want W (hs.below hW)
  have cI0 := fun (r : Int) (W : World) (hW : Below w.heap.size w W) => l16Room_any s _ r W (hs.below hW)
  simp only [e3, eC] at cR0 cI0
  have HS : Hid (ArgI w (.slice xs nr cs) s.regs) := by have h := hs; rw [e3] at h; exact h
  have HC : Hid (∀ (j : Nat) (g : PFun), p.funcs[j]? = some g → ∃ cv kv hv, FunAt w b (o + j * 5) g cv kv hv) := hcell
  have HL : Hid (p.funcs.length = n1 ∧ f.caps.length = nc) := ⟨e1, e4⟩
  have T := made_three w (Obj.cells #[.slice (some ⟨b, o, none⟩) n1 c1, .slice x2 n2 c2] 31) (Obj.cells #[.int .i64 5, .int .i64 IA, .int .i64 IB] 72) (Obj.cells #[.int .i64 AC, .slice xs nr cs] 98)
  obtain ⟨W3, hW3⟩ : ∃ W, (((w.alloc (Obj.cells #[.slice (some ⟨b, o, none⟩) n1 c1, .slice x2 n2 c2] 31)).alloc (Obj.cells #[.int .i64 5, .int .i64 IA, .int .i64 IB] 72)).alloc (Obj.cells #[.int .i64 AC, .slice xs nr cs] 98)) = W := ⟨_, rfl⟩
  rw [hW3] at T
  have HW3 : Hid (_ = W3) := hW3
  clear hW3
  obtain ⟨t0, t1, t2, tz, tb⟩ := T
  obtain ⟨G, hG⟩ : ∃ G, w.heap.size = G := ⟨_, rfl⟩
  rw [hG] at t0 t1 t2 tz
  have HA3 := hA.below tb
  have g0 := HA3.c0
  have g1 := HA3.c1
  have g2 := HA3.c2
  have g3 := HA3.c3
  have g4 := HA3.c4
  rw [e7] at g0
  rw [e8] at g1
  rw [e4] at g2
  rw [e5] at g3
  rw [e6] at g4
  clear HA3 hA hcell hC hs os e1 e2 e3 e4 e5 e6 e7 e8 eA eB eC eF hi hf o1 ho1 ho2 ha1 ha2 hb1' hb2
  obtain ⟨i0, i1⟩ := two_cells_of t0
  go_enter Try.func69, Try.ntmps69
  go_upto_region 1 with fail
  rw [HW3.out]
  clear HW3
  try simp only [hG]
  go_upto_region 2 with fail
  have T4 : Below W3.heap.size W3 (W3.alloc (Obj.cells #[.int .i64 PA, .int .i64 RE, .slice xc nc cc, .slice xk nk ck, .slice xh nh ch] 70)) := (Below.refl _ _).alloc (Nat.le_refl _) _
  have t3 : (W3.alloc (Obj.cells #[.int .i64 PA, .int .i64 RE, .slice xc nc cc, .slice xk nk ck, .slice xh nh ch] 70)).heap[G + 3]? = some (.cells #[.int .i64 PA, .int .i64 RE, .slice xc nc cc, .slice xk nk ck, .slice xh nh ch] 70) := by
    rw [← tz]
    exact heap_alloc_new _ _
  obtain ⟨W4, hW4⟩ : ∃ W, (W3.alloc (Obj.cells #[.int .i64 PA, .int .i64 RE, .slice xc nc cc, .slice xk nk ck, .slice xh nh ch] 70)) = W := ⟨_, rfl⟩
  rw [hW4] at T4 t3
  simp only [hW4]
  clear hW4 i0 i1 g0 g1 g2 g3 g4
  have M : MayAt G b o n1 c1 n2 c2 x2 5 IA IB AC xs nr cs PA RE (.slice xc nc cc) (.slice xk nk ck) (.slice xh nh ch) W4 := ⟨(T4.block _ (by omega)).trans t0, (T4.block _ (by omega)).trans t1, (T4.block _ (by omega)).trans t2, t3⟩
  have B4 : Below w.heap.size w W4 := chain tb T4
  clear t0 t1 t2 t3 tb T4 tz hG
  have cR := fun (r want : Int) (W : World) (hW : Below W4.heap.size W4 W) => cR0 r want W (chain B4 hW)
  have cI := fun (r : Int) (W : World) (hW : Below W4.heap.size W4 W) => cI0 r W (chain B4 hW)
  clear cR0 cI0
  obtain ⟨i0, i1⟩ := two_cells_of M.t0
  obtain ⟨j0, j1, j2⟩ := three_cells M.t1
  obtain ⟨s0, s1⟩ := two_cells_of M.t2
  obtain ⟨f0, f1, f2, f3, f4⟩ := five_cells M.t3
  have cB := fun W hW => cR (IA : Int) 2 W hW
  obtain ⟨B, hB⟩ : ∃ b, regIs s (IA : Int) 2 = b := ⟨_, rfl⟩
  simp only [hB] at cB
  have hF : F = B := by rw [eF0, hB]
  subst hF
  clear M cR cI hB eF0
  go_wp2_with (go_at_call 102; with_reducible refine (cB _ (by first | exact Below.refl _ _ | assumption)).mono ?_; rintro e w' ⟨rfl, hb1⟩)
  go_ret
  exact ⟨rfl, chain B4 hb1⟩
set_option maxHeartbeats 2000000 in
set_option maxRecDepth 100000 in
theorem l16May_6 (p : PImg) (f : PFun) (K : Nat) (i : PIns) (s : PSta) (fv cv v : Value) (w : World) (h : ArgImg w fv cv p) (hf : p.funcs[K]? = some f) (hi : insOk i = true) (hs : ArgI w v s.regs) (hop : i.op = 6) :
    Calls Try.prog 69 #[.agg #[fv, cv], .int .i64 K, .agg #[.int .i64 i.op, .int .i64 i.a, .int .i64 i.b], .agg #[.int .i64 s.acc, v]] w fun e w' => e = .returned (.bool (mayB p f i s)) ∧ Below w.heap.size w w' := by
  obtain ⟨hF, hC⟩ := h
  obtain ⟨x1, c1, rfl, m1, o1⟩ := hF
  obtain ⟨x2, c2, rfl, m2, _⟩ := hC.opened conC_len
  obtain ⟨xs, cs, rfl, ms, os⟩ := hs.opened
  have hKl : K < p.funcs.length := (List.getElem?_eq_some_iff.1 hf).1
  obtain ⟨b, o, rfl, hb, hcell⟩ := o1 (by omega)
  obtain ⟨qc, qk, qh, hA⟩ := hcell K f hf
  obtain ⟨xc, cc, rfl, mc, _⟩ := hA.caps.opened capC_len
  obtain ⟨xk, ck, rfl, mk, _⟩ := hA.code.opened insC_len
  obtain ⟨xh, ch, rfl, mh, _⟩ := hA.hnds.opened hndC_len
  obtain ⟨n1, e1⟩ : ∃ n, p.funcs.length = n := ⟨_, rfl⟩
  rw [e1] at hKl m1 ⊢
  unfold maxLen at m1 m2 ms mc mk mh
  have hki : (K : Int) < (n1 : Int) := by omega
  have hk0 : (0 : Int) ≤ (K : Int) := by omega
  obtain ⟨n2, e2⟩ : ∃ n, p.consts.length = n := ⟨_, rfl⟩
  obtain ⟨nr, e3⟩ : ∃ n, s.regs.length = n := ⟨_, rfl⟩
  obtain ⟨nc, e4⟩ : ∃ n, f.caps.length = n := ⟨_, rfl⟩
  obtain ⟨nk, e5⟩ : ∃ n, f.code.length = n := ⟨_, rfl⟩
  obtain ⟨nh, e6⟩ : ∃ n, f.hnds.length = n := ⟨_, rfl⟩
  obtain ⟨PA, e7⟩ : ∃ n, f.params = n := ⟨_, rfl⟩
  obtain ⟨RE, e8⟩ : ∃ n, f.regs = n := ⟨_, rfl⟩
  rw [e2] at m2
  rw [e3] at ms
  rw [e4] at mc
  rw [e5] at mk
  rw [e6] at mh
  simp only [e2, e3]
  have hio := hi
  unfold insOk inB at hio
  simp only [Bool.and_eq_true, decide_eq_true_eq] at hio
  obtain ⟨⟨ho1, ho2⟩, ⟨ha1, ha2⟩, hb1', hb2⟩ := hio
  obtain ⟨IA, eA⟩ : ∃ n : Nat, i.a = (n : Int) := ⟨i.a.toNat, by omega⟩
  obtain ⟨IB, eB⟩ : ∃ n : Nat, i.b = (n : Int) := ⟨i.b.toNat, by omega⟩
  have hia : IA ≤ 300 := by omega
  have hib : IB ≤ 300 := by omega
  have eO : i.op = 6 := hop
  obtain ⟨AC, eC⟩ : ∃ n, s.acc = n := ⟨_, rfl⟩
  simp only [eO, eA, eB, eC]
  obtain ⟨F, eF⟩ : ∃ F, mayB p f i s = F := ⟨_, rfl⟩
  rw [eF]
  have eF0 : F = (regIs s (IA : Int) 2 && decide (AC = 1)) := by rw [← eF, may_6 hop, eA, eC]
  have cR0 := fun (r want : Int) (W : World) (hW : Below w.heap.size w W) => l16Reg_any s _ r want W (hs.below hW)
  have cI0 := fun (r : Int) (W : World) (hW : Below w.heap.size w W) => l16Room_any s _ r W (hs.below hW)
  simp only [e3, eC] at cR0 cI0
  have HS : Hid (ArgI w (.slice xs nr cs) s.regs) := by have h := hs; rw [e3] at h; exact h
  have HC : Hid (∀ (j : Nat) (g : PFun), p.funcs[j]? = some g → ∃ cv kv hv, FunAt w b (o + j * 5) g cv kv hv) := hcell
  have HL : Hid (p.funcs.length = n1 ∧ f.caps.length = nc) := ⟨e1, e4⟩
  have T := made_three w (Obj.cells #[.slice (some ⟨b, o, none⟩) n1 c1, .slice x2 n2 c2] 31) (Obj.cells #[.int .i64 6, .int .i64 IA, .int .i64 IB] 72) (Obj.cells #[.int .i64 AC, .slice xs nr cs] 98)
  obtain ⟨W3, hW3⟩ : ∃ W, (((w.alloc (Obj.cells #[.slice (some ⟨b, o, none⟩) n1 c1, .slice x2 n2 c2] 31)).alloc (Obj.cells #[.int .i64 6, .int .i64 IA, .int .i64 IB] 72)).alloc (Obj.cells #[.int .i64 AC, .slice xs nr cs] 98)) = W := ⟨_, rfl⟩
  rw [hW3] at T
  have HW3 : Hid (_ = W3) := hW3
  clear hW3
  obtain ⟨t0, t1, t2, tz, tb⟩ := T
  obtain ⟨G, hG⟩ : ∃ G, w.heap.size = G := ⟨_, rfl⟩
  rw [hG] at t0 t1 t2 tz
  have HA3 := hA.below tb
  have g0 := HA3.c0
  have g1 := HA3.c1
  have g2 := HA3.c2
  have g3 := HA3.c3
  have g4 := HA3.c4
  rw [e7] at g0
  rw [e8] at g1
  rw [e4] at g2
  rw [e5] at g3
  rw [e6] at g4
  clear HA3 hA hcell hC hs os e1 e2 e3 e4 e5 e6 e7 e8 eA eB eC eF hi hf o1 ho1 ho2 ha1 ha2 hb1' hb2
  obtain ⟨i0, i1⟩ := two_cells_of t0
  go_enter Try.func69, Try.ntmps69
  go_upto_region 1 with fail
  rw [HW3.out]
  clear HW3
  try simp only [hG]
  go_upto_region 2 with fail
  have T4 : Below W3.heap.size W3 (W3.alloc (Obj.cells #[.int .i64 PA, .int .i64 RE, .slice xc nc cc, .slice xk nk ck, .slice xh nh ch] 70)) := (Below.refl _ _).alloc (Nat.le_refl _) _
  have t3 : (W3.alloc (Obj.cells #[.int .i64 PA, .int .i64 RE, .slice xc nc cc, .slice xk nk ck, .slice xh nh ch] 70)).heap[G + 3]? = some (.cells #[.int .i64 PA, .int .i64 RE, .slice xc nc cc, .slice xk nk ck, .slice xh nh ch] 70) := by
    rw [← tz]
    exact heap_alloc_new _ _
  obtain ⟨W4, hW4⟩ : ∃ W, (W3.alloc (Obj.cells #[.int .i64 PA, .int .i64 RE, .slice xc nc cc, .slice xk nk ck, .slice xh nh ch] 70)) = W := ⟨_, rfl⟩
  rw [hW4] at T4 t3
  simp only [hW4]
  clear hW4 i0 i1 g0 g1 g2 g3 g4
  have M : MayAt G b o n1 c1 n2 c2 x2 6 IA IB AC xs nr cs PA RE (.slice xc nc cc) (.slice xk nk ck) (.slice xh nh ch) W4 := ⟨(T4.block _ (by omega)).trans t0, (T4.block _ (by omega)).trans t1, (T4.block _ (by omega)).trans t2, t3⟩
  have B4 : Below w.heap.size w W4 := chain tb T4
  clear t0 t1 t2 t3 tb T4 tz hG
  have cR := fun (r want : Int) (W : World) (hW : Below W4.heap.size W4 W) => cR0 r want W (chain B4 hW)
  have cI := fun (r : Int) (W : World) (hW : Below W4.heap.size W4 W) => cI0 r W (chain B4 hW)
  clear cR0 cI0
  obtain ⟨i0, i1⟩ := two_cells_of M.t0
  obtain ⟨j0, j1, j2⟩ := three_cells M.t1
  obtain ⟨s0, s1⟩ := two_cells_of M.t2
  obtain ⟨f0, f1, f2, f3, f4⟩ := five_cells M.t3
  have cB := fun W hW => cR (IA : Int) 2 W hW
  obtain ⟨B, hB⟩ : ∃ b, regIs s (IA : Int) 2 = b := ⟨_, rfl⟩
  simp only [hB] at cB
  obtain ⟨ac, hac⟩ : ∃ b, (AC == 1) = b := ⟨_, rfl⟩
  have hac' : decide (AC = 1) = ac := by rw [← hac]; rfl
  have hF : F = (B && ac) := by rw [eF0, hB, hac']
  subst hF
  clear M cR cI hB hac' eF0
  cases B
  all_goals
    go_wp2_with (go_at_call 102; with_reducible refine (cB _ (by first | exact Below.refl _ _ | assumption)).mono ?_; rintro e w' ⟨rfl, hb1⟩)
    go_ret
    exact ⟨rfl, chain B4 hb1⟩
set_option maxHeartbeats 2000000 in
set_option maxRecDepth 100000 in
theorem l16May_3 (p : PImg) (f : PFun) (K : Nat) (i : PIns) (s : PSta) (fv cv v : Value) (w : World) (h : ArgImg w fv cv p) (hf : p.funcs[K]? = some f) (hi : insOk i = true) (hs : ArgI w v s.regs) (hop : i.op = 3) :
    Calls Try.prog 69 #[.agg #[fv, cv], .int .i64 K, .agg #[.int .i64 i.op, .int .i64 i.a, .int .i64 i.b], .agg #[.int .i64 s.acc, v]] w fun e w' => e = .returned (.bool (mayB p f i s)) ∧ Below w.heap.size w w' := by
  obtain ⟨hF, hC⟩ := h
  obtain ⟨x1, c1, rfl, m1, o1⟩ := hF
  obtain ⟨x2, c2, rfl, m2, _⟩ := hC.opened conC_len
  obtain ⟨xs, cs, rfl, ms, os⟩ := hs.opened
  have hKl : K < p.funcs.length := (List.getElem?_eq_some_iff.1 hf).1
  obtain ⟨b, o, rfl, hb, hcell⟩ := o1 (by omega)
  obtain ⟨qc, qk, qh, hA⟩ := hcell K f hf
  obtain ⟨xc, cc, rfl, mc, _⟩ := hA.caps.opened capC_len
  obtain ⟨xk, ck, rfl, mk, _⟩ := hA.code.opened insC_len
  obtain ⟨xh, ch, rfl, mh, _⟩ := hA.hnds.opened hndC_len
  obtain ⟨n1, e1⟩ : ∃ n, p.funcs.length = n := ⟨_, rfl⟩
  rw [e1] at hKl m1 ⊢
  unfold maxLen at m1 m2 ms mc mk mh
  have hki : (K : Int) < (n1 : Int) := by omega
  have hk0 : (0 : Int) ≤ (K : Int) := by omega
  obtain ⟨n2, e2⟩ : ∃ n, p.consts.length = n := ⟨_, rfl⟩
  obtain ⟨nr, e3⟩ : ∃ n, s.regs.length = n := ⟨_, rfl⟩
  obtain ⟨nc, e4⟩ : ∃ n, f.caps.length = n := ⟨_, rfl⟩
  obtain ⟨nk, e5⟩ : ∃ n, f.code.length = n := ⟨_, rfl⟩
  obtain ⟨nh, e6⟩ : ∃ n, f.hnds.length = n := ⟨_, rfl⟩
  obtain ⟨PA, e7⟩ : ∃ n, f.params = n := ⟨_, rfl⟩
  obtain ⟨RE, e8⟩ : ∃ n, f.regs = n := ⟨_, rfl⟩
  rw [e2] at m2
  rw [e3] at ms
  rw [e4] at mc
  rw [e5] at mk
  rw [e6] at mh
  simp only [e2, e3]
  have hio := hi
  unfold insOk inB at hio
  simp only [Bool.and_eq_true, decide_eq_true_eq] at hio
  obtain ⟨⟨ho1, ho2⟩, ⟨ha1, ha2⟩, hb1', hb2⟩ := hio
  obtain ⟨IA, eA⟩ : ∃ n : Nat, i.a = (n : Int) := ⟨i.a.toNat, by omega⟩
  obtain ⟨IB, eB⟩ : ∃ n : Nat, i.b = (n : Int) := ⟨i.b.toNat, by omega⟩
  have hia : IA ≤ 300 := by omega
  have hib : IB ≤ 300 := by omega
  have eO : i.op = 3 := hop
  obtain ⟨AC, eC⟩ : ∃ n, s.acc = n := ⟨_, rfl⟩
  simp only [eO, eA, eB, eC]
  obtain ⟨F, eF⟩ : ∃ F, mayB p f i s = F := ⟨_, rfl⟩
  rw [eF]
  have eF0 : F = (regIn s (IA : Int) && decide (AC = 1)) := by rw [← eF, may_3 hop, eA, eC]
  have cR0 := fun (r want : Int) (W : World) (hW : Below w.heap.size w W) => l16Reg_any s _ r want W (hs.below hW)
  have cI0 := fun (r : Int) (W : World) (hW : Below w.heap.size w W) => l16Room_any s _ r W (hs.below hW)
  simp only [e3, eC] at cR0 cI0
  have HS : Hid (ArgI w (.slice xs nr cs) s.regs) := by have h := hs; rw [e3] at h; exact h
  have HC : Hid (∀ (j : Nat) (g : PFun), p.funcs[j]? = some g → ∃ cv kv hv, FunAt w b (o + j * 5) g cv kv hv) := hcell
  have HL : Hid (p.funcs.length = n1 ∧ f.caps.length = nc) := ⟨e1, e4⟩
  have T := made_three w (Obj.cells #[.slice (some ⟨b, o, none⟩) n1 c1, .slice x2 n2 c2] 31) (Obj.cells #[.int .i64 3, .int .i64 IA, .int .i64 IB] 72) (Obj.cells #[.int .i64 AC, .slice xs nr cs] 98)
  obtain ⟨W3, hW3⟩ : ∃ W, (((w.alloc (Obj.cells #[.slice (some ⟨b, o, none⟩) n1 c1, .slice x2 n2 c2] 31)).alloc (Obj.cells #[.int .i64 3, .int .i64 IA, .int .i64 IB] 72)).alloc (Obj.cells #[.int .i64 AC, .slice xs nr cs] 98)) = W := ⟨_, rfl⟩
  rw [hW3] at T
  have HW3 : Hid (_ = W3) := hW3
  clear hW3
  obtain ⟨t0, t1, t2, tz, tb⟩ := T
  obtain ⟨G, hG⟩ : ∃ G, w.heap.size = G := ⟨_, rfl⟩
  rw [hG] at t0 t1 t2 tz
  have HA3 := hA.below tb
  have g0 := HA3.c0
  have g1 := HA3.c1
  have g2 := HA3.c2
  have g3 := HA3.c3
  have g4 := HA3.c4
  rw [e7] at g0
  rw [e8] at g1
  rw [e4] at g2
  rw [e5] at g3
  rw [e6] at g4
  clear HA3 hA hcell hC hs os e1 e2 e3 e4 e5 e6 e7 e8 eA eB eC eF hi hf o1 ho1 ho2 ha1 ha2 hb1' hb2
  obtain ⟨i0, i1⟩ := two_cells_of t0
  go_enter Try.func69, Try.ntmps69
  go_upto_region 1 with fail
  rw [HW3.out]
  clear HW3
  try simp only [hG]
  go_upto_region 2 with fail
  have T4 : Below W3.heap.size W3 (W3.alloc (Obj.cells #[.int .i64 PA, .int .i64 RE, .slice xc nc cc, .slice xk nk ck, .slice xh nh ch] 70)) := (Below.refl _ _).alloc (Nat.le_refl _) _
  have t3 : (W3.alloc (Obj.cells #[.int .i64 PA, .int .i64 RE, .slice xc nc cc, .slice xk nk ck, .slice xh nh ch] 70)).heap[G + 3]? = some (.cells #[.int .i64 PA, .int .i64 RE, .slice xc nc cc, .slice xk nk ck, .slice xh nh ch] 70) := by
    rw [← tz]
    exact heap_alloc_new _ _
  obtain ⟨W4, hW4⟩ : ∃ W, (W3.alloc (Obj.cells #[.int .i64 PA, .int .i64 RE, .slice xc nc cc, .slice xk nk ck, .slice xh nh ch] 70)) = W := ⟨_, rfl⟩
  rw [hW4] at T4 t3
  simp only [hW4]
  clear hW4 i0 i1 g0 g1 g2 g3 g4
  have M : MayAt G b o n1 c1 n2 c2 x2 3 IA IB AC xs nr cs PA RE (.slice xc nc cc) (.slice xk nk ck) (.slice xh nh ch) W4 := ⟨(T4.block _ (by omega)).trans t0, (T4.block _ (by omega)).trans t1, (T4.block _ (by omega)).trans t2, t3⟩
  have B4 : Below w.heap.size w W4 := chain tb T4
  clear t0 t1 t2 t3 tb T4 tz hG
  have cR := fun (r want : Int) (W : World) (hW : Below W4.heap.size W4 W) => cR0 r want W (chain B4 hW)
  have cI := fun (r : Int) (W : World) (hW : Below W4.heap.size W4 W) => cI0 r W (chain B4 hW)
  clear cR0 cI0
  obtain ⟨i0, i1⟩ := two_cells_of M.t0
  obtain ⟨j0, j1, j2⟩ := three_cells M.t1
  obtain ⟨s0, s1⟩ := two_cells_of M.t2
  obtain ⟨f0, f1, f2, f3, f4⟩ := five_cells M.t3
  have cB := fun W hW => cI (IA : Int) W hW
  obtain ⟨B, hB⟩ : ∃ b, regIn s (IA : Int) = b := ⟨_, rfl⟩
  simp only [hB] at cB
  obtain ⟨ac, hac⟩ : ∃ b, (AC == 1) = b := ⟨_, rfl⟩
  have hac' : decide (AC = 1) = ac := by rw [← hac]; rfl
  have hF : F = (B && ac) := by rw [eF0, hB, hac']
  subst hF
  clear M cR cI hB hac' eF0
  cases B
  all_goals
    go_wp2_with (go_at_call 103; with_reducible refine (cB _ (by first | exact Below.refl _ _ | assumption)).mono ?_; rintro e w' ⟨rfl, hb1⟩)
    go_ret
    exact ⟨rfl, chain B4 hb1⟩
set_option maxHeartbeats 2000000 in
set_option maxRecDepth 100000 in
theorem l16May_4 (p : PImg) (f : PFun) (K : Nat) (i : PIns) (s : PSta) (fv cv v : Value) (w : World) (h : ArgImg w fv cv p) (hf : p.funcs[K]? = some f) (hi : insOk i = true) (hs : ArgI w v s.regs) (hop : i.op = 4) :
    Calls Try.prog 69 #[.agg #[fv, cv], .int .i64 K, .agg #[.int .i64 i.op, .int .i64 i.a, .int .i64 i.b], .agg #[.int .i64 s.acc, v]] w fun e w' => e = .returned (.bool (mayB p f i s)) ∧ Below w.heap.size w w' := by
  obtain ⟨hF, hC⟩ := h
  obtain ⟨x1, c1, rfl, m1, o1⟩ := hF
  obtain ⟨x2, c2, rfl, m2, _⟩ := hC.opened conC_len
  obtain ⟨xs, cs, rfl, ms, os⟩ := hs.opened
  have hKl : K < p.funcs.length := (List.getElem?_eq_some_iff.1 hf).1
  obtain ⟨b, o, rfl, hb, hcell⟩ := o1 (by omega)
  obtain ⟨qc, qk, qh, hA⟩ := hcell K f hf
  obtain ⟨xc, cc, rfl, mc, _⟩ := hA.caps.opened capC_len
  obtain ⟨xk, ck, rfl, mk, _⟩ := hA.code.opened insC_len
  obtain ⟨xh, ch, rfl, mh, _⟩ := hA.hnds.opened hndC_len
  obtain ⟨n1, e1⟩ : ∃ n, p.funcs.length = n := ⟨_, rfl⟩
  rw [e1] at hKl m1 ⊢
  unfold maxLen at m1 m2 ms mc mk mh
  have hki : (K : Int) < (n1 : Int) := by omega
  have hk0 : (0 : Int) ≤ (K : Int) := by omega
  obtain ⟨n2, e2⟩ : ∃ n, p.consts.length = n := ⟨_, rfl⟩
  obtain ⟨nr, e3⟩ : ∃ n, s.regs.length = n := ⟨_, rfl⟩
  obtain ⟨nc, e4⟩ : ∃ n, f.caps.length = n := ⟨_, rfl⟩
  obtain ⟨nk, e5⟩ : ∃ n, f.code.length = n := ⟨_, rfl⟩
  obtain ⟨nh, e6⟩ : ∃ n, f.hnds.length = n := ⟨_, rfl⟩
  obtain ⟨PA, e7⟩ : ∃ n, f.params = n := ⟨_, rfl⟩
  obtain ⟨RE, e8⟩ : ∃ n, f.regs = n := ⟨_, rfl⟩
  rw [e2] at m2
  rw [e3] at ms
  rw [e4] at mc
  rw [e5] at mk
  rw [e6] at mh
  simp only [e2, e3]
  have hio := hi
  unfold insOk inB at hio
  simp only [Bool.and_eq_true, decide_eq_true_eq] at hio
  obtain ⟨⟨ho1, ho2⟩, ⟨ha1, ha2⟩, hb1', hb2⟩ := hio
  obtain ⟨IA, eA⟩ : ∃ n : Nat, i.a = (n : Int) := ⟨i.a.toNat, by omega⟩
  obtain ⟨IB, eB⟩ : ∃ n : Nat, i.b = (n : Int) := ⟨i.b.toNat, by omega⟩
  have hia : IA ≤ 300 := by omega
  have hib : IB ≤ 300 := by omega
  have eO : i.op = 4 := hop
  obtain ⟨AC, eC⟩ : ∃ n, s.acc = n := ⟨_, rfl⟩
  simp only [eO, eA, eB, eC]
  obtain ⟨F, eF⟩ : ∃ F, mayB p f i s = F := ⟨_, rfl⟩
  rw [eF]
  have eF0 : F = (regIn s (IA : Int) && decide (AC = 1)) := by rw [← eF, may_4 hop, eA, eC]
  have cR0 := fun (r want : Int) (W : World) (hW : Below w.heap.size w W) => l16Reg_any s _ r want W (hs.below hW)
  have cI0 := fun (r : Int) (W : World) (hW : Below w.heap.size w W) => l16Room_any s _ r W (hs.below hW)
  simp only [e3, eC] at cR0 cI0
  have HS : Hid (ArgI w (.slice xs nr cs) s.regs) := by have h := hs; rw [e3] at h; exact h
  have HC : Hid (∀ (j : Nat) (g : PFun), p.funcs[j]? = some g → ∃ cv kv hv, FunAt w b (o + j * 5) g cv kv hv) := hcell
  have HL : Hid (p.funcs.length = n1 ∧ f.caps.length = nc) := ⟨e1, e4⟩
  have T := made_three w (Obj.cells #[.slice (some ⟨b, o, none⟩) n1 c1, .slice x2 n2 c2] 31) (Obj.cells #[.int .i64 4, .int .i64 IA, .int .i64 IB] 72) (Obj.cells #[.int .i64 AC, .slice xs nr cs] 98)
  obtain ⟨W3, hW3⟩ : ∃ W, (((w.alloc (Obj.cells #[.slice (some ⟨b, o, none⟩) n1 c1, .slice x2 n2 c2] 31)).alloc (Obj.cells #[.int .i64 4, .int .i64 IA, .int .i64 IB] 72)).alloc (Obj.cells #[.int .i64 AC, .slice xs nr cs] 98)) = W := ⟨_, rfl⟩
  rw [hW3] at T
  have HW3 : Hid (_ = W3) := hW3
  clear hW3
  obtain ⟨t0, t1, t2, tz, tb⟩ := T
  obtain ⟨G, hG⟩ : ∃ G, w.heap.size = G := ⟨_, rfl⟩
  rw [hG] at t0 t1 t2 tz
  have HA3 := hA.below tb
  have g0 := HA3.c0
  have g1 := HA3.c1
  have g2 := HA3.c2
  have g3 := HA3.c3
  have g4 := HA3.c4
  rw [e7] at g0
  rw [e8] at g1
  rw [e4] at g2
  rw [e5] at g3
  rw [e6] at g4
  clear HA3 hA hcell hC hs os e1 e2 e3 e4 e5 e6 e7 e8 eA eB eC eF hi hf o1 ho1 ho2 ha1 ha2 hb1' hb2
  obtain ⟨i0, i1⟩ := two_cells_of t0
  go_enter Try.func69, Try.ntmps69
  go_upto_region 1 with fail
  rw [HW3.out]
  clear HW3
  try simp only [hG]
  go_upto_region 2 with fail
  have T4 : Below W3.heap.size W3 (W3.alloc (Obj.cells #[.int .i64 PA, .int .i64 RE, .slice xc nc cc, .slice xk nk ck, .slice xh nh ch] 70)) := (Below.refl _ _).alloc (Nat.le_refl _) _
  have t3 : (W3.alloc (Obj.cells #[.int .i64 PA, .int .i64 RE, .slice xc nc cc, .slice xk nk ck, .slice xh nh ch] 70)).heap[G + 3]? = some (.cells #[.int .i64 PA, .int .i64 RE, .slice xc nc cc, .slice xk nk ck, .slice xh nh ch] 70) := by
    rw [← tz]
    exact heap_alloc_new _ _
  obtain ⟨W4, hW4⟩ : ∃ W, (W3.alloc (Obj.cells #[.int .i64 PA, .int .i64 RE, .slice xc nc cc, .slice xk nk ck, .slice xh nh ch] 70)) = W := ⟨_, rfl⟩
  rw [hW4] at T4 t3
  simp only [hW4]
  clear hW4 i0 i1 g0 g1 g2 g3 g4
  have M : MayAt G b o n1 c1 n2 c2 x2 4 IA IB AC xs nr cs PA RE (.slice xc nc cc) (.slice xk nk ck) (.slice xh nh ch) W4 := ⟨(T4.block _ (by omega)).trans t0, (T4.block _ (by omega)).trans t1, (T4.block _ (by omega)).trans t2, t3⟩
  have B4 : Below w.heap.size w W4 := chain tb T4
  clear t0 t1 t2 t3 tb T4 tz hG
  have cR := fun (r want : Int) (W : World) (hW : Below W4.heap.size W4 W) => cR0 r want W (chain B4 hW)
  have cI := fun (r : Int) (W : World) (hW : Below W4.heap.size W4 W) => cI0 r W (chain B4 hW)
  clear cR0 cI0
  obtain ⟨i0, i1⟩ := two_cells_of M.t0
  obtain ⟨j0, j1, j2⟩ := three_cells M.t1
  obtain ⟨s0, s1⟩ := two_cells_of M.t2
  obtain ⟨f0, f1, f2, f3, f4⟩ := five_cells M.t3
  have cB := fun W hW => cI (IA : Int) W hW
  obtain ⟨B, hB⟩ : ∃ b, regIn s (IA : Int) = b := ⟨_, rfl⟩
  simp only [hB] at cB
  obtain ⟨ac, hac⟩ : ∃ b, (AC == 1) = b := ⟨_, rfl⟩
  have hac' : decide (AC = 1) = ac := by rw [← hac]; rfl
  have hF : F = (B && ac) := by rw [eF0, hB, hac']
  subst hF
  clear M cR cI hB hac' eF0
  cases B
  all_goals
    go_wp2_with (go_at_call 103; with_reducible refine (cB _ (by first | exact Below.refl _ _ | assumption)).mono ?_; rintro e w' ⟨rfl, hb1⟩)
    go_ret
    exact ⟨rfl, chain B4 hb1⟩
set_option maxHeartbeats 2000000 in
set_option maxRecDepth 100000 in
theorem l16May_9 (p : PImg) (f : PFun) (K : Nat) (i : PIns) (s : PSta) (fv cv v : Value) (w : World) (h : ArgImg w fv cv p) (hf : p.funcs[K]? = some f) (hi : insOk i = true) (hs : ArgI w v s.regs) (hop : i.op = 9) :
    Calls Try.prog 69 #[.agg #[fv, cv], .int .i64 K, .agg #[.int .i64 i.op, .int .i64 i.a, .int .i64 i.b], .agg #[.int .i64 s.acc, v]] w fun e w' => e = .returned (.bool (mayB p f i s)) ∧ Below w.heap.size w w' := by
  obtain ⟨hF, hC⟩ := h
  obtain ⟨x1, c1, rfl, m1, o1⟩ := hF
  obtain ⟨x2, c2, rfl, m2, _⟩ := hC.opened conC_len
  obtain ⟨xs, cs, rfl, ms, os⟩ := hs.opened
  have hKl : K < p.funcs.length := (List.getElem?_eq_some_iff.1 hf).1
  obtain ⟨b, o, rfl, hb, hcell⟩ := o1 (by omega)
  obtain ⟨qc, qk, qh, hA⟩ := hcell K f hf
  obtain ⟨xc, cc, rfl, mc, _⟩ := hA.caps.opened capC_len
  obtain ⟨xk, ck, rfl, mk, _⟩ := hA.code.opened insC_len
  obtain ⟨xh, ch, rfl, mh, _⟩ := hA.hnds.opened hndC_len
  obtain ⟨n1, e1⟩ : ∃ n, p.funcs.length = n := ⟨_, rfl⟩
  rw [e1] at hKl m1 ⊢
  unfold maxLen at m1 m2 ms mc mk mh
  have hki : (K : Int) < (n1 : Int) := by omega
  have hk0 : (0 : Int) ≤ (K : Int) := by omega
  obtain ⟨n2, e2⟩ : ∃ n, p.consts.length = n := ⟨_, rfl⟩
  obtain ⟨nr, e3⟩ : ∃ n, s.regs.length = n := ⟨_, rfl⟩
  obtain ⟨nc, e4⟩ : ∃ n, f.caps.length = n := ⟨_, rfl⟩
  obtain ⟨nk, e5⟩ : ∃ n, f.code.length = n := ⟨_, rfl⟩
  obtain ⟨nh, e6⟩ : ∃ n, f.hnds.length = n := ⟨_, rfl⟩
  obtain ⟨PA, e7⟩ : ∃ n, f.params = n := ⟨_, rfl⟩
  obtain ⟨RE, e8⟩ : ∃ n, f.regs = n := ⟨_, rfl⟩
  rw [e2] at m2
  rw [e3] at ms
  rw [e4] at mc
  rw [e5] at mk
  rw [e6] at mh
  simp only [e2, e3]
  have hio := hi
  unfold insOk inB at hio
  simp only [Bool.and_eq_true, decide_eq_true_eq] at hio
  obtain ⟨⟨ho1, ho2⟩, ⟨ha1, ha2⟩, hb1', hb2⟩ := hio
  obtain ⟨IA, eA⟩ : ∃ n : Nat, i.a = (n : Int) := ⟨i.a.toNat, by omega⟩
  obtain ⟨IB, eB⟩ : ∃ n : Nat, i.b = (n : Int) := ⟨i.b.toNat, by omega⟩
  have hia : IA ≤ 300 := by omega
  have hib : IB ≤ 300 := by omega
  have eO : i.op = 9 := hop
  obtain ⟨AC, eC⟩ : ∃ n, s.acc = n := ⟨_, rfl⟩
  simp only [eO, eA, eB, eC]
  obtain ⟨F, eF⟩ : ∃ F, mayB p f i s = F := ⟨_, rfl⟩
  rw [eF]
  have eF0 : F = (inB (IA : Int) 1 11 && (regIs s (IB : Int) 1 && decide (AC = 1))) := by rw [← eF, may_9 hop, eA, eB, eC]
  have cR0 := fun (r want : Int) (W : World) (hW : Below w.heap.size w W) => l16Reg_any s _ r want W (hs.below hW)
  have cI0 := fun (r : Int) (W : World) (hW : Below w.heap.size w W) => l16Room_any s _ r W (hs.below hW)
  simp only [e3, eC] at cR0 cI0
  have HS : Hid (ArgI w (.slice xs nr cs) s.regs) := by have h := hs; rw [e3] at h; exact h
  have HC : Hid (∀ (j : Nat) (g : PFun), p.funcs[j]? = some g → ∃ cv kv hv, FunAt w b (o + j * 5) g cv kv hv) := hcell
  have HL : Hid (p.funcs.length = n1 ∧ f.caps.length = nc) := ⟨e1, e4⟩
  have T := made_three w (Obj.cells #[.slice (some ⟨b, o, none⟩) n1 c1, .slice x2 n2 c2] 31) (Obj.cells #[.int .i64 9, .int .i64 IA, .int .i64 IB] 72) (Obj.cells #[.int .i64 AC, .slice xs nr cs] 98)
  obtain ⟨W3, hW3⟩ : ∃ W, (((w.alloc (Obj.cells #[.slice (some ⟨b, o, none⟩) n1 c1, .slice x2 n2 c2] 31)).alloc (Obj.cells #[.int .i64 9, .int .i64 IA, .int .i64 IB] 72)).alloc (Obj.cells #[.int .i64 AC, .slice xs nr cs] 98)) = W := ⟨_, rfl⟩
  rw [hW3] at T
  have HW3 : Hid (_ = W3) := hW3
  clear hW3
  obtain ⟨t0, t1, t2, tz, tb⟩ := T
  obtain ⟨G, hG⟩ : ∃ G, w.heap.size = G := ⟨_, rfl⟩
  rw [hG] at t0 t1 t2 tz
  have HA3 := hA.below tb
  have g0 := HA3.c0
  have g1 := HA3.c1
  have g2 := HA3.c2
  have g3 := HA3.c3
  have g4 := HA3.c4
  rw [e7] at g0
  rw [e8] at g1
  rw [e4] at g2
  rw [e5] at g3
  rw [e6] at g4
  clear HA3 hA hcell hC hs os e1 e2 e3 e4 e5 e6 e7 e8 eA eB eC eF hi hf o1 ho1 ho2 ha1 ha2 hb1' hb2
  obtain ⟨i0, i1⟩ := two_cells_of t0
  go_enter Try.func69, Try.ntmps69
  go_upto_region 1 with fail
  rw [HW3.out]
  clear HW3
  try simp only [hG]
  go_upto_region 2 with fail
  have T4 : Below W3.heap.size W3 (W3.alloc (Obj.cells #[.int .i64 PA, .int .i64 RE, .slice xc nc cc, .slice xk nk ck, .slice xh nh ch] 70)) := (Below.refl _ _).alloc (Nat.le_refl _) _
  have t3 : (W3.alloc (Obj.cells #[.int .i64 PA, .int .i64 RE, .slice xc nc cc, .slice xk nk ck, .slice xh nh ch] 70)).heap[G + 3]? = some (.cells #[.int .i64 PA, .int .i64 RE, .slice xc nc cc, .slice xk nk ck, .slice xh nh ch] 70) := by
    rw [← tz]
    exact heap_alloc_new _ _
  obtain ⟨W4, hW4⟩ : ∃ W, (W3.alloc (Obj.cells #[.int .i64 PA, .int .i64 RE, .slice xc nc cc, .slice xk nk ck, .slice xh nh ch] 70)) = W := ⟨_, rfl⟩
  rw [hW4] at T4 t3
  simp only [hW4]
  clear hW4 i0 i1 g0 g1 g2 g3 g4
  have M : MayAt G b o n1 c1 n2 c2 x2 9 IA IB AC xs nr cs PA RE (.slice xc nc cc) (.slice xk nk ck) (.slice xh nh ch) W4 := ⟨(T4.block _ (by omega)).trans t0, (T4.block _ (by omega)).trans t1, (T4.block _ (by omega)).trans t2, t3⟩
  have B4 : Below w.heap.size w W4 := chain tb T4
  clear t0 t1 t2 t3 tb T4 tz hG
  have cR := fun (r want : Int) (W : World) (hW : Below W4.heap.size W4 W) => cR0 r want W (chain B4 hW)
  have cI := fun (r : Int) (W : World) (hW : Below W4.heap.size W4 W) => cI0 r W (chain B4 hW)
  clear cR0 cI0
  obtain ⟨i0, i1⟩ := two_cells_of M.t0
  obtain ⟨j0, j1, j2⟩ := three_cells M.t1
  obtain ⟨s0, s1⟩ := two_cells_of M.t2
  obtain ⟨f0, f1, f2, f3, f4⟩ := five_cells M.t3
  have cB := fun W hW => cR (IB : Int) 1 W hW
  obtain ⟨B, hB⟩ : ∃ b, regIs s (IB : Int) 1 = b := ⟨_, rfl⟩
  simp only [hB] at cB
  have cP := fun W => l01In_b (IA : Int) 1 11 W
  obtain ⟨P, hP⟩ : ∃ b, inB (IA : Int) 1 11 = b := ⟨_, rfl⟩
  simp only [hP] at cP
  obtain ⟨ac, hac⟩ : ∃ b, (AC == 1) = b := ⟨_, rfl⟩
  have hac' : decide (AC = 1) = ac := by rw [← hac]; rfl
  have hF : F = (P && (B && ac)) := by rw [eF0, hB, hac', hP]
  subst hF
  clear M cR cI hB hac' eF0 hP
  cases P
  · go_wp2_with (go_at_call 33; with_reducible refine (cP _).mono ?_; rintro e w' ⟨rfl, rfl⟩)
    go_ret
    exact ⟨rfl, B4⟩
  cases B
  all_goals
    go_wp2_with (first | (go_at_call 33; with_reducible refine (cP _).mono ?_; rintro e w' ⟨rfl, rfl⟩) | (go_at_call 102; with_reducible refine (cB _ (by first | exact Below.refl _ _ | assumption)).mono ?_; rintro e w' ⟨rfl, hb1⟩))
    go_ret
    exact ⟨rfl, chain B4 hb1⟩
set_option maxHeartbeats 2000000 in
set_option maxRecDepth 100000 in
theorem l16May_16 (p : PImg) (f : PFun) (K : Nat) (i : PIns) (s : PSta) (fv cv v : Value) (w : World) (h : ArgImg w fv cv p) (hf : p.funcs[K]? = some f) (hi : insOk i = true) (hs : ArgI w v s.regs) (hop : i.op = 16) :
    Calls Try.prog 69 #[.agg #[fv, cv], .int .i64 K, .agg #[.int .i64 i.op, .int .i64 i.a, .int .i64 i.b], .agg #[.int .i64 s.acc, v]] w fun e w' => e = .returned (.bool (mayB p f i s)) ∧ Below w.heap.size w w' := by
  obtain ⟨hF, hC⟩ := h
  obtain ⟨x1, c1, rfl, m1, o1⟩ := hF
  obtain ⟨x2, c2, rfl, m2, _⟩ := hC.opened conC_len
  obtain ⟨xs, cs, rfl, ms, os⟩ := hs.opened
  have hKl : K < p.funcs.length := (List.getElem?_eq_some_iff.1 hf).1
  obtain ⟨b, o, rfl, hb, hcell⟩ := o1 (by omega)
  obtain ⟨qc, qk, qh, hA⟩ := hcell K f hf
  obtain ⟨xc, cc, rfl, mc, _⟩ := hA.caps.opened capC_len
  obtain ⟨xk, ck, rfl, mk, _⟩ := hA.code.opened insC_len
  obtain ⟨xh, ch, rfl, mh, _⟩ := hA.hnds.opened hndC_len
  obtain ⟨n1, e1⟩ : ∃ n, p.funcs.length = n := ⟨_, rfl⟩
  rw [e1] at hKl m1 ⊢
  unfold maxLen at m1 m2 ms mc mk mh
  have hki : (K : Int) < (n1 : Int) := by omega
  have hk0 : (0 : Int) ≤ (K : Int) := by omega
  obtain ⟨n2, e2⟩ : ∃ n, p.consts.length = n := ⟨_, rfl⟩
  obtain ⟨nr, e3⟩ : ∃ n, s.regs.length = n := ⟨_, rfl⟩
  obtain ⟨nc, e4⟩ : ∃ n, f.caps.length = n := ⟨_, rfl⟩
  obtain ⟨nk, e5⟩ : ∃ n, f.code.length = n := ⟨_, rfl⟩
  obtain ⟨nh, e6⟩ : ∃ n, f.hnds.length = n := ⟨_, rfl⟩
  obtain ⟨PA, e7⟩ : ∃ n, f.params = n := ⟨_, rfl⟩
  obtain ⟨RE, e8⟩ : ∃ n, f.regs = n := ⟨_, rfl⟩
  rw [e2] at m2
  rw [e3] at ms
  rw [e4] at mc
  rw [e5] at mk
  rw [e6] at mh
  simp only [e2, e3]
  have hio := hi
  unfold insOk inB at hio
  simp only [Bool.and_eq_true, decide_eq_true_eq] at hio
  obtain ⟨⟨ho1, ho2⟩, ⟨ha1, ha2⟩, hb1', hb2⟩ := hio
  obtain ⟨IA, eA⟩ : ∃ n : Nat, i.a = (n : Int) := ⟨i.a.toNat, by omega⟩
  obtain ⟨IB, eB⟩ : ∃ n : Nat, i.b = (n : Int) := ⟨i.b.toNat, by omega⟩
  have hia : IA ≤ 300 := by omega
  have hib : IB ≤ 300 := by omega
  have eO : i.op = 16 := hop
  obtain ⟨AC, eC⟩ : ∃ n, s.acc = n := ⟨_, rfl⟩
  simp only [eO, eA, eB, eC]
  obtain ⟨F, eF⟩ : ∃ F, mayB p f i s = F := ⟨_, rfl⟩
  rw [eF]
  have eF0 : F = (List.range (IB + 1)).all fun (k : Nat) => regIs s ((IA : Int) + (k : Int)) 1 := by
    rw [← eF, may_16 hop, eA, eB, show ((IB : Int) + 1).toNat = IB + 1 by omega]
  have cR0 := fun (r want : Int) (W : World) (hW : Below w.heap.size w W) => l16Reg_any s _ r want W (hs.below hW)
  have cI0 := fun (r : Int) (W : World) (hW : Below w.heap.size w W) => l16Room_any s _ r W (hs.below hW)
  simp only [e3, eC] at cR0 cI0
  have HS : Hid (ArgI w (.slice xs nr cs) s.regs) := by have h := hs; rw [e3] at h; exact h
  have HC : Hid (∀ (j : Nat) (g : PFun), p.funcs[j]? = some g → ∃ cv kv hv, FunAt w b (o + j * 5) g cv kv hv) := hcell
  have HL : Hid (p.funcs.length = n1 ∧ f.caps.length = nc) := ⟨e1, e4⟩
  have T := made_three w (Obj.cells #[.slice (some ⟨b, o, none⟩) n1 c1, .slice x2 n2 c2] 31) (Obj.cells #[.int .i64 16, .int .i64 IA, .int .i64 IB] 72) (Obj.cells #[.int .i64 AC, .slice xs nr cs] 98)
  obtain ⟨W3, hW3⟩ : ∃ W, (((w.alloc (Obj.cells #[.slice (some ⟨b, o, none⟩) n1 c1, .slice x2 n2 c2] 31)).alloc (Obj.cells #[.int .i64 16, .int .i64 IA, .int .i64 IB] 72)).alloc (Obj.cells #[.int .i64 AC, .slice xs nr cs] 98)) = W := ⟨_, rfl⟩
  rw [hW3] at T
  have HW3 : Hid (_ = W3) := hW3
  clear hW3
  obtain ⟨t0, t1, t2, tz, tb⟩ := T
  obtain ⟨G, hG⟩ : ∃ G, w.heap.size = G := ⟨_, rfl⟩
  rw [hG] at t0 t1 t2 tz
  have HA3 := hA.below tb
  have g0 := HA3.c0
  have g1 := HA3.c1
  have g2 := HA3.c2
  have g3 := HA3.c3
  have g4 := HA3.c4
  rw [e7] at g0
  rw [e8] at g1
  rw [e4] at g2
  rw [e5] at g3
  rw [e6] at g4
  clear HA3 hA hcell hC hs os e1 e2 e3 e4 e5 e6 e7 e8 eA eB eC eF hi hf o1 ho1 ho2 ha1 ha2 hb1' hb2
  obtain ⟨i0, i1⟩ := two_cells_of t0
  go_enter Try.func69, Try.ntmps69
  go_upto_region 1 with fail
  rw [HW3.out]
  clear HW3
  try simp only [hG]
  go_upto_region 2 with fail
  have T4 : Below W3.heap.size W3 (W3.alloc (Obj.cells #[.int .i64 PA, .int .i64 RE, .slice xc nc cc, .slice xk nk ck, .slice xh nh ch] 70)) := (Below.refl _ _).alloc (Nat.le_refl _) _
  have t3 : (W3.alloc (Obj.cells #[.int .i64 PA, .int .i64 RE, .slice xc nc cc, .slice xk nk ck, .slice xh nh ch] 70)).heap[G + 3]? = some (.cells #[.int .i64 PA, .int .i64 RE, .slice xc nc cc, .slice xk nk ck, .slice xh nh ch] 70) := by
    rw [← tz]
    exact heap_alloc_new _ _
  obtain ⟨W4, hW4⟩ : ∃ W, (W3.alloc (Obj.cells #[.int .i64 PA, .int .i64 RE, .slice xc nc cc, .slice xk nk ck, .slice xh nh ch] 70)) = W := ⟨_, rfl⟩
  rw [hW4] at T4 t3
  simp only [hW4]
  clear hW4 i0 i1 g0 g1 g2 g3 g4
  have M : MayAt G b o n1 c1 n2 c2 x2 16 IA IB AC xs nr cs PA RE (.slice xc nc cc) (.slice xk nk ck) (.slice xh nh ch) W4 := ⟨(T4.block _ (by omega)).trans t0, (T4.block _ (by omega)).trans t1, (T4.block _ (by omega)).trans t2, t3⟩
  have B4 : Below w.heap.size w W4 := chain tb T4
  clear t0 t1 t2 t3 tb T4 tz hG
  have cR := fun (r want : Int) (W : World) (hW : Below W4.heap.size W4 W) => cR0 r want W (chain B4 hW)
  have cI := fun (r : Int) (W : World) (hW : Below W4.heap.size W4 W) => cI0 r W (chain B4 hW)
  clear cR0 cI0
  obtain ⟨i0, i1⟩ := two_cells_of M.t0
  obtain ⟨j0, j1, j2⟩ := three_cells M.t1
  obtain ⟨s0, s1⟩ := two_cells_of M.t2
  obtain ⟨f0, f1, f2, f3, f4⟩ := five_cells M.t3
  have HF : Hid (F = (List.range (IB + 1)).all fun (k : Nat) => regIs s ((IA : Int) + (k : Int)) 1) := eF0
  clear eF0
  go_wp2
  clear i0 i1 j0 j1 j2 s0 s1 f0 f1 f2 f3 f4
  go_loopw [13] (fun x wr => ∃ k : Nat, k ≤ IB + 1 ∧ x = .int .i64 k ∧ Hid (∀ j, j < k → regIs s ((IA : Int) + (j : Int)) 1 = true) ∧ Below W4.heap.size W4 wr) (fun x _ => IB + 1 - (intOf x).toNat)
  case atStart => exact ⟨0, Nat.zero_le _, rfl, fun j hj => absurd hj (Nat.not_lt_zero _), Below.refl _ _⟩
  case round =>
    obtain ⟨k, hk, rfl, HS2, hbw⟩ := hrel
    have M1 := M.below hbw
    obtain ⟨i0, i1⟩ := two_cells_of M1.t0
    obtain ⟨j0, j1, j2⟩ := three_cells M1.t1
    obtain ⟨s0, s1⟩ := two_cells_of M1.t2
    by_cases hlt : k ≤ IB
    · have hle : (k : Int) ≤ (IB : Int) := by omega
      have hwr : IntKind.i64.wrap ((IA : Int) + (k : Int)) = (IA : Int) + (k : Int) := wrap_small (by omega) (by omega)
      have cB := fun W hW => cR ((IA : Int) + (k : Int)) 1 W hW
      obtain ⟨B, hB⟩ : ∃ b, regIs s ((IA : Int) + (k : Int)) 1 = b := ⟨_, rfl⟩
      simp only [hB] at cB
      have HB : Hid (regIs s ((IA : Int) + (k : Int)) 1 = B) := hB
      clear hB M1 cR cI
      cases B with
      | false =>
        have hF : F = false := by
          rw [HF.out, List.all_eq_false]
          exact ⟨k, List.mem_range.2 (by omega), by rw [HB.out]; decide⟩
        subst hF
        go_wp2_with (go_at_call 102; with_reducible refine (cB _ (by first | exact Below.refl _ _ | assumption)).mono ?_; rintro e w' ⟨rfl, hb1⟩)
        go_ret
        exact ⟨rfl, chain (chain B4 hbw) hb1⟩
      | true =>
        go_wp2_with (go_at_call 102; with_reducible refine (cB _ (by first | exact Below.refl _ _ | assumption)).mono ?_; rintro e w' ⟨rfl, hb1⟩)
        go_roundw
        case rel =>
          refine ⟨k + 1, by omega, by go_num, fun j hj => ?_, chain hbw hb1⟩
          rcases Nat.lt_or_ge j k with h' | h'
          · exact HS2.out j h'
          · have e3 : j = k := by omega
            subst e3
            exact HB.out
        case measure => simp [intOf]; omega
    · have hle : ¬ (k : Int) ≤ (IB : Int) := by omega
      have hF : F = true := by
        rw [HF.out, List.all_eq_true]
        intro j hj
        exact HS2.out j (by have := List.mem_range.1 hj; omega)
      subst hF
      clear M1 cR cI
      go_wp2
      go_ret
      exact ⟨rfl, chain B4 hbw⟩
set_option maxHeartbeats 2000000 in
set_option maxRecDepth 100000 in
theorem l16May_0 (p : PImg) (f : PFun) (K : Nat) (i : PIns) (s : PSta) (fv cv v : Value) (w : World) (h : ArgImg w fv cv p) (hf : p.funcs[K]? = some f) (hi : insOk i = true) (hs : ArgI w v s.regs) (hop : ¬ (1 ≤ i.op ∧ i.op ≤ 9) ∧ ¬ (12 ≤ i.op ∧ i.op ≤ 16)) :
    Calls Try.prog 69 #[.agg #[fv, cv], .int .i64 K, .agg #[.int .i64 i.op, .int .i64 i.a, .int .i64 i.b], .agg #[.int .i64 s.acc, v]] w fun e w' => e = .returned (.bool (mayB p f i s)) ∧ Below w.heap.size w w' := by
  obtain ⟨hF, hC⟩ := h
  obtain ⟨x1, c1, rfl, m1, o1⟩ := hF
  obtain ⟨x2, c2, rfl, m2, _⟩ := hC.opened conC_len
  obtain ⟨xs, cs, rfl, ms, os⟩ := hs.opened
  have hKl : K < p.funcs.length := (List.getElem?_eq_some_iff.1 hf).1
  obtain ⟨b, o, rfl, hb, hcell⟩ := o1 (by omega)
  obtain ⟨qc, qk, qh, hA⟩ := hcell K f hf
  obtain ⟨xc, cc, rfl, mc, _⟩ := hA.caps.opened capC_len
  obtain ⟨xk, ck, rfl, mk, _⟩ := hA.code.opened insC_len
  obtain ⟨xh, ch, rfl, mh, _⟩ := hA.hnds.opened hndC_len
  obtain ⟨n1, e1⟩ : ∃ n, p.funcs.length = n := ⟨_, rfl⟩
  rw [e1] at hKl m1 ⊢
  unfold maxLen at m1 m2 ms mc mk mh
  have hki : (K : Int) < (n1 : Int) := by omega
  have hk0 : (0 : Int) ≤ (K : Int) := by omega
  obtain ⟨n2, e2⟩ : ∃ n, p.consts.length = n := ⟨_, rfl⟩
  obtain ⟨nr, e3⟩ : ∃ n, s.regs.length = n := ⟨_, rfl⟩
  obtain ⟨nc, e4⟩ : ∃ n, f.caps.length = n := ⟨_, rfl⟩
  obtain ⟨nk, e5⟩ : ∃ n, f.code.length = n := ⟨_, rfl⟩
  obtain ⟨nh, e6⟩ : ∃ n, f.hnds.length = n := ⟨_, rfl⟩
  obtain ⟨PA, e7⟩ : ∃ n, f.params = n := ⟨_, rfl⟩
  obtain ⟨RE, e8⟩ : ∃ n, f.regs = n := ⟨_, rfl⟩
  rw [e2] at m2
  rw [e3] at ms
  rw [e4] at mc
  rw [e5] at mk
  rw [e6] at mh
  simp only [e2, e3]
  have hio := hi
  unfold insOk inB at hio
  simp only [Bool.and_eq_true, decide_eq_true_eq] at hio
  obtain ⟨⟨ho1, ho2⟩, ⟨ha1, ha2⟩, hb1', hb2⟩ := hio
  obtain ⟨IA, eA⟩ : ∃ n : Nat, i.a = (n : Int) := ⟨i.a.toNat, by omega⟩
  obtain ⟨IB, eB⟩ : ∃ n : Nat, i.b = (n : Int) := ⟨i.b.toNat, by omega⟩
  have hia : IA ≤ 300 := by omega
  have hib : IB ≤ 300 := by omega
  obtain ⟨OP, eO⟩ : ∃ n, i.op = n := ⟨_, rfl⟩
  have hop1 : ¬ (1 ≤ OP ∧ OP ≤ 9) ∧ ¬ (12 ≤ OP ∧ OP ≤ 16) := by rw [← eO]; exact hop
  have z1 : (OP == 1) = false := by rw [beq_eq_false_iff_ne]; omega
  have z2 : (OP == 2) = false := by rw [beq_eq_false_iff_ne]; omega
  have z3 : (OP == 3) = false := by rw [beq_eq_false_iff_ne]; omega
  have z4 : (OP == 4) = false := by rw [beq_eq_false_iff_ne]; omega
  have z5 : (OP == 5) = false := by rw [beq_eq_false_iff_ne]; omega
  have z6 : (OP == 6) = false := by rw [beq_eq_false_iff_ne]; omega
  have z7 : (OP == 7) = false := by rw [beq_eq_false_iff_ne]; omega
  have z8 : (OP == 8) = false := by rw [beq_eq_false_iff_ne]; omega
  have z9 : (OP == 9) = false := by rw [beq_eq_false_iff_ne]; omega
  have z12 : (OP == 12) = false := by rw [beq_eq_false_iff_ne]; omega
  have z13 : (OP == 13) = false := by rw [beq_eq_false_iff_ne]; omega
  have z14 : (OP == 14) = false := by rw [beq_eq_false_iff_ne]; omega
  have z15 : (OP == 15) = false := by rw [beq_eq_false_iff_ne]; omega
  have z16 : (OP == 16) = false := by rw [beq_eq_false_iff_ne]; omega
  obtain ⟨AC, eC⟩ : ∃ n, s.acc = n := ⟨_, rfl⟩
  simp only [eO, eA, eB, eC]
  obtain ⟨F, eF⟩ : ∃ F, mayB p f i s = F := ⟨_, rfl⟩
  rw [eF]
  have eF0 : F = decide (AC = 1) := by rw [← eF, may_0 hop, eC]
  have cR0 := fun (r want : Int) (W : World) (hW : Below w.heap.size w W) => l16Reg_any s _ r want W (hs.below hW)
  have cI0 := fun (r : Int) (W : World) (hW : Below w.heap.size w W) => l16Room_any s _ r W (hs.below hW)
  simp only [e3, eC] at cR0 cI0
  have HS : Hid (ArgI w (.slice xs nr cs) s.regs) := by have h := hs; rw [e3] at h; exact h
  have HC : Hid (∀ (j : Nat) (g : PFun), p.funcs[j]? = some g → ∃ cv kv hv, FunAt w b (o + j * 5) g cv kv hv) := hcell
  have HL : Hid (p.funcs.length = n1 ∧ f.caps.length = nc) := ⟨e1, e4⟩
  have T := made_three w (Obj.cells #[.slice (some ⟨b, o, none⟩) n1 c1, .slice x2 n2 c2] 31) (Obj.cells #[.int .i64 OP, .int .i64 IA, .int .i64 IB] 72) (Obj.cells #[.int .i64 AC, .slice xs nr cs] 98)
  obtain ⟨W3, hW3⟩ : ∃ W, (((w.alloc (Obj.cells #[.slice (some ⟨b, o, none⟩) n1 c1, .slice x2 n2 c2] 31)).alloc (Obj.cells #[.int .i64 OP, .int .i64 IA, .int .i64 IB] 72)).alloc (Obj.cells #[.int .i64 AC, .slice xs nr cs] 98)) = W := ⟨_, rfl⟩
  rw [hW3] at T
  have HW3 : Hid (_ = W3) := hW3
  clear hW3
  obtain ⟨t0, t1, t2, tz, tb⟩ := T
  obtain ⟨G, hG⟩ : ∃ G, w.heap.size = G := ⟨_, rfl⟩
  rw [hG] at t0 t1 t2 tz
  have HA3 := hA.below tb
  have g0 := HA3.c0
  have g1 := HA3.c1
  have g2 := HA3.c2
  have g3 := HA3.c3
  have g4 := HA3.c4
  rw [e7] at g0
  rw [e8] at g1
  rw [e4] at g2
  rw [e5] at g3
  rw [e6] at g4
  clear HA3 hA hcell hC hs os e1 e2 e3 e4 e5 e6 e7 e8 eA eB eC eF hi hf o1 ho1 ho2 ha1 ha2 hb1' hb2
  obtain ⟨i0, i1⟩ := two_cells_of t0
  go_enter Try.func69, Try.ntmps69
  go_upto_region 1 with fail
  rw [HW3.out]
  clear HW3
  try simp only [hG]
  go_upto_region 2 with fail
  have T4 : Below W3.heap.size W3 (W3.alloc (Obj.cells #[.int .i64 PA, .int .i64 RE, .slice xc nc cc, .slice xk nk ck, .slice xh nh ch] 70)) := (Below.refl _ _).alloc (Nat.le_refl _) _
  have t3 : (W3.alloc (Obj.cells #[.int .i64 PA, .int .i64 RE, .slice xc nc cc, .slice xk nk ck, .slice xh nh ch] 70)).heap[G + 3]? = some (.cells #[.int .i64 PA, .int .i64 RE, .slice xc nc cc, .slice xk nk ck, .slice xh nh ch] 70) := by
    rw [← tz]
    exact heap_alloc_new _ _
  obtain ⟨W4, hW4⟩ : ∃ W, (W3.alloc (Obj.cells #[.int .i64 PA, .int .i64 RE, .slice xc nc cc, .slice xk nk ck, .slice xh nh ch] 70)) = W := ⟨_, rfl⟩
  rw [hW4] at T4 t3
  simp only [hW4]
  clear hW4 i0 i1 g0 g1 g2 g3 g4
  have M : MayAt G b o n1 c1 n2 c2 x2 OP IA IB AC xs nr cs PA RE (.slice xc nc cc) (.slice xk nk ck) (.slice xh nh ch) W4 := ⟨(T4.block _ (by omega)).trans t0, (T4.block _ (by omega)).trans t1, (T4.block _ (by omega)).trans t2, t3⟩
  have B4 : Below w.heap.size w W4 := chain tb T4
  clear t0 t1 t2 t3 tb T4 tz hG
  have cR := fun (r want : Int) (W : World) (hW : Below W4.heap.size W4 W) => cR0 r want W (chain B4 hW)
  have cI := fun (r : Int) (W : World) (hW : Below W4.heap.size W4 W) => cI0 r W (chain B4 hW)
  clear cR0 cI0
  obtain ⟨i0, i1⟩ := two_cells_of M.t0
  obtain ⟨j0, j1, j2⟩ := three_cells M.t1
  obtain ⟨s0, s1⟩ := two_cells_of M.t2
  obtain ⟨f0, f1, f2, f3, f4⟩ := five_cells M.t3
  obtain ⟨ac, hac⟩ : ∃ b, (AC == 1) = b := ⟨_, rfl⟩
  have hac' : decide (AC = 1) = ac := by rw [← hac]; rfl
  have hF : F = ac := by rw [eF0, hac']
  subst hF
  clear M cR cI hac' eF0 hop1
  go_wp2
  go_ret
  exact ⟨rfl, B4⟩
set_option maxHeartbeats 2000000 in
set_option maxRecDepth 100000 in
theorem l16May_15 (p : PImg) (f : PFun) (K : Nat) (i : PIns) (s : PSta) (fv cv v : Value) (w : World) (h : ArgImg w fv cv p) (hf : p.funcs[K]? = some f) (hi : insOk i = true) (hs : ArgI w v s.regs) (hop : i.op = 15) :
    Calls Try.prog 69 #[.agg #[fv, cv], .int .i64 K, .agg #[.int .i64 i.op, .int .i64 i.a, .int .i64 i.b], .agg #[.int .i64 s.acc, v]] w fun e w' => e = .returned (.bool (mayB p f i s)) ∧ Below w.heap.size w w' := by
  obtain ⟨hF, hC⟩ := h
  obtain ⟨x1, c1, rfl, m1, o1⟩ := hF
  obtain ⟨x2, c2, rfl, m2, _⟩ := hC.opened conC_len
  obtain ⟨xs, cs, rfl, ms, os⟩ := hs.opened
  have hKl : K < p.funcs.length := (List.getElem?_eq_some_iff.1 hf).1
  obtain ⟨b, o, rfl, hb, hcell⟩ := o1 (by omega)
  obtain ⟨qc, qk, qh, hA⟩ := hcell K f hf
  obtain ⟨xc, cc, rfl, mc, _⟩ := hA.caps.opened capC_len
  obtain ⟨xk, ck, rfl, mk, _⟩ := hA.code.opened insC_len
  obtain ⟨xh, ch, rfl, mh, _⟩ := hA.hnds.opened hndC_len
  obtain ⟨n1, e1⟩ : ∃ n, p.funcs.length = n := ⟨_, rfl⟩
  rw [e1] at hKl m1 ⊢
  unfold maxLen at m1 m2 ms mc mk mh
  have hki : (K : Int) < (n1 : Int) := by omega
  have hk0 : (0 : Int) ≤ (K : Int) := by omega
  obtain ⟨n2, e2⟩ : ∃ n, p.consts.length = n := ⟨_, rfl⟩
  obtain ⟨nr, e3⟩ : ∃ n, s.regs.length = n := ⟨_, rfl⟩
  obtain ⟨nc, e4⟩ : ∃ n, f.caps.length = n := ⟨_, rfl⟩
  obtain ⟨nk, e5⟩ : ∃ n, f.code.length = n := ⟨_, rfl⟩
  obtain ⟨nh, e6⟩ : ∃ n, f.hnds.length = n := ⟨_, rfl⟩
  obtain ⟨PA, e7⟩ : ∃ n, f.params = n := ⟨_, rfl⟩
  obtain ⟨RE, e8⟩ : ∃ n, f.regs = n := ⟨_, rfl⟩
  rw [e2] at m2
  rw [e3] at ms
  rw [e4] at mc
  rw [e5] at mk
  rw [e6] at mh
  simp only [e2, e3]
  have hio := hi
  unfold insOk inB at hio
  simp only [Bool.and_eq_true, decide_eq_true_eq] at hio
  obtain ⟨⟨ho1, ho2⟩, ⟨ha1, ha2⟩, hb1', hb2⟩ := hio
  obtain ⟨IA, eA⟩ : ∃ n : Nat, i.a = (n : Int) := ⟨i.a.toNat, by omega⟩
  obtain ⟨IB, eB⟩ : ∃ n : Nat, i.b = (n : Int) := ⟨i.b.toNat, by omega⟩
  have hia : IA ≤ 300 := by omega
  have hib : IB ≤ 300 := by omega
  have eO : i.op = 15 := hop
  obtain ⟨AC, eC⟩ : ∃ n, s.acc = n := ⟨_, rfl⟩
  simp only [eO, eA, eB, eC]
  obtain ⟨F, eF⟩ : ∃ F, mayB p f i s = F := ⟨_, rfl⟩
  rw [eF]
  have eF0 : F = (inB (IA : Int) 1 ((n1 : Int) - 1) && capsMay p f s (IA : Int)) := by rw [← eF, may_15 hop, eA, e1]
  have cR0 := fun (r want : Int) (W : World) (hW : Below w.heap.size w W) => l16Reg_any s _ r want W (hs.below hW)
  have cI0 := fun (r : Int) (W : World) (hW : Below w.heap.size w W) => l16Room_any s _ r W (hs.below hW)
  simp only [e3, eC] at cR0 cI0
  have HS : Hid (ArgI w (.slice xs nr cs) s.regs) := by have h := hs; rw [e3] at h; exact h
  have HC : Hid (∀ (j : Nat) (g : PFun), p.funcs[j]? = some g → ∃ cv kv hv, FunAt w b (o + j * 5) g cv kv hv) := hcell
  have HL : Hid (p.funcs.length = n1 ∧ f.caps.length = nc) := ⟨e1, e4⟩
  have T := made_three w (Obj.cells #[.slice (some ⟨b, o, none⟩) n1 c1, .slice x2 n2 c2] 31) (Obj.cells #[.int .i64 15, .int .i64 IA, .int .i64 IB] 72) (Obj.cells #[.int .i64 AC, .slice xs nr cs] 98)
  obtain ⟨W3, hW3⟩ : ∃ W, (((w.alloc (Obj.cells #[.slice (some ⟨b, o, none⟩) n1 c1, .slice x2 n2 c2] 31)).alloc (Obj.cells #[.int .i64 15, .int .i64 IA, .int .i64 IB] 72)).alloc (Obj.cells #[.int .i64 AC, .slice xs nr cs] 98)) = W := ⟨_, rfl⟩
  rw [hW3] at T
  have HW3 : Hid (_ = W3) := hW3
  clear hW3
  obtain ⟨t0, t1, t2, tz, tb⟩ := T
  obtain ⟨G, hG⟩ : ∃ G, w.heap.size = G := ⟨_, rfl⟩
  rw [hG] at t0 t1 t2 tz
  have HA3 := hA.below tb
  have g0 := HA3.c0
  have g1 := HA3.c1
  have g2 := HA3.c2
  have g3 := HA3.c3
  have g4 := HA3.c4
  rw [e7] at g0
  rw [e8] at g1
  rw [e4] at g2
  rw [e5] at g3
  rw [e6] at g4
  clear HA3 hA hcell hC hs os e1 e2 e3 e4 e5 e6 e7 e8 eA eB eC eF hi hf o1 ho1 ho2 ha1 ha2 hb1' hb2
  obtain ⟨i0, i1⟩ := two_cells_of t0
  go_enter Try.func69, Try.ntmps69
  go_upto_region 1 with fail
  rw [HW3.out]
  clear HW3
  try simp only [hG]
  go_upto_region 2 with fail
  have T4 : Below W3.heap.size W3 (W3.alloc (Obj.cells #[.int .i64 PA, .int .i64 RE, .slice xc nc cc, .slice xk nk ck, .slice xh nh ch] 70)) := (Below.refl _ _).alloc (Nat.le_refl _) _
  have t3 : (W3.alloc (Obj.cells #[.int .i64 PA, .int .i64 RE, .slice xc nc cc, .slice xk nk ck, .slice xh nh ch] 70)).heap[G + 3]? = some (.cells #[.int .i64 PA, .int .i64 RE, .slice xc nc cc, .slice xk nk ck, .slice xh nh ch] 70) := by
    rw [← tz]
    exact heap_alloc_new _ _
  obtain ⟨W4, hW4⟩ : ∃ W, (W3.alloc (Obj.cells #[.int .i64 PA, .int .i64 RE, .slice xc nc cc, .slice xk nk ck, .slice xh nh ch] 70)) = W := ⟨_, rfl⟩
  rw [hW4] at T4 t3
  simp only [hW4]
  clear hW4 i0 i1 g0 g1 g2 g3 g4
  have M : MayAt G b o n1 c1 n2 c2 x2 15 IA IB AC xs nr cs PA RE (.slice xc nc cc) (.slice xk nk ck) (.slice xh nh ch) W4 := ⟨(T4.block _ (by omega)).trans t0, (T4.block _ (by omega)).trans t1, (T4.block _ (by omega)).trans t2, t3⟩
  have B4 : Below w.heap.size w W4 := chain tb T4
  clear t0 t1 t2 t3 tb T4 tz hG
  have cR := fun (r want : Int) (W : World) (hW : Below W4.heap.size W4 W) => cR0 r want W (chain B4 hW)
  have cI := fun (r : Int) (W : World) (hW : Below W4.heap.size W4 W) => cI0 r W (chain B4 hW)
  clear cR0 cI0
  obtain ⟨i0, i1⟩ := two_cells_of M.t0
  obtain ⟨j0, j1, j2⟩ := three_cells M.t1
  obtain ⟨s0, s1⟩ := two_cells_of M.t2
  obtain ⟨f0, f1, f2, f3, f4⟩ := five_cells M.t3
  have cP := fun W => l01In_b (IA : Int) 1 ((n1 : Int) - 1) W
  obtain ⟨P, hP⟩ : ∃ b, inB (IA : Int) 1 ((n1 : Int) - 1) = b := ⟨_, rfl⟩
  have HP : Hid (inB (IA : Int) 1 ((n1 : Int) - 1) = P) := hP
  simp only [hP] at cP
  have hw1 : IntKind.i64.wrap ((n1 : Int) - 1) = (n1 : Int) - 1 := wrap_less n1 (by omega)
  have HF : Hid (F = (P && capsMay p f s (IA : Int))) := by rw [← hP]; exact eF0
  clear eF0 hP
  cases P with
  | false =>
    have hF : F = false := by rw [HF.out]; rfl
    subst hF
    clear M cR cI
    go_wp2_with (go_at_call 33; with_reducible refine (cP _).mono ?_; rintro e w' ⟨rfl, rfl⟩)
    go_ret
    exact ⟨rfl, B4⟩
  | true =>
  have hin := HP.out
  unfold inB at hin
  simp only [Bool.and_eq_true, decide_eq_true_eq] at hin
  have hlt1 : (IA : Int) < (n1 : Int) := by omega
  have hge1 : (0 : Int) ≤ (IA : Int) := by omega
  obtain ⟨g, hg⟩ : ∃ g, p.funcs[IA]? = some g := ⟨_, List.getElem?_eq_getElem (by have := HL.out.1; omega)⟩
  obtain ⟨yc, yk, yh, hY⟩ := HC.out IA g hg
  have hY4 := hY.below B4
  obtain ⟨xg, cg, rfl, mg, og⟩ := hY4.caps.opened capC_len
  have y2 := hY4.c2
  have HF1 : Hid (F = g.caps.all (capMay f s)) := by
    have h := HF.out
    unfold capsMay at h
    rw [Int.toNat_natCast, hg] at h
    exact h
  obtain ⟨ng, eg⟩ : ∃ n, g.caps.length = n := ⟨_, rfl⟩
  rw [eg] at mg og y2
  have HG : Hid (g.caps.length = ng) := eg
  unfold maxLen at mg
  have HX : Hid (0 < ng → ∃ b o, xg = some ⟨b, o, none⟩ ∧ b < W4.heap.size ∧ ∀ j q, g.caps[j]? = some q → ∀ c u, (capC q)[c]? = some u → W4.cell? ⟨b, o + j * 2 + c, none⟩ = some u) := og
  clear og eg hY hY4 hg hin HF HP HC
  go_upto_region 30 with (go_at_call 33; with_reducible refine (cP _).mono ?_; rintro e w' ⟨rfl, rfl⟩)
  clear cP y2 i0 i1 j0 j1 j2 s0 s1 f0 f1 f2 f3 f4
  go_wp2
  go_loopw [12] (fun x wr => ∃ k : Nat, k ≤ ng ∧ x = .int .i64 k ∧ Hid (∀ j q, j < k → g.caps[j]? = some q → capMay f s q = true) ∧ Below W4.heap.size W4 wr) (fun x _ => ng - (intOf x).toNat)
  case atStart => exact ⟨0, Nat.zero_le _, rfl, fun j q hj => absurd hj (Nat.not_lt_zero _), Below.refl _ _⟩
  case round =>
    obtain ⟨k, hk, rfl, HS2, hbw⟩ := hrel
    have M1 := M.below hbw
    obtain ⟨s0, s1⟩ := two_cells_of M1.t2
    obtain ⟨f0, f1, f2, f3, f4⟩ := five_cells M1.t3
    by_cases hlt : k < ng
    · obtain ⟨bb, oo, rfl, hbb, hcl⟩ := HX.out (by omega)
      obtain ⟨q, hq⟩ : ∃ q, g.caps[k]? = some q := ⟨_, List.getElem?_eq_getElem (by have := HG.out; omega)⟩
      have d0 : wr.cell? ⟨bb, oo + k * 2, none⟩ = some (.bool q.reg) := (hbw.cell hbb).trans (hcl k q hq 0 _ rfl)
      have d1 : wr.cell? ⟨bb, oo + k * 2 + 1, none⟩ = some (.int .i64 q.index) := (hbw.cell hbb).trans (hcl k q hq 1 _ rfl)
      have hki2 : (k : Int) < (ng : Int) := by omega
      have hk02 : (0 : Int) ≤ (k : Int) := by omega
      have HQ : Hid (g.caps[k]? = some q) := hq
      have HM : Hid (capMay f s q = if q.reg then regIs s q.index 2 else decide (q.index < (nc : Int))) := by
        show capMay f s q = _
        unfold capMay
        rw [HL.out.2]
      obtain ⟨qr, eqr⟩ : ∃ x, q.reg = x := ⟨_, rfl⟩
      obtain ⟨qi, eqi⟩ : ∃ x, q.index = x := ⟨_, rfl⟩
      rw [eqr] at d0 HM
      rw [eqi] at d1 HM
      clear hcl hq M1 HX eqr eqi
      cases qr with
      | true =>
        have cB := fun W hW => cR qi 2 W hW
        obtain ⟨B, hB⟩ : ∃ b, regIs s qi 2 = b := ⟨_, rfl⟩
        simp only [hB] at cB
        have HB : Hid (capMay f s q = B) := by rw [HM.out]; exact hB
        have cQ := fun d os => Calls.regrown_of (w := wr) (d := d) (os := os) (cB (grow (redrawn wr d) os) (chain hbw (below_regrown wr d os)))
        have r0 := fun d os => cell_regrown d0 d os
        have r1 := fun d os => cell_regrown d1 d os
        have r2 := fun d os => cell_regrown s0 d os
        have r3 := fun d os => cell_regrown s1 d os
        have r4 := fun d os => cell_regrown f2 d os
        clear hB HM cR cI cB
        cases B with
        | false =>
          have hF : F = false := by rw [HF1.out, all_no HQ.out HB.out]
          subst hF
          go_wp2
          refine wp_region_quiet_below (by kernel_rfl) (by kernel_rfl) ?_
          repeat (first | go_big_quiet_step (exact cQ _ _) | quiet_step (exact cQ _ _))
          refine wpQuiet_nil ?_
          intro _ hw'
          obtain ⟨⟨dq, osq⟩, hw''⟩ := hw'
          subst hw''
          have HE : Hid (Below w.heap.size w (grow (redrawn wr dq) osq)) := chain (chain B4 hbw) (below_regrown wr dq osq)
          go_wp2
          go_ret
          exact ⟨rfl, HE.out⟩
        | true =>
          go_wp2
          refine wp_region_quiet_below (by kernel_rfl) (by kernel_rfl) ?_
          repeat (first | go_big_quiet_step (exact cQ _ _) | quiet_step (exact cQ _ _))
          refine wpQuiet_nil ?_
          intro _ hw'
          obtain ⟨⟨dq, osq⟩, hw''⟩ := hw'
          subst hw''
          have HE : Hid (Below W4.heap.size W4 (grow (redrawn wr dq) osq)) := chain hbw (below_regrown wr dq osq)
          go_wp2
          go_roundw
          case rel => exact ⟨k + 1, by omega, by go_num, all_more HS2.out HQ.out HB.out, HE.out⟩
          case measure => simp [intOf]; omega
      | false =>
        have HM1 : Hid (capMay f s q = decide (qi < (nc : Int))) := HM.out
        clear HM cR cI
        by_cases hcmp : qi < (nc : Int)
        · have HB : Hid (capMay f s q = true) := by rw [HM1.out]; exact decide_eq_true hcmp
          have hc2 : ¬ (nc : Int) ≤ qi := by omega
          go_wp2
          go_quiet (fail)
          go_wp2
          go_roundw
          case rel => exact ⟨k + 1, by omega, by go_num, all_more HS2.out HQ.out HB.out, below_drewN hbw _⟩
          case measure => simp [intOf]; omega
        · have HB : Hid (capMay f s q = false) := by rw [HM1.out]; exact decide_eq_false hcmp
          have hc2 : (nc : Int) ≤ qi := by omega
          have hF : F = false := by rw [HF1.out, all_no HQ.out HB.out]
          subst hF
          go_wp2
          go_quiet (fail)
          go_wp2
          go_ret
          exact ⟨rfl, chain B4 (below_drewN hbw _)⟩
    · have hF : F = true := by rw [HF1.out]; exact all_yes (n := k) (by have := HG.out; omega) HS2.out
      subst hF
      clear M1 HX cR cI
      go_wp2
      go_ret
      exact ⟨rfl, chain B4 hbw⟩
theorem l16May_any (p : PImg) (f : PFun) (K : Nat) (i : PIns) (s : PSta) (fv cv v : Value) (w : World) (h : ArgImg w fv cv p) (hf : p.funcs[K]? = some f) (hi : insOk i = true) (hs : ArgI w v s.regs) :
    Calls Try.prog 69 #[.agg #[fv, cv], .int .i64 K, .agg #[.int .i64 i.op, .int .i64 i.a, .int .i64 i.b], .agg #[.int .i64 s.acc, v]] w fun e w' => e = .returned (.bool (mayB p f i s)) ∧ Below w.heap.size w w' := by
  by_cases c1 : i.op = 1
  · exact l16May_1 p f K i s fv cv v w h hf hi hs c1
  by_cases c2 : i.op = 2
  · exact l16May_2 p f K i s fv cv v w h hf hi hs c2
  by_cases c3 : i.op = 3
  · exact l16May_3 p f K i s fv cv v w h hf hi hs c3
  by_cases c4 : i.op = 4
  · exact l16May_4 p f K i s fv cv v w h hf hi hs c4
  by_cases c5 : i.op = 5
  · exact l16May_5 p f K i s fv cv v w h hf hi hs c5
  by_cases c6 : i.op = 6
  · exact l16May_6 p f K i s fv cv v w h hf hi hs c6
  by_cases c7 : i.op = 7
  · exact l16May_7 p f K i s fv cv v w h hf hi hs c7
  by_cases c8 : i.op = 8
  · exact l16May_8 p f K i s fv cv v w h hf hi hs c8
  by_cases c9 : i.op = 9
  · exact l16May_9 p f K i s fv cv v w h hf hi hs c9
  by_cases c12 : i.op = 12
  · exact l16May_12 p f K i s fv cv v w h hf hi hs c12
  by_cases c13 : i.op = 13
  · exact l16May_13 p f K i s fv cv v w h hf hi hs c13
  by_cases c14 : i.op = 14
  · exact l16May_14 p f K i s fv cv v w h hf hi hs c14
  by_cases c15 : i.op = 15
  · exact l16May_15 p f K i s fv cv v w h hf hi hs c15
  by_cases c16 : i.op = 16
  · exact l16May_16 p f K i s fv cv v w h hf hi hs c16
  exact l16May_0 p f K i s fv cv v w h hf hi hs (by omega)
end Go.Proofs.Ytbgdapdenbldmaa
