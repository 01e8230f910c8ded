/-
  Part 17 of what is proved of drawn right trees.
-/
import Derived.Test.YtbgdapdenbldmaaPap
import Derived.Test.YtbgdapdenbldmaaPad

namespace Go.Proofs.Ytbgdapdenbldmaa
open Go.RowKit Go.Sort
set_option linter.unusedVariables false
structure PushOut (w : World) (tb : Nat) (tv : Value) (l : List Nat) (q : Nat) (v' : Value) (w' : World) (tb' : Nat) : Prop where
  at_ : QAt w' tb' v' (l ++ [q])
  new : tb' = tb ∨ w.heap.size ≤ tb'
  os : w.os = w'.os
  tape : w.tape = w'.tape
  output : w.output = w'.output
  size : w.heap.size ≤ w'.heap.size
  block : ∀ k, k < w.heap.size → tv = .slice none 0 0 ∨ k ≠ tb → w'.heap[k]? = w.heap[k]?
theorem walk_push {P : Program} {w : World} {ops : Array Oper} {rest : List Oper} {o : Oper} {a : Act} {Q : Exit → Act → World → Prop} (hgd : o.guard = none) (s x : Operand) (t : TypeId)
    (ho : o.op = .call { callee := .builtin .append, args := #[s, x], argTypes := #[t, t] }) (i : TypeInfo) (ht : P.underlying t = some (.slice 3)) (hi : P.info? 3 = some i) (hz : i.zero = some (.int .i64 0)) (hsize : i.size = 1) (hby : i.bytes = 8)
    (tb : Nat) (tv : Value) (l : List Nat) (hs : a.eval s = tv) (h : QAt w tb tv l) (q : Nat) (ad : Addr) (c : Nat) (hx : a.eval x = .slice (some ad) 1 c) (hc : w.cell? ad = some (.int .i64 (q : Int))) (hl : l.length ≤ 1000000)
    (hK : ∀ v' w' tb', PushOut w tb tv l q v' w' tb' → wpList P ops Q rest (a.put o.dst v') w') :
    wpList P ops Q (o :: rest) a w := by
  refine wpList_plain hgd fun K hK' => ?_
  obtain ⟨v', w', tb', hr, h1, h2, h3, h4, h5, h6, h7⟩ := run_push (P := P) w t o.type 3 i ht rfl hi hz hsize hby tb tv l h q ad c hc hl
  unfold Oper.wp execOp
  simp only [ho, resolve, invoke, builtin, Sem.run_bind, Sem.run_pure, Result.andThen_ok, List.map_toArray, List.map_cons, List.map_nil, hs, hx, hr]
  exact hK' _ _ (hK v' w' tb' ⟨h1, h2, h3, h4, h5, h6, h7⟩)
theorem QAt.lt {w : World} {tb : Nat} {tv : Value} {l : List Nat} (h : QAt w tb tv l) (hl : 0 < l.length) : tb < w.heap.size := by
  rcases h with ⟨_, rfl⟩ | ⟨o, cap, cur, _, hg, _⟩
  · simp at hl
  · exact lt16 hg
theorem four_cells {w : World} {g : Nat} {a b c d : Value} {t : TypeId} {r : Nat × Nat} (h : w.heap[g]? = some (.cells #[a, b, c, d] t r)) : w.cell? ⟨g, 0, none⟩ = some a ∧ w.cell? ⟨g, 1, none⟩ = some b ∧ w.cell? ⟨g, 2, none⟩ = some c ∧ w.cell? ⟨g, 3, none⟩ = some d := by
  refine ⟨?_, ?_, ?_, ?_⟩ <;> (rw [cell_of_row _ _ _ _ _ _ h]; rfl)
def FlowOut (X L H tb n : Nat) (r : RunP) (w w' : World) : Prop := ∃ tb' tv', VAt X L H tb' n tv' r w' ∧ VStep X L H tb tb' w w'
structure FlowMid (X L H tb n : Nat) (tv : Value) (r : RunP) (q : Nat) (s : PSta) (N : Nat) (w : World) (t : PSta) (v : Value) (wr : World) : Prop where
  at_ : VAt X L H tb n tv r wr
  box : wr.heap[N]? = some (.cells #[.int .i64 t.acc, v] 98 (0, 0))
  regs : RegV wr (Own4 X L H tb) v t.regs
  step : VStep X L H tb tb w wr
  flow : flowP r q s = { r with list := r.list.set q t, hit := r.hit.set q true, todo := r.todo ++ [q] }
set_option maxHeartbeats 2000000 in
set_option maxRecDepth 100000 in
theorem l16Flow_any (X L H tb n R : Nat) (tv : Value) (r : RunP) (q : Nat) (s : PSta) (v : Value) (w : World) (h : VAt X L H tb n tv r w) (hok : RunOk n R r) (hn : n ≤ 300) (hR : R ≤ 40) (hs : s.regs.length = R) (hv : RegV w (Own4 X L H tb) v s.regs) (hq : q ≤ 1000) (ht : r.todo.length ≤ 1000000) :
    Calls Try.prog 68 #[.pointer (some ⟨X, 0, none⟩), .int .i64 q, .agg #[.int .i64 s.acc, v]] w fun e w' => e = .returned (.tuple #[]) ∧ FlowOut X L H tb n (flowP r q s) w w' := by
  obtain ⟨xs, cs, rfl, ms, _⟩ := hv.1.opened
  rw [hs] at hv ms ⊢
  obtain ⟨AC, eC⟩ : ∃ x, s.acc = x := ⟨_, rfl⟩
  rw [eC]
  have HV : Hid (RegV w (Own4 X L H tb) (.slice xs R cs) s.regs) := hv
  have HC : Hid (s.acc = AC ∧ s.regs.length = R) := ⟨eC, hs⟩
  have hq0 : (0 : Int) ≤ (q : Int) := by omega
  have b1 : Below w.heap.size w (w.alloc (.cells #[.int .i64 AC, .slice xs R cs] 98)) := (Below.refl _ _).alloc (Nat.le_refl _) _
  have V1 := h.below b1
  have hG : (w.alloc (.cells #[.int .i64 AC, .slice xs R cs] 98)).heap[w.heap.size]? = some (.cells #[.int .i64 AC, .slice xs R cs] 98 (0, 0)) := heap_alloc_new w _
  have hneG : ∀ k, Own4 X L H tb k → k < w.heap.size := fun k hk => by
    rcases hk with rfl | rfl | rfl | rfl
    · exact lt16 h.box
    · obtain ⟨_, e, _⟩ := h.rl; exact lt16 e
    · obtain ⟨_, e, _⟩ := h.rh; exact lt16 e
    · exact h.lt
  obtain ⟨W1, hW1⟩ : ∃ W, w.alloc (.cells #[.int .i64 AC, .slice xs R cs] 98) = W := ⟨_, rfl⟩
  have hz1 : W1.heap.size = w.heap.size + 1 := by rw [← hW1]; simp
  rw [hW1] at b1 V1 hG
  have HW1 : Hid (_ = W1) := hW1
  clear hW1 hs eC hv
  by_cases hqn : q < n
  case neg =>
    have hfl : flowP r q s = { r with bad := true } := by
      unfold flowP
      rw [List.getElem?_eq_none (by have := hok.len; omega)]
    rw [hfl]
    have hge : (n : Int) ≤ (q : Int) := by omega
    obtain ⟨v0, v1, v2, v3⟩ := four_cells V1.box
    have fX := fun j => frozen_of_row W1 X j _ _ V1.box
    have HE : Hid (VAt X L H tb n tv { r with bad := true } (W1.setCell ⟨X, 3, none⟩ (.bool true)) ∧ VStep X L H tb tb w (W1.setCell ⟨X, 3, none⟩ (.bool true))) := ⟨V1.setBad, (VStep.of_below b1).trans (VStep.put _ (.inl rfl))⟩
    obtain ⟨x2, c2, rfl⟩ := V1.rt.slice
    clear V1 h hfl
    go_enter Try.func68, Try.ntmps68
    go_upto_region 1 with fail
    rw [HW1.out]
    clear HW1
    go_wp2
    go_returns
    exact ⟨rfl, _, _, HE.out.1, HE.out.2⟩
  have hlt : ¬ (n : Int) ≤ (q : Int) := by omega
  have hqn' : (q : Int) < (n : Int) := by omega
  obtain ⟨old, hold⟩ : ∃ t, r.list[q]? = some t := ⟨_, List.getElem?_eq_getElem (by have := hok.len; omega)⟩
  have b2 : Below W1.heap.size W1 (W1.alloc (.cells #[.int .i64 AC, .slice xs R cs] 98)) := (Below.refl _ _).alloc (Nat.le_refl _) _
  have V2 := V1.below b2
  have hN : (W1.alloc (.cells #[.int .i64 AC, .slice xs R cs] 98)).heap[W1.heap.size]? = some (.cells #[.int .i64 AC, .slice xs R cs] 98 (0, 0)) := heap_alloc_new W1 _
  obtain ⟨W2, hW2⟩ : ∃ W, W1.alloc (.cells #[.int .i64 AC, .slice xs R cs] 98) = W := ⟨_, rfl⟩
  rw [hW2] at b2 V2 hN
  have HW2 : Hid (_ = W2) := hW2
  obtain ⟨N, hNN⟩ : ∃ N, w.heap.size + 1 = N := ⟨_, rfl⟩
  rw [hz1, hNN] at hN
  have HN : Hid (w.heap.size + 1 = N) := hNN
  have hNe : N ≠ X ∧ N ≠ L ∧ N ≠ H ∧ N ≠ tb := ⟨fun e => by have := hneG X (.inl rfl); omega, fun e => by have := hneG L (.inr (.inl rfl)); omega, fun e => by have := hneG H (.inr (.inr (.inl rfl))); omega, fun e => by have := hneG tb (.inr (.inr (.inr rfl))); omega⟩
  have hG2 : W2.heap[w.heap.size]? = some (.cells #[.int .i64 AC, .slice xs R cs] 98 (0, 0)) := (b2.block _ (by omega)).trans hG
  have b12 : Below w.heap.size w W2 := chain b1 b2
  clear hW2 hNN
  obtain ⟨g0, g1⟩ := two_cells_of hG
  obtain ⟨ch, h1, h2, h3⟩ := V2.rh
  obtain ⟨bb, hbb⟩ : ∃ b, r.hit[q]? = some b := ⟨_, List.getElem?_eq_getElem (by have := hok.hlen; omega)⟩
  have cH : W2.cell? ⟨H, q, none⟩ = some (.bool bb) := by rw [cell_of_row _ _ _ _ _ _ h1]; exact h3 q bb hbb
  have HBB : Hid (r.hit[q]? = some bb) := hbb
  have HOLD : Hid (r.list[q]? = some old) := hold
  obtain ⟨vx0, vx1, vx2, vx3⟩ := four_cells V1.box
  obtain ⟨wx0, wx1, wx2, wx3⟩ := four_cells V2.box
  obtain ⟨x2, c2, hx2⟩ := V2.rt.slice
  have HX2 : Hid (tv = .slice x2 r.todo.length c2) := hx2
  clear hbb hold h3 hx2
  go_enter Try.func68, Try.ntmps68
  go_upto_region 1 with fail
  rw [HW1.out]
  clear HW1
  go_upto_region 4 with fail
  rw [HW2.out]
  clear HW2
  try simp only [HN.out]
  clear g0 g1 vx0 vx1 vx2 vx3
  go_upto_if 24 with fail
  go_cut [] (fun wr => ∃ (t : PSta) (xt : Option Addr) (ct : Nat), Hid (FlowMid X L H tb n tv r q s N w t (.slice xt R ct) wr ∧ t.regs.length = R))
  case first =>
    cases bb with
    | false =>
      have HM : Hid (FlowMid X L H tb n tv r q s N w s (.slice xs R cs) W2 ∧ s.regs.length = R) := by
        refine ⟨⟨V2, by rw [HC.out.1]; exact hN, HV.out.below b12, VStep.of_below b12, ?_⟩, HC.out.2⟩
        unfold flowP
        rw [HOLD.out]
        simp only
        rw [if_neg (by rw [HBB.out]; simp)]
      clear V1 V2 h h1 h2
      go_wp2
      go_meet
      case rel => exact ⟨_, _, _, HM⟩
    | true =>
      obtain ⟨cl, l1, l2, l3⟩ := V2.rl
      obtain ⟨vo, k1, k2, k3⟩ := l3 q old HOLD.out
      have hRo : old.regs.length = R := hok.regs q old (fam_of HBB.out HOLD.out)
      obtain ⟨xo, co, rfl, mo, _⟩ := k3.1.opened
      rw [hRo] at k2 k3
      have q0 : W2.cell? ⟨L, q * 2, none⟩ = some (.int .i64 old.acc) := by rw [cell_of_row _ _ _ _ _ _ l1]; exact k1
      have q1 : W2.cell? ⟨L, q * 2 + 1, none⟩ = some (.slice xo R co) := by rw [cell_of_row _ _ _ _ _ _ l1]; exact k2
      obtain ⟨gg0, gg1⟩ := two_cells_of hG2
      have cJ := fun W' (hW : Below W2.heap.size W2 W') => specJoin_any old s _ _ W' (k3.1.below hW) (HV.out.1.below (chain b12 hW)) (by omega) (by have := HC.out.2; omega)
      simp only [HC.out.1] at cJ
      obtain ⟨JA, eJA⟩ : ∃ x, (joinS old s).acc = x := ⟨_, rfl⟩
      have hJl : (joinS old s).regs.length = R := by rw [(join_le old s (by rw [hRo]; exact HC.out.2.symm)).1.len]; exact hRo
      simp only [eJA] at cJ
      have cJ2 := fun W' (hW : Below W2.heap.size W2 W') => (cJ W' hW).mono (fun e w' (hh : ∃ v, e = .returned (.agg #[.int .i64 JA, v]) ∧ OwnI w' W'.heap.size v (joinS old s).regs ∧ Below W'.heap.size W' w') => show ∃ (y : Option Addr) (d : Nat), e = .returned (.agg #[.int .i64 JA, .slice y R d]) ∧ OwnI w' W'.heap.size (.slice y R d) (joinS old s).regs ∧ Below W'.heap.size W' w' by
        obtain ⟨v, e1, e2, e3⟩ := hh
        obtain ⟨y, d, rfl⟩ := row_slice e2
        rw [hJl] at e1 e2
        exact ⟨y, d, e1, e2, e3⟩)
      clear cJ
      have hNl := lt16 hN
      have hLl := lt16 l1
      have hXl := lt16 V2.box
      have hGl := lt16 hG2
      have hGN : w.heap.size ≠ N := by have := HN.out; omega
      have hrow : ∀ (W' : World) (Y j : Nat), W2.grownBy W' (some N) → Y ≠ N → Y < W2.heap.size → W'.cell? ⟨Y, j, none⟩ = W2.cell? ⟨Y, j, none⟩ := fun W' Y j hW hY hl => by
        have e := hW.block Y hl (fun h => hY (by injection h))
        unfold World.cell?
        simp only [e]
      have HK : Hid (∀ W', W2.grownBy W' (some N) → W'.cell? ⟨X, 0, none⟩ = some (.slice (some ⟨L, 0, none⟩) n n) ∧ W'.cell? ⟨L, q * 2, none⟩ = some (.int .i64 old.acc) ∧ W'.cell? ⟨L, q * 2 + 1, none⟩ = some (.slice xo R co) ∧ W'.cell? ⟨w.heap.size, 0, none⟩ = some (.int .i64 AC) ∧ W'.cell? ⟨w.heap.size, 1, none⟩ = some (.slice xs R cs)) := fun W' hW => ⟨(hrow W' X 0 hW hNe.1.symm hXl).trans wx0, (hrow W' L _ hW hNe.2.1.symm hLl).trans q0, (hrow W' L _ hW hNe.2.1.symm hLl).trans q1, (hrow W' _ 0 hW hGN hGl).trans gg0, (hrow W' _ 1 hW hGN hGl).trans gg1⟩
      have gB : ∀ {W' : World}, Below W2.heap.size W2 W' → W2.grownBy W' (some N) := fun h => ⟨h.os, h.tape, h.output, h.size, fun k hk _ => h.block k hk⟩
      have gP : ∀ {W' : World} (j : Nat) (u : Value), W2.grownBy W' (some N) → W2.grownBy (W'.setCell ⟨N, j, none⟩ u) (some N) := fun j u h => h.trans ⟨rfl, rfl, rfl, by simp [World.setCell], fun Y _ hne => heap_setCell_other _ ⟨N, j, none⟩ Y u (fun e => hne (by show some Y = some N; rw [show Y = N from e]))⟩
      have hUp : ∀ (W' W'' : World) (v : Value), Below W2.heap.size W2 W' → Below W'.heap.size W' W'' → OwnI W'' W'.heap.size v (joinS old s).regs → Hid (Below W2.heap.size W2 W'') ∧ Hid (OwnI W'' W2.heap.size v (joinS old s).regs) ∧ W''.heap[N]? = some (.cells #[.int .i64 AC, .slice xs R cs] 98 (0, 0)) := fun W' W'' v h1 h2 h3 => ⟨chain h1 h2, row_low h3 h1.size, ((chain h1 h2).block N hNl).trans hN⟩
      have hMid : ∀ (W' : World) (v : Value), Below W2.heap.size W2 W' → OwnI W' W2.heap.size v (joinS old s).regs → Hid (Below w.heap.size w ((W'.setCell ⟨N, 0, none⟩ (.int .i64 JA)).setCell ⟨N, 1, none⟩ v) ∧ ((W'.setCell ⟨N, 0, none⟩ (.int .i64 JA)).setCell ⟨N, 1, none⟩ v).heap[N]? = some (.cells #[.int .i64 JA, v] 98 (0, 0)) ∧ OwnI ((W'.setCell ⟨N, 0, none⟩ (.int .i64 JA)).setCell ⟨N, 1, none⟩ v) W2.heap.size v (joinS old s).regs ∧ W2.grownBy ((W'.setCell ⟨N, 0, none⟩ (.int .i64 JA)).setCell ⟨N, 1, none⟩ v) (some N)) := fun W' v hW hO => by
        have k0 := heap_setCell_same W' N 0 _ _ (.int .i64 JA) ((hW.block N hNl).trans hN)
        have k1 := heap_setCell_same _ N 1 _ _ v k0
        have ne := apart16 hO ((hW.block N hNl).trans hN) (by decide)
        have q : ∀ (W : World) (j : Nat) (u : Value), Below w.heap.size w W → Below w.heap.size w (W.setCell ⟨N, j, none⟩ u) := fun W j u h => h.setCell (p := ⟨N, j, none⟩) (by show _ ≤ N; have := HN.out; omega) u
        exact ⟨q _ _ _ (q _ _ _ (chain b12 hW)), k1, far16 (far16 hO ne) ne, gP _ _ (gP _ _ (gB hW))⟩
      have HRo : Hid (old.regs.length = R) := hRo
      have HJL : Hid ((joinS old s).acc = JA ∧ (joinS old s).regs.length = R) := ⟨eJA, hJl⟩
      have K3 : Hid (RegV W2 (Own4 X L H tb) (.slice xo R co) old.regs) := k3
      clear hrow k1 k2 k3 l3 gg0 gg1 q0 q1 wx1 wx2 wx3 eJA hJl hRo hNl hLl hXl hGl
      go_upto_region 5 with fail
      go_region_held3 (fun W' => W'.cell? ⟨X, 0, none⟩ = some (.slice (some ⟨L, 0, none⟩) n n) ∧ W'.cell? ⟨L, q * 2, none⟩ = some (.int .i64 old.acc) ∧ W'.cell? ⟨L, q * 2 + 1, none⟩ = some (.slice xo R co) ∧ W'.cell? ⟨w.heap.size, 0, none⟩ = some (.int .i64 AC) ∧ W'.cell? ⟨w.heap.size, 1, none⟩ = some (.slice xs R cs))
        (exact HK.out _ (by first | with_reducible exact gB (Below.refl _ _).drew | with_reducible exact gB (Below.refl _ _) | with_reducible exact gB (below_drewN (Below.refl _ _) _) | with_reducible exact gB HB6.out | with_reducible exact gB (RowKit.Below.drew HB6.out) | with_reducible exact gB (below_drewN HB6.out _) | with_reducible exact gP _ _ (gP _ _ (gB HB6.out)) | with_reducible exact gP _ _ (gP _ _ (gB (RowKit.Below.drew HB6.out)))))
        (first | (go_at_call 100; (with_reducible refine (cJ2 _ (by first | with_reducible exact (Below.refl _ _).drew | with_reducible exact Below.refl _ _ | with_reducible exact below_drewN (Below.refl _ _) _)).mono ?_); rintro e w6 ⟨y6, c6, rfl, ho6, hb6⟩; have U6 := hUp _ _ _ (by first | with_reducible exact (Below.refl _ _).drew | with_reducible exact Below.refl _ _ | with_reducible exact below_drewN (Below.refl _ _) _) hb6 ho6; have HB6 := U6.1; have HO6 := U6.2.1; have p6 := two_cells_of U6.2.2; have p7 := p6.1; have p8 := p6.2; have z6 := fun j => frozen_of_row w6 N j _ _ U6.2.2; clear ho6 hb6 U6 p6))
      all_goals
        have HM6 := hMid _ _ HB6.out HO6.out
        obtain ⟨W5, hW5⟩ : ∃ W', (w6.setCell ⟨N, 0, none⟩ (.int .i64 JA)).setCell ⟨N, 1, none⟩ (.slice y6 R c6) = W' := ⟨_, rfl⟩
        simp only [hW5] at HM6 ⊢
        clear hW5 p7 p8 z6 HB6 HO6 hMid hUp
        obtain ⟨m1, m2, m3, m4⟩ := HM6.out
        have V5 := h.below m1
        obtain ⟨e0, e1, e2, e3, e4⟩ := HK.out _ m4
        obtain ⟨f0, f1⟩ := two_cells_of m2
        have hbl : Below W2.heap.size W2 W5 ∨ True := .inr trivial
        obtain ⟨cl5, l15, l25, l35⟩ := V5.rl
        obtain ⟨vo5, k15, k25, k35⟩ := l35 q old HOLD.out
        have hvo : vo5 = .slice xo R co := by
          have e := e2
          rw [cell_of_row _ _ _ _ _ _ l15, k25] at e
          injection e
        subst hvo
        have cS0 := fun W' (hW : Below W5.heap.size W5 W') => l16Same_any (joinS old s) old _ _ W' (m3.arg.below hW) (k35.1.below hW)
        simp only [HJL.out.1] at cS0
        obtain ⟨bs, hbs⟩ : ∃ b, sameS (joinS old s) old = b := ⟨_, rfl⟩
        simp only [hbs] at cS0
        have cS := fun d os => Calls.regrown_of (w := W5) (d := d) (os := os) (cS0 (grow (redrawn W5 d) os) (below_regrown W5 d os))
        have r0 := cell_regrown e0
        have r1 := cell_regrown e1
        have r2 := cell_regrown e2
        have r3 := cell_regrown f0
        have r4 := cell_regrown f1
        have HMD : Hid (∀ W', Below W5.heap.size W5 W' → (bs = false → FlowMid X L H tb n tv r q s N w (joinS old s) (.slice y6 R c6) W') ∧ (bs = true → FlowOut X L H tb n (flowP r q s) w W')) := fun W' hW => by
          have hb := chain m1 hW
          refine ⟨fun hf => ⟨h.below hb, ?_, ?_, VStep.of_below hb, ?_⟩, fun hf => ?_⟩
          · rw [HJL.out.1]; exact (hW.block N (lt16 m2)).trans m2
          · exact (RegV.of_own m3 (fun k hk => by have := hneG k hk; have := b12.size; omega)).below hW
          · unfold flowP
            rw [HOLD.out]
            simp only
            rw [if_pos HBB.out, if_neg (by rw [hbs, hf]; simp), set_same HBB.out]
          · have e : flowP r q s = r := by
              unfold flowP
              rw [HOLD.out]
              simp only
              rw [if_pos HBB.out, if_pos (by rw [hbs, hf])]
            rw [e]
            exact ⟨tb, tv, h.below hb, VStep.of_below hb⟩
        clear cS0 e0 e1 e2 e3 e4 f0 f1 l35 k15 k25 k35 m1 m2 m3 m4 V5 HK gB gP hbs hbl
        go_upto_region 6 with fail
        refine wp_region_quiet_below (by kernel_rfl) (by kernel_rfl) ?_
        repeat (first | go_big_quiet_step (exact cS _ _) | quiet_step (exact cS _ _))
        refine wpQuiet_nil ?_
        intro _ hw'
        obtain ⟨⟨dq, osq⟩, hw''⟩ := hw'
        subst hw''
        have HMQ := HMD.out _ (below_regrown W5 dq osq)
        have HMH : Hid _ := HMQ
        clear HMQ HMD r0 r1 r2 r3 r4
        cases bs with
        | false =>
          have HJ : Hid (FlowMid X L H tb n tv r q s N w (joinS old s) (.slice y6 R c6) (grow (redrawn W5 dq) osq) ∧ (joinS old s).regs.length = R) := ⟨HMH.out.1 rfl, HJL.out.2⟩
          go_wp2
          go_meet
          case rel => exact ⟨_, _, _, HJ⟩
        | true =>
          have HJ : Hid (FlowOut X L H tb n (flowP r q s) w (grow (redrawn W5 dq) osq)) := HMH.out.2 rfl
          go_wp2
          go_returns
          exact ⟨rfl, HJ.out⟩
  case rest =>
    obtain ⟨t, xt, ct, HM⟩ := hcut
    have M := HM.out.1
    have V := M.at_
    obtain ⟨TA, eTA⟩ : ∃ x, t.acc = x := ⟨_, rfl⟩
    have hNb := M.box
    rw [eTA] at hNb
    obtain ⟨cl, l1, l2, l3⟩ := V.rl
    have hap := V.apart
    obtain ⟨v0, v1, v2, v3⟩ := four_cells V.box
    obtain ⟨n0, n1⟩ := two_cells_of hNb
    obtain ⟨u0, hu0⟩ : ∃ u, wc.cell? ⟨L, q * 2, none⟩ = some u := ⟨_, by rw [cell_of_row _ _ _ _ _ _ l1]; exact Array.getElem?_eq_getElem (by omega)⟩
    obtain ⟨u1, hu1⟩ : ∃ u, wc.cell? ⟨L, q * 2 + 1, none⟩ = some u := ⟨_, by rw [cell_of_row _ _ _ _ _ _ l1]; exact Array.getElem?_eq_getElem (by omega)⟩
    have fL := fun j => frozen_of_row wc L j _ _ l1
    have hlX := lt16 V.box
    have hlN := lt16 hNb
    have hrow : ∀ (W' : World) (Y j : Nat), wc.grownBy W' (some L) → Y ≠ L → Y < wc.heap.size → W'.cell? ⟨Y, j, none⟩ = wc.cell? ⟨Y, j, none⟩ := fun W' Y j hW hY hl => by
      have e := hW.block Y hl (fun h => hY (by injection h))
      unfold World.cell?
      simp only [e]
    have HK : Hid (∀ W', wc.grownBy W' (some L) → W'.cell? ⟨X, 0, none⟩ = some (.slice (some ⟨L, 0, none⟩) n n) ∧ W'.cell? ⟨N, 0, none⟩ = some (.int .i64 TA) ∧ W'.cell? ⟨N, 1, none⟩ = some (.slice xt R ct)) := fun W' hW => ⟨(hrow W' X 0 hW hap.1 hlX).trans v0, (hrow W' N 0 hW hNe.2.1 hlN).trans n0, (hrow W' N 1 hW hNe.2.1 hlN).trans n1⟩
    have gB : ∀ {W' : World}, Below wc.heap.size wc W' → wc.grownBy W' (some L) := fun h => ⟨h.os, h.tape, h.output, h.size, fun k hk _ => h.block k hk⟩
    have gP : ∀ {W' : World} (j : Nat) (u : Value), wc.grownBy W' (some L) → wc.grownBy (W'.setCell ⟨L, j, none⟩ u) (some L) := fun j u h => h.trans ⟨rfl, rfl, rfl, by simp [World.setCell], fun Y _ hne => heap_setCell_other _ ⟨L, j, none⟩ Y u (fun e => hne (by show some Y = some L; rw [show Y = L from e]))⟩
    have gD : ∀ {W' : World}, wc.grownBy W' (some L) → wc.grownBy W'.drew (some L) := fun h => ⟨h.os, h.tape, h.output, h.size, h.block⟩
    have hPut : ∀ (W' : World), Below wc.heap.size wc W' → Hid (VAt X L H tb n tv { r with list := r.list.set q t } ((W'.setCell ⟨L, q * 2, none⟩ (.int .i64 TA)).setCell ⟨L, q * 2 + 1, none⟩ (.slice xt R ct)) ∧ VStep X L H tb tb w ((W'.setCell ⟨L, q * 2, none⟩ (.int .i64 TA)).setCell ⟨L, q * 2 + 1, none⟩ (.slice xt R ct))) := fun W' hW => by
      have P := (V.below hW).putState q hqn t (v := .slice xt R ct) (M.regs.below hW)
      rw [eTA] at P
      exact ⟨P.1, M.step.trans ((VStep.of_below hW).trans P.2)⟩
    have HFL : Hid (flowP r q s = { r with list := r.list.set q t, hit := r.hit.set q true, todo := r.todo ++ [q] }) := M.flow
    clear n0 n1 v1 v2 v3 hrow l3 M V hNb HM h V1 V2 HV HOLD hap wx0 wx1 wx2 wx3 cH h1 h2 hG hG2 hN b1 b2 b12 hneG eTA l1 l2
    go_upto_region 7 with fail
    go_region_held3 (fun W' => W'.cell? ⟨X, 0, none⟩ = some (.slice (some ⟨L, 0, none⟩) n n) ∧ W'.cell? ⟨N, 0, none⟩ = some (.int .i64 TA) ∧ W'.cell? ⟨N, 1, none⟩ = some (.slice xt R ct))
      (exact HK.out _ (by first | with_reducible exact gB (Below.refl _ _).drew | with_reducible exact gB (Below.refl _ _) | with_reducible exact gB (below_drewN (Below.refl _ _) _) | with_reducible exact gD (gP _ _ (gP _ _ (gB (Below.refl _ _)))) | with_reducible exact gP _ _ (gP _ _ (gB (Below.refl _ _).drew)) | with_reducible exact gP _ _ (gP _ _ (gB (Below.refl _ _))) | with_reducible exact gP _ _ (gP _ _ (gB (below_drewN (Below.refl _ _) _)))))
      (fail)
    have HP0 := hPut wc (Below.refl _ _)
    have HP : Hid (VAt X L H tb n tv { r with list := r.list.set q t } ((wc.setCell ⟨L, q * 2, none⟩ (.int .i64 TA)).setCell ⟨L, q * 2 + 1, none⟩ (.slice xt R ct)).drew ∧ VStep X L H tb tb w ((wc.setCell ⟨L, q * 2, none⟩ (.int .i64 TA)).setCell ⟨L, q * 2 + 1, none⟩ (.slice xt R ct)).drew) := ⟨HP0.out.1.below (Below.refl _ _).drew, HP0.out.2.trans (VStep.of_below (Below.refl _ _).drew)⟩
    obtain ⟨W7, hW7⟩ : ∃ W', ((wc.setCell ⟨L, q * 2, none⟩ (.int .i64 TA)).setCell ⟨L, q * 2 + 1, none⟩ (.slice xt R ct)).drew = W' := ⟨_, rfl⟩
    rw [hW7] at HP
    try simp only [hW7]
    clear hW7 hPut HK gB gP gD HP0 hu0 hu1 fL
    have V7 := HP.out.1
    have S7 := HP.out.2
    have V8 := V7.mark q hqn
    have S8 := S7.trans (VStep.put (k := H) (j := q) (.bool true) (.inr (.inr (.inl rfl))))
    obtain ⟨ch7, g1, g2, g3⟩ := V7.rh
    have cH7 : W7.cell? ⟨H, q, none⟩ = some (.bool bb) := by rw [cell_of_row _ _ _ _ _ _ g1]; exact g3 q bb HBB.out
    have fH := fun j => frozen_of_row W7 H j _ _ g1
    obtain ⟨v0, v1, v2, v3⟩ := four_cells V7.box
    obtain ⟨W8, hW8⟩ : ∃ W', W7.setCell ⟨H, q, none⟩ (.bool true) = W' := ⟨_, rfl⟩
    rw [hW8] at V8 S8
    have HW8 : Hid (_ = W8) := hW8
    clear hW8 g1 g2 g3 V7 S7 HP
    go_upto_region 9 with fail
    rw [HW8.out]
    clear HW8 v0 v1 v2 v3 cH7 fH
    obtain ⟨i0, hi, hz0, hz1', hz2⟩ := info_in Try.info13I
    obtain ⟨v0, v1, v2, v3⟩ := four_cells V8.box
    have bA : Below W8.heap.size W8 (W8.alloc (.cells #[.int .i64 (q : Int)] 3)) := (Below.refl _ _).alloc (Nat.le_refl _) _
    have hQA : QAt (W8.alloc (.cells #[.int .i64 (q : Int)] 3)) tb tv r.todo := V8.rt.keep (bA.block tb V8.lt)
    have hcA : (W8.alloc (.cells #[.int .i64 (q : Int)] 3)).cell? ⟨W8.heap.size, 0, none⟩ = some (.int .i64 (q : Int)) := by
      rw [cell_of_row _ _ _ _ _ _ (heap_alloc_new W8 _)]
      rfl
    have tve := HX2.out
    clear HX2
    subst tve
    go_wp2_with (at_builtin; refine walk_push rfl _ _ 35 rfl i0 Try.underlying35 hi hz0 hz1' hz2 tb (.slice x2 r.todo.length c2) r.todo rfl hQA q ⟨W8.heap.size, 0, none⟩ 1 rfl hcA ht ?_)
    intro v9 w9 tb9 HPO
    obtain ⟨hq9, htb9, o9, t9, p9, z9, k9⟩ := HPO
    have hap8 := V8.apart
    have hX9 : w9.heap[X]? = W8.heap[X]? := (k9 X (Nat.lt_of_lt_of_le (lt16 V8.box) bA.size) (hap8.2.2.2.imp id (fun e => e.1))).trans (bA.block X (lt16 V8.box))
    have hL9 : w9.heap[L]? = W8.heap[L]? := by
      obtain ⟨_, e, _⟩ := V8.rl
      exact (k9 L (Nat.lt_of_lt_of_le (lt16 e) bA.size) (hap8.2.2.2.imp id (fun e => e.2.1))).trans (bA.block L (lt16 e))
    have hH9 : w9.heap[H]? = W8.heap[H]? := by
      obtain ⟨_, e, _⟩ := V8.rh
      exact (k9 H (Nat.lt_of_lt_of_le (lt16 e) bA.size) (hap8.2.2.2.imp id (fun e => e.2.2))).trans (bA.block H (lt16 e))
    have S9 : VStep X L H tb tb9 W8 w9 := by
      refine ⟨o9 ▸ rfl, t9 ▸ rfl, p9 ▸ rfl, Nat.le_trans bA.size z9, fun k hk hn => (k9 k (Nat.lt_of_lt_of_le hk bA.size) (.inr (fun e => hn (.inr (.inr (.inr e)))))).trans (bA.block k hk), ?_⟩
      rcases htb9 with e | e
      · exact .inl e
      · exact .inr (Nat.le_trans bA.size e)
    obtain ⟨x9, c9, e9⟩ := hq9.slice
    rw [show (r.todo ++ [q]).length = r.todo.length + 1 by simp] at e9
    subst e9
    have HE : Hid (FlowOut X L H tb n (flowP r q s) w (w9.setCell ⟨X, 2, none⟩ (.slice x9 (r.todo.length + 1) c9))) := by
      show FlowOut _ _ _ _ _ _ _ _
      rw [HFL.out]
      exact ⟨tb9, _, V8.setTodo S9 hX9 hL9 hH9 hq9 (hq9.lt (by simp)), (S8.trans S9).trans (VStep.put _ (.inl rfl))⟩
    obtain ⟨y0, y1, y2, y3⟩ := four_cells (hX9.trans V8.box)
    have fX := fun j => frozen_of_row w9 X j _ _ (hX9.trans V8.box)
    clear hap8 hX9 hL9 hH9 S9 k9 hq9 V8 S8 hQA hcA bA v0 v1 v2 v3
    go_wp2
    go_returns
    exact ⟨rfl, HE.out⟩
end Go.Proofs.Ytbgdapdenbldmaa
namespace Go.Proofs.Ytbgdapdenbldmaa
open Go.RowKit Go.Sort
set_option linter.unusedVariables false
theorem Try.infoSta16 : (Try.prog.info? 98).map (fun i => (i.zero, i.size, i.bytes)) = some (some (.agg #[.int .i64 0, .slice none 0 0]), 2, 32) := by kernel_rfl
theorem Try.infoBool16 : (Try.prog.info? 4).map (fun i => (i.zero, i.size, i.bytes)) = some (some (.bool false), 1, 1) := by kernel_rfl
theorem made16 {P : Program} {t e : TypeId} {z : Value} {k b : Nat} (ht : P.underlying t = some (.slice e)) (hi : (P.info? e).map (fun i => (i.zero, i.size, i.bytes)) = some (some z, k, b)) (hb : b ≤ 32) (n : Nat) (hn : n ≤ 100000) (W : World) :
    (Instr.makeSlice t (.int .i64 (n : Int)) (.int .i64 (n : Int))).run P W = .ok (.slice (some ⟨W.heap.size, 0, none⟩) n n) (W.alloc (.cells (madeCells z.cells (n * k)) e)) := by
  obtain ⟨i, hi, hz0, hz1, hz2⟩ := info_in hi
  have hbn : b * n ≤ 32 * 100000 := Nat.mul_le_mul hb hn
  have hc : ((b : Int) * (n : Int)) = ((b * n : Nat) : Int) := by simp
  have h := run_make (P := P) W t e i z ht hi hz0 .i64 .i64 (n : Int) (n : Int) (by omega) (Int.le_refl _) (by rw [hz2, hc]; omega) (by omega)
  rw [Int.toNat_natCast, hz1] at h
  exact h
theorem made_at {z : Array Value} {n j : Nat} (hj : j < n) : (madeCells z n)[j]? = some z[j % z.size]! := by
  simp [madeCells, hj]
theorem least_ex {P : Nat → Prop} : ∀ (m : Nat), P m → ∃ m, P m ∧ ∀ k, P k → m ≤ k := by
  intro m
  induction m using Nat.strongRecOn with
  | ind m ih =>
    intro hm
    by_cases h : ∃ k, k < m ∧ P k
    · obtain ⟨k, hk, hp⟩ := h
      exact ih k hk hp
    · exact ⟨m, hm, fun k hk => by
        rcases Nat.lt_or_ge k m with h1 | h1
        · exact absurd ⟨k, h1, hk⟩ h
        · exact h1⟩
def Least (P : Nat → Prop) (m : Nat) : Prop := P m ∧ ∀ k, P k → m ≤ k
theorem leastN_is {P : Nat → Prop} {m : Nat} (h : P m) : P (Classical.epsilon (Least P)) ∧ Classical.epsilon (Least P) ≤ m := by
  have e := Classical.epsilon_spec (p := Least P) (least_ex m h)
  exact ⟨e.1, e.2 m h⟩
structure SFix (G : Nat) (ci cf : Array Value) (w : World) : Prop where
  b0 : w.heap[G]? = some (.cells ci 31 (0, 0))
  b1 : w.heap[G + 1]? = some (.cells cf 70 (0, 0))
theorem SFix.low {G : Nat} {ci cf : Array Value} {w w' : World} (h : SFix G ci cf w) (hb : Below (G + 2) w w') : SFix G ci cf w' := ⟨(hb.block _ (by omega)).trans h.b0, (hb.block _ (by omega)).trans h.b1⟩
structure SRun (G X L H n : Nat) (p : PImg) (f : PFun) (W2 w : World) (m : Nat) : Prop where
  run : ∃ tb tv r, VAt X L H tb n tv r w ∧ RunInv p f r ∧ runM f.regs.toNat r = m ∧ runM f.regs.toNat r ≤ 30000 ∧ G + 2 ≤ tb
  lo : G + 2 ≤ X ∧ G + 2 ≤ L ∧ G + 2 ≤ H
  bel : Below (G + 2) W2 w
theorem none_M (f : PFun) (hn : f.code.length ≤ 300) (hR : f.regs.toNat ≤ 40) : runM f.regs.toNat (noneP f) ≤ 30000 := by
  have h : ∀ n, wsum f.regs.toNat (List.replicate n ⟨0, []⟩) (List.replicate n false) = n * (f.regs.toNat + 2) := fun n => by
    induction n with
    | zero => simp [wsum]
    | succ n ih =>
      rw [List.replicate_succ, List.replicate_succ]
      simp only [wsum]
      rw [ih, Nat.add_mul]
      simp
      omega
  unfold runM noneP
  simp only [h, List.length_nil]
  have : f.code.length * (f.regs.toNat + 2) ≤ 300 * 42 := Nat.mul_le_mul hn (by omega)
  omega
end Go.Proofs.Ytbgdapdenbldmaa
