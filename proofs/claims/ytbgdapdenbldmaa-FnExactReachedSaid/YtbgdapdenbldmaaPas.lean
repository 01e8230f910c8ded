/-
  Part 19 of what is proved of drawn right trees.
-/
import Derived.Test.YtbgdapdenbldmaaPar
import Derived.Test.YtbgdapdenbldmaaPaq

namespace Go.Proofs.Ytbgdapdenbldmaa
open Go.RowKit Go.Sort
set_option linter.unusedVariables false
set_option linter.unusedSimpArgs false
structure TRun (p : PImg) (f : PFun) (X S H L K n B R : Nat) (fv cv qc qk qh : Value) (w W4 wr : World) (m : Nat) : Prop where
  run : ∃ r fi, TAt X S H L K n B fv cv f.params f.regs qc qk qh r fi wr ∧ RunInv p f r ∧ runM R r = m
  step : TStep X S H L K W4 wr
set_option maxHeartbeats 8000000 in
set_option maxRecDepth 100000 in
theorem iTrace (p : PImg) (f : PFun) (n R : Nat) (fv cv qc qk qh : Value) (w : World) (C : TCtx p f w n R fv cv qc qk qh) :
    Calls Try.prog 52 #[.agg #[fv, cv], .agg #[.int .i64 f.params, .int .i64 f.regs, qc, qk, qh]] w fun e w' => ∃ (X S H L K : Nat) (r : RunP) (fi : Nat), e = .returned (.agg #[fv, cv, .int .i64 f.params, .int .i64 f.regs, qc, qk, qh, .slice (some ⟨S, 0, none⟩) n n, .slice (some ⟨H, 0, none⟩) n n, .slice (some ⟨L, 0, none⟩) n n, .int .i64 (fi : Int), .int .i64 (((fi + r.todo.length) % n : Nat) : Int), .slice (some ⟨K, 0, none⟩) n n, .bool r.bad]) ∧ TAt X S H L K n w.heap.size fv cv f.params f.regs qc qk qh r fi w' ∧ RunInv p f r ∧ (r.bad = true ∨ r.todo = []) ∧ Below w.heap.size w w' := by
  obtain ⟨le, hn, hn1, hR⟩ := C.le
  have HC : Hid _ := C
  obtain ⟨x1, c1, e1, m1, _⟩ := C.img.1
  obtain ⟨x2, c2, e2, m2, _⟩ := C.img.2.opened conC_len
  obtain ⟨xc, cc, e3, m3, _⟩ := C.fn.caps.opened capC_len
  obtain ⟨xk, ck, e4, m4, _⟩ := C.fn.code.opened insC_len
  obtain ⟨xh, ch, e5, m5, _⟩ := C.fn.hnds.opened hndC_len
  rw [C.nn] at e4
  obtain ⟨n1, en1⟩ : ∃ k, p.funcs.length = k := ⟨_, rfl⟩
  obtain ⟨n2, en2⟩ : ∃ k, p.consts.length = k := ⟨_, rfl⟩
  obtain ⟨nc, en3⟩ : ∃ k, f.caps.length = k := ⟨_, rfl⟩
  obtain ⟨nh, en5⟩ : ∃ k, f.hnds.length = k := ⟨_, rfl⟩
  rw [en1] at e1
  rw [en2] at e2
  rw [en3] at e3
  rw [en5] at e5
  subst e1 e2 e3 e4 e5
  clear m1 m2 m3 m4 m5 en1 en2 en3 en5 le C
  obtain ⟨PA, ePA⟩ : ∃ k, f.params = k := ⟨_, rfl⟩
  obtain ⟨RE, eRE⟩ : ∃ k, f.regs = k := ⟨_, rfl⟩
  have HPR : Hid (f.params = PA ∧ f.regs = RE) := ⟨ePA, eRE⟩
  simp only [ePA, eRE]
  have hmS : ∀ W, (Instr.makeSlice 49 (.int .i64 (n : Int)) (.int .i64 (n : Int))).run Try.prog W = .ok (.slice (some ⟨W.heap.size, 0, none⟩) n n) (W.alloc (.cells (madeCells #[.int .i64 0, .slice none 0 0] (n * 2)) 98)) := fun W => made16m (P := Try.prog) Try.underlying49 Try.infoStaI16 (by decide) n (by omega) W
  have hmB : ∀ W, (Instr.makeSlice 50 (.int .i64 (n : Int)) (.int .i64 (n : Int))).run Try.prog W = .ok (.slice (some ⟨W.heap.size, 0, none⟩) n n) (W.alloc (.cells (madeCells #[.bool false] (n * 1)) 4)) := fun W => made16m (P := Try.prog) Try.underlying50 Try.infoBoolI16 (by decide) n (by omega) W
  obtain ⟨CS, hCS⟩ : ∃ a, madeCells #[.int .i64 0, .slice none 0 0] (n * 2) = a := ⟨_, rfl⟩
  obtain ⟨CB, hCB⟩ : ∃ a, madeCells #[.bool false] (n * 1) = a := ⟨_, rfl⟩
  have HCS : Hid (madeCells #[.int .i64 0, .slice none 0 0] (n * 2) = CS ∧ madeCells #[.bool false] (n * 1) = CB) := ⟨hCS, hCB⟩
  simp only [hCS] at hmS
  simp only [hCB] at hmB
  have hbT : ∀ (a1 a2 a3 a4 a5 a6 a7 a8 a9 : Option Addr) (l1 l2 l3 l4 l5 l6 l7 l8 l9 d1 d2 d3 d4 d5 d6 d7 d8 d9 : Nat) (k1 k2 k3 k4 : Int) (W : World), (Instr.build 107 #[(0, .agg #[.slice a1 l1 d1, .slice a2 l2 d2]), (1, .agg #[.int .i64 k1, .int .i64 k2, .slice a3 l3 d3, .slice a4 l4 d4, .slice a5 l5 d5]), (2, .slice a6 l6 d6), (3, .slice a7 l7 d7), (4, .agg #[.slice a8 l8 d8, .int .i64 k3, .int .i64 k4, .slice a9 l9 d9])]).run Try.prog W = .ok (.agg #[.slice a1 l1 d1, .slice a2 l2 d2, .int .i64 k1, .int .i64 k2, .slice a3 l3 d3, .slice a4 l4 d4, .slice a5 l5 d5, .slice a6 l6 d6, .slice a7 l7 d7, .slice a8 l8 d8, .int .i64 k3, .int .i64 k4, .slice a9 l9 d9, .bool false]) W := fun _ _ _ _ _ _ _ _ _ _ _ _ _ _ _ _ _ _ _ _ _ _ _ _ _ _ _ _ _ _ _ W => run_build W 107 _ _ (by kernel_rfl)
  have T := made_three w (Obj.cells #[.slice x1 n1 c1, .slice x2 n2 c2] 31) (Obj.cells #[.int .i64 PA, .int .i64 RE, .slice xc nc cc, .slice xk n ck, .slice xh nh ch] 70) (Obj.cells #[.slice none 0 0, .slice none 0 0, .int .i64 0, .int .i64 0, .slice none 0 0, .slice none 0 0, .slice none 0 0, .slice none 0 0, .slice none 0 0, .slice none 0 0, .int .i64 0, .int .i64 0, .slice none 0 0, .bool false] 107)
  obtain ⟨W3, hW3⟩ : ∃ W, (((w.alloc (Obj.cells #[.slice x1 n1 c1, .slice x2 n2 c2] 31)).alloc (Obj.cells #[.int .i64 PA, .int .i64 RE, .slice xc nc cc, .slice xk n ck, .slice xh nh ch] 70)).alloc (Obj.cells #[.slice none 0 0, .slice none 0 0, .int .i64 0, .int .i64 0, .slice none 0 0, .slice none 0 0, .slice none 0 0, .slice none 0 0, .slice none 0 0, .slice none 0 0, .int .i64 0, .int .i64 0, .slice none 0 0, .bool false] 107)) = W := ⟨_, rfl⟩
  rw [hW3] at T
  have HW3 : Hid (_ = W3) := hW3
  obtain ⟨t0, t1, t2, tz, tb⟩ := T
  obtain ⟨G, hG⟩ : ∃ G, w.heap.size = G := ⟨_, rfl⟩
  rw [hG] at t0 t1 t2 tz
  obtain ⟨Z, hZ⟩ : ∃ Z, W3.heap.size = Z := ⟨_, rfl⟩
  have HG : Hid (w.heap.size = G ∧ W3.heap.size = Z ∧ Z = G + 3) := ⟨hG, hZ, by rw [← hZ, tz]⟩
  have HT2 : Hid _ := t2
  have HB3 : Hid (Below w.heap.size w W3) := tb
  have HK : Hid (∀ W : World, Below W3.heap.size W3 W → (W.cell? ⟨G, 0, none⟩ = some (.slice x1 n1 c1) ∧ W.cell? ⟨G, 1, none⟩ = some (.slice x2 n2 c2)) ∧ (W.cell? ⟨G + 1, 0, none⟩ = some (.int .i64 PA) ∧ W.cell? ⟨G + 1, 1, none⟩ = some (.int .i64 RE) ∧ W.cell? ⟨G + 1, 2, none⟩ = some (.slice xc nc cc) ∧ W.cell? ⟨G + 1, 3, none⟩ = some (.slice xk n ck) ∧ W.cell? ⟨G + 1, 4, none⟩ = some (.slice xh nh ch))) := fun W hW =>
    ⟨two_cells_of ((hW.block G (by omega)).trans t0), five_cells ((hW.block (G + 1) (by omega)).trans t1)⟩
  obtain ⟨f0, f1, f2, f3, f4⟩ := five_cells t1
  have cR := fun W => iNewRing n W hn
  clear hW3 t0 t1 t2 tb tz hG hCS hCB ePA eRE f0 f1 f2 f4
  go_enter Try.func52, Try.ntmps52
  go_upto_region 1 with fail
  simp only [HG.out.1]
  rw [HW3.out]
  clear HW3
  go_upto_region 2 with fail
  clear f3
  go_cut [6] (fun p6 wr => ∃ (X S H L K : Nat), p6 = .pointer (some ⟨X, 0, none⟩) ∧ Hid (TNew X S H L K n Z (.slice x1 n1 c1) (.slice x2 n2 c2) PA RE (.slice xc nc cc) (.slice xk n ck) (.slice xh nh ch) W3 wr))
  case first =>
    refine trace_made (CS := CS) (CB := CB) (G := G) (n1 := n1) (n2 := n2) (nc := nc) (nh := nh) (Z := Z) (PA := PA) (RE := RE) ⟨hmS, hmB, cR, fun S H L K W => hbT _ _ _ _ _ _ _ _ _ _ _ _ _ _ _ _ _ _ _ _ _ _ _ _ _ _ _ _ _ _ _ W, hZ, HCS.out.1, HCS.out.2, fun _ _ _ d _ h => by cases d <;> exact h, HK.out, fun X S H L K W hW => ?_⟩
    have HN : Hid (TNew X S H L K n Z (.slice x1 n1 c1) (.slice x2 n2 c2) PA RE (.slice xc nc cc) (.slice xk n ck) (.slice xh nh ch) W3 W) := hW
    clear HK hW hmS hmB cR hbT
    go_wp2
    go_meet
    case rel => exact ⟨X, S, H, L, K, rfl, HN⟩
  case rest =>
    obtain ⟨X, S, H, L, K, rfl, HN⟩ := hcut
    have hg := HG.out
    have TA := HN.out.at_ (B := w.heap.size) f HC.out.nn (by omega) (by omega)
    have HTA : Hid _ := TA
    have hI := TA.in_
    have bw : Below w.heap.size w wc := chain HB3.out HN.out.bel
    have ok0 : RunOk n R (noneP f) := by
      have h := (start_inv p f).ok
      refine ⟨by simp [noneP, HC.out.nn], by simp [noneP, HC.out.nn], fun q t h => ?_, fun q t h _ => ?_, fun q h => ?_⟩
      · rw [none_fam] at h; cases h
      · have h' : (List.replicate f.code.length (PSta.mk 0 []))[q]? = some t := h
        rw [List.getElem?_replicate] at h'
        split at h'
        · injection h' with h'; exact h'.symm
        · cases h'
      · cases h
    have hr2 : wc.heap[G + 1 + 1]? = some _ := (HN.out.bel.block (G + 1 + 1) (by omega)).trans HT2.out
    have HR2 : Hid _ := hr2
    have cB := iBegin HC.out rfl (by rw [HPR.out.1, HPR.out.2]; exact TA) bw ok0
    simp only [HPR.out.1, HPR.out.2] at cB
    have hRo : ¬ Own5 X S H L K (G + 1 + 1) := by
      have := HN.out.lo
      unfold Own5
      omega
    have HLO : Hid _ := HN.out.lo
    have HBW : Hid (Below w.heap.size w wc) := bw
    clear TA ok0 hr2 bw HK cR hbT hmS hmB HN
    go_wp2_with (go_at_call 81; (with_reducible refine cB.mono ?_); rintro e w5 ⟨rfl, h5, s5⟩)
    clear cB
    have HT5 : Hid (TRun p f X S H L K n w.heap.size R (.slice x1 n1 c1) (.slice x2 n2 c2) (.slice xc nc cc) (.slice xk n ck) (.slice xh nh ch) w wc w5 (runM R (flowI (noneP f) 0 (firstS f)))) := ⟨⟨_, 0, by rw [HPR.out.1, HPR.out.2]; exact h5, startI_inv p f, rfl⟩, s5⟩
    clear h5 s5
    go_loopw [7, 8, 25] (fun _ _ _ wr => ∃ m, Hid (TRun p f X S H L K n w.heap.size R (.slice x1 n1 c1) (.slice x2 n2 c2) (.slice xc nc cc) (.slice xk n ck) (.slice xh nh ch) w wc wr m)) (fun _ _ _ wr => Classical.epsilon (Least (TRun p f X S H L K n w.heap.size R (.slice x1 n1 c1) (.slice x2 n2 c2) (.slice xc nc cc) (.slice xk n ck) (.slice xh nh ch) w wc wr)))
    case atStart => exact ⟨_, HT5⟩
    case round =>
      clear HT5
      obtain ⟨m0, HS⟩ := hrel
      have SM := (leastN_is HS.out).1
      obtain ⟨M, hM⟩ : ∃ M, Classical.epsilon (Least (TRun p f X S H L K n w.heap.size R (.slice x1 n1 c1) (.slice x2 n2 c2) (.slice xc nc cc) (.slice xk n ck) (.slice xh nh ch) w wc wr)) = M := ⟨_, rfl⟩
      rw [hM] at SM
      have HM : Hid (Classical.epsilon (Least (TRun p f X S H L K n w.heap.size R (.slice x1 n1 c1) (.slice x2 n2 c2) (.slice xc nc cc) (.slice xk n ck) (.slice xh nh ch) w wc wr)) = M) := hM
      clear hM HS
      obtain ⟨⟨r, fi, T, I, eM⟩, st⟩ := SM
      rw [HPR.out.1, HPR.out.2] at T
      cases hbad : r.bad with
      | true =>
        have gY := (st.block (G + 1 + 1) (lt16 HR2.out) hRo).trans HR2.out
        have bc := boxC T.box
        obtain ⟨FR, hFR⟩ : ∃ k, (fi + r.todo.length) % n = k := ⟨_, rfl⟩
        have c0 := bc.c0
        have c1' := bc.c1
        have c2' := bc.c2
        have c3' := bc.c3
        have c4' := bc.c4
        have c5' := bc.c5
        have c6' := bc.c6
        have c7' := bc.c7
        have c8' := bc.c8
        have c9' := bc.c9
        have c10' := bc.c10
        have c11' := bc.c11
        have c12' := bc.c12
        have c13' := bc.c13
        rw [hFR] at c11'
        rw [hbad] at c13'
        obtain ⟨p0, p1, p2, p3, p4, p5, p6, p7, p8, p9, p10, p11, p12, p13⟩ := cells14 gY
        have zY := fun j => frozen_of_row wr (G + 1 + 1) j _ _ gY
        have hXY : X ≠ G + 1 + 1 := fun e => hRo (.inl e.symm)
        have g9 := set14 gY (.slice x1 n1 c1) (.slice x2 n2 c2) (.int .i64 PA) (.int .i64 RE) (.slice xc nc cc) (.slice xk n ck) (.slice xh nh ch) (.slice (some ⟨S, 0, none⟩) n n) (.slice (some ⟨H, 0, none⟩) n n) (.slice (some ⟨L, 0, none⟩) n n) (.int .i64 (fi : Int)) (.int .i64 ((FR : Nat) : Int)) (.slice (some ⟨K, 0, none⟩) n n) (.bool true)
        have T9 := T.out14 gY hRo (.slice x1 n1 c1) (.slice x2 n2 c2) (.int .i64 PA) (.int .i64 RE) (.slice xc nc cc) (.slice xk n ck) (.slice xh nh ch) (.slice (some ⟨S, 0, none⟩) n n) (.slice (some ⟨H, 0, none⟩) n n) (.slice (some ⟨L, 0, none⟩) n n) (.int .i64 (fi : Int)) (.int .i64 ((FR : Nat) : Int)) (.slice (some ⟨K, 0, none⟩) n n) (.bool true)
        have B9 := bel_set14 (X := G + 1 + 1) (st.low HBW.out (Nat.le_trans (Nat.le_refl _) HBW.out.size) HTA.out.lo) (by have := HG.out; omega) (.slice x1 n1 c1) (.slice x2 n2 c2) (.int .i64 PA) (.int .i64 RE) (.slice xc nc cc) (.slice xk n ck) (.slice xh nh ch) (.slice (some ⟨S, 0, none⟩) n n) (.slice (some ⟨H, 0, none⟩) n n) (.slice (some ⟨L, 0, none⟩) n n) (.int .i64 (fi : Int)) (.int .i64 ((FR : Nat) : Int)) (.slice (some ⟨K, 0, none⟩) n n) (.bool true)
        obtain ⟨W9, hW9⟩ : ∃ W, ((((((((((((((wr.setCell ⟨G + 1 + 1, 0, none⟩ (.slice x1 n1 c1)).setCell ⟨G + 1 + 1, 1, none⟩ (.slice x2 n2 c2)).setCell ⟨G + 1 + 1, 2, none⟩ (.int .i64 PA)).setCell ⟨G + 1 + 1, 3, none⟩ (.int .i64 RE)).setCell ⟨G + 1 + 1, 4, none⟩ (.slice xc nc cc)).setCell ⟨G + 1 + 1, 5, none⟩ (.slice xk n ck)).setCell ⟨G + 1 + 1, 6, none⟩ (.slice xh nh ch)).setCell ⟨G + 1 + 1, 7, none⟩ (.slice (some ⟨S, 0, none⟩) n n)).setCell ⟨G + 1 + 1, 8, none⟩ (.slice (some ⟨H, 0, none⟩) n n)).setCell ⟨G + 1 + 1, 9, none⟩ (.slice (some ⟨L, 0, none⟩) n n)).setCell ⟨G + 1 + 1, 10, none⟩ (.int .i64 (fi : Int))).setCell ⟨G + 1 + 1, 11, none⟩ (.int .i64 ((FR : Nat) : Int))).setCell ⟨G + 1 + 1, 12, none⟩ (.slice (some ⟨K, 0, none⟩) n n)).setCell ⟨G + 1 + 1, 13, none⟩ (.bool true)) = W := ⟨_, rfl⟩
        rw [hW9] at g9 T9 B9
        obtain ⟨z0, z1, z2, z3, z4, z5, z6, z7, z8, z9, z10, z11, z12, z13⟩ := cells14 g9
        have HW9 : Hid (_ = W9) := hW9
        have HT9 : Hid _ := T9
        have HB9 : Hid _ := B9
        have HIE : Hid (RunInv p f r) := I
        have HFR : Hid ((fi + r.todo.length) % n = FR) := hFR
        clear bc gY g9 T9 B9 T st hFR hW9
        go_wp2
        rw [HW9.out]
        clear HW9 p0 p1 p2 p3 p4 p5 p6 p7 p8 p9 p10 p11 p12 p13 c0 c1' c2' c3' c4' c5' c6' c7' c8' c9' c10' c11' c12' c13'
        refine bodyPost_ret (by simp [results, Try.results52, go_sem, z0, z1, z2, z3, z4, z5, z6, z7, z8, z9, z10, z11, z12, z13]; try rfl) rfl ?_
        exact ⟨X, S, H, L, K, r, fi, by rw [HFR.out, hbad], HT9.out, HIE.out, .inl hbad, HB9.out⟩
      | false =>
        cases htd : r.todo with
        | nil =>
          have cT := iTake_none T htd hn
          have HT : Hid _ := T
          have HST : Hid _ := st
          have c13 := (boxC T.box).c13
          rw [hbad] at c13
          clear T st
          go_upto_region 6 with (go_at_call 82; (with_reducible refine cT.mono ?_); rintro e w6 ⟨rfl, hb6⟩)
          clear c13 cT
          have T := HT.out.below hb6
          have st := HST.out.trans (TStep.of_below hb6)
          have gY := (st.block (G + 1 + 1) (lt16 HR2.out) hRo).trans HR2.out
          have bc := boxC T.box
          obtain ⟨FR, hFR⟩ : ∃ k, (fi + r.todo.length) % n = k := ⟨_, rfl⟩
          have c0 := bc.c0
          have c1' := bc.c1
          have c2' := bc.c2
          have c3' := bc.c3
          have c4' := bc.c4
          have c5' := bc.c5
          have c6' := bc.c6
          have c7' := bc.c7
          have c8' := bc.c8
          have c9' := bc.c9
          have c10' := bc.c10
          have c11' := bc.c11
          have c12' := bc.c12
          have c13' := bc.c13
          rw [hFR] at c11'
          rw [hbad] at c13'
          obtain ⟨p0, p1, p2, p3, p4, p5, p6, p7, p8, p9, p10, p11, p12, p13⟩ := cells14 gY
          have zY := fun j => frozen_of_row w6 (G + 1 + 1) j _ _ gY
          have hXY : X ≠ G + 1 + 1 := fun e => hRo (.inl e.symm)
          have g9 := set14 gY (.slice x1 n1 c1) (.slice x2 n2 c2) (.int .i64 PA) (.int .i64 RE) (.slice xc nc cc) (.slice xk n ck) (.slice xh nh ch) (.slice (some ⟨S, 0, none⟩) n n) (.slice (some ⟨H, 0, none⟩) n n) (.slice (some ⟨L, 0, none⟩) n n) (.int .i64 (fi : Int)) (.int .i64 ((FR : Nat) : Int)) (.slice (some ⟨K, 0, none⟩) n n) (.bool false)
          have T9 := T.out14 gY hRo (.slice x1 n1 c1) (.slice x2 n2 c2) (.int .i64 PA) (.int .i64 RE) (.slice xc nc cc) (.slice xk n ck) (.slice xh nh ch) (.slice (some ⟨S, 0, none⟩) n n) (.slice (some ⟨H, 0, none⟩) n n) (.slice (some ⟨L, 0, none⟩) n n) (.int .i64 (fi : Int)) (.int .i64 ((FR : Nat) : Int)) (.slice (some ⟨K, 0, none⟩) n n) (.bool false)
          have B9 := bel_set14 (X := G + 1 + 1) (st.low HBW.out (Nat.le_trans (Nat.le_refl _) HBW.out.size) HTA.out.lo) (by have := HG.out; omega) (.slice x1 n1 c1) (.slice x2 n2 c2) (.int .i64 PA) (.int .i64 RE) (.slice xc nc cc) (.slice xk n ck) (.slice xh nh ch) (.slice (some ⟨S, 0, none⟩) n n) (.slice (some ⟨H, 0, none⟩) n n) (.slice (some ⟨L, 0, none⟩) n n) (.int .i64 (fi : Int)) (.int .i64 ((FR : Nat) : Int)) (.slice (some ⟨K, 0, none⟩) n n) (.bool false)
          obtain ⟨W9, hW9⟩ : ∃ W, ((((((((((((((w6.setCell ⟨G + 1 + 1, 0, none⟩ (.slice x1 n1 c1)).setCell ⟨G + 1 + 1, 1, none⟩ (.slice x2 n2 c2)).setCell ⟨G + 1 + 1, 2, none⟩ (.int .i64 PA)).setCell ⟨G + 1 + 1, 3, none⟩ (.int .i64 RE)).setCell ⟨G + 1 + 1, 4, none⟩ (.slice xc nc cc)).setCell ⟨G + 1 + 1, 5, none⟩ (.slice xk n ck)).setCell ⟨G + 1 + 1, 6, none⟩ (.slice xh nh ch)).setCell ⟨G + 1 + 1, 7, none⟩ (.slice (some ⟨S, 0, none⟩) n n)).setCell ⟨G + 1 + 1, 8, none⟩ (.slice (some ⟨H, 0, none⟩) n n)).setCell ⟨G + 1 + 1, 9, none⟩ (.slice (some ⟨L, 0, none⟩) n n)).setCell ⟨G + 1 + 1, 10, none⟩ (.int .i64 (fi : Int))).setCell ⟨G + 1 + 1, 11, none⟩ (.int .i64 ((FR : Nat) : Int))).setCell ⟨G + 1 + 1, 12, none⟩ (.slice (some ⟨K, 0, none⟩) n n)).setCell ⟨G + 1 + 1, 13, none⟩ (.bool false)) = W := ⟨_, rfl⟩
          rw [hW9] at g9 T9 B9
          obtain ⟨z0, z1, z2, z3, z4, z5, z6, z7, z8, z9, z10, z11, z12, z13⟩ := cells14 g9
          have HW9 : Hid (_ = W9) := hW9
          have HT9 : Hid _ := T9
          have HB9 : Hid _ := B9
          have HIE : Hid (RunInv p f r) := I
          have HFR : Hid ((fi + r.todo.length) % n = FR) := hFR
          clear bc gY g9 T9 B9 T st hFR hW9
          go_wp2
          rw [HW9.out]
          clear HW9 p0 p1 p2 p3 p4 p5 p6 p7 p8 p9 p10 p11 p12 p13 c0 c1' c2' c3' c4' c5' c6' c7' c8' c9' c10' c11' c12' c13'
          refine bodyPost_ret (by simp [results, Try.results52, go_sem, z0, z1, z2, z3, z4, z5, z6, z7, z8, z9, z10, z11, z12, z13]; try rfl) rfl ?_
          exact ⟨X, S, H, L, K, r, fi, by rw [HFR.out, hbad], HT9.out, HIE.out, .inr htd, HB9.out⟩
        | cons q m =>
          obtain ⟨s, hq⟩ := I.ok.todo q (by rw [htd]; simp)
          have hs := (fam_at hq).2
          have hqn : q < n := T.tl q (by rw [htd]; simp)
          obtain ⟨i, hi⟩ : ∃ i, f.code[q]? = some i := ⟨_, List.getElem?_eq_getElem (by rw [HC.out.nn]; exact hqn)⟩
          obtain ⟨s1, k1, k2, _, _⟩ := step_hole I hbad htd hs hi
          have sm := flows_same (hndsP f q s) (SameR.refl { r with todo := m })
          have hs1 : (flowsI { r with todo := m } (hndsP f q s)).list[q]? = some s1 := by rw [sm.list]; exact (fam_at k1).2
          have hs1r : s1.regs.length = R := by rw [k2]; exact HC.out.rr
          have hsr : s.regs.length = R := by rw [I.ok.regs q s hq]; exact HC.out.rr
          have okR : RunOk n R r := by have h := I.ok; rw [HC.out.nn, HC.out.rr] at h; exact h
          have ok1 : RunOk n R { r with todo := m } := ⟨okR.len, okR.hlen, okR.regs, okR.zero, fun k hk => okR.todo k (by rw [htd]; exact List.mem_cons_of_mem _ hk)⟩
          have ok2 : RunOk n R (flowsI { r with todo := m } (hndsP f q s)) := flowsI_ok ok1 _ (hnds_len (f := f) hsr)
          obtain ⟨inv, less⟩ := stepI_inv I hbad htd hs hi
          have eS : stepI p f q i s { r with todo := m } = afterI p f q i s1 (flowsI { r with todo := m } (hndsP f q s)) := by
            unfold stepI afterI
            rw [hs1]
          rw [eS] at inv less
          rw [HC.out.rr, eM] at less
          have cT := iTake_some T htd hn
          have c13 := (boxC T.box).c13
          rw [hbad] at c13
          have bwr := st.low HBW.out HBW.out.size HTA.out.lo
          have cH := fun (fi' : Nat) (W : World) (hW : TAt X S H L K n w.heap.size (.slice x1 n1 c1) (.slice x2 n2 c2) f.params f.regs (.slice xc nc cc) (.slice xk n ck) (.slice xh nh ch) { r with todo := m } fi' W) (sW : TStep X S H L K wr W) => iThrowFrom HC.out rfl hW (sW.low bwr bwr.size HTA.out.lo) ok1 q s hs hsr
          have cF := fun (fi' : Nat) (W : World) (hW : TAt X S H L K n w.heap.size (.slice x1 n1 c1) (.slice x2 n2 c2) f.params f.regs (.slice xc nc cc) (.slice xk n ck) (.slice xh nh ch) (flowsI { r with todo := m } (hndsP f q s)) fi' W) (sW : TStep X S H L K wr W) => iStepFrom HC.out rfl hW (sW.low bwr bwr.size HTA.out.lo) ok2 q s1 i hs1 hs1r hi
          simp only [HPR.out.1, HPR.out.2] at cH cF
          have HIN : Hid (RunInv p f (afterI p f q i s1 (flowsI { r with todo := m } (hndsP f q s))) ∧ runM R (afterI p f q i s1 (flowsI { r with todo := m } (hndsP f q s))) < M) := ⟨inv, less⟩
          have HST : Hid (TStep X S H L K wc wr) := st
          clear T st I eM okR ok1 ok2 inv less eS sm k1 k2 hs hs1 hi hq hs1r hsr bwr
          go_wp2_with (first
            | (go_at_call 82; (with_reducible refine cT.mono ?_); rintro e w6 ⟨rfl, h6, s6⟩)
            | (go_at_call 83; (with_reducible refine (cH _ _ h6 s6).mono ?_); rintro e w7 ⟨rfl, h7, s7⟩; have s67 := s6.trans s7)
            | (go_at_call 84; (with_reducible refine (cF _ _ h7 s67).mono ?_); rintro e w8 ⟨rfl, h8, s8⟩; have s68 := s67.trans s8))
          have HRN : Hid (TRun p f X S H L K n w.heap.size R (.slice x1 n1 c1) (.slice x2 n2 c2) (.slice xc nc cc) (.slice xk n ck) (.slice xh nh ch) w wc w8 (runM R (afterI p f q i s1 (flowsI { r with todo := m } (hndsP f q s))))) := ⟨⟨_, _, by rw [HPR.out.1, HPR.out.2]; exact h8, HIN.out.1, rfl⟩, HST.out.trans s68⟩
          go_roundw
          case rel => exact ⟨_, HRN⟩
          case measure =>
            rw [HM.out]
            exact Nat.lt_of_le_of_lt (leastN_is HRN.out).2 HIN.out.2
end Go.Proofs.Ytbgdapdenbldmaa
