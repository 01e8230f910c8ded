/-
  Part 16 of what is proved of drawn right trees.
-/
import Derived.Test.YtlplljgcgohonaaPak
import Derived.Test.YtlplljgcgohonaaPal
import Derived.Test.YtlplljgcgohonaaPan
import Derived.Test.YtlplljgcgohonaaPao

namespace Go.Proofs.Ytlplljgcgohonaa
open Go.RowKit Go.Sort
set_option linter.unusedVariables false
set_option maxHeartbeats 2000000 in
set_option maxRecDepth 100000 in
theorem iStepState_any (p : PImg) (k a : Int) (s : PSta) (fv cv v : Value) (w : World) (h : ArgImg w fv cv p) (hw : imgW p) (hs : ArgI w v s.regs) :
    Calls Try.prog 21 #[.agg #[fv, cv], .int .i64 k, .int .i64 a, .agg #[.int .i64 s.acc, v]] w fun e w' => ∃ v', e = .returned (.tuple #[.agg #[.int .i64 (stepS p k a s).acc, v'], .bool (stepB p k a s)]) ∧ OwnI w' w.heap.size v' (stepS p k a s).regs ∧ Below w.heap.size w w' := by
  have cO0 := fun W (hW : Below w.heap.size w W) => iImageOk_any p fv cv W (h.below hW) hw
  have HI : Hid (ArgImg w fv cv p) := h
  have HS : Hid (ArgI w v s.regs) := hs
  obtain ⟨hF, hC⟩ := h
  obtain ⟨x1, c1, rfl, m1, o1⟩ := hF
  obtain ⟨x2, c2, rfl, m2, _⟩ := hC.opened conC_len
  obtain ⟨xs, cs, rfl, ms, os⟩ := hs.opened
  unfold maxLen at m1 m2 ms
  have T := made_three w (Obj.cells #[.slice x1 p.funcs.length c1, .slice x2 p.consts.length c2] 34) (Obj.cells #[.int .i64 s.acc, .slice xs s.regs.length cs] 26) (Obj.cells #[.int .i64 0, .slice none 0 0] 26)
  obtain ⟨n1, e1⟩ : ∃ n, p.funcs.length = n := ⟨_, rfl⟩
  obtain ⟨n2, e2⟩ : ∃ n, p.consts.length = n := ⟨_, rfl⟩
  obtain ⟨nr, e3⟩ : ∃ n, s.regs.length = n := ⟨_, rfl⟩
  obtain ⟨AC, eC⟩ : ∃ n, s.acc = n := ⟨_, rfl⟩
  simp only [e1, e2, e3, eC] at cO0 m1 m2 ms o1 os HI HS T ⊢
  have HL : Hid (p.funcs.length = n1 ∧ s.regs.length = nr ∧ s.acc = AC) := ⟨e1, e3, eC⟩
  obtain ⟨W3, hW3⟩ : ∃ W, (((w.alloc (Obj.cells #[.slice x1 n1 c1, .slice x2 n2 c2] 34)).alloc (Obj.cells #[.int .i64 AC, .slice xs nr cs] 26)).alloc (Obj.cells #[.int .i64 0, .slice none 0 0] 26)) = W := ⟨_, rfl⟩
  rw [hW3] at T
  have HW3 : Hid (_ = W3) := hW3
  clear hW3
  obtain ⟨t0, t1, t2, tz, tb⟩ := T
  obtain ⟨G, hG⟩ : ∃ G, w.heap.size = G := ⟨_, rfl⟩
  rw [hG] at t0 t1 t2 tz
  have S3 : StpAt w G #[.slice x1 n1 c1, .slice x2 n2 c2] #[.int .i64 AC, .slice xs nr cs] W3 := ⟨t0, t1, t2, tb, by omega⟩
  have HG : Hid (w.heap.size = G) := hG
  clear t0 t1 t2 tz tb hG
  have cO := cO0 W3 S3.bel
  clear cO0
  have hFlt : ∀ (bb : Bool), stepB p k a s = bb → stepB p k a s = bb := fun _ => id
  obtain ⟨F, eF⟩ : ∃ F, stepB p k a s = F := ⟨_, rfl⟩
  obtain ⟨R, eR⟩ : ∃ R, stepS p k a s = R := ⟨_, rfl⟩
  simp only [eF, eR]
  have HF : Hid (stepB p k a s = F ∧ stepS p k a s = R) := ⟨eF, eR⟩
  obtain ⟨RA, eRA⟩ : ∃ x, R.acc = x := ⟨_, rfl⟩
  obtain ⟨RR, eRR⟩ : ∃ x, R.regs = x := ⟨_, rfl⟩
  have HR : Hid (R.acc = RA ∧ R.regs = RR) := ⟨eRA, eRR⟩
  simp only [eRA, eRR]
  clear hFlt eF eR eRA eRR e1 e2 e3 eC hC hs
  obtain ⟨i0', i1'⟩ := two_cells_of S3.b0
  obtain ⟨j0', j1'⟩ := two_cells_of S3.b1
  have hbE : ∀ W, (Instr.build 26 #[]).run Try.prog W = .ok (.agg #[.int .i64 0, .slice none 0 0]) W := fun W => run_build W 26 _ _ (by kernel_rfl)
  have hNo : F = false → RA = 0 ∧ RR = [] := fun h => by
    have e := HF.out.1
    rw [h] at e
    have e2 := stepS_no e
    rw [HF.out.2] at e2
    rw [← HR.out.1, ← HR.out.2, e2]
    exact ⟨rfl, rfl⟩
  have hEnd : ∀ (W : World), Below W3.heap.size W3 W → Hid (((W.setCell ⟨G + 1 + 1, 0, none⟩ (.int .i64 0)).setCell ⟨G + 1 + 1, 1, none⟩ (.slice none 0 0)).heap[G + 1 + 1]? = some (.cells #[.int .i64 0, .slice none 0 0] 26 (0, 0)) ∧ Below w.heap.size w ((W.setCell ⟨G + 1 + 1, 0, none⟩ (.int .i64 0)).setCell ⟨G + 1 + 1, 1, none⟩ (.slice none 0 0))) := fun W hW => by
    have SW := S3.below hW
    have k0 := heap_setCell_same W (G + 1 + 1) 0 _ _ (.int .i64 0) SW.b2
    have k1 := heap_setCell_same _ (G + 1 + 1) 1 _ _ (.slice none 0 0) k0
    have q : ∀ (W : World) (j : Nat) (u : Value), Below w.heap.size w W → Below w.heap.size w (W.setCell ⟨G + 1 + 1, j, none⟩ u) := fun W j u h => h.setCell (p := ⟨G + 1 + 1, j, none⟩) (by show _ ≤ G + 1 + 1; have := S3.lo; omega) u
    exact ⟨k1, q _ _ _ (q _ _ _ SW.bel)⟩
  obtain ⟨OK, hOK⟩ : ∃ b, imgOk p = b := ⟨_, rfl⟩
  simp only [hOK] at cO
  have HOK : Hid (imgOk p = OK) := hOK
  clear hOK
  clear i0' i1' j0' j1'
  cases OK with
  | false =>
    have hF : F = false := by
      rw [← HF.out.1]
      unfold stepB
      rw [HOK.out]
      rfl
    obtain ⟨hRA, hRR⟩ := hNo hF
    subst hF hRA hRR
    obtain ⟨i0, i1⟩ := two_cells_of S3.b0
    go_enter Try.func21, Try.ntmps21
    go_upto_region 1 with fail
    rw [HW3.out]
    clear HW3
    try simp only [HG.out]
    go_upto_region 2 with ((go_at_call 45; (with_reducible refine cO.mono ?_); rintro e w5 ⟨rfl, h5⟩))
    have HE := hEnd _ h5
    obtain ⟨r0, r1⟩ := two_cells_of (S3.below h5).b2
    have fR := fun j => frozen_of_row _ (G + 1 + 1) j _ _ (S3.below h5).b2
    obtain ⟨z0, z1⟩ := two_cells_of HE.out.1
    clear hEnd S3 cO i0 i1
    go_wp2
    refine bodyPost_ret (by simp [results, Try.results21, go_sem, z0, z1]; try rfl) rfl ?_
    exact ⟨_, rfl, World.ownsRow_nil _ _ _ _, HE.out.2⟩
  | true =>
  have cL := fun W => iIsInFunc x1 n1 c1 k W (by unfold maxLen; omega)
  obtain ⟨PK, hPK⟩ : ∃ b, inB k 0 ((n1 : Int) - 1) = b := ⟨_, rfl⟩
  simp only [hPK] at cL
  have HPK : Hid (inB k 0 ((n1 : Int) - 1) = PK) := hPK
  clear hPK
  have HK0 : Hid (∀ W, Below W3.heap.size W3 W → W.cell? ⟨G, 0, none⟩ = some (.slice x1 n1 c1) ∧ W.cell? ⟨G, 1, none⟩ = some (.slice x2 n2 c2)) := fun W hW => two_cells_of ((hW.block G (lt16 S3.b0)).trans S3.b0)
  cases PK with
  | false =>
    have hF : F = false := by
      rw [← HF.out.1]
      unfold stepB
      rw [HOK.out, HL.out.1, HPK.out]
      rfl
    obtain ⟨hRA, hRR⟩ := hNo hF
    subst hF hRA hRR
    obtain ⟨i0, i1⟩ := two_cells_of S3.b0
    go_enter Try.func21, Try.ntmps21
    go_upto_region 1 with fail
    rw [HW3.out]
    clear HW3
    try simp only [HG.out]
    go_upto_region 2 with (first | (go_at_call 45; (with_reducible refine cO.mono ?_); rintro e w5 ⟨rfl, h5⟩; obtain ⟨q0, q1⟩ := HK0.out w5 h5) | (go_at_call 62; (with_reducible refine (cL _).mono ?_); rintro e w6 ⟨rfl, rfl⟩))
    have HE := hEnd _ h5
    obtain ⟨r0, r1⟩ := two_cells_of (S3.below h5).b2
    have fR := fun j => frozen_of_row _ (G + 1 + 1) j _ _ (S3.below h5).b2
    obtain ⟨z0, z1⟩ := two_cells_of HE.out.1
    clear hEnd S3 cO i0 i1 q0 q1 HK0 cL
    go_wp2
    refine bodyPost_ret (by simp [results, Try.results21, go_sem, z0, z1]; try rfl) rfl ?_
    exact ⟨_, rfl, World.ownsRow_nil _ _ _ _, HE.out.2⟩
  | true =>
  have hin := HPK.out
  unfold inB at hin
  simp only [Bool.and_eq_true, decide_eq_true_eq] at hin
  obtain ⟨K, rfl⟩ : ∃ K : Nat, k = (K : Int) := ⟨k.toNat, by omega⟩
  have hK : (K : Int) < (n1 : Int) := by omega
  have hK0 : (0 : Int) ≤ (K : Int) := by omega
  obtain ⟨f, hf⟩ : ∃ f, p.funcs[K]? = some f := ⟨_, List.getElem?_eq_getElem (by have := HL.out.1; omega)⟩
  obtain ⟨b, o, rfl, hbl, hcell⟩ := o1 (by omega)
  obtain ⟨qc, qk, qh, hA⟩ := hcell K f hf
  have HFV : Hid (FunV w f qc qk qh) := hA.v
  obtain ⟨xc, cc, rfl, _, _⟩ := hA.caps.opened capC_len
  obtain ⟨xk, ck, rfl, mk, ok⟩ := hA.code.opened insC_len
  obtain ⟨xh, ch, rfl, _, _⟩ := hA.hnds.opened hndC_len
  have HFF : Hid (p.funcs[K]? = some f) := hf
  obtain ⟨nk, ek⟩ : ∃ n, f.code.length = n := ⟨_, rfl⟩
  obtain ⟨nc, ec⟩ : ∃ n, f.caps.length = n := ⟨_, rfl⟩
  obtain ⟨nh, eh⟩ : ∃ n, f.hnds.length = n := ⟨_, rfl⟩
  obtain ⟨RE, eRE⟩ : ∃ n, f.regs = n := ⟨_, rfl⟩
  obtain ⟨PR, ePR⟩ : ∃ n, f.params = n := ⟨_, rfl⟩
  simp only [ek, ec, eh] at hA mk ok HFV
  unfold maxLen at mk
  have HKL : Hid (f.code.length = nk ∧ f.regs = RE ∧ f.params = PR) := ⟨ek, eRE, ePR⟩
  have hB : stepB p (K : Int) a s = (inB a 0 ((nk : Int) - 1) && (decide ((nr : Int) = RE) && (match f.code[a.toNat]? with | none => false | some i => mayB p f i s))) := by
    unfold stepB
    rw [HOK.out, HL.out.1, HPK.out, Int.toNat_natCast, HFF.out]
    simp only [Bool.true_and]
    rw [HKL.out.1, HKL.out.2.1, HL.out.2.1]
    rfl
  have HB : Hid _ := hB
  have HFC : Hid (∀ W, Below W3.heap.size W3 W → W.cell? ⟨b, o + K * 5, none⟩ = some (.int .i64 PR) ∧ W.cell? ⟨b, o + K * 5 + 1, none⟩ = some (.int .i64 RE) ∧ W.cell? ⟨b, o + K * 5 + 2, none⟩ = some (.slice xc nc cc) ∧ W.cell? ⟨b, o + K * 5 + 3, none⟩ = some (.slice xk nk ck) ∧ W.cell? ⟨b, o + K * 5 + 4, none⟩ = some (.slice xh nh ch)) := fun W hW => by
    have h3 := hA.below (chain S3.bel hW)
    exact ⟨by rw [← ePR]; exact h3.c0, by rw [← eRE]; exact h3.c1, h3.c2, h3.c3, h3.c4⟩
  clear hf hcell hA ek ec eh eRE ePR hin hB
  obtain ⟨i0, i1⟩ := two_cells_of S3.b0
  go_enter Try.func21, Try.ntmps21
  go_upto_region 1 with fail
  rw [HW3.out]
  clear HW3
  try simp only [HG.out]
  go_upto_region 3 with (first | (go_at_call 45; (with_reducible refine cO.mono ?_); rintro e w5 ⟨rfl, h5⟩; obtain ⟨q0, q1⟩ := HK0.out w5 h5) | (go_at_call 62; (with_reducible refine (cL _).mono ?_); rintro e w6 ⟨rfl, rfl⟩))
  obtain ⟨e0, e1, e2, e3, e4⟩ := HFC.out w5 h5
  go_upto_region 4 with fail
  clear i0 i1 q0 q1 HK0 cL cO
  obtain ⟨FX, hFX⟩ : ∃ X, w5.heap.size = X := ⟨_, rfl⟩
  have hF6 := heap_alloc_new w5 (.cells #[.int .i64 PR, .int .i64 RE, .slice xc nc cc, .slice xk nk ck, .slice xh nh ch] 77)
  have B56 : Below w5.heap.size w5 (w5.alloc (.cells #[.int .i64 PR, .int .i64 RE, .slice xc nc cc, .slice xk nk ck, .slice xh nh ch] 77)) := (Below.refl _ _).alloc (Nat.le_refl _) _
  obtain ⟨W6, hW6⟩ : ∃ W, (w5.alloc (.cells #[.int .i64 PR, .int .i64 RE, .slice xc nc cc, .slice xk nk ck, .slice xh nh ch] 77)) = W := ⟨_, rfl⟩
  rw [hW6] at hF6 B56
  simp only [hFX] at hF6
  have B36 : Below W3.heap.size W3 W6 := chain h5 B56
  try simp only [hW6]
  try simp only [hFX]
  have HFX : Hid (w5.heap.size = FX ∧ W3.heap.size ≤ FX) := ⟨hFX, by have := h5.size; omega⟩
  clear hW6 hFX B56 e0 e1 e2 e3 e4 HFC h5
  have S6 := S3.below B36
  obtain ⟨f0, f1, f2, f3, f4⟩ := five_cells hF6
  obtain ⟨i0, i1⟩ := two_cells_of S6.b0
  obtain ⟨j0, j1⟩ := two_cells_of S6.b1
  have d0 := cell_regrown f0
  have d1 := cell_regrown f1
  have d2 := cell_regrown f2
  have d3 := cell_regrown f3
  have d4 := cell_regrown f4
  have d5 := cell_regrown i0
  have d6 := cell_regrown i1
  have d7 := cell_regrown j0
  have d8 := cell_regrown j1
  clear f0 f1 f2 f3 f4 i0 i1 j0 j1
  have cA0 := fun d os => Calls.regrown_of (w := W6) (d := d) (os := os) ((iIsInIns xk nk ck a (grow (redrawn W6 d) os) (by unfold maxLen; omega)).mono (fun e w' (hh : _ ∧ _) => ⟨hh.1, by rw [← hh.2]; exact Below.refl _ _⟩))
  obtain ⟨PA, hPA⟩ : ∃ b, inB a 0 ((nk : Int) - 1) = b := ⟨_, rfl⟩
  have cA := cA0
  simp only [hPA] at cA
  clear cA0
  have HPA : Hid (inB a 0 ((nk : Int) - 1) = PA) := hPA
  clear hPA
  cases PA with
  | false =>
    have hF : F = false := by
      rw [← HF.out.1, HB.out, HPA.out]
      rfl
    obtain ⟨hRA, hRR⟩ := hNo hF
    subst hF hRA hRR
    refine wp_region_quiet_below (by kernel_rfl) (by kernel_rfl) ?_
    repeat (first | go_big_quiet_step (with_reducible exact cA _ _) | quiet_step (with_reducible exact cA _ _))
    refine wpQuiet_nil ?_
    intro _ hw'
    obtain ⟨⟨dq, osq⟩, hw''⟩ := hw'
    subst hw''
    have B7 := chain B36 (below_regrown W6 dq osq)
    have HE := hEnd _ B7
    obtain ⟨r0, r1⟩ := two_cells_of (S3.below B7).b2
    have fR := fun j => frozen_of_row _ (G + 1 + 1) j _ _ (S3.below B7).b2
    obtain ⟨z0, z1⟩ := two_cells_of HE.out.1
    clear hEnd S3 S6 B36 B7 d0 d1 d2 d3 d4 d5 d6 d7 d8 cA hF6
    obtain ⟨WQ, hWQ⟩ : ∃ W, grow (redrawn W6 dq) osq = W := ⟨_, rfl⟩
    simp only [hWQ] at r0 r1 fR z0 z1 HE ⊢
    clear hWQ
    go_wp2
    refine bodyPost_ret (by simp [results, Try.results21, go_sem, z0, z1]; try rfl) rfl ?_
    exact ⟨_, rfl, World.ownsRow_nil _ _ _ _, HE.out.2⟩
  | true =>
  have hin := HPA.out
  unfold inB at hin
  simp only [Bool.and_eq_true, decide_eq_true_eq] at hin
  obtain ⟨A, rfl⟩ : ∃ A : Nat, a = (A : Int) := ⟨a.toNat, by omega⟩
  have hA1 : (A : Int) < (nk : Int) := by omega
  have hA0 : (0 : Int) ≤ (A : Int) := by omega
  by_cases hre : (nr : Int) = RE
  case neg =>
    have hre' : ((nr : Int) == RE) = false := by rw [beq_eq_false_iff_ne]; exact hre
    have hF : F = false := by
      rw [← HF.out.1, HB.out, HPA.out, decide_eq_false hre]
      rfl
    clear hin
    obtain ⟨hRA, hRR⟩ := hNo hF
    subst hF hRA hRR
    refine wp_region_quiet_below (by kernel_rfl) (by kernel_rfl) ?_
    repeat (first | go_big_quiet_step (with_reducible exact cA _ _) | quiet_step (with_reducible exact cA _ _))
    refine wpQuiet_nil ?_
    intro _ hw'
    obtain ⟨⟨dq, osq⟩, hw''⟩ := hw'
    subst hw''
    have B7 := chain B36 (below_regrown W6 dq osq)
    have HE := hEnd _ B7
    obtain ⟨r0, r1⟩ := two_cells_of (S3.below B7).b2
    have fR := fun j => frozen_of_row _ (G + 1 + 1) j _ _ (S3.below B7).b2
    obtain ⟨z0, z1⟩ := two_cells_of HE.out.1
    clear hEnd S3 S6 B36 B7 d0 d1 d2 d3 d4 d5 d6 d7 d8 cA hF6
    obtain ⟨WQ, hWQ⟩ : ∃ W, grow (redrawn W6 dq) osq = W := ⟨_, rfl⟩
    simp only [hWQ] at r0 r1 fR z0 z1 HE ⊢
    clear hWQ
    go_wp2
    refine bodyPost_ret (by simp [results, Try.results21, go_sem, z0, z1]; try rfl) rfl ?_
    exact ⟨_, rfl, World.ownsRow_nil _ _ _ _, HE.out.2⟩
  obtain ⟨i, hi⟩ : ∃ i, f.code[A]? = some i := ⟨_, List.getElem?_eq_getElem (by have := HKL.out.1; omega)⟩
  obtain ⟨bk, ko, rfl, hbk, hck⟩ := ok (by omega)
  have y0' : W6.cell? ⟨bk, ko + A * 3, none⟩ = some (.int .i64 i.op) := (S6.bel.cell hbk).trans (hck A i hi 0 _ rfl)
  have y1' : W6.cell? ⟨bk, ko + A * 3 + 1, none⟩ = some (.int .i64 i.a) := (S6.bel.cell hbk).trans (hck A i hi 1 _ rfl)
  have y2' : W6.cell? ⟨bk, ko + A * 3 + 2, none⟩ = some (.int .i64 i.b) := (S6.bel.cell hbk).trans (hck A i hi 2 _ rfl)
  have hlk : bk < W6.heap.size := World.block_lt_of_cell? W6 _ y0'
  have y0 := cell_regrown y0'
  have y1 := cell_regrown y1'
  have y2 := cell_regrown y2'
  have hio := img_ins HOK.out HFF.out hi
  have hup : CapsUp p := TCtx.up (n := f.code.length) (R := f.regs.toNat) ⟨HI.out, HFV.out, HOK.out, hio.2, rfl, rfl⟩
  have cM0 := fun d os => Calls.regrown_of (w := W6) (d := d) (os := os) (iMayStep p f i s _ _ _ _ _ _ (grow (redrawn W6 d) os) (HI.out.below (chain S6.bel (below_regrown W6 d os))) hup (HFV.out.below (chain S6.bel (below_regrown W6 d os))) hio.1 (HS.out.below (chain S6.bel (below_regrown W6 d os))))
  obtain ⟨MB, hMB⟩ : ∃ b, mayB p f i s = b := ⟨_, rfl⟩
  have cM := cM0
  simp only [hMB, HL.out.2.2, HKL.out.2.1, HKL.out.2.2] at cM
  clear cM0
  have hF : F = MB := by
    rw [← HF.out.1, HB.out, HPA.out, decide_eq_true hre, Int.toNat_natCast, hi]
    exact hMB
  have HMB : Hid (mayB p f i s = MB) := hMB
  have HII : Hid (f.code[A]? = some i ∧ insOk i = true ∧ funOk f = true) := ⟨hi, hio⟩
  subst hre
  clear hMB hi hio hck ok hin hup
  cases MB with
  | false =>
    clear y0' y1' y2'
    obtain ⟨hRA, hRR⟩ := hNo hF
    subst hF hRA hRR
    refine wp_region_quiet_below (by kernel_rfl) (by kernel_rfl) ?_
    repeat (first | go_big_quiet_step (first | with_reducible exact cA _ _ | with_reducible exact cM _ _) | quiet_step (first | with_reducible exact cA _ _ | with_reducible exact cM _ _))
    refine wpQuiet_nil ?_
    intro _ hw'
    obtain ⟨⟨dq, osq⟩, hw''⟩ := hw'
    subst hw''
    have B7 := chain B36 (below_regrown W6 dq osq)
    have HE := hEnd _ B7
    obtain ⟨r0, r1⟩ := two_cells_of (S3.below B7).b2
    have fR := fun j => frozen_of_row _ (G + 1 + 1) j _ _ (S3.below B7).b2
    obtain ⟨z0, z1⟩ := two_cells_of HE.out.1
    clear hEnd S3 S6 B36 B7 d0 d1 d2 d3 d4 d5 d6 d7 d8 cA hF6 cM y0 y1 y2
    obtain ⟨WQ, hWQ⟩ : ∃ W, grow (redrawn W6 dq) osq = W := ⟨_, rfl⟩
    simp only [hWQ] at r0 r1 fR z0 z1 HE ⊢
    clear hWQ
    go_wp2
    refine bodyPost_ret (by simp [results, Try.results21, go_sem, z0, z1]; try rfl) rfl ?_
    exact ⟨_, rfl, World.ownsRow_nil _ _ _ _, HE.out.2⟩
  | true =>
  subst hF
  have eR : R = aftS i s := by
    rw [← HF.out.2]
    exact stepS_yes HF.out.1 HFF.out HII.out.1
  have hRA : RA = (aftS i s).acc := by rw [← HR.out.1, eR]
  have hRR : RR = (aftS i s).regs := by rw [← HR.out.2, eR]
  have hnr : nr ≤ 40 := by
    have h := HII.out.2.2
    unfold funOk inB at h
    simp only [Bool.and_eq_true, decide_eq_true_eq] at h
    have := HKL.out.2.1
    omega
  have hin3 : i.op = 3 ∨ i.op = 4 → regIn s i.a = true := fun h => by
    have hm := HMB.out
    rcases h with h | h
    · rw [may_3 h, Bool.and_eq_true] at hm; exact hm.1
    · rw [may_4 h, Bool.and_eq_true] at hm; exact hm.1
  have cF0 := fun W (hW : Below W6.heap.size W6 W) => iStepped i s _ W (HS.out.below (chain S6.bel hW)) (by rw [HL.out.2.1]; omega) hin3
  have cF := cF0
  simp only [HL.out.2.2, ← hRA, ← hRR] at cF
  clear cF0 eR hRA hRR hNo hin3
  refine wp_region_quiet_below (by kernel_rfl) (by kernel_rfl) ?_
  repeat (first | go_big_quiet_step (first | with_reducible exact cA _ _ | with_reducible exact cM _ _) | quiet_step (first | with_reducible exact cA _ _ | with_reducible exact cM _ _))
  refine wpQuiet_nil ?_
  intro _ hw'
  obtain ⟨⟨dq, osq⟩, hw''⟩ := hw'
  subst hw''
  have B5 := below_regrown W6 dq osq
  have cF5 := fun W (hW : Below (grow (redrawn W6 dq) osq).heap.size (grow (redrawn W6 dq) osq) W) => cF W (chain B5 hW)
  have S5 := S6.below B5
  have hF5 := (B5.block FX (lt16 hF6)).trans hF6
  have g2 := d7 dq osq
  have g3 := d8 dq osq
  have g5 := y0 dq osq
  have g6 := y1 dq osq
  have g7 := y2 dq osq
  clear cF hEnd d0 d1 d2 d3 d4 d5 d6 d7 d8 y0 y1 y2 y0' y1' y2' cA cM S3 S6 B36 hlk
  obtain ⟨W5, hW5⟩ : ∃ W, grow (redrawn W6 dq) osq = W := ⟨_, rfl⟩
  simp only [hW5] at B5 cF5 S5 hF5 g2 g3 g5 g6 g7 ⊢
  clear hW5 B5 hF6
  have hG2 := S5.lo
  have hFG : FX ≠ G + 1 + 1 := fun e => by
    have h1 := S5.b2
    rw [← e, hF5] at h1
    simp at h1
  obtain ⟨f0, f1, f2, f3, f4⟩ := five_cells hF5
  have hrow : ∀ (W : World) (X j : Nat), W5.grownBy W (some (G + 1 + 1)) → X ≠ G + 1 + 1 → X < W5.heap.size → W.cell? ⟨X, j, none⟩ = W5.cell? ⟨X, j, none⟩ := fun W X j hW hX hl => by
    have e := hW.block X hl (fun h => hX (by injection h))
    unfold World.cell?
    simp only [e]
  have hlk : bk < W5.heap.size := World.block_lt_of_cell? W5 _ g5
  have HK : Hid (∀ W, W5.grownBy W (some (G + 1 + 1)) → W.cell? ⟨FX, 3, none⟩ = some (.slice (some ⟨bk, ko, none⟩) nk ck) ∧ W.cell? ⟨bk, ko + A * 3, none⟩ = some (.int .i64 i.op) ∧ W.cell? ⟨bk, ko + A * 3 + 1, none⟩ = some (.int .i64 i.a) ∧ W.cell? ⟨bk, ko + A * 3 + 2, none⟩ = some (.int .i64 i.b) ∧ W.cell? ⟨G + 1, 0, none⟩ = some (.int .i64 AC) ∧ W.cell? ⟨G + 1, 1, none⟩ = some (.slice xs nr cs)) := fun W hW =>
    ⟨(hrow W FX 3 hW hFG (lt16 hF5)).trans f3, (hrow W bk _ hW (by omega) hlk).trans g5, (hrow W bk _ hW (by omega) hlk).trans g6, (hrow W bk _ hW (by omega) hlk).trans g7, (hrow W (G + 1) 0 hW (by omega) (lt16 S5.b1)).trans g2, (hrow W (G + 1) 1 hW (by omega) (lt16 S5.b1)).trans g3⟩
  have gB : ∀ {W : World}, Below W5.heap.size W5 W → W5.grownBy W (some (G + 1 + 1)) := fun h => ⟨h.os, h.tape, h.output, h.size, fun k hk _ => h.block k hk⟩
  have gP : ∀ {W : World} (j : Nat) (u : Value), W5.grownBy W (some (G + 1 + 1)) → W5.grownBy (W.setCell ⟨G + 1 + 1, j, none⟩ u) (some (G + 1 + 1)) := fun j u h => h.trans ⟨rfl, rfl, rfl, by simp [World.setCell], fun X _ hne => heap_setCell_other _ ⟨G + 1 + 1, j, none⟩ X u (fun e => hne (by show some X = some (G + 1 + 1); rw [show X = G + 1 + 1 from e]))⟩
  have hEnd : ∀ (W : World) (v : Value), Below W5.heap.size W5 W → OwnI W W5.heap.size v RR → Hid (((W.setCell ⟨G + 1 + 1, 0, none⟩ (.int .i64 RA)).setCell ⟨G + 1 + 1, 1, none⟩ v).heap[G + 1 + 1]? = some (.cells #[.int .i64 RA, v] 26 (0, 0)) ∧ OwnI ((W.setCell ⟨G + 1 + 1, 0, none⟩ (.int .i64 RA)).setCell ⟨G + 1 + 1, 1, none⟩ v) w.heap.size v RR ∧ Below w.heap.size w ((W.setCell ⟨G + 1 + 1, 0, none⟩ (.int .i64 RA)).setCell ⟨G + 1 + 1, 1, none⟩ v)) := fun W v hW hO => by
    have SW := S5.below hW
    have k0 := heap_setCell_same W (G + 1 + 1) 0 _ _ (.int .i64 RA) SW.b2
    have k1 := heap_setCell_same _ (G + 1 + 1) 1 _ _ v k0
    have ne := apart16 hO SW.b2 (by decide)
    have q : ∀ (W : World) (j : Nat) (u : Value), Below w.heap.size w W → Below w.heap.size w (W.setCell ⟨G + 1 + 1, j, none⟩ u) := fun W j u h => h.setCell (p := ⟨G + 1 + 1, j, none⟩) (by show _ ≤ G + 1 + 1; omega) u
    exact ⟨k1, row_low (far16 (far16 hO ne) ne) S5.bel.size, q _ _ _ (q _ _ _ SW.bel)⟩
  have hUp : ∀ (W W' : World) (v : Value), Below W5.heap.size W5 W → Below W.heap.size W W' → OwnI W' W.heap.size v RR → Hid (Below W5.heap.size W5 W') ∧ Hid (OwnI W' W5.heap.size v RR) ∧ W'.heap[G + 1 + 1]? = some (.cells #[.int .i64 0, .slice none 0 0] 26 (0, 0)) := fun W W' v h1 h2 h3 => ⟨chain h1 h2, row_low h3 h1.size, (S5.below (chain h1 h2)).b2⟩
  clear f0 f1 f2 f3 f4 g2 g3 g5 g6 g7 hrow hlk hF5
  go_upto_region 6 with fail
  go_region_held3 (fun W => W.cell? ⟨FX, 3, none⟩ = some (.slice (some ⟨bk, ko, none⟩) nk ck) ∧ W.cell? ⟨bk, ko + A * 3, none⟩ = some (.int .i64 i.op) ∧ W.cell? ⟨bk, ko + A * 3 + 1, none⟩ = some (.int .i64 i.a) ∧ W.cell? ⟨bk, ko + A * 3 + 2, none⟩ = some (.int .i64 i.b) ∧ W.cell? ⟨G + 1, 0, none⟩ = some (.int .i64 AC) ∧ W.cell? ⟨G + 1, 1, none⟩ = some (.slice xs nr cs))
    (exact HK.out _ (by first | with_reducible exact gB (Below.refl _ _).drew | with_reducible exact gB (Below.refl _ _) | with_reducible exact gB (below_drewN (Below.refl _ _) _) | with_reducible exact gB HB6.out | with_reducible exact gB (RowKit.Below.drew HB6.out) | with_reducible exact gB (below_drewN HB6.out _) | with_reducible exact gP _ _ (gP _ _ (gB HB6.out)) | with_reducible exact gP _ _ (gP _ _ (gB (RowKit.Below.drew HB6.out)))))
    (first | (go_at_call 65; (with_reducible refine (cF5 _ (by first | with_reducible exact (Below.refl _ _).drew | with_reducible exact Below.refl _ _ | with_reducible exact below_drewN (Below.refl _ _) _)).mono ?_); rintro e w6 ⟨v6, rfl, ho6, hb6⟩; have U6 := hUp _ _ _ (by first | with_reducible exact (Below.refl _ _).drew | with_reducible exact Below.refl _ _ | with_reducible exact below_drewN (Below.refl _ _) _) hb6 ho6; have HB6 := U6.1; have HO6 := U6.2.1; have p6 := two_cells_of U6.2.2; have p7 := p6.1; have p8 := p6.2; have z6 := fun j => frozen_of_row w6 (G + 1 + 1) j _ _ U6.2.2; obtain ⟨y6, c6, rfl⟩ := row_slice ho6; clear ho6 hb6 U6 p6))
  all_goals
    have HE := hEnd _ _ HB6.out HO6.out
    obtain ⟨z0, z1⟩ := two_cells_of HE.out.1
    clear hEnd hUp gB gP HK
    go_wp2
    refine bodyPost_ret (by simp [results, Try.results21, go_sem, z0, z1]; try rfl) rfl ?_
    exact ⟨_, rfl, HE.out.2.1, HE.out.2.2⟩
end Go.Proofs.Ytlplljgcgohonaa
