/-
  Part 11 of what is proved of drawn right trees.
-/
import Derived.Test.YtlplljgcgohonaaPag
import Derived.Deep.RegionHeld3
import Derived.Shelf.LaysM
import Derived.Shelf.Strconv.Clone
import Derived.Shelf.Strings.Prefix
import Derived.Shelf.Slices.Equal
import Derived.Ground.Names2Prog
import Derived.Shelf.Slices.Clone
import Derived.Shelf.Slices.Empties2
import Derived.Test.YtlplljgcgohonaaProg
import Derived.Lib.LazyBuf

namespace Go.Proofs.Ytlplljgcgohonaa
open Go.RowKit Go.Sort
set_option linter.unusedVariables false
def stepB (p : PImg) (k a : Int) (s : PSta) : Bool :=
  imgOk p && (inB k 0 ((p.funcs.length : Int) - 1) && (match p.funcs[k.toNat]? with
    | none => false
    | some f => inB a 0 ((f.code.length : Int) - 1) && (decide ((s.regs.length : Int) = f.regs) && (match f.code[a.toNat]? with
      | none => false
      | some i => mayB p f i s))))
def stepS (p : PImg) (k a : Int) (s : PSta) : PSta :=
  if stepB p k a s then (match p.funcs[k.toNat]? with
    | none => ⟨0, []⟩
    | some f => match f.code[a.toNat]? with
      | none => ⟨0, []⟩
      | some i => aftS i s) else ⟨0, []⟩
theorem stepS_no {p : PImg} {k a : Int} {s : PSta} (h : stepB p k a s = false) : stepS p k a s = ⟨0, []⟩ := by
  unfold stepS
  rw [h]
  rfl
theorem stepS_yes {p : PImg} {k a : Nat} {s : PSta} {f : PFun} {i : PIns} (h : stepB p k a s = true) (hf : p.funcs[k]? = some f) (hi : f.code[a]? = some i) : stepS p k a s = aftS i s := by
  unfold stepS
  rw [h, if_pos rfl, Int.toNat_natCast, hf]
  simp only
  rw [Int.toNat_natCast, hi]
theorem img_ins {p : PImg} (h : imgOk p = true) {k a : Nat} {f : PFun} {i : PIns} (hf : p.funcs[k]? = some f) (hi : f.code[a]? = some i) : insOk i = true ∧ funOk f = true := by
  unfold imgOk at h
  simp only [Bool.and_eq_true] at h
  have h1 := h.2.2.2.1
  rw [List.all_eq_true] at h1
  have h2 := h1 f (List.mem_iff_getElem?.2 ⟨k, hf⟩)
  have h3 := h2
  unfold funOk at h3
  simp only [Bool.and_eq_true] at h3
  have h4 := h3.2.2.2.2.2.2.1
  rw [List.all_eq_true] at h4
  exact ⟨h4 i (List.mem_iff_getElem?.2 ⟨a, hi⟩), h2⟩
structure StpAt (w0 : World) (G : Nat) (cm cs : Array Value) (wr : World) : Prop where
  b0 : wr.heap[G]? = some (.cells cm 34 (0, 0))
  b1 : wr.heap[G + 1]? = some (.cells cs 26 (0, 0))
  b2 : wr.heap[G + 1 + 1]? = some (.cells #[.int .i64 0, .slice none 0 0] 26 (0, 0))
  bel : Below w0.heap.size w0 wr
  lo : w0.heap.size ≤ G
theorem StpAt.below {w0 w w' : World} {G : Nat} {cm cs : Array Value} (h : StpAt w0 G cm cs w) (hb : Below w.heap.size w w') : StpAt w0 G cm cs w' :=
  ⟨(hb.block _ (lt16 h.b0)).trans h.b0, (hb.block _ (lt16 h.b1)).trans h.b1, (hb.block _ (lt16 h.b2)).trans h.b2, chain h.bel hb, h.lo⟩
set_option maxHeartbeats 2000000 in
set_option maxRecDepth 100000 in
theorem specStepState_any (p : PImg) (k a : Int) (s : PSta) (fv cv v : Value) (w : World) (h : ArgImg w fv cv p) (hw : imgW p) (hs : ArgI w v s.regs) :
    Calls Try.prog 18 #[.agg #[fv, cv], .int .i64 k, .int .i64 a, .agg #[.int .i64 s.acc, v]] w fun e w' => ∃ v', e = .returned (.tuple #[.agg #[.int .i64 (stepS p k a s).acc, v'], .bool (stepB p k a s)]) ∧ OwnI w' w.heap.size v' (stepS p k a s).regs ∧ Below w.heap.size w w' := by
  have cO0 := fun W (hW : Below w.heap.size w W) => specImageOk_any p fv cv W (h.below hW) hw
  have HI : Hid (ArgImg w fv cv p) := h
  have HS : Hid (ArgI w v s.regs) := hs
  obtain ⟨hF, hC⟩ := h
  obtain ⟨x1, c1, rfl, m1, o1⟩ := hF
  obtain ⟨x2, c2, rfl, m2, _⟩ := hC.opened conC_len
  obtain ⟨xs, cs, rfl, ms, os⟩ := hs.opened
  unfold maxLen at m1 m2 ms
  have T := made_three w (Obj.cells #[.slice x1 p.funcs.length c1, .slice x2 p.consts.length c2] 34) (Obj.cells #[.int .i64 s.acc, .slice xs s.regs.length cs] 26) (Obj.cells #[.int .i64 0, .slice none 0 0] 26)
  obtain ⟨n1, e1⟩ : ∃ n, p.funcs.length = n := ⟨_, rfl⟩
  obtain ⟨n2, e2⟩ : ∃ n, p.consts.length = n := ⟨_, rfl⟩
  obtain ⟨nr, e3⟩ : ∃ n, s.regs.length = n := ⟨_, rfl⟩
  obtain ⟨AC, eC⟩ : ∃ n, s.acc = n := ⟨_, rfl⟩
  simp only [e1, e2, e3, eC] at cO0 m1 m2 ms o1 os HI HS T ⊢
  have HL : Hid (p.funcs.length = n1 ∧ s.regs.length = nr ∧ s.acc = AC) := ⟨e1, e3, eC⟩
  obtain ⟨W3, hW3⟩ : ∃ W, (((w.alloc (Obj.cells #[.slice x1 n1 c1, .slice x2 n2 c2] 34)).alloc (Obj.cells #[.int .i64 AC, .slice xs nr cs] 26)).alloc (Obj.cells #[.int .i64 0, .slice none 0 0] 26)) = W := ⟨_, rfl⟩
  rw [hW3] at T
  have HW3 : Hid (_ = W3) := hW3
  clear hW3
  obtain ⟨t0, t1, t2, tz, tb⟩ := T
  obtain ⟨G, hG⟩ : ∃ G, w.heap.size = G := ⟨_, rfl⟩
  rw [hG] at t0 t1 t2 tz
  have S3 : StpAt w G #[.slice x1 n1 c1, .slice x2 n2 c2] #[.int .i64 AC, .slice xs nr cs] W3 := ⟨t0, t1, t2, tb, by omega⟩
  have HG : Hid (w.heap.size = G) := hG
  clear t0 t1 t2 tz tb hG
  have cO := fun d os => Calls.regrown_of (w := W3) (d := d) (os := os) (cO0 (grow (redrawn W3 d) os) (chain S3.bel (below_regrown W3 d os)))
  clear cO0
  have hFlt : ∀ (bb : Bool), stepB p k a s = bb → stepB p k a s = bb := fun _ => id
  obtain ⟨F, eF⟩ : ∃ F, stepB p k a s = F := ⟨_, rfl⟩
  obtain ⟨R, eR⟩ : ∃ R, stepS p k a s = R := ⟨_, rfl⟩
  simp only [eF, eR]
  have HF : Hid (stepB p k a s = F ∧ stepS p k a s = R) := ⟨eF, eR⟩
  obtain ⟨RA, eRA⟩ : ∃ x, R.acc = x := ⟨_, rfl⟩
  obtain ⟨RR, eRR⟩ : ∃ x, R.regs = x := ⟨_, rfl⟩
  have HR : Hid (R.acc = RA ∧ R.regs = RR) := ⟨eRA, eRR⟩
  simp only [eRA, eRR]
  clear hFlt eF eR eRA eRR e1 e2 e3 eC hC hs
  obtain ⟨i0', i1'⟩ := two_cells_of S3.b0
  obtain ⟨j0', j1'⟩ := two_cells_of S3.b1
  have i0 := cell_regrown i0'
  have i1 := cell_regrown i1'
  have j0 := cell_regrown j0'
  have j1 := cell_regrown j1'
  have hbE : ∀ W, (Instr.build 26 #[]).run Try.prog W = .ok (.agg #[.int .i64 0, .slice none 0 0]) W := fun W => run_build W 26 _ _ (by kernel_rfl)
  have hNo : F = false → RA = 0 ∧ RR = [] := fun h => by
    have e := HF.out.1
    rw [h] at e
    have e2 := stepS_no e
    rw [HF.out.2] at e2
    rw [← HR.out.1, ← HR.out.2, e2]
    exact ⟨rfl, rfl⟩
  have hEnd : ∀ (W : World), Below W3.heap.size W3 W → Hid (((W.setCell ⟨G + 1 + 1, 0, none⟩ (.int .i64 0)).setCell ⟨G + 1 + 1, 1, none⟩ (.slice none 0 0)).heap[G + 1 + 1]? = some (.cells #[.int .i64 0, .slice none 0 0] 26 (0, 0)) ∧ Below w.heap.size w ((W.setCell ⟨G + 1 + 1, 0, none⟩ (.int .i64 0)).setCell ⟨G + 1 + 1, 1, none⟩ (.slice none 0 0))) := fun W hW => by
    have SW := S3.below hW
    have k0 := heap_setCell_same W (G + 1 + 1) 0 _ _ (.int .i64 0) SW.b2
    have k1 := heap_setCell_same _ (G + 1 + 1) 1 _ _ (.slice none 0 0) k0
    have q : ∀ (W : World) (j : Nat) (u : Value), Below w.heap.size w W → Below w.heap.size w (W.setCell ⟨G + 1 + 1, j, none⟩ u) := fun W j u h => h.setCell (p := ⟨G + 1 + 1, j, none⟩) (by show _ ≤ G + 1 + 1; have := S3.lo; omega) u
    exact ⟨k1, q _ _ _ (q _ _ _ SW.bel)⟩
  obtain ⟨OK, hOK⟩ : ∃ b, imgOk p = b := ⟨_, rfl⟩
  simp only [hOK] at cO
  have HOK : Hid (imgOk p = OK) := hOK
  clear hOK
  cases OK with
  | false =>
    have hF : F = false := by
      rw [← HF.out.1]
      unfold stepB
      rw [HOK.out]
      rfl
    obtain ⟨hRA, hRR⟩ := hNo hF
    subst hF hRA hRR
    clear i0' i1' j0' j1'
    go_enter Try.func18, Try.ntmps18
    go_upto_region 1 with fail
    rw [HW3.out]
    clear HW3
    try simp only [HG.out]
    refine wp_region_quiet_below (by kernel_rfl) (by kernel_rfl) ?_
    repeat (first | go_big_quiet_step (exact cO _ _) | quiet_step (exact cO _ _))
    refine wpQuiet_nil ?_
    intro _ hw'
    obtain ⟨⟨dq, osq⟩, hw''⟩ := hw'
    subst hw''
    have HE := hEnd _ (below_regrown W3 dq osq)
    obtain ⟨r0, r1⟩ := two_cells_of (S3.below (below_regrown W3 dq osq)).b2
    have fR := fun j => frozen_of_row _ (G + 1 + 1) j _ _ (S3.below (below_regrown W3 dq osq)).b2
    obtain ⟨z0, z1⟩ := two_cells_of HE.out.1
    clear hEnd S3 i0 i1 j0 j1
    obtain ⟨WQ, hWQ⟩ : ∃ W, grow (redrawn W3 dq) osq = W := ⟨_, rfl⟩
    simp only [hWQ] at r0 r1 fR z0 z1 HE ⊢
    clear hWQ
    go_wp2
    refine bodyPost_ret (by simp [results, Try.results18, go_sem, z0, z1]; try rfl) rfl ?_
    exact ⟨_, rfl, World.ownsRow_nil _ _ _ _, HE.out.2⟩
  | true =>
  have hw1 : IntKind.i64.wrap ((n1 : Int) - 1) = (n1 : Int) - 1 := wrap_less n1 (by omega)
  have cL0 := fun d os => Calls.regrown_of (w := W3) (d := d) (os := os) ((l01In_b k 0 ((n1 : Int) - 1) (grow (redrawn W3 d) os)).mono (fun e w' (hh : _ ∧ _) => ⟨hh.1, by rw [← hh.2]; exact Below.refl _ _⟩))
  obtain ⟨PK, hPK⟩ : ∃ b, inB k 0 ((n1 : Int) - 1) = b := ⟨_, rfl⟩
  have cL := cL0
  simp only [hPK] at cL
  clear cL0
  have HPK : Hid (inB k 0 ((n1 : Int) - 1) = PK) := hPK
  clear hPK
  cases PK with
  | false =>
    have hF : F = false := by
      rw [← HF.out.1]
      unfold stepB
      rw [HOK.out, HL.out.1, HPK.out]
      rfl
    obtain ⟨hRA, hRR⟩ := hNo hF
    subst hF hRA hRR
    clear i0' i1' j0' j1'
    go_enter Try.func18, Try.ntmps18
    go_upto_region 1 with fail
    rw [HW3.out]
    clear HW3
    try simp only [HG.out]
    refine wp_region_quiet_below (by kernel_rfl) (by kernel_rfl) ?_
    repeat (first | go_big_quiet_step (first | with_reducible exact cO _ _ | with_reducible exact cL _ _) | quiet_step (first | with_reducible exact cO _ _ | with_reducible exact cL _ _))
    refine wpQuiet_nil ?_
    intro _ hw'
    obtain ⟨⟨dq, osq⟩, hw''⟩ := hw'
    subst hw''
    have HE := hEnd _ (below_regrown W3 dq osq)
    obtain ⟨r0, r1⟩ := two_cells_of (S3.below (below_regrown W3 dq osq)).b2
    have fR := fun j => frozen_of_row _ (G + 1 + 1) j _ _ (S3.below (below_regrown W3 dq osq)).b2
    obtain ⟨z0, z1⟩ := two_cells_of HE.out.1
    clear hEnd S3 i0 i1 j0 j1
    obtain ⟨WQ, hWQ⟩ : ∃ W, grow (redrawn W3 dq) osq = W := ⟨_, rfl⟩
    simp only [hWQ] at r0 r1 fR z0 z1 HE ⊢
    clear hWQ
    go_wp2
    refine bodyPost_ret (by simp [results, Try.results18, go_sem, z0, z1]; try rfl) rfl ?_
    exact ⟨_, rfl, World.ownsRow_nil _ _ _ _, HE.out.2⟩
  | true =>
  have hin := HPK.out
  unfold inB at hin
  simp only [Bool.and_eq_true, decide_eq_true_eq] at hin
  obtain ⟨K, rfl⟩ : ∃ K : Nat, k = (K : Int) := ⟨k.toNat, by omega⟩
  have hK : (K : Int) < (n1 : Int) := by omega
  have hK0 : (0 : Int) ≤ (K : Int) := by omega
  obtain ⟨f, hf⟩ : ∃ f, p.funcs[K]? = some f := ⟨_, List.getElem?_eq_getElem (by have := HL.out.1; omega)⟩
  obtain ⟨b, o, rfl, hbl, hcell⟩ := o1 (by omega)
  obtain ⟨qc, qk, qh, hA⟩ := hcell K f hf
  obtain ⟨xk, ck, rfl, mk, ok⟩ := hA.code.opened insC_len
  have HFF : Hid (p.funcs[K]? = some f) := hf
  have g1' := (hA.below S3.bel).c1
  have g3' := (hA.below S3.bel).c3
  obtain ⟨nk, ek⟩ : ∃ n, f.code.length = n := ⟨_, rfl⟩
  obtain ⟨RE, eRE⟩ : ∃ n, f.regs = n := ⟨_, rfl⟩
  rw [ek] at mk ok g3'
  rw [eRE] at g1'
  unfold maxLen at mk
  have HKL : Hid (f.code.length = nk ∧ f.regs = RE) := ⟨ek, eRE⟩
  have g1 := cell_regrown g1'
  have g3 := cell_regrown g3'
  clear hf hcell hA ek eRE hin
  have hw2 : IntKind.i64.wrap ((nk : Int) - 1) = (nk : Int) - 1 := wrap_less nk (by omega)
  have hB : stepB p (K : Int) a s = (inB a 0 ((nk : Int) - 1) && (decide ((nr : Int) = RE) && (match f.code[a.toNat]? with | none => false | some i => mayB p f i s))) := by
    unfold stepB
    rw [HOK.out, HL.out.1, HPK.out, Int.toNat_natCast, HFF.out]
    simp only [Bool.true_and]
    rw [HKL.out.1, HKL.out.2, HL.out.2.1]
  have HB : Hid _ := hB
  clear hB
  have cA0 := fun d os => Calls.regrown_of (w := W3) (d := d) (os := os) ((l01In_b a 0 ((nk : Int) - 1) (grow (redrawn W3 d) os)).mono (fun e w' (hh : _ ∧ _) => ⟨hh.1, by rw [← hh.2]; exact Below.refl _ _⟩))
  obtain ⟨PA, hPA⟩ : ∃ b, inB a 0 ((nk : Int) - 1) = b := ⟨_, rfl⟩
  have cA := cA0
  simp only [hPA] at cA
  clear cA0
  have HPA : Hid (inB a 0 ((nk : Int) - 1) = PA) := hPA
  clear hPA
  cases PA with
  | false =>
    have hF : F = false := by
      rw [← HF.out.1, HB.out, HPA.out]
      rfl
    clear g1' g3'
    obtain ⟨hRA, hRR⟩ := hNo hF
    subst hF hRA hRR
    clear i0' i1' j0' j1'
    go_enter Try.func18, Try.ntmps18
    go_upto_region 1 with fail
    rw [HW3.out]
    clear HW3
    try simp only [HG.out]
    refine wp_region_quiet_below (by kernel_rfl) (by kernel_rfl) ?_
    repeat (first | go_big_quiet_step (first | with_reducible exact cO _ _ | with_reducible exact cL _ _ | with_reducible exact cA _ _) | quiet_step (first | with_reducible exact cO _ _ | with_reducible exact cL _ _ | with_reducible exact cA _ _))
    refine wpQuiet_nil ?_
    intro _ hw'
    obtain ⟨⟨dq, osq⟩, hw''⟩ := hw'
    subst hw''
    have HE := hEnd _ (below_regrown W3 dq osq)
    obtain ⟨r0, r1⟩ := two_cells_of (S3.below (below_regrown W3 dq osq)).b2
    have fR := fun j => frozen_of_row _ (G + 1 + 1) j _ _ (S3.below (below_regrown W3 dq osq)).b2
    obtain ⟨z0, z1⟩ := two_cells_of HE.out.1
    clear hEnd S3 i0 i1 j0 j1
    obtain ⟨WQ, hWQ⟩ : ∃ W, grow (redrawn W3 dq) osq = W := ⟨_, rfl⟩
    simp only [hWQ] at r0 r1 fR z0 z1 HE ⊢
    clear hWQ
    go_wp2
    refine bodyPost_ret (by simp [results, Try.results18, go_sem, z0, z1]; try rfl) rfl ?_
    exact ⟨_, rfl, World.ownsRow_nil _ _ _ _, HE.out.2⟩
  | true =>
  have hin := HPA.out
  unfold inB at hin
  simp only [Bool.and_eq_true, decide_eq_true_eq] at hin
  obtain ⟨A, rfl⟩ : ∃ A : Nat, a = (A : Int) := ⟨a.toNat, by omega⟩
  have hA1 : (A : Int) < (nk : Int) := by omega
  have hA0 : (0 : Int) ≤ (A : Int) := by omega
  by_cases hre : (nr : Int) = RE
  case neg =>
    have hre' : ((nr : Int) == RE) = false := by rw [beq_eq_false_iff_ne]; exact hre
    have hF : F = false := by
      rw [← HF.out.1, HB.out, HPA.out, decide_eq_false hre]
      rfl
    clear g1' g3' hin
    obtain ⟨hRA, hRR⟩ := hNo hF
    subst hF hRA hRR
    clear i0' i1' j0' j1'
    go_enter Try.func18, Try.ntmps18
    go_upto_region 1 with fail
    rw [HW3.out]
    clear HW3
    try simp only [HG.out]
    refine wp_region_quiet_below (by kernel_rfl) (by kernel_rfl) ?_
    repeat (first | go_big_quiet_step (first | with_reducible exact cO _ _ | with_reducible exact cL _ _ | with_reducible exact cA _ _) | quiet_step (first | with_reducible exact cO _ _ | with_reducible exact cL _ _ | with_reducible exact cA _ _))
    refine wpQuiet_nil ?_
    intro _ hw'
    obtain ⟨⟨dq, osq⟩, hw''⟩ := hw'
    subst hw''
    have HE := hEnd _ (below_regrown W3 dq osq)
    obtain ⟨r0, r1⟩ := two_cells_of (S3.below (below_regrown W3 dq osq)).b2
    have fR := fun j => frozen_of_row _ (G + 1 + 1) j _ _ (S3.below (below_regrown W3 dq osq)).b2
    obtain ⟨z0, z1⟩ := two_cells_of HE.out.1
    clear hEnd S3 i0 i1 j0 j1
    obtain ⟨WQ, hWQ⟩ : ∃ W, grow (redrawn W3 dq) osq = W := ⟨_, rfl⟩
    simp only [hWQ] at r0 r1 fR z0 z1 HE ⊢
    clear hWQ
    go_wp2
    refine bodyPost_ret (by simp [results, Try.results18, go_sem, z0, z1]; try rfl) rfl ?_
    exact ⟨_, rfl, World.ownsRow_nil _ _ _ _, HE.out.2⟩
  obtain ⟨i, hi⟩ : ∃ i, f.code[A]? = some i := ⟨_, List.getElem?_eq_getElem (by have := HKL.out.1; omega)⟩
  obtain ⟨bk, ko, rfl, hbk, hck⟩ := ok (by omega)
  have y0' : W3.cell? ⟨bk, ko + A * 3, none⟩ = some (.int .i64 i.op) := (S3.bel.cell hbk).trans (hck A i hi 0 _ rfl)
  have y1' : W3.cell? ⟨bk, ko + A * 3 + 1, none⟩ = some (.int .i64 i.a) := (S3.bel.cell hbk).trans (hck A i hi 1 _ rfl)
  have y2' : W3.cell? ⟨bk, ko + A * 3 + 2, none⟩ = some (.int .i64 i.b) := (S3.bel.cell hbk).trans (hck A i hi 2 _ rfl)
  have y0 := cell_regrown y0'
  have y1 := cell_regrown y1'
  have y2 := cell_regrown y2'
  have hio := img_ins HOK.out HFF.out hi
  have cM0 := fun d os => Calls.regrown_of (w := W3) (d := d) (os := os) (l16May_any p f K i s _ _ _ (grow (redrawn W3 d) os) (HI.out.below (chain S3.bel (below_regrown W3 d os))) HFF.out hio.1 (HS.out.below (chain S3.bel (below_regrown W3 d os))))
  obtain ⟨MB, hMB⟩ : ∃ b, mayB p f i s = b := ⟨_, rfl⟩
  have cM := cM0
  simp only [hMB, HL.out.2.2] at cM
  clear cM0
  have hF : F = MB := by
    rw [← HF.out.1, HB.out, HPA.out, decide_eq_true hre, Int.toNat_natCast, hi]
    exact hMB
  have HMB : Hid (mayB p f i s = MB) := hMB
  have HII : Hid (f.code[A]? = some i ∧ insOk i = true ∧ funOk f = true) := ⟨hi, hio⟩
  subst hre
  clear hMB hi hio hck ok hin
  cases MB with
  | false =>
    clear g1' g3' y0' y1' y2'
    obtain ⟨hRA, hRR⟩ := hNo hF
    subst hF hRA hRR
    clear i0' i1' j0' j1'
    go_enter Try.func18, Try.ntmps18
    go_upto_region 1 with fail
    rw [HW3.out]
    clear HW3
    try simp only [HG.out]
    refine wp_region_quiet_below (by kernel_rfl) (by kernel_rfl) ?_
    repeat (first | go_big_quiet_step (first | with_reducible exact cO _ _ | with_reducible exact cL _ _ | with_reducible exact cA _ _ | with_reducible exact cM _ _) | quiet_step (first | with_reducible exact cO _ _ | with_reducible exact cL _ _ | with_reducible exact cA _ _ | with_reducible exact cM _ _))
    refine wpQuiet_nil ?_
    intro _ hw'
    obtain ⟨⟨dq, osq⟩, hw''⟩ := hw'
    subst hw''
    have HE := hEnd _ (below_regrown W3 dq osq)
    obtain ⟨r0, r1⟩ := two_cells_of (S3.below (below_regrown W3 dq osq)).b2
    have fR := fun j => frozen_of_row _ (G + 1 + 1) j _ _ (S3.below (below_regrown W3 dq osq)).b2
    obtain ⟨z0, z1⟩ := two_cells_of HE.out.1
    clear hEnd S3 i0 i1 j0 j1
    obtain ⟨WQ, hWQ⟩ : ∃ W, grow (redrawn W3 dq) osq = W := ⟨_, rfl⟩
    simp only [hWQ] at r0 r1 fR z0 z1 HE ⊢
    clear hWQ
    go_wp2
    refine bodyPost_ret (by simp [results, Try.results18, go_sem, z0, z1]; try rfl) rfl ?_
    exact ⟨_, rfl, World.ownsRow_nil _ _ _ _, HE.out.2⟩
  | true =>
  subst hF
  have eR : R = aftS i s := by
    rw [← HF.out.2]
    exact stepS_yes HF.out.1 HFF.out HII.out.1
  have hRA : RA = (aftS i s).acc := by rw [← HR.out.1, eR]
  have hRR : RR = (aftS i s).regs := by rw [← HR.out.2, eR]
  have hnr : nr ≤ 40 := by
    have h := HII.out.2.2
    unfold funOk inB at h
    simp only [Bool.and_eq_true, decide_eq_true_eq] at h
    have := HKL.out.2
    omega
  have hin3 : i.op = 3 ∨ i.op = 4 → regIn s i.a = true := fun h => by
    have hm := HMB.out
    rcases h with h | h
    · rw [may_3 h, Bool.and_eq_true] at hm; exact hm.1
    · rw [may_4 h, Bool.and_eq_true] at hm; exact hm.1
  have cF0 := fun W (hW : Below W3.heap.size W3 W) => l16After_any i s _ W (HS.out.below (chain S3.bel hW)) (by rw [HL.out.2.1]; omega) hin3
  have cF := cF0
  simp only [HL.out.2.2, ← hRA, ← hRR] at cF
  clear cF0 eR hRA hRR hNo hin3
  go_enter Try.func18, Try.ntmps18
  go_upto_region 1 with fail
  rw [HW3.out]
  clear HW3
  try simp only [HG.out]
  refine wp_region_quiet_below (by kernel_rfl) (by kernel_rfl) ?_
  repeat (first | go_big_quiet_step (first | with_reducible exact cO _ _ | with_reducible exact cL _ _ | with_reducible exact cA _ _ | with_reducible exact cM _ _) | quiet_step (first | with_reducible exact cO _ _ | with_reducible exact cL _ _ | with_reducible exact cA _ _ | with_reducible exact cM _ _))
  refine wpQuiet_nil ?_
  intro _ hw'
  obtain ⟨⟨dq, osq⟩, hw''⟩ := hw'
  subst hw''
  have B5 := below_regrown W3 dq osq
  have cF5 := fun W (hW : Below (grow (redrawn W3 dq) osq).heap.size (grow (redrawn W3 dq) osq) W) => cF W (chain B5 hW)
  have S5 := S3.below B5
  have d0 := cell_regrown i0' dq osq
  have d1 := cell_regrown i1' dq osq
  have d2 := cell_regrown j0' dq osq
  have d3 := cell_regrown j1' dq osq
  have d4 := cell_regrown g3' dq osq
  have d5 := cell_regrown y0' dq osq
  have d6 := cell_regrown y1' dq osq
  have d7 := cell_regrown y2' dq osq
  clear cF hEnd i0 i1 j0 j1 g1 g3 y0 y1 y2 i0' i1' j0' j1' g1' g3' y0' y1' y2' cO cL cA cM
  obtain ⟨W5, hW5⟩ : ∃ W, grow (redrawn W3 dq) osq = W := ⟨_, rfl⟩
  simp only [hW5] at B5 cF5 S5 d0 d1 d2 d3 d4 d5 d6 d7 ⊢
  clear hW5 S3 B5
  have hG2 := S5.lo
  have hrow : ∀ (W : World) (X j : Nat), W5.grownBy W (some (G + 1 + 1)) → X ≠ G + 1 + 1 → X < W5.heap.size → W.cell? ⟨X, j, none⟩ = W5.cell? ⟨X, j, none⟩ := fun W X j hW hX hl => by
    have e := hW.block X hl (fun h => hX (by injection h))
    unfold World.cell?
    simp only [e]
  have hlb : b < W5.heap.size := World.block_lt_of_cell? W5 _ d4
  have hlk : bk < W5.heap.size := World.block_lt_of_cell? W5 _ d5
  have HK : Hid (∀ W, W5.grownBy W (some (G + 1 + 1)) → W.cell? ⟨G, 0, none⟩ = some (.slice (some ⟨b, o, none⟩) n1 c1) ∧ W.cell? ⟨b, o + K * 5 + 3, none⟩ = some (.slice (some ⟨bk, ko, none⟩) nk ck) ∧ W.cell? ⟨bk, ko + A * 3, none⟩ = some (.int .i64 i.op) ∧ W.cell? ⟨bk, ko + A * 3 + 1, none⟩ = some (.int .i64 i.a) ∧ W.cell? ⟨bk, ko + A * 3 + 2, none⟩ = some (.int .i64 i.b) ∧ W.cell? ⟨G + 1, 0, none⟩ = some (.int .i64 AC) ∧ W.cell? ⟨G + 1, 1, none⟩ = some (.slice xs nr cs)) := fun W hW =>
    ⟨(hrow W G 0 hW (by omega) (lt16 S5.b0)).trans d0, (hrow W b _ hW (by omega) hlb).trans d4, (hrow W bk _ hW (by omega) hlk).trans d5, (hrow W bk _ hW (by omega) hlk).trans d6, (hrow W bk _ hW (by omega) hlk).trans d7, (hrow W (G + 1) 0 hW (by omega) (lt16 S5.b1)).trans d2, (hrow W (G + 1) 1 hW (by omega) (lt16 S5.b1)).trans d3⟩
  have gB : ∀ {W : World}, Below W5.heap.size W5 W → W5.grownBy W (some (G + 1 + 1)) := fun h => ⟨h.os, h.tape, h.output, h.size, fun k hk _ => h.block k hk⟩
  have gP : ∀ {W : World} (j : Nat) (u : Value), W5.grownBy W (some (G + 1 + 1)) → W5.grownBy (W.setCell ⟨G + 1 + 1, j, none⟩ u) (some (G + 1 + 1)) := fun j u h => h.trans ⟨rfl, rfl, rfl, by simp [World.setCell], fun X _ hne => heap_setCell_other _ ⟨G + 1 + 1, j, none⟩ X u (fun e => hne (by show some X = some (G + 1 + 1); rw [show X = G + 1 + 1 from e]))⟩
  have hEnd : ∀ (W : World) (v : Value), Below W5.heap.size W5 W → OwnI W W5.heap.size v RR → Hid (((W.setCell ⟨G + 1 + 1, 0, none⟩ (.int .i64 RA)).setCell ⟨G + 1 + 1, 1, none⟩ v).heap[G + 1 + 1]? = some (.cells #[.int .i64 RA, v] 26 (0, 0)) ∧ OwnI ((W.setCell ⟨G + 1 + 1, 0, none⟩ (.int .i64 RA)).setCell ⟨G + 1 + 1, 1, none⟩ v) w.heap.size v RR ∧ Below w.heap.size w ((W.setCell ⟨G + 1 + 1, 0, none⟩ (.int .i64 RA)).setCell ⟨G + 1 + 1, 1, none⟩ v)) := fun W v hW hO => by
    have SW := S5.below hW
    have k0 := heap_setCell_same W (G + 1 + 1) 0 _ _ (.int .i64 RA) SW.b2
    have k1 := heap_setCell_same _ (G + 1 + 1) 1 _ _ v k0
    have ne := apart16 hO SW.b2 (by decide)
    have q : ∀ (W : World) (j : Nat) (u : Value), Below w.heap.size w W → Below w.heap.size w (W.setCell ⟨G + 1 + 1, j, none⟩ u) := fun W j u h => h.setCell (p := ⟨G + 1 + 1, j, none⟩) (by show _ ≤ G + 1 + 1; omega) u
    exact ⟨k1, row_low (far16 (far16 hO ne) ne) S5.bel.size, q _ _ _ (q _ _ _ SW.bel)⟩
  have hUp : ∀ (W W' : World) (v : Value), Below W5.heap.size W5 W → Below W.heap.size W W' → OwnI W' W.heap.size v RR → Hid (Below W5.heap.size W5 W') ∧ Hid (OwnI W' W5.heap.size v RR) ∧ W'.heap[G + 1 + 1]? = some (.cells #[.int .i64 0, .slice none 0 0] 26 (0, 0)) := fun W W' v h1 h2 h3 => ⟨chain h1 h2, row_low h3 h1.size, (S5.below (chain h1 h2)).b2⟩
  clear d0 d1 d2 d3 d4 d5 d6 d7 hrow hlb hlk
  go_upto_region 3 with fail
  go_region_held3 (fun W => W.cell? ⟨G, 0, none⟩ = some (.slice (some ⟨b, o, none⟩) n1 c1) ∧ W.cell? ⟨b, o + K * 5 + 3, none⟩ = some (.slice (some ⟨bk, ko, none⟩) nk ck) ∧ W.cell? ⟨bk, ko + A * 3, none⟩ = some (.int .i64 i.op) ∧ W.cell? ⟨bk, ko + A * 3 + 1, none⟩ = some (.int .i64 i.a) ∧ W.cell? ⟨bk, ko + A * 3 + 2, none⟩ = some (.int .i64 i.b) ∧ W.cell? ⟨G + 1, 0, none⟩ = some (.int .i64 AC) ∧ W.cell? ⟨G + 1, 1, none⟩ = some (.slice xs nr cs))
    (exact HK.out _ (by first | with_reducible exact gB (Below.refl _ _).drew | with_reducible exact gB (Below.refl _ _) | with_reducible exact gB (below_drewN (Below.refl _ _) _) | with_reducible exact gB HB6.out | with_reducible exact gB (RowKit.Below.drew HB6.out) | with_reducible exact gB (below_drewN HB6.out _) | with_reducible exact gP _ _ (gP _ _ (gB HB6.out)) | with_reducible exact gP _ _ (gP _ _ (gB (RowKit.Below.drew HB6.out)))))
    (first | (go_at_call 58; (with_reducible refine (cF5 _ (by first | with_reducible exact (Below.refl _ _).drew | with_reducible exact Below.refl _ _ | with_reducible exact below_drewN (Below.refl _ _) _)).mono ?_); rintro e w6 ⟨v6, rfl, ho6, hb6⟩; have U6 := hUp _ _ _ (by first | with_reducible exact (Below.refl _ _).drew | with_reducible exact Below.refl _ _ | with_reducible exact below_drewN (Below.refl _ _) _) hb6 ho6; have HB6 := U6.1; have HO6 := U6.2.1; have p6 := two_cells_of U6.2.2; have p7 := p6.1; have p8 := p6.2; have z6 := fun j => frozen_of_row w6 (G + 1 + 1) j _ _ U6.2.2; obtain ⟨y6, c6, rfl⟩ := row_slice ho6; clear ho6 hb6 U6 p6))
  all_goals
    have HE := hEnd _ _ HB6.out HO6.out
    obtain ⟨z0, z1⟩ := two_cells_of HE.out.1
    clear hEnd hUp gB gP HK
    go_wp2
    refine bodyPost_ret (by simp [results, Try.results18, go_sem, z0, z1]; try rfl) rfl ?_
    exact ⟨_, rfl, HE.out.2.1, HE.out.2.2⟩
end Go.Proofs.Ytlplljgcgohonaa
namespace Go.Proofs.Ytlplljgcgohonaa
open Go.RowKit Go.Sort
set_option linter.unusedVariables false
set_option maxHeartbeats 1000000 in
set_option maxRecDepth 100000 in
theorem iClone (l : List Int) (v : Value) (w : World) (h : ArgI w v l) (hl : l.length ≤ 1000000) :
    Calls Try.prog 124 #[v] w fun e w' => ∃ v', e = .returned v' ∧ OwnI w' w.heap.size v' l ∧ Below w.heap.size w w' := by
  obtain ⟨i0, hi, hz0, hz1, hz2⟩ := info_in Try.info13I
  have hnil : ∀ (a : Option Addr) (n c : Nat) (w : World), (binOp .eql 24 (.slice a n c) (.slice none 0 0)).run Try.prog w = .ok (.bool a.isNone) w := fun a n c w => Go.run_eql_slice_nil w 24 3 a n c Try.underlying24
  have HA : Hid (ArgI w v l) := h
  obtain ⟨x, c, rfl, hm, hc⟩ := h.opened
  obtain ⟨n, hn⟩ : ∃ n, l.length = n := ⟨_, rfl⟩
  have HN : Hid (l.length = n) := hn
  rw [hn] at hl hc hm HA ⊢
  clear hn h
  cases x with
  | none =>
    have h0 : l = [] := by
      rcases Nat.eq_zero_or_pos n with h | h
      · exact List.eq_nil_of_length_eq_zero (HN.out.trans h)
      · obtain ⟨b, o, e1, _⟩ := hc h
        cases e1
    subst h0
    clear hc HN HA
    go_enter Try.func124, Try.ntmps124
    go_wp2
    go_ret
    exact ⟨_, rfl, ⟨rfl, .inl ⟨rfl, rfl⟩⟩, Below.refl _ _⟩
  | some a =>
    clear hc
    have b0 : Below w.heap.size w (w.alloc (.cells #[] 3)) := (Below.refl _ _).alloc (Nat.le_refl _) _
    have hG : (w.alloc (.cells #[] 3)).heap[w.heap.size]? = some (.cells #[] 3 (0, 0)) := heap_alloc_new w _
    have hAr : ArgFlat (w.alloc (.cells #[] 3)) (.slice (some a) n c) 1 n (l.flatMap intC) := by
      have h := HA.out.below b0
      unfold ArgI at h
      rw [HN.out] at h
      exact h
    have hown := own16 (size := 1) hG (Nat.le_refl w.heap.size)
    have hone := one_int l
    have hsz : w.heap.size ≤ (w.alloc (.cells #[] 3)).heap.size := by simp
    have hn9 : n ≤ 1000000000 := by omega
    go_enter Try.func124, Try.ntmps124
    go_wp2_with (at_builtin; refine walk_copyI rfl _ _ 24 rfl w.heap.size 3 i0 _ 1 8 Try.underlying24 hi hz0 hz1 hz2 rfl (by decide) (by decide) _ rfl hown (.slice (some a) n c) rfl n _ hAr hone hn9 hsz ?_)
    intro v' w2 ho hg
    have HO : Hid (OwnI w2 w.heap.size v' l) := by
      show OwnI w2 w.heap.size v' l
      unfold OwnI
      rw [HN.out]
      exact ho
    have HB : Hid (Below w.heap.size w w2) := Below.grown b0 hg hsz (fun k e => by have e2 : w.heap.size = k := Option.some.inj e; omega)
    obtain ⟨x2, c2, rfl⟩ := row_slice ho
    clear ho hg
    go_wp2
    go_ret
    exact ⟨_, rfl, HO.out, HB.out⟩
set_option maxHeartbeats 400000 in
set_option maxRecDepth 100000 in
theorem iIsInFunc (x : Option Addr) (n c : Nat) (k : Int) (w : World) (hn : n ≤ maxLen) :
    Calls Try.prog 62 #[.slice x n c, .int .i64 k] w fun e w' => e = .returned (.bool (inB k 0 ((n : Int) - 1))) ∧ w = w' := by
  unfold maxLen at hn
  obtain ⟨F, hF⟩ : ∃ F, inB k 0 ((n : Int) - 1) = F := ⟨_, rfl⟩
  rw [hF]
  have HF : Hid (inB k 0 ((n : Int) - 1) = F) := hF
  clear hF
  by_cases h0 : 0 ≤ k
  case neg =>
    have e : F = false := by rw [← HF.out]; unfold inB; rw [decide_eq_false h0]; rfl
    subst e
    go_enter Try.func62, Try.ntmps62
    go_wp2
    go_ret
    exact ⟨rfl, rfl⟩
  case pos =>
    by_cases h1 : k < (n : Int)
    · have e : F = true := by rw [← HF.out]; unfold inB; rw [decide_eq_true h0, decide_eq_true (p := k ≤ (n : Int) - 1) (by omega)]; rfl
      subst e
      go_enter Try.func62, Try.ntmps62
      go_wp2
      go_ret
      exact ⟨rfl, rfl⟩
    · have e : F = false := by rw [← HF.out]; unfold inB; rw [decide_eq_false (p := k ≤ (n : Int) - 1) (by omega), Bool.and_false]
      subst e
      go_enter Try.func62, Try.ntmps62
      go_wp2
      go_ret
      exact ⟨rfl, rfl⟩
set_option maxHeartbeats 400000 in
set_option maxRecDepth 100000 in
theorem iIsInIns (x : Option Addr) (n c : Nat) (k : Int) (w : World) (hn : n ≤ maxLen) :
    Calls Try.prog 63 #[.slice x n c, .int .i64 k] w fun e w' => e = .returned (.bool (inB k 0 ((n : Int) - 1))) ∧ w = w' := by
  unfold maxLen at hn
  obtain ⟨F, hF⟩ : ∃ F, inB k 0 ((n : Int) - 1) = F := ⟨_, rfl⟩
  rw [hF]
  have HF : Hid (inB k 0 ((n : Int) - 1) = F) := hF
  clear hF
  by_cases h0 : 0 ≤ k
  case neg =>
    have e : F = false := by rw [← HF.out]; unfold inB; rw [decide_eq_false h0]; rfl
    subst e
    go_enter Try.func63, Try.ntmps63
    go_wp2
    go_ret
    exact ⟨rfl, rfl⟩
  case pos =>
    by_cases h1 : k < (n : Int)
    · have e : F = true := by rw [← HF.out]; unfold inB; rw [decide_eq_true h0, decide_eq_true (p := k ≤ (n : Int) - 1) (by omega)]; rfl
      subst e
      go_enter Try.func63, Try.ntmps63
      go_wp2
      go_ret
      exact ⟨rfl, rfl⟩
    · have e : F = false := by rw [← HF.out]; unfold inB; rw [decide_eq_false (p := k ≤ (n : Int) - 1) (by omega), Bool.and_false]
      subst e
      go_enter Try.func63, Try.ntmps63
      go_wp2
      go_ret
      exact ⟨rfl, rfl⟩
end Go.Proofs.Ytlplljgcgohonaa
