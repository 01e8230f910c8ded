/-
  Part 17 of what is proved of drawn right trees.
-/
import Derived.Test.YtcdbifcidaafnaaGreatDoorPaf
import Derived.Test.YtcdbifcidaafnaaGreatDoorPap
import Derived.Test.YtcdbifcidaafnaaGreatDoorPaa
import Derived.Test.YtcdbifcidaafnaaGreatDoorPam
import Derived.Lib.QuietBelow

namespace Go.Proofs.YtcdbifcidaafnaaGreatDoor
open Go.RowKit Go.Sort
set_option linter.unusedVariables false
set_option linter.unusedSimpArgs false
set_option maxHeartbeats 4000000 in
set_option maxRecDepth 100000 in
theorem compares_rest (ad : Option Addr) (len0 cap0 : Nat) (w : World) (hl9 : len0 ≤ 9223372036854775807) (hbig : ¬ 1048576 < len0) (hcode : CodeIn w ad len0 w.heap.size) (hg : EtOk w) :
    Calls Tryz.prog 4 #[.slice ad len0 cap0] w fun e w' => e = .returned (.bool true) ∧ Below w.heap.size w w' := by
  have cD := drawDoBinary_any ad len0 cap0 _ hcode
  have hbg : ¬ (1048576 : Int) < (len0 : Int) := by omega
  have HG : Hid (∀ W, Below w.heap.size w W → EtOk W) := fun W hW => hg.more hW
  clear hcode hg
  go_enter Tryz.func4, Tryz.ntmps4
  go_upto_region 3 with (go_at_call 6; (with_reducible refine (big_any ad len0 cap0 _ hl9).mono ?_); rintro e w0 ⟨rfl, rfl⟩)
  go_upto_region 4 with (go_at_call 7; (with_reducible refine cD.mono ?_); rintro e w1 ⟨op, p, q, rfl, okp, okq, b1⟩)
  clear cD
  obtain ⟨t0, t1, tz, tb⟩ := two_made w1 (.cells #[.int .i64 p.kind, .int .u64 (p.num : Int), .string p.text, .int .i64 p.ref] 26) (.cells #[.int .i64 q.kind, .int .u64 (q.num : Int), .string q.text, .int .i64 q.ref] 26)
  obtain ⟨W2, hW2⟩ : ∃ W, ((w1.alloc (.cells #[.int .i64 p.kind, .int .u64 (p.num : Int), .string p.text, .int .i64 p.ref] 26)).alloc (.cells #[.int .i64 q.kind, .int .u64 (q.num : Int), .string q.text, .int .i64 q.ref] 26)) = W := ⟨_, rfl⟩
  rw [hW2] at t0 t1 tz tb
  try simp only [hW2]
  obtain ⟨A, hA⟩ : ∃ A, w1.heap.size = A := ⟨_, rfl⟩
  obtain ⟨B, hB⟩ : ∃ B, A + 1 = B := ⟨_, rfl⟩
  rw [hA] at t0 t1
  rw [hB] at t1
  try simp only [hA, hB]
  have HBW2 : Hid (Below w.heap.size w W2) := chain b1 tb
  have HK : Hid (∀ W, Below W2.heap.size W2 W → (W.cell? ⟨A, 0, none⟩ = some (.int .i64 p.kind) ∧ W.cell? ⟨A, 1, none⟩ = some (.int .u64 (p.num : Int)) ∧ W.cell? ⟨A, 2, none⟩ = some (.string p.text) ∧ W.cell? ⟨A, 3, none⟩ = some (.int .i64 p.ref)) ∧ (W.cell? ⟨B, 0, none⟩ = some (.int .i64 q.kind) ∧ W.cell? ⟨B, 1, none⟩ = some (.int .u64 (q.num : Int)) ∧ W.cell? ⟨B, 2, none⟩ = some (.string q.text) ∧ W.cell? ⟨B, 3, none⟩ = some (.int .i64 q.ref))) := fun W hW => ⟨four_cells ((hW.block A (lt17 t0)).trans t0), four_cells ((hW.block B (lt17 t1)).trans t1)⟩
  have cP := fun W => specValueOk_any p W okp.1
  have cQ := fun W => specValueOk_any q W okq.1
  have iP := fun W => iValueOk_any p W okp.1
  have iQ := fun W => iValueOk_any q W okq.1
  obtain ⟨vp, hvp⟩ : ∃ b, valOk p = b := ⟨_, rfl⟩
  obtain ⟨vq, hvq⟩ : ∃ b, valOk q = b := ⟨_, rfl⟩
  simp only [hvp] at cP iP
  simp only [hvq] at cQ iQ
  have HV : Hid (valOk p = vp ∧ valOk q = vq ∧ valL p ∧ valL q) := ⟨hvp, hvq, okp, okq⟩
  clear hW2 t0 t1 tz tb b1 hvp hvq okp okq
  obtain ⟨⟨a0', a1', a2', a3'⟩, d0', d1', d2', d3'⟩ := HK.out W2 (Below.refl _ _)
  cases vp with
  | false =>
    go_upto_region 5 with (go_at_call 8; (with_reducible refine (cP _).mono ?_); rintro e w2 ⟨rfl, b2⟩)
    have HBW : Hid (Below w.heap.size w w2) := chain HBW2.out b2
    clear a0' a1' a2' a3' d0' d1' d2' d3'
    obtain ⟨⟨a0, a1, a2, a3⟩, d0, d1, d2, d3⟩ := HK.out w2 b2
    have r0 := cell_regrown a0
    have r1 := cell_regrown a1
    have r2 := cell_regrown a2
    have r3 := cell_regrown a3
    have s0 := cell_regrown d0
    have s1 := cell_regrown d1
    have s2 := cell_regrown d2
    have s3 := cell_regrown d3
    have T1 := fun d os => Calls.regrown_of (w := w2) (d := d) (os := os) (cP (grow (redrawn w2 d) os))
    have T2 := fun d os => Calls.regrown_of (w := w2) (d := d) (os := os) (cQ (grow (redrawn w2 d) os))
    have T3 := fun d os => Calls.regrown_of (w := w2) (d := d) (os := os) (iP (grow (redrawn w2 d) os))
    have T4 := fun d os => Calls.regrown_of (w := w2) (d := d) (os := os) (iQ (grow (redrawn w2 d) os))
    clear cP cQ iP iQ
    refine wp_region_quiet_below (by kernel_rfl) (by kernel_rfl) ?_
    repeat (first | go_big_quiet_step (first | with_reducible exact T1 _ _ | with_reducible exact T2 _ _ | with_reducible exact T3 _ _ | with_reducible exact T4 _ _) | quiet_step (first | with_reducible exact T1 _ _ | with_reducible exact T2 _ _ | with_reducible exact T3 _ _ | with_reducible exact T4 _ _))
    refine wpQuiet_nil ?_
    intro _ hw'
    obtain ⟨⟨dq, osq⟩, hw''⟩ := hw'
    subst hw''
    go_wp2
    go_ret
    exact ⟨rfl, chain HBW.out (below_regrown w2 dq osq)⟩
  | true =>
  cases vq with
  | false =>
    go_upto_region 5 with (first | (go_at_call 8; (with_reducible refine (cP _).mono ?_); rintro e wz ⟨rfl, bz⟩; obtain ⟨⟨z0, z1, z2, z3⟩, y0, y1, y2, y3⟩ := HK.out wz bz) | (go_at_call 8; (with_reducible refine (cQ _).mono ?_); rintro e w2 ⟨rfl, b2⟩))
    have HBW : Hid (Below w.heap.size w w2) := chain HBW2.out (chain bz b2)
    clear a0' a1' a2' a3' d0' d1' d2' d3' z0 z1 z2 z3 y0 y1 y2 y3
    obtain ⟨⟨a0, a1, a2, a3⟩, d0, d1, d2, d3⟩ := HK.out w2 (chain bz b2)
    have r0 := cell_regrown a0
    have r1 := cell_regrown a1
    have r2 := cell_regrown a2
    have r3 := cell_regrown a3
    have s0 := cell_regrown d0
    have s1 := cell_regrown d1
    have s2 := cell_regrown d2
    have s3 := cell_regrown d3
    have T1 := fun d os => Calls.regrown_of (w := w2) (d := d) (os := os) (cP (grow (redrawn w2 d) os))
    have T2 := fun d os => Calls.regrown_of (w := w2) (d := d) (os := os) (cQ (grow (redrawn w2 d) os))
    have T3 := fun d os => Calls.regrown_of (w := w2) (d := d) (os := os) (iP (grow (redrawn w2 d) os))
    have T4 := fun d os => Calls.regrown_of (w := w2) (d := d) (os := os) (iQ (grow (redrawn w2 d) os))
    clear cP cQ iP iQ
    refine wp_region_quiet_below (by kernel_rfl) (by kernel_rfl) ?_
    repeat (first | go_big_quiet_step (first | with_reducible exact T1 _ _ | with_reducible exact T2 _ _ | with_reducible exact T3 _ _ | with_reducible exact T4 _ _) | quiet_step (first | with_reducible exact T1 _ _ | with_reducible exact T2 _ _ | with_reducible exact T3 _ _ | with_reducible exact T4 _ _))
    refine wpQuiet_nil ?_
    intro _ hw'
    obtain ⟨⟨dq, osq⟩, hw''⟩ := hw'
    subst hw''
    go_wp2
    go_ret
    exact ⟨rfl, chain HBW.out (below_regrown w2 dq osq)⟩
  | true =>
  go_upto_region 6 with (first | (go_at_call 8; (with_reducible refine (cP _).mono ?_); rintro e wz ⟨rfl, bz⟩; obtain ⟨⟨z0, z1, z2, z3⟩, y0, y1, y2, y3⟩ := HK.out wz bz) | (go_at_call 8; (with_reducible refine (cQ _).mono ?_); rintro e w2 ⟨rfl, b2⟩))
  have HB2 : Hid (Below W2.heap.size W2 w2) := chain bz b2
  clear a0' a1' a2' a3' d0' d1' d2' d3' z0 z1 z2 z3 y0 y1 y2 y3 cP cQ iP iQ bz b2
  obtain ⟨⟨⟨lk, lx, ls, lr⟩, lt⟩, el⟩ : ∃ x, bin17V 6 p q = x := ⟨_, rfl⟩
  obtain ⟨⟨⟨mk, mx, ms, mr⟩, mt⟩, em⟩ : ∃ x, bin17V 7 p q = x := ⟨_, rfl⟩
  obtain ⟨⟨⟨gk, gx, gs, gr⟩, gt⟩, eg⟩ : ∃ x, bin17V 8 q p = x := ⟨_, rfl⟩
  obtain ⟨SM, hSM⟩ : ∃ x, valSame p q = x := ⟨_, rfl⟩
  have es : bin17V 10 p q = (boolV SM, ⟨#[]⟩) := by rw [← hSM]; rfl
  have eo : bin17V 11 p q = (boolV (!SM), ⟨#[]⟩) := by rw [← hSM]; rfl
  have hv1 := HV.out.1
  have hv2 := HV.out.2.1
  have HBAD : Hid (lt = ⟨#[]⟩ ∨ lt = ⟨#[116, 121, 112, 101]⟩) := by
    rcases cmp_bad p q with h | h
    · rw [el] at h; exact .inl h
    · rw [el] at h; exact .inr (congrArg Prod.snd h)
  have HGOOD : Hid (lt = ⟨#[]⟩ → (⟨gk, gx, gs, gr⟩ : PVal) = ⟨lk, lx, ls, lr⟩ ∧ trueI ⟨mk, mx, ms, mr⟩ = (trueI ⟨lk, lx, ls, lr⟩ || SM)) := fun h => by
    have k := cmp_good p q hv1 hv2 (by rw [el]; exact h)
    rw [el, em, eg, hSM] at k
    exact k
  have wl := cmp_w (op := 6) (.inl rfl) p q
  have wm := cmp_w (op := 7) (.inr (.inl rfl)) p q
  rw [el] at wl
  rw [em] at wm
  have hs1 : p.text.size ≤ 1048576 := by have := HV.out.2.2.1.2; omega
  have hs2 : q.text.size ≤ 1048576 := by have := HV.out.2.2.2.2; omega
  have cL := fun W (hW : Below W2.heap.size W2 W) => iDoBinary_any 6 p q W HV.out.2.2.1.1 HV.out.2.2.2.1 hs1 hs2 (HG.out W (chain HBW2.out hW))
  have cM := fun W (hW : Below W2.heap.size W2 W) => iDoBinary_any 7 p q W HV.out.2.2.1.1 HV.out.2.2.2.1 hs1 hs2 (HG.out W (chain HBW2.out hW))
  have cG := fun W (hW : Below W2.heap.size W2 W) => iDoBinary_any 8 q p W HV.out.2.2.2.1 HV.out.2.2.1.1 hs2 hs1 (HG.out W (chain HBW2.out hW))
  have cS := fun W (hW : Below W2.heap.size W2 W) => iDoBinary_any 10 p q W HV.out.2.2.1.1 HV.out.2.2.2.1 hs1 hs2 (HG.out W (chain HBW2.out hW))
  have cO := fun W (hW : Below W2.heap.size W2 W) => iDoBinary_any 11 p q W HV.out.2.2.1.1 HV.out.2.2.2.1 hs1 hs2 (HG.out W (chain HBW2.out hW))
  simp only [el, pairV] at cL
  simp only [em, pairV] at cM
  simp only [eg, pairV] at cG
  have tS := fun W => iIsTrue_any (boolV SM) W (valW_bool _)
  have tO := fun W => iIsTrue_any (boolV (!SM)) W (valW_bool _)
  have tL := fun W => iIsTrue_any ⟨lk, lx, ls, lr⟩ W wl
  have tM := fun W => iIsTrue_any ⟨mk, mx, ms, mr⟩ W wm
  rw [trueI_bool] at tS tO
  simp only at tL tM
  obtain ⟨⟨sk, sx, ss, sr⟩, hsv⟩ : ∃ v, boolV SM = v := ⟨_, rfl⟩
  obtain ⟨⟨ok, ox, os, or⟩, hov⟩ : ∃ v, boolV (!SM) = v := ⟨_, rfl⟩
  simp only [es, pairV, hsv] at cS
  simp only [eo, pairV, hov] at cO
  simp only [hsv] at tS
  simp only [hov] at tO
  have hE := fun W => eqFour ⟨lk, lx, ls, lr⟩ ⟨lk, lx, ls, lr⟩ W
  simp only [eqP_self] at hE
  have hst := stoodValue17
  clear el em eg es eo hSM hsv hov wl wm hv1 hv2 hs1 hs2 HG HV
  obtain ⟨⟨a0, a1, a2, a3⟩, d0, d1, d2, d3⟩ := HK.out w2 HB2.out
  have c1 := cL w2 HB2.out
  go_upto_region 7 with (go_at_call 10; (with_reducible refine c1.mono ?_); rintro e u6 ⟨rfl, b6⟩)
  clear a0 a1 a2 a3 d0 d1 d2 d3 c1 cL
  have hXL := heap_alloc_new u6 (.cells #[.int .i64 lk, .int .u64 (lx : Int), .string ls, .int .i64 lr] 26)
  have ba6 : Below u6.heap.size u6 (u6.alloc (.cells #[.int .i64 lk, .int .u64 (lx : Int), .string ls, .int .i64 lr] 26)) := (Below.refl _ _).alloc (Nat.le_refl _) _
  obtain ⟨XL, eXL⟩ : ∃ k, u6.heap.size = k := ⟨_, rfl⟩
  obtain ⟨V6, eV6⟩ : ∃ W, u6.alloc (.cells #[.int .i64 lk, .int .u64 (lx : Int), .string ls, .int .i64 lr] 26) = W := ⟨_, rfl⟩
  rw [eV6, eXL] at hXL
  rw [eV6] at ba6
  try simp only [eV6, eXL]
  have HV6 : Hid (Below w2.heap.size w2 V6) := chain b6 ba6
  have HB6 : Hid (Below W2.heap.size W2 V6) := chain HB2.out HV6.out
  have HXL : Hid (V6.heap[XL]? = some (.cells #[.int .i64 lk, .int .u64 (lx : Int), .string ls, .int .i64 lr] 26 (0, 0))) := hXL
  clear hXL ba6 b6 eV6 eXL
  obtain ⟨⟨a0, a1, a2, a3⟩, d0, d1, d2, d3⟩ := HK.out V6 HB6.out
  have c1 := cM V6 HB6.out
  go_upto_region 8 with (go_at_call 10; (with_reducible refine c1.mono ?_); rintro e u7 ⟨rfl, b7⟩)
  clear a0 a1 a2 a3 d0 d1 d2 d3 c1 cM
  have hXM := heap_alloc_new u7 (.cells #[.int .i64 mk, .int .u64 (mx : Int), .string ms, .int .i64 mr] 26)
  have ba7 : Below u7.heap.size u7 (u7.alloc (.cells #[.int .i64 mk, .int .u64 (mx : Int), .string ms, .int .i64 mr] 26)) := (Below.refl _ _).alloc (Nat.le_refl _) _
  obtain ⟨XM, eXM⟩ : ∃ k, u7.heap.size = k := ⟨_, rfl⟩
  obtain ⟨V7, eV7⟩ : ∃ W, u7.alloc (.cells #[.int .i64 mk, .int .u64 (mx : Int), .string ms, .int .i64 mr] 26) = W := ⟨_, rfl⟩
  rw [eV7, eXM] at hXM
  rw [eV7] at ba7
  try simp only [eV7, eXM]
  have HV7 : Hid (Below V6.heap.size V6 V7) := chain b7 ba7
  have HB7 : Hid (Below W2.heap.size W2 V7) := chain HB6.out HV7.out
  have HXM : Hid (V7.heap[XM]? = some (.cells #[.int .i64 mk, .int .u64 (mx : Int), .string ms, .int .i64 mr] 26 (0, 0))) := hXM
  clear hXM ba7 b7 eV7 eXM
  obtain ⟨⟨a0, a1, a2, a3⟩, d0, d1, d2, d3⟩ := HK.out V7 HB7.out
  have c1 := cG V7 HB7.out
  go_upto_region 9 with (go_at_call 10; (with_reducible refine c1.mono ?_); rintro e u8 ⟨rfl, b8⟩)
  clear a0 a1 a2 a3 d0 d1 d2 d3 c1 cG
  have hXG := heap_alloc_new u8 (.cells #[.int .i64 gk, .int .u64 (gx : Int), .string gs, .int .i64 gr] 26)
  have ba8 : Below u8.heap.size u8 (u8.alloc (.cells #[.int .i64 gk, .int .u64 (gx : Int), .string gs, .int .i64 gr] 26)) := (Below.refl _ _).alloc (Nat.le_refl _) _
  obtain ⟨XG, eXG⟩ : ∃ k, u8.heap.size = k := ⟨_, rfl⟩
  obtain ⟨V8, eV8⟩ : ∃ W, u8.alloc (.cells #[.int .i64 gk, .int .u64 (gx : Int), .string gs, .int .i64 gr] 26) = W := ⟨_, rfl⟩
  rw [eV8, eXG] at hXG
  rw [eV8] at ba8
  try simp only [eV8, eXG]
  have HV8 : Hid (Below V7.heap.size V7 V8) := chain b8 ba8
  have HB8 : Hid (Below W2.heap.size W2 V8) := chain HB7.out HV8.out
  have HXG : Hid (V8.heap[XG]? = some (.cells #[.int .i64 gk, .int .u64 (gx : Int), .string gs, .int .i64 gr] 26 (0, 0))) := hXG
  clear hXG ba8 b8 eV8 eXG
  obtain ⟨⟨a0, a1, a2, a3⟩, d0, d1, d2, d3⟩ := HK.out V8 HB8.out
  have c1 := cS V8 HB8.out
  go_upto_region 10 with (go_at_call 10; (with_reducible refine c1.mono ?_); rintro e u9 ⟨rfl, b9⟩)
  clear a0 a1 a2 a3 d0 d1 d2 d3 c1 cS
  have hXS := heap_alloc_new u9 (.cells #[.int .i64 sk, .int .u64 (sx : Int), .string ss, .int .i64 sr] 26)
  have ba9 : Below u9.heap.size u9 (u9.alloc (.cells #[.int .i64 sk, .int .u64 (sx : Int), .string ss, .int .i64 sr] 26)) := (Below.refl _ _).alloc (Nat.le_refl _) _
  obtain ⟨XS, eXS⟩ : ∃ k, u9.heap.size = k := ⟨_, rfl⟩
  obtain ⟨V9, eV9⟩ : ∃ W, u9.alloc (.cells #[.int .i64 sk, .int .u64 (sx : Int), .string ss, .int .i64 sr] 26) = W := ⟨_, rfl⟩
  rw [eV9, eXS] at hXS
  rw [eV9] at ba9
  try simp only [eV9, eXS]
  have HV9 : Hid (Below V8.heap.size V8 V9) := chain b9 ba9
  have HB9 : Hid (Below W2.heap.size W2 V9) := chain HB8.out HV9.out
  have HXS : Hid (V9.heap[XS]? = some (.cells #[.int .i64 sk, .int .u64 (sx : Int), .string ss, .int .i64 sr] 26 (0, 0))) := hXS
  clear hXS ba9 b9 eV9 eXS
  obtain ⟨⟨a0, a1, a2, a3⟩, d0, d1, d2, d3⟩ := HK.out V9 HB9.out
  have c1 := cO V9 HB9.out
  go_upto_region 11 with (go_at_call 10; (with_reducible refine c1.mono ?_); rintro e u10 ⟨rfl, b10⟩)
  clear a0 a1 a2 a3 d0 d1 d2 d3 c1 cO
  have hXO := heap_alloc_new u10 (.cells #[.int .i64 ok, .int .u64 (ox : Int), .string os, .int .i64 or] 26)
  have ba10 : Below u10.heap.size u10 (u10.alloc (.cells #[.int .i64 ok, .int .u64 (ox : Int), .string os, .int .i64 or] 26)) := (Below.refl _ _).alloc (Nat.le_refl _) _
  obtain ⟨XO, eXO⟩ : ∃ k, u10.heap.size = k := ⟨_, rfl⟩
  obtain ⟨V10, eV10⟩ : ∃ W, u10.alloc (.cells #[.int .i64 ok, .int .u64 (ox : Int), .string os, .int .i64 or] 26) = W := ⟨_, rfl⟩
  rw [eV10, eXO] at hXO
  rw [eV10] at ba10
  try simp only [eV10, eXO]
  have HV10 : Hid (Below V9.heap.size V9 V10) := chain b10 ba10
  have HB10 : Hid (Below W2.heap.size W2 V10) := chain HB9.out HV10.out
  have HXO : Hid (V10.heap[XO]? = some (.cells #[.int .i64 ok, .int .u64 (ox : Int), .string os, .int .i64 or] 26 (0, 0))) := hXO
  clear hXO ba10 b10 eV10 eXO
  have B67 := HV7.out
  have B78 := HV8.out
  have B89 := HV9.out
  have B90 := HV10.out
  have g9 := chain B89 B90
  have g8 := chain B78 g9
  have g7 := chain B67 g8
  obtain ⟨l0, l1, l2, l3⟩ := four_cells ((g7.block XL (lt17 HXL.out)).trans HXL.out)
  obtain ⟨m0, m1, m2, m3⟩ := four_cells ((g8.block XM (lt17 HXM.out)).trans HXM.out)
  obtain ⟨q0, q1, q2, q3⟩ := four_cells ((g9.block XG (lt17 HXG.out)).trans HXG.out)
  obtain ⟨s0, s1, s2, s3⟩ := four_cells ((B90.block XS (lt17 HXS.out)).trans HXS.out)
  obtain ⟨o0, o1, o2, o3⟩ := four_cells HXO.out
  have HBX : Hid (Below w.heap.size w V10) := chain HBW2.out HB10.out
  clear g7 g8 g9 B67 B78 B89 B90 HXL HXM HXG HXS HXO HB10 HB9 HB8 HB7 HB6 HV6 HV7 HV8 HV9 HV10 HK HB2 HBW2
  have TS := fun d os => Calls.regrown_of (w := V10) (d := d) (os := os) (tS (grow (redrawn V10 d) os))
  have TO := fun d os => Calls.regrown_of (w := V10) (d := d) (os := os) (tO (grow (redrawn V10 d) os))
  have rs0 := cell_regrown s0
  have rs1 := cell_regrown s1
  have rs2 := cell_regrown s2
  have rs3 := cell_regrown s3
  have ro0 := cell_regrown o0
  have ro1 := cell_regrown o1
  have ro2 := cell_regrown o2
  have ro3 := cell_regrown o3
  obtain ⟨NS, hNS⟩ : ∃ b, (!SM) = b := ⟨_, rfl⟩
  have hne : (SM == NS) = false := by rw [← hNS]; cases SM <;> rfl
  simp only [hNS] at TO
  have TLM : Hid _ := tL
  have TMM : Hid _ := tM
  refine wp_region_quiet_below (by kernel_rfl) (by kernel_rfl) ?_
  repeat (first | go_big_quiet_step (first | with_reducible exact TS _ _ | with_reducible exact TO _ _) | quiet_step (first | with_reducible exact TS _ _ | with_reducible exact TO _ _))
  refine wpQuiet_nil ?_
  intro _ hw'
  obtain ⟨⟨dq, osq⟩, hw''⟩ := hw'
  subst hw''
  have zl0 := cell_regrown l0 dq osq
  have zl1 := cell_regrown l1 dq osq
  have zl2 := cell_regrown l2 dq osq
  have zl3 := cell_regrown l3 dq osq
  have zm0 := cell_regrown m0 dq osq
  have zm1 := cell_regrown m1 dq osq
  have zm2 := cell_regrown m2 dq osq
  have zm3 := cell_regrown m3 dq osq
  have zq0 := cell_regrown q0 dq osq
  have zq1 := cell_regrown q1 dq osq
  have zq2 := cell_regrown q2 dq osq
  have zq3 := cell_regrown q3 dq osq
  have zs0 := cell_regrown s0 dq osq
  have zs1 := cell_regrown s1 dq osq
  have zs2 := cell_regrown s2 dq osq
  have zs3 := cell_regrown s3 dq osq
  have HBQ : Hid (Below w.heap.size w (grow (redrawn V10 dq) osq)) := chain HBX.out (below_regrown V10 dq osq)
  clear l0 l1 l2 l3 m0 m1 m2 m3 q0 q1 q2 q3 s0 s1 s2 s3 o0 o1 o2 o3 TS TO rs0 rs1 rs2 rs3 ro0 ro1 ro2 ro3 tL tM tO HBX hNS
  obtain ⟨WQ, hWQ⟩ : ∃ W, grow (redrawn V10 dq) osq = W := ⟨_, rfl⟩
  simp only [hWQ] at zl0 zl1 zl2 zl3 zm0 zm1 zm2 zm3 zq0 zq1 zq2 zq3 zs0 zs1 zs2 zs3 HBQ ⊢
  clear hWQ
  rcases HBAD.out with rfl | rfl
  · obtain ⟨hge, htm⟩ := HGOOD.out rfl
    injection hge with e1 e2 e3 e4
    subst e1 e2 e3 e4
    obtain ⟨tl, htl⟩ : ∃ b, trueI ⟨gk, gx, gs, gr⟩ = b := ⟨_, rfl⟩
    have tL := TLM.out
    have tM := TMM.out
    simp only [htl] at tL htm
    simp only [htm] at tM
    clear TLM TMM HGOOD HBAD htm htl
    have T1 := fun d os => Calls.regrown_of (w := WQ) (d := d) (os := os) (tM (grow (redrawn WQ d) os))
    have T2 := fun d os => Calls.regrown_of (w := WQ) (d := d) (os := os) (tL (grow (redrawn WQ d) os))
    have T3 := fun d os => Calls.regrown_of (w := WQ) (d := d) (os := os) (tS (grow (redrawn WQ d) os))
    clear tL tM tS
    have yl0 := cell_regrown zl0
    have yl1 := cell_regrown zl1
    have yl2 := cell_regrown zl2
    have yl3 := cell_regrown zl3
    have ym0 := cell_regrown zm0
    have ym1 := cell_regrown zm1
    have ym2 := cell_regrown zm2
    have ym3 := cell_regrown zm3
    have yq0 := cell_regrown zq0
    have yq1 := cell_regrown zq1
    have yq2 := cell_regrown zq2
    have yq3 := cell_regrown zq3
    have ys0 := cell_regrown zs0
    have ys1 := cell_regrown zs1
    have ys2 := cell_regrown zs2
    have ys3 := cell_regrown zs3
    clear zl0 zl1 zl2 zl3 zm0 zm1 zm2 zm3 zq0 zq1 zq2 zq3 zs0 zs1 zs2 zs3 hne
    go_upto_region 15 with fail
    cases tl
    all_goals
      cases SM
      all_goals
        refine wp_region_quiet_below (by kernel_rfl) (by kernel_rfl) ?_
        repeat (first | go_big_quiet_step (first | with_reducible exact T1 _ _ | with_reducible exact T2 _ _ | with_reducible exact T3 _ _) | quiet_step (first | with_reducible exact T1 _ _ | with_reducible exact T2 _ _ | with_reducible exact T3 _ _))
        refine wpQuiet_nil ?_
        intro _ hw'
        obtain ⟨⟨dz, osz⟩, hw''⟩ := hw'
        subst hw''
        go_wp2
        go_ret
        exact ⟨rfl, chain HBQ.out (below_regrown WQ dz osz)⟩
  · clear TLM TMM HGOOD HBAD tS hE
    go_wp2
    go_ret
    exact ⟨rfl, HBQ.out⟩
end Go.Proofs.YtcdbifcidaafnaaGreatDoor
