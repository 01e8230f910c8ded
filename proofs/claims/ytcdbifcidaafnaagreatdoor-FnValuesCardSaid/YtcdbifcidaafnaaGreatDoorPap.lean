/-
  Part 16 of what is proved of drawn right trees.
-/
import Derived.Test.YtcdbifcidaafnaaGreatDoorPaf
import Derived.Test.YtcdbifcidaafnaaGreatDoorPao
import Derived.Test.YtcdbifcidaafnaaGreatDoorPaa
import Derived.Test.YtcdbifcidaafnaaGreatDoorPal
import Derived.Test.YtcdbifcidaafnaaGreatDoorPam
import Derived.Test.YtcdbifcidaafnaaGreatDoorPai
import Derived.Test.YtcdbifcidaafnaaGreatDoorPab
import Derived.Lib.QuietBelow

namespace Go.Proofs.YtcdbifcidaafnaaGreatDoor
open Go.RowKit Go.Sort
set_option linter.unusedVariables false
set_option linter.unusedSimpArgs false
theorem neg_neg {x : Nat} (h : kindN x ≠ 1) (hx : x < 18446744073709551616) : negN (negN x) = x := by
  have hk := (neg_kind h hx).1
  have e1 : negN x = if 9223372036854775808 ≤ x then x - 9223372036854775808 else x + 9223372036854775808 := by unfold negN; rw [if_neg h]
  have e2 : negN (negN x) = if 9223372036854775808 ≤ negN x then negN x - 9223372036854775808 else negN x + 9223372036854775808 := by
    rw [negN, if_neg (by rw [hk]; exact h)]
  rw [e2, e1]
  repeat' split
  all_goals omega
set_option maxHeartbeats 4000000 in
set_option maxRecDepth 100000 in
theorem values_rest (ad : Option Addr) (len0 cap0 : Nat) (w : World) (hl9 : len0 ≤ 9223372036854775807) (hbig : ¬ 1048576 < len0) (hcode : CodeIn w ad len0 w.heap.size) (hg : EtOk w) :
    Calls Tryz.prog 3 #[.slice ad len0 cap0] w fun e w' => e = .returned (.bool true) ∧ Below w.heap.size w w' := by
  have cD := drawDoBinary_any ad len0 cap0 _ hcode
  have hbg : ¬ (1048576 : Int) < (len0 : Int) := by omega
  have HG : Hid (∀ W, Below w.heap.size w W → EtOk W) := fun W hW => hg.more hW
  clear hcode hg
  go_enter Tryz.func3, Tryz.ntmps3
  go_upto_region 3 with (go_at_call 6; (with_reducible refine (big_any ad len0 cap0 _ hl9).mono ?_); rintro e w0 ⟨rfl, rfl⟩)
  go_upto_region 4 with (go_at_call 7; (with_reducible refine cD.mono ?_); rintro e w1 ⟨op, p, q, rfl, okp, okq, b1⟩)
  clear cD
  obtain ⟨t0, t1, tz, tb⟩ := two_made w1 (.cells #[.int .i64 p.kind, .int .u64 (p.num : Int), .string p.text, .int .i64 p.ref] 26) (.cells #[.int .i64 q.kind, .int .u64 (q.num : Int), .string q.text, .int .i64 q.ref] 26)
  obtain ⟨W2, hW2⟩ : ∃ W, ((w1.alloc (.cells #[.int .i64 p.kind, .int .u64 (p.num : Int), .string p.text, .int .i64 p.ref] 26)).alloc (.cells #[.int .i64 q.kind, .int .u64 (q.num : Int), .string q.text, .int .i64 q.ref] 26)) = W := ⟨_, rfl⟩
  rw [hW2] at t0 t1 tz tb
  try simp only [hW2]
  obtain ⟨A, hA⟩ : ∃ A, w1.heap.size = A := ⟨_, rfl⟩
  obtain ⟨B, hB⟩ : ∃ B, A + 1 = B := ⟨_, rfl⟩
  rw [hA] at t0 t1
  rw [hB] at t1
  try simp only [hA, hB]
  have HBW2 : Hid (Below w.heap.size w W2) := chain b1 tb
  have HK : Hid (∀ W, Below W2.heap.size W2 W → (W.cell? ⟨A, 0, none⟩ = some (.int .i64 p.kind) ∧ W.cell? ⟨A, 1, none⟩ = some (.int .u64 (p.num : Int)) ∧ W.cell? ⟨A, 2, none⟩ = some (.string p.text) ∧ W.cell? ⟨A, 3, none⟩ = some (.int .i64 p.ref)) ∧ (W.cell? ⟨B, 0, none⟩ = some (.int .i64 q.kind) ∧ W.cell? ⟨B, 1, none⟩ = some (.int .u64 (q.num : Int)) ∧ W.cell? ⟨B, 2, none⟩ = some (.string q.text) ∧ W.cell? ⟨B, 3, none⟩ = some (.int .i64 q.ref))) := fun W hW => ⟨four_cells ((hW.block A (lt17 t0)).trans t0), four_cells ((hW.block B (lt17 t1)).trans t1)⟩
  have cP := fun W => specValueOk_any p W okp.1
  have cQ := fun W => specValueOk_any q W okq.1
  have iP := fun W => iValueOk_any p W okp.1
  have iQ := fun W => iValueOk_any q W okq.1
  obtain ⟨vp, hvp⟩ : ∃ b, valOk p = b := ⟨_, rfl⟩
  obtain ⟨vq, hvq⟩ : ∃ b, valOk q = b := ⟨_, rfl⟩
  simp only [hvp] at cP iP
  simp only [hvq] at cQ iQ
  have HV : Hid (valOk p = vp ∧ valOk q = vq ∧ valL p ∧ valL q) := ⟨hvp, hvq, okp, okq⟩
  clear hW2 t0 t1 tz tb b1 hvp hvq okp okq
  obtain ⟨⟨a0', a1', a2', a3'⟩, d0', d1', d2', d3'⟩ := HK.out W2 (Below.refl _ _)
  cases vp with
  | false =>
    go_upto_region 5 with (go_at_call 8; (with_reducible refine (cP _).mono ?_); rintro e w2 ⟨rfl, b2⟩)
    have HBW : Hid (Below w.heap.size w w2) := chain HBW2.out b2
    clear a0' a1' a2' a3' d0' d1' d2' d3'
    obtain ⟨⟨a0, a1, a2, a3⟩, d0, d1, d2, d3⟩ := HK.out w2 b2
    clear cP cQ iQ
    go_wp2_with (go_at_call 9; (with_reducible refine (iP _).mono ?_); rintro e w3 ⟨rfl, b3⟩)
    go_ret
    exact ⟨rfl, chain HBW.out b3⟩
  | true =>
  cases vq with
  | false =>
    go_upto_region 5 with (first | (go_at_call 8; (with_reducible refine (cP _).mono ?_); rintro e wz ⟨rfl, bz⟩; obtain ⟨⟨z0, z1, z2, z3⟩, y0, y1, y2, y3⟩ := HK.out wz bz) | (go_at_call 8; (with_reducible refine (cQ _).mono ?_); rintro e w2 ⟨rfl, b2⟩))
    have HB2 : Hid (Below W2.heap.size W2 w2) := chain bz b2
    clear a0' a1' a2' a3' d0' d1' d2' d3' z0 z1 z2 z3 y0 y1 y2 y3
    obtain ⟨⟨a0, a1, a2, a3⟩, d0, d1, d2, d3⟩ := HK.out w2 (chain bz b2)
    clear cP cQ
    go_wp2_with (first | (go_at_call 9; (with_reducible refine (iP _).mono ?_); rintro e w3 ⟨rfl, b3⟩; obtain ⟨⟨z0, z1, z2, z3⟩, y0, y1, y2, y3⟩ := HK.out w3 (chain HB2.out b3)) | (go_at_call 9; (with_reducible refine (iQ _).mono ?_); rintro e w4 ⟨rfl, b4⟩))
    go_ret
    exact ⟨rfl, chain HBW2.out (chain HB2.out (chain b3 b4))⟩
  | true =>
  go_upto_region 6 with (first | (go_at_call 8; (with_reducible refine (cP _).mono ?_); rintro e wz ⟨rfl, bz⟩; obtain ⟨⟨z0, z1, z2, z3⟩, y0, y1, y2, y3⟩ := HK.out wz bz) | (go_at_call 8; (with_reducible refine (cQ _).mono ?_); rintro e w2 ⟨rfl, b2⟩))
  have HB2 : Hid (Below W2.heap.size W2 w2) := chain bz b2
  clear a0' a1' a2' a3' d0' d1' d2' d3' z0 z1 z2 z3 y0 y1 y2 y3 cP cQ iP iQ bz b2
  have wp := HV.out.2.2.1.1
  have wq := HV.out.2.2.2.1
  have hf := bin_form op p q wp.2.1 wq.2.1
  have hs1 : p.text.size ≤ 1048576 := by have := HV.out.2.2.1.2; omega
  have hs2 : q.text.size ≤ 1048576 := by have := HV.out.2.2.2.2; omega
  have cI := fun W (hW : Below W2.heap.size W2 W) => iDoBinary_any op p q W wp wq hs1 hs2 (HG.out W (chain HBW2.out hW))
  have cS := fun W => specDoBinary_v op p q W wp wq hs1 hs2
  have HM : Hid (∀ W, Below W2.heap.size W2 W → Calls Tryz.prog 14 #[.agg #[.int .i64 p.kind, .int .u64 (p.num : Int), .string p.text, .int .i64 p.ref]] W fun e w' => e = .returned (.tuple #[.agg #[.int .i64 (minusV p).1.kind, .int .u64 ((minusV p).1.num : Int), .string (minusV p).1.text, .int .i64 (minusV p).1.ref], .string (minusV p).2]) ∧ Below W.heap.size W w') := fun W hW => iDoMinus_any p W wp (HG.out W (chain HBW2.out hW))
  obtain ⟨⟨⟨vk, vx, vs, vr⟩, vt⟩, ev⟩ : ∃ x, bin17V op p q = x := ⟨_, rfl⟩
  simp only [ev, pairV] at cI cS hf
  have HF : Hid _ := hf
  clear ev wp wq hf hs1 hs2 HG
  obtain ⟨⟨a0, a1, a2, a3⟩, d0, d1, d2, d3⟩ := HK.out w2 HB2.out
  have c1 := cI w2 HB2.out
  go_upto_region 7 with (go_at_call 10; (with_reducible refine c1.mono ?_); rintro e u6 ⟨rfl, b6⟩)
  clear a0 a1 a2 a3 d0 d1 d2 d3 c1 cI
  have hXL := heap_alloc_new u6 (.cells #[.int .i64 vk, .int .u64 (vx : Int), .string vs, .int .i64 vr] 26)
  have ba6 : Below u6.heap.size u6 (u6.alloc (.cells #[.int .i64 vk, .int .u64 (vx : Int), .string vs, .int .i64 vr] 26)) := (Below.refl _ _).alloc (Nat.le_refl _) _
  obtain ⟨XL, eXL⟩ : ∃ k, u6.heap.size = k := ⟨_, rfl⟩
  obtain ⟨V6, eV6⟩ : ∃ W, u6.alloc (.cells #[.int .i64 vk, .int .u64 (vx : Int), .string vs, .int .i64 vr] 26) = W := ⟨_, rfl⟩
  rw [eV6, eXL] at hXL
  rw [eV6] at ba6
  try simp only [eV6, eXL]
  have HB6 : Hid (Below W2.heap.size W2 V6) := chain HB2.out (chain b6 ba6)
  have HXL : Hid (V6.heap[XL]? = some (.cells #[.int .i64 vk, .int .u64 (vx : Int), .string vs, .int .i64 vr] 26 (0, 0))) := hXL
  clear hXL ba6 b6 eV6 eXL
  obtain ⟨⟨a0, a1, a2, a3⟩, d0, d1, d2, d3⟩ := HK.out V6 HB6.out
  go_upto_region 8 with (go_at_call 11; (with_reducible refine (cS _).mono ?_); rintro e u7 ⟨rfl, b7⟩)
  have bV7 : Below u7.heap.size u7 (u7.alloc (.cells #[.int .i64 vk, .int .u64 (vx : Int), .string vs, .int .i64 vr] 26)) := (Below.refl _ _).alloc (Nat.le_refl _) _
  obtain ⟨V7, eV7⟩ : ∃ W, u7.alloc (.cells #[.int .i64 vk, .int .u64 (vx : Int), .string vs, .int .i64 vr] 26) = W := ⟨_, rfl⟩
  rw [eV7] at bV7
  simp only [eV7]
  have HB67 : Hid (Below V6.heap.size V6 V7) := chain b7 bV7
  have HB7 : Hid (Below W2.heap.size W2 V7) := chain HB6.out HB67.out
  obtain ⟨v0, v1, v2, v3⟩ := four_cells ((HB67.out.block XL (lt17 HXL.out)).trans HXL.out)
  clear a0 a1 a2 a3 d0 d1 d2 d3 bV7 b7 eV7 cS HXL HB67 HB6
  go_cut [67] (fun v wr => v = .bool false ∧ Below V7.heap.size V7 wr)
  case first =>
    rcases HF.out with ⟨rfl, h1, h2⟩ | ⟨h1, rfl | rfl⟩
    · have cV := fun W => iValueOk_any ⟨vk, vx, vs, vr⟩ W h2
      simp only [h1] at cV
      clear h1 h2 HF
      go_wp2_with (go_at_call 9; (with_reducible refine (cV _).mono ?_); rintro e w8 ⟨rfl, b8⟩)
      go_meet
      case rel => exact ⟨rfl, b8⟩
    all_goals
      injection h1 with e1 e2 e3 e4
      subst e1 e2 e3 e4
      have cV : ∀ W, Calls Tryz.prog 9 #[.agg #[.int .i64 0, .int .u64 0, .string ⟨#[]⟩, .int .i64 0]] W fun e w' => e = .returned (.bool true) ∧ Below W.heap.size W w' := fun W => iValueOk_any noneV W valW_none
      clear HF
      have hlt := World.block_lt_of_cell? V7 ⟨XL, 0, none⟩ v0
      go_wp2_with (go_at_call 9; (with_reducible refine (cV _).mono ?_); rintro e w8 ⟨rfl, b8⟩; have z0 := (b8.cell (p := ⟨XL, 0, none⟩) hlt).trans v0)
      go_meet
      case rel => exact ⟨rfl, b8⟩
  case rest =>
  obtain ⟨rfl, bc⟩ := hcut
  have HBc : Hid (Below W2.heap.size W2 wc) := chain HB7.out bc
  clear v0 v1 v2 v3 bc HF HB7
  obtain ⟨⟨a0, a1, a2, a3⟩, d0, d1, d2, d3⟩ := HK.out wc HBc.out
  have cpp := fun W => iSameValue_any p p W HV.out.2.2.1.1 HV.out.2.2.1.1
  have cpq := fun W => iSameValue_any p q W HV.out.2.2.1.1 HV.out.2.2.2.1
  have cqp := fun W => iSameValue_any q p W HV.out.2.2.2.1 HV.out.2.2.1.1
  have cnn := fun W => nan_any p.num W HV.out.2.2.1.1.2.1
  have cit := fun W => iIsTrue_any p W HV.out.2.2.1.1
  have cst := fun W => specIsTrue_any p W HV.out.2.2.1.1
  have cng := fun (h : ¬ kindN p.num = 1) W => specNegate_any (negN p.num) W (negN_lt HV.out.2.2.1.1.2.1)
  have csm := fun (h2 : p.kind = 2) (h : ¬ kindN p.num = 1) W => iSameValue_any p ⟨2, negN (negN p.num), ⟨#[]⟩, 0⟩ W HV.out.2.2.1.1 (valW_num (negN_lt (negN_lt HV.out.2.2.1.1.2.1)))
  have cst' := fun W (h3 : p.kind = 3) => iShowText p.num p.text p.ref W (by have := HV.out.2.2.1.2; omega)
  rw [true_same HV.out.1] at cit
  rw [same_comm q p] at cqp
  rw [same_self] at cpp
  obtain ⟨SM, hSM⟩ : ∃ x, valSame p q = x := ⟨_, rfl⟩
  obtain ⟨TR, hTR⟩ : ∃ x, valTrue p = x := ⟨_, rfl⟩
  simp only [hSM] at cpq cqp
  simp only [hTR] at cit cst
  have hcsm : p.kind = 2 → ¬ kindN p.num = 1 → valSame p ⟨2, negN (negN p.num), ⟨#[]⟩, 0⟩ = true := fun h2 h => by
    rw [neg_neg h HV.out.2.2.1.1.2.1]
    unfold valSame equalN
    simp [h2, h]
  have HMV : Hid (p.kind = 2 → minusV p = (⟨2, negN p.num, ⟨#[]⟩, 0⟩, ⟨#[]⟩)) := fun h => by unfold minusV numV; rw [if_pos h]
  have HMO : Hid (¬ p.kind = 2 → minusV p = (⟨0, 0, ⟨#[]⟩, 0⟩, ⟨#[116, 121, 112, 101]⟩)) := fun h => by unfold minusV; rw [if_neg h]; rfl
  clear hSM hTR HV hbig hl9
  obtain ⟨pk, px, ps, pr⟩ := p
  simp only at a0 a1 a2 a3 cpp cpq cqp cnn cit cst cng csm cst' HMV HMO hcsm HM HK
  by_cases h2 : pk = 2
  · subst h2
    have hM := HM.out
    rw [HMV.out rfl] at hM
    simp only at hM
    clear HMO HMV HM
    by_cases hn : kindN px = 1
    · simp only [hn, decide_true, Bool.and_self, Bool.not_true, Bool.true_and] at cpp cnn
      clear cng csm hcsm cst'
      go_upto_region 11 with (go_at_call 12; (with_reducible refine (cnn _).mono ?_); rintro e w10 ⟨rfl, b10⟩)
      have HB10 : Hid (Below W2.heap.size W2 w10) := chain HBc.out b10
      clear a0 a1 a2 a3 d0 d1 d2 d3
      obtain ⟨⟨a0, a1, a2, a3⟩, d0, d1, d2, d3⟩ := HK.out w10 HB10.out
      have ra0 := cell_regrown a0
      have ra1 := cell_regrown a1
      have ra2 := cell_regrown a2
      have ra3 := cell_regrown a3
      have rd0 := cell_regrown d0
      have rd1 := cell_regrown d1
      have rd2 := cell_regrown d2
      have rd3 := cell_regrown d3
      have T0 := fun d os => Calls.regrown_of (w := w10) (d := d) (os := os) (cpp (grow (redrawn w10 d) os))
      have T1 := fun d os => Calls.regrown_of (w := w10) (d := d) (os := os) (cpq (grow (redrawn w10 d) os))
      have T2 := fun d os => Calls.regrown_of (w := w10) (d := d) (os := os) (cqp (grow (redrawn w10 d) os))
      clear cpp cpq cqp cnn
      refine wp_region_quiet_below (by kernel_rfl) (by kernel_rfl) ?_
      repeat (first | go_big_quiet_step (first | with_reducible exact T0 _ _ | with_reducible exact T1 _ _ | with_reducible exact T2 _ _) | quiet_step (first | with_reducible exact T0 _ _ | with_reducible exact T1 _ _ | with_reducible exact T2 _ _))
      refine wpQuiet_nil ?_
      intro _ hw'
      obtain ⟨⟨dq, osq⟩, hw''⟩ := hw'
      subst hw''
      have HBWQ : Hid (Below W2.heap.size W2 (grow (redrawn w10 dq) osq)) := chain HB10.out (below_regrown w10 dq osq)
      obtain ⟨WQ, hWQ⟩ : ∃ W, grow (redrawn w10 dq) osq = W := ⟨_, rfl⟩
      simp only [hWQ] at HBWQ ⊢
      clear a0 a1 a2 a3 d0 d1 d2 d3 ra0 ra1 ra2 ra3 rd0 rd1 rd2 rd3 T0 T1 T2 hWQ
      obtain ⟨⟨a0, a1, a2, a3⟩, d0, d1, d2, d3⟩ := HK.out WQ HBWQ.out
      have c1 := hM WQ HBWQ.out
      clear hM
      go_upto_region 14 with (go_at_call 14; (with_reducible refine c1.mono ?_); rintro e w13 ⟨rfl, b13⟩)
      have hXM := heap_alloc_new w13 (.cells #[.int .i64 2, .int .u64 (negN px : Int), .string ⟨#[]⟩, .int .i64 0] 26)
      have ba13 : Below w13.heap.size w13 (w13.alloc (.cells #[.int .i64 2, .int .u64 (negN px : Int), .string ⟨#[]⟩, .int .i64 0] 26)) := (Below.refl _ _).alloc (Nat.le_refl _) _
      obtain ⟨XM, eXM⟩ : ∃ k, w13.heap.size = k := ⟨_, rfl⟩
      obtain ⟨V13, eV13⟩ : ∃ W, w13.alloc (.cells #[.int .i64 2, .int .u64 (negN px : Int), .string ⟨#[]⟩, .int .i64 0] 26) = W := ⟨_, rfl⟩
      rw [eV13, eXM] at hXM
      rw [eV13] at ba13
      try simp only [eV13, eXM]
      have HB13 : Hid (Below W2.heap.size W2 V13) := chain HBWQ.out (chain b13 ba13)
      have HXM : Hid (V13.heap[XM]? = some ((.cells #[.int .i64 2, .int .u64 (negN px : Int), .string ⟨#[]⟩, .int .i64 0] 26 (0, 0)))) := hXM
      clear hXM ba13 b13 eV13 eXM c1 a0 a1 a2 a3 d0 d1 d2 d3
      obtain ⟨⟨a0, a1, a2, a3⟩, d0, d1, d2, d3⟩ := HK.out V13 HB13.out
      go_upto_region 16 with fail
      have ra0 := cell_regrown a0
      have ra1 := cell_regrown a1
      have ra2 := cell_regrown a2
      have ra3 := cell_regrown a3
      have rd0 := cell_regrown d0
      have rd1 := cell_regrown d1
      have rd2 := cell_regrown d2
      have rd3 := cell_regrown d3
      have T0 := fun d os => Calls.regrown_of (w := V13) (d := d) (os := os) (cit (grow (redrawn V13 d) os))
      have T1 := fun d os => Calls.regrown_of (w := V13) (d := d) (os := os) (cst (grow (redrawn V13 d) os))
      clear cit cst
      refine wp_region_quiet_below (by kernel_rfl) (by kernel_rfl) ?_
      repeat (first | go_big_quiet_step (first | with_reducible exact T0 _ _ | with_reducible exact T1 _ _) | quiet_step (first | with_reducible exact T0 _ _ | with_reducible exact T1 _ _))
      refine wpQuiet_nil ?_
      intro _ hw'
      obtain ⟨⟨dq, osq⟩, hw''⟩ := hw'
      subst hw''
      have HXR : Hid ((grow (redrawn V13 dq) osq).heap[XM]? = some ((.cells #[.int .i64 2, .int .u64 (negN px : Int), .string ⟨#[]⟩, .int .i64 0] 26 (0, 0)))) := ((below_regrown V13 dq osq).block XM (lt17 HXM.out)).trans HXM.out
      have HBWR : Hid (Below W2.heap.size W2 (grow (redrawn V13 dq) osq)) := chain HB13.out (below_regrown V13 dq osq)
      obtain ⟨WR, hWR⟩ : ∃ W, grow (redrawn V13 dq) osq = W := ⟨_, rfl⟩
      simp only [hWR] at HBWR HXR ⊢
      clear a0 a1 a2 a3 d0 d1 d2 d3 ra0 ra1 ra2 ra3 rd0 rd1 rd2 rd3 T0 T1 hWR
      obtain ⟨⟨a0, a1, a2, a3⟩, d0, d1, d2, d3⟩ := HK.out WR HBWR.out
      obtain ⟨m0, m1, m2, m3⟩ := four_cells HXR.out
      go_upto_region 18 with fail
      have ra0 := cell_regrown a0
      have ra1 := cell_regrown a1
      have ra2 := cell_regrown a2
      have ra3 := cell_regrown a3
      refine wp_region_quiet_below (by kernel_rfl) (by kernel_rfl) ?_
      repeat (first | go_big_quiet_step (first | fail) | quiet_step (first | fail))
      refine wpQuiet_nil ?_
      intro _ hw'
      obtain ⟨⟨dq, osq⟩, hw''⟩ := hw'
      subst hw''
      go_wp2
      go_ret
      exact ⟨rfl, chain HBW2.out (chain HBWR.out (below_regrown WR dq osq))⟩
    · simp only [hn, decide_false, decide_true, Bool.and_false, Bool.not_false] at cpp cnn
      have cnG := cng hn
      have csM := csm rfl hn
      rw [hcsm rfl hn] at csM
      clear cst' cng csm hcsm
      go_upto_region 11 with (go_at_call 12; (with_reducible refine (cnn _).mono ?_); rintro e w10 ⟨rfl, b10⟩)
      have HB10 : Hid (Below W2.heap.size W2 w10) := chain HBc.out b10
      clear a0 a1 a2 a3 d0 d1 d2 d3
      obtain ⟨⟨a0, a1, a2, a3⟩, d0, d1, d2, d3⟩ := HK.out w10 HB10.out
      have ra0 := cell_regrown a0
      have ra1 := cell_regrown a1
      have ra2 := cell_regrown a2
      have ra3 := cell_regrown a3
      have rd0 := cell_regrown d0
      have rd1 := cell_regrown d1
      have rd2 := cell_regrown d2
      have rd3 := cell_regrown d3
      have T0 := fun d os => Calls.regrown_of (w := w10) (d := d) (os := os) (cpp (grow (redrawn w10 d) os))
      have T1 := fun d os => Calls.regrown_of (w := w10) (d := d) (os := os) (cpq (grow (redrawn w10 d) os))
      have T2 := fun d os => Calls.regrown_of (w := w10) (d := d) (os := os) (cqp (grow (redrawn w10 d) os))
      clear cpp cpq cqp cnn
      refine wp_region_quiet_below (by kernel_rfl) (by kernel_rfl) ?_
      repeat (first | go_big_quiet_step (first | with_reducible exact T0 _ _ | with_reducible exact T1 _ _ | with_reducible exact T2 _ _) | quiet_step (first | with_reducible exact T0 _ _ | with_reducible exact T1 _ _ | with_reducible exact T2 _ _))
      refine wpQuiet_nil ?_
      intro _ hw'
      obtain ⟨⟨dq, osq⟩, hw''⟩ := hw'
      subst hw''
      have HBWQ : Hid (Below W2.heap.size W2 (grow (redrawn w10 dq) osq)) := chain HB10.out (below_regrown w10 dq osq)
      obtain ⟨WQ, hWQ⟩ : ∃ W, grow (redrawn w10 dq) osq = W := ⟨_, rfl⟩
      simp only [hWQ] at HBWQ ⊢
      clear a0 a1 a2 a3 d0 d1 d2 d3 ra0 ra1 ra2 ra3 rd0 rd1 rd2 rd3 T0 T1 T2 hWQ
      obtain ⟨⟨a0, a1, a2, a3⟩, d0, d1, d2, d3⟩ := HK.out WQ HBWQ.out
      have c1 := hM WQ HBWQ.out
      clear hM
      go_upto_region 14 with (go_at_call 14; (with_reducible refine c1.mono ?_); rintro e w13 ⟨rfl, b13⟩)
      have hXM := heap_alloc_new w13 (.cells #[.int .i64 2, .int .u64 (negN px : Int), .string ⟨#[]⟩, .int .i64 0] 26)
      have ba13 : Below w13.heap.size w13 (w13.alloc (.cells #[.int .i64 2, .int .u64 (negN px : Int), .string ⟨#[]⟩, .int .i64 0] 26)) := (Below.refl _ _).alloc (Nat.le_refl _) _
      obtain ⟨XM, eXM⟩ : ∃ k, w13.heap.size = k := ⟨_, rfl⟩
      obtain ⟨V13, eV13⟩ : ∃ W, w13.alloc (.cells #[.int .i64 2, .int .u64 (negN px : Int), .string ⟨#[]⟩, .int .i64 0] 26) = W := ⟨_, rfl⟩
      rw [eV13, eXM] at hXM
      rw [eV13] at ba13
      try simp only [eV13, eXM]
      have HB13 : Hid (Below W2.heap.size W2 V13) := chain HBWQ.out (chain b13 ba13)
      have HXM : Hid (V13.heap[XM]? = some ((.cells #[.int .i64 2, .int .u64 (negN px : Int), .string ⟨#[]⟩, .int .i64 0] 26 (0, 0)))) := hXM
      clear hXM ba13 b13 eV13 eXM c1 a0 a1 a2 a3 d0 d1 d2 d3
      obtain ⟨⟨a0, a1, a2, a3⟩, d0, d1, d2, d3⟩ := HK.out V13 HB13.out
      go_upto_region 16 with fail
      have ra0 := cell_regrown a0
      have ra1 := cell_regrown a1
      have ra2 := cell_regrown a2
      have ra3 := cell_regrown a3
      have rd0 := cell_regrown d0
      have rd1 := cell_regrown d1
      have rd2 := cell_regrown d2
      have rd3 := cell_regrown d3
      have T0 := fun d os => Calls.regrown_of (w := V13) (d := d) (os := os) (cit (grow (redrawn V13 d) os))
      have T1 := fun d os => Calls.regrown_of (w := V13) (d := d) (os := os) (cst (grow (redrawn V13 d) os))
      clear cit cst
      refine wp_region_quiet_below (by kernel_rfl) (by kernel_rfl) ?_
      repeat (first | go_big_quiet_step (first | with_reducible exact T0 _ _ | with_reducible exact T1 _ _) | quiet_step (first | with_reducible exact T0 _ _ | with_reducible exact T1 _ _))
      refine wpQuiet_nil ?_
      intro _ hw'
      obtain ⟨⟨dq, osq⟩, hw''⟩ := hw'
      subst hw''
      have HXR : Hid ((grow (redrawn V13 dq) osq).heap[XM]? = some ((.cells #[.int .i64 2, .int .u64 (negN px : Int), .string ⟨#[]⟩, .int .i64 0] 26 (0, 0)))) := ((below_regrown V13 dq osq).block XM (lt17 HXM.out)).trans HXM.out
      have HBWR : Hid (Below W2.heap.size W2 (grow (redrawn V13 dq) osq)) := chain HB13.out (below_regrown V13 dq osq)
      obtain ⟨WR, hWR⟩ : ∃ W, grow (redrawn V13 dq) osq = W := ⟨_, rfl⟩
      simp only [hWR] at HBWR HXR ⊢
      clear a0 a1 a2 a3 d0 d1 d2 d3 ra0 ra1 ra2 ra3 rd0 rd1 rd2 rd3 T0 T1 hWR
      obtain ⟨⟨a0, a1, a2, a3⟩, d0, d1, d2, d3⟩ := HK.out WR HBWR.out
      obtain ⟨m0, m1, m2, m3⟩ := four_cells HXR.out
      go_upto_region 18 with fail
      have ra0 := cell_regrown a0
      have ra1 := cell_regrown a1
      have ra2 := cell_regrown a2
      have ra3 := cell_regrown a3
      have rm0 := cell_regrown m0
      have rm1 := cell_regrown m1
      have rm2 := cell_regrown m2
      have rm3 := cell_regrown m3
      have T0 := fun d os => Calls.regrown_of (w := WR) (d := d) (os := os) (cnG (grow (redrawn WR d) os))
      have T1 := fun d os => Calls.regrown_of (w := WR) (d := d) (os := os) (csM (grow (redrawn WR d) os))
      clear cnG csM
      refine wp_region_quiet_below (by kernel_rfl) (by kernel_rfl) ?_
      repeat (first | go_big_quiet_step (first | with_reducible exact T0 _ _ | with_reducible exact T1 _ _) | quiet_step (first | with_reducible exact T0 _ _ | with_reducible exact T1 _ _))
      refine wpQuiet_nil ?_
      intro _ hw'
      obtain ⟨⟨dq, osq⟩, hw''⟩ := hw'
      subst hw''
      go_wp2
      go_ret
      exact ⟨rfl, chain HBW2.out (chain HBWR.out (below_regrown WR dq osq))⟩
  · have E2 : Hid (decide (pk = 2) = false) := decide_eq_false h2
    have hM := HM.out
    rw [HMO.out h2] at hM
    simp only at hM
    have hM : ∀ W, Below W2.heap.size W2 W → Calls Tryz.prog 14 #[.agg #[.int .i64 pk, .int .u64 (px : Int), .string ps, .int .i64 pr]] W fun e w' => e = .returned (.tuple #[.agg #[.int .i64 0, .int .u64 0, .string ⟨#[]⟩, .int .i64 0], .string ⟨#[116, 121, 112, 101]⟩]) ∧ Below W.heap.size W w' := hM
    clear HMO HMV HM cng csm hcsm
    simp only [E2.out, Bool.false_and, Bool.not_false] at cpp
    have HB10 : Hid (Below W2.heap.size W2 wc) := HBc.out
    by_cases h3 : pk = 3
    · subst h3
      have cst3 := fun W => cst' W rfl
      clear cst'
      go_upto_region 11 with fail
      clear a0 a1 a2 a3 d0 d1 d2 d3
      obtain ⟨⟨a0, a1, a2, a3⟩, d0, d1, d2, d3⟩ := HK.out wc HB10.out
      have ra0 := cell_regrown a0
      have ra1 := cell_regrown a1
      have ra2 := cell_regrown a2
      have ra3 := cell_regrown a3
      have rd0 := cell_regrown d0
      have rd1 := cell_regrown d1
      have rd2 := cell_regrown d2
      have rd3 := cell_regrown d3
      have T0 := fun d os => Calls.regrown_of (w := wc) (d := d) (os := os) (cpp (grow (redrawn wc d) os))
      have T1 := fun d os => Calls.regrown_of (w := wc) (d := d) (os := os) (cpq (grow (redrawn wc d) os))
      have T2 := fun d os => Calls.regrown_of (w := wc) (d := d) (os := os) (cqp (grow (redrawn wc d) os))
      clear cpp cpq cqp cnn
      refine wp_region_quiet_below (by kernel_rfl) (by kernel_rfl) ?_
      repeat (first | go_big_quiet_step (first | with_reducible exact T0 _ _ | with_reducible exact T1 _ _ | with_reducible exact T2 _ _) | quiet_step (first | with_reducible exact T0 _ _ | with_reducible exact T1 _ _ | with_reducible exact T2 _ _))
      refine wpQuiet_nil ?_
      intro _ hw'
      obtain ⟨⟨dq, osq⟩, hw''⟩ := hw'
      subst hw''
      have HBWQ : Hid (Below W2.heap.size W2 (grow (redrawn wc dq) osq)) := chain HB10.out (below_regrown wc dq osq)
      obtain ⟨WQ, hWQ⟩ : ∃ W, grow (redrawn wc dq) osq = W := ⟨_, rfl⟩
      simp only [hWQ] at HBWQ ⊢
      clear a0 a1 a2 a3 d0 d1 d2 d3 ra0 ra1 ra2 ra3 rd0 rd1 rd2 rd3 T0 T1 T2 hWQ
      obtain ⟨⟨a0, a1, a2, a3⟩, d0, d1, d2, d3⟩ := HK.out WQ HBWQ.out
      have c1 := hM WQ HBWQ.out
      clear hM
      go_upto_region 14 with (go_at_call 14; (with_reducible refine c1.mono ?_); rintro e w13 ⟨rfl, b13⟩)
      have hXM := heap_alloc_new w13 (.cells #[.int .i64 0, .int .u64 0, .string ⟨#[]⟩, .int .i64 0] 26)
      have ba13 : Below w13.heap.size w13 (w13.alloc (.cells #[.int .i64 0, .int .u64 0, .string ⟨#[]⟩, .int .i64 0] 26)) := (Below.refl _ _).alloc (Nat.le_refl _) _
      obtain ⟨XM, eXM⟩ : ∃ k, w13.heap.size = k := ⟨_, rfl⟩
      obtain ⟨V13, eV13⟩ : ∃ W, w13.alloc (.cells #[.int .i64 0, .int .u64 0, .string ⟨#[]⟩, .int .i64 0] 26) = W := ⟨_, rfl⟩
      rw [eV13, eXM] at hXM
      rw [eV13] at ba13
      try simp only [eV13, eXM]
      have HB13 : Hid (Below W2.heap.size W2 V13) := chain HBWQ.out (chain b13 ba13)
      have HXM : Hid (V13.heap[XM]? = some ((.cells #[.int .i64 0, .int .u64 0, .string ⟨#[]⟩, .int .i64 0] 26 (0, 0)))) := hXM
      clear hXM ba13 b13 eV13 eXM c1 a0 a1 a2 a3 d0 d1 d2 d3
      obtain ⟨⟨a0, a1, a2, a3⟩, d0, d1, d2, d3⟩ := HK.out V13 HB13.out
      go_upto_region 16 with fail
      have ra0 := cell_regrown a0
      have ra1 := cell_regrown a1
      have ra2 := cell_regrown a2
      have ra3 := cell_regrown a3
      have rd0 := cell_regrown d0
      have rd1 := cell_regrown d1
      have rd2 := cell_regrown d2
      have rd3 := cell_regrown d3
      have T0 := fun d os => Calls.regrown_of (w := V13) (d := d) (os := os) (cit (grow (redrawn V13 d) os))
      have T1 := fun d os => Calls.regrown_of (w := V13) (d := d) (os := os) (cst (grow (redrawn V13 d) os))
      have T2 := fun d os => Calls.regrown_of (w := V13) (d := d) (os := os) (cst3 (grow (redrawn V13 d) os))
      clear cit cst cst3
      refine wp_region_quiet_below (by kernel_rfl) (by kernel_rfl) ?_
      repeat (first | go_big_quiet_step (first | with_reducible exact T0 _ _ | with_reducible exact T1 _ _ | with_reducible exact T2 _ _) | quiet_step (first | with_reducible exact T0 _ _ | with_reducible exact T1 _ _ | with_reducible exact T2 _ _))
      refine wpQuiet_nil ?_
      intro _ hw'
      obtain ⟨⟨dq, osq⟩, hw''⟩ := hw'
      subst hw''
      have HXR : Hid ((grow (redrawn V13 dq) osq).heap[XM]? = some ((.cells #[.int .i64 0, .int .u64 0, .string ⟨#[]⟩, .int .i64 0] 26 (0, 0)))) := ((below_regrown V13 dq osq).block XM (lt17 HXM.out)).trans HXM.out
      have HBWR : Hid (Below W2.heap.size W2 (grow (redrawn V13 dq) osq)) := chain HB13.out (below_regrown V13 dq osq)
      obtain ⟨WR, hWR⟩ : ∃ W, grow (redrawn V13 dq) osq = W := ⟨_, rfl⟩
      simp only [hWR] at HBWR HXR ⊢
      clear a0 a1 a2 a3 d0 d1 d2 d3 ra0 ra1 ra2 ra3 rd0 rd1 rd2 rd3 T0 T1 T2 hWR
      obtain ⟨⟨a0, a1, a2, a3⟩, d0, d1, d2, d3⟩ := HK.out WR HBWR.out
      obtain ⟨m0, m1, m2, m3⟩ := four_cells HXR.out
      go_upto_region 18 with fail
      have ra0 := cell_regrown a0
      have ra1 := cell_regrown a1
      have ra2 := cell_regrown a2
      have ra3 := cell_regrown a3
      refine wp_region_quiet_below (by kernel_rfl) (by kernel_rfl) ?_
      repeat (first | go_big_quiet_step (first | fail) | quiet_step (first | fail))
      refine wpQuiet_nil ?_
      intro _ hw'
      obtain ⟨⟨dq, osq⟩, hw''⟩ := hw'
      subst hw''
      go_wp2
      go_ret
      exact ⟨rfl, chain HBW2.out (chain HBWR.out (below_regrown WR dq osq))⟩
    · clear cst'
      have E3 : Hid (decide (pk = 3) = false) := decide_eq_false h3
      go_upto_region 11 with fail
      clear a0 a1 a2 a3 d0 d1 d2 d3
      obtain ⟨⟨a0, a1, a2, a3⟩, d0, d1, d2, d3⟩ := HK.out wc HB10.out
      have ra0 := cell_regrown a0
      have ra1 := cell_regrown a1
      have ra2 := cell_regrown a2
      have ra3 := cell_regrown a3
      have rd0 := cell_regrown d0
      have rd1 := cell_regrown d1
      have rd2 := cell_regrown d2
      have rd3 := cell_regrown d3
      have T0 := fun d os => Calls.regrown_of (w := wc) (d := d) (os := os) (cpp (grow (redrawn wc d) os))
      have T1 := fun d os => Calls.regrown_of (w := wc) (d := d) (os := os) (cpq (grow (redrawn wc d) os))
      have T2 := fun d os => Calls.regrown_of (w := wc) (d := d) (os := os) (cqp (grow (redrawn wc d) os))
      clear cpp cpq cqp cnn
      refine wp_region_quiet_below (by kernel_rfl) (by kernel_rfl) ?_
      repeat (first | go_big_quiet_step (first | with_reducible exact T0 _ _ | with_reducible exact T1 _ _ | with_reducible exact T2 _ _) | quiet_step (first | with_reducible exact T0 _ _ | with_reducible exact T1 _ _ | with_reducible exact T2 _ _))
      refine wpQuiet_nil ?_
      intro _ hw'
      obtain ⟨⟨dq, osq⟩, hw''⟩ := hw'
      subst hw''
      have HBWQ : Hid (Below W2.heap.size W2 (grow (redrawn wc dq) osq)) := chain HB10.out (below_regrown wc dq osq)
      obtain ⟨WQ, hWQ⟩ : ∃ W, grow (redrawn wc dq) osq = W := ⟨_, rfl⟩
      simp only [hWQ] at HBWQ ⊢
      clear a0 a1 a2 a3 d0 d1 d2 d3 ra0 ra1 ra2 ra3 rd0 rd1 rd2 rd3 T0 T1 T2 hWQ
      obtain ⟨⟨a0, a1, a2, a3⟩, d0, d1, d2, d3⟩ := HK.out WQ HBWQ.out
      have c1 := hM WQ HBWQ.out
      clear hM
      go_upto_region 14 with (go_at_call 14; (with_reducible refine c1.mono ?_); rintro e w13 ⟨rfl, b13⟩)
      have hXM := heap_alloc_new w13 (.cells #[.int .i64 0, .int .u64 0, .string ⟨#[]⟩, .int .i64 0] 26)
      have ba13 : Below w13.heap.size w13 (w13.alloc (.cells #[.int .i64 0, .int .u64 0, .string ⟨#[]⟩, .int .i64 0] 26)) := (Below.refl _ _).alloc (Nat.le_refl _) _
      obtain ⟨XM, eXM⟩ : ∃ k, w13.heap.size = k := ⟨_, rfl⟩
      obtain ⟨V13, eV13⟩ : ∃ W, w13.alloc (.cells #[.int .i64 0, .int .u64 0, .string ⟨#[]⟩, .int .i64 0] 26) = W := ⟨_, rfl⟩
      rw [eV13, eXM] at hXM
      rw [eV13] at ba13
      try simp only [eV13, eXM]
      have HB13 : Hid (Below W2.heap.size W2 V13) := chain HBWQ.out (chain b13 ba13)
      have HXM : Hid (V13.heap[XM]? = some ((.cells #[.int .i64 0, .int .u64 0, .string ⟨#[]⟩, .int .i64 0] 26 (0, 0)))) := hXM
      clear hXM ba13 b13 eV13 eXM c1 a0 a1 a2 a3 d0 d1 d2 d3
      obtain ⟨⟨a0, a1, a2, a3⟩, d0, d1, d2, d3⟩ := HK.out V13 HB13.out
      go_upto_region 16 with fail
      have ra0 := cell_regrown a0
      have ra1 := cell_regrown a1
      have ra2 := cell_regrown a2
      have ra3 := cell_regrown a3
      have rd0 := cell_regrown d0
      have rd1 := cell_regrown d1
      have rd2 := cell_regrown d2
      have rd3 := cell_regrown d3
      have T0 := fun d os => Calls.regrown_of (w := V13) (d := d) (os := os) (cit (grow (redrawn V13 d) os))
      have T1 := fun d os => Calls.regrown_of (w := V13) (d := d) (os := os) (cst (grow (redrawn V13 d) os))
      clear cit cst
      refine wp_region_quiet_below (by kernel_rfl) (by kernel_rfl) ?_
      repeat (first | go_big_quiet_step (first | with_reducible exact T0 _ _ | with_reducible exact T1 _ _) | quiet_step (first | with_reducible exact T0 _ _ | with_reducible exact T1 _ _))
      refine wpQuiet_nil ?_
      intro _ hw'
      obtain ⟨⟨dq, osq⟩, hw''⟩ := hw'
      subst hw''
      have HXR : Hid ((grow (redrawn V13 dq) osq).heap[XM]? = some ((.cells #[.int .i64 0, .int .u64 0, .string ⟨#[]⟩, .int .i64 0] 26 (0, 0)))) := ((below_regrown V13 dq osq).block XM (lt17 HXM.out)).trans HXM.out
      have HBWR : Hid (Below W2.heap.size W2 (grow (redrawn V13 dq) osq)) := chain HB13.out (below_regrown V13 dq osq)
      obtain ⟨WR, hWR⟩ : ∃ W, grow (redrawn V13 dq) osq = W := ⟨_, rfl⟩
      simp only [hWR] at HBWR HXR ⊢
      clear a0 a1 a2 a3 d0 d1 d2 d3 ra0 ra1 ra2 ra3 rd0 rd1 rd2 rd3 T0 T1 hWR
      obtain ⟨⟨a0, a1, a2, a3⟩, d0, d1, d2, d3⟩ := HK.out WR HBWR.out
      obtain ⟨m0, m1, m2, m3⟩ := four_cells HXR.out
      go_upto_region 18 with fail
      have ra0 := cell_regrown a0
      have ra1 := cell_regrown a1
      have ra2 := cell_regrown a2
      have ra3 := cell_regrown a3
      refine wp_region_quiet_below (by kernel_rfl) (by kernel_rfl) ?_
      repeat (first | go_big_quiet_step (first | fail) | quiet_step (first | fail))
      refine wpQuiet_nil ?_
      intro _ hw'
      obtain ⟨⟨dq, osq⟩, hw''⟩ := hw'
      subst hw''
      go_wp2
      go_ret
      exact ⟨rfl, chain HBW2.out (chain HBWR.out (below_regrown WR dq osq))⟩
end Go.Proofs.YtcdbifcidaafnaaGreatDoor
