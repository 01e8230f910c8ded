/-
  Part 5 of what is proved of drawn right trees.
-/
import Derived.Test.YtkmmojpfcklocaaPad

namespace Go.Proofs.Ytkmmojpfcklocaa
open Go.RowKit Go.Sort
set_option linter.unusedVariables false
theorem inB_jump (x : Int) : inB x 12 14 = (decide (12 ≤ x) && decide (x ≤ 14)) := rfl
set_option maxHeartbeats 1000000 in
set_option maxRecDepth 100000 in
theorem specJumpsOf_any (p : PImg) (k : Int) (fv cv : Value) (w : World) (h : ArgImg w fv cv p) (hw : imgW p) :
    Calls Try.prog 5 #[.agg #[fv, cv], .int .i64 k] w fun e w' => ∃ v, e = .returned v ∧ OwnI w' w.heap.size v (jumpsL p k) ∧ Below w.heap.size w w' := by
  obtain ⟨i0, hi, hz0, hz1, hz2⟩ := info_in Try.info13I
  have cI := fun W (hb : Below w.heap.size w W) => specImageOk_any p fv cv W (h.below hb) hw
  obtain ⟨bI, eI⟩ : ∃ b, imgOk p = b := ⟨_, rfl⟩
  simp only [eI] at cI
  have HBI : Hid (imgOk p = bI) := eI
  clear eI hw
  obtain ⟨hF, hC⟩ := h
  obtain ⟨x1, c1, rfl, m1, o1⟩ := hF
  obtain ⟨x2, c2, rfl, m2, _⟩ := hC.opened conC_len
  clear hC
  unfold maxLen at m1 m2
  obtain ⟨n1, e1⟩ : ∃ n, p.funcs.length = n := ⟨_, rfl⟩
  obtain ⟨n2, e2⟩ : ∃ n, p.consts.length = n := ⟨_, rfl⟩
  rw [e1] at m1 o1 cI ⊢
  rw [e2] at m2 cI ⊢
  have H1 : Hid (0 < n1 → ∃ b o, x1 = some ⟨b, o, none⟩ ∧ b < w.heap.size ∧ ∀ j q, p.funcs[j]? = some q → ∃ cv kv hv, FunAt w b (o + j * 5) q cv kv hv) := o1
  have E1 : Hid (p.funcs.length = n1) := e1
  clear o1 e1 e2
  obtain ⟨F, hF⟩ : ∃ F, jumpsL p k = F := ⟨_, rfl⟩
  have HF : Hid (jumpsL p k = F) := hF
  rw [hF]
  clear hF
  have cR := fun W => l01In_b k 0 ((n1 : Int) - 1) W
  obtain ⟨bR, eR⟩ : ∃ b, inB k 0 ((n1 : Int) - 1) = b := ⟨_, rfl⟩
  simp only [eR] at cR
  have HR : Hid (inB k 0 ((n1 : Int) - 1) = bR) := eR
  clear eR
  have b0 : Below w.heap.size w (w.alloc (.cells #[.slice x1 n1 c1, .slice x2 n2 c2] 32)) := (Below.refl _ _).alloc (Nat.le_refl _) _
  have k1 := fun W (h : Below _ _ W) => new_cell (w := w) (cs := #[.slice x1 n1 c1, .slice x2 n2 c2]) (t := 32) h 0 _ rfl
  have k2 := fun W (h : Below _ _ W) => new_cell (w := w) (cs := #[.slice x1 n1 c1, .slice x2 n2 c2]) (t := 32) h 1 _ rfl
  have hz : (w.alloc (.cells #[.slice x1 n1 c1, .slice x2 n2 c2] 32)).heap.size = w.heap.size + 1 := by simp
  have hs : w.heap.size ≤ (w.alloc (.cells #[.slice x1 n1 c1, .slice x2 n2 c2] 32)).heap.size := by simp
  obtain ⟨W0, hW0⟩ : ∃ W, w.alloc (.cells #[.slice x1 n1 c1, .slice x2 n2 c2] 32) = W := ⟨_, rfl⟩
  rw [hW0] at b0 k1 k2 hs hz
  have HW0 : Hid (w.alloc (.cells #[.slice x1 n1 c1, .slice x2 n2 c2] 32) = W0) := hW0
  clear hW0
  have q0 := own_begin20 W0 w.heap.size 3 1 hs
  have b1 : Below w.heap.size w (W0.alloc (.cells #[] 3)) := b0.alloc hs _
  have b1' : Below W0.heap.size W0 (W0.alloc (.cells #[] 3)) := (Below.refl _ _).alloc (Nat.le_refl _) _
  have s0 := k1 _ b1'
  have s1 := k2 _ b1'
  have hs1 : w.heap.size ≤ (W0.alloc (.cells #[] 3)).heap.size := by simp; omega
  obtain ⟨W1, hW1⟩ : ∃ W, W0.alloc (.cells #[] 3) = W := ⟨_, rfl⟩
  rw [hW1] at b1 b1' q0 s0 s1 hs1
  have HW1 : Hid (W0.alloc (.cells #[] 3) = W1) := hW1
  clear hW1
  rw [hz] at q0
  obtain ⟨G, hG⟩ : ∃ G, w.heap.size = G := ⟨_, rfl⟩
  have HG : Hid (w.heap.size = G) := hG
  simp only [hG] at hz k1 k2 q0 s0 s1 hs hs1 b0 b1 cI ⊢
  go_enter Try.func5, Try.ntmps5
  go_upto_region 2 with fail
  rw [HW0.out]
  try simp only [HG.out]
  rw [HW1.out]
  cases bI with
  | false =>
    have hF : F = [] := by rw [← HF.out]; exact jumpsL_no (fun h => by rw [HBI.out] at h; cases h.1)
    subst hF
    clear H1 k1 k2 cR
    go_wp2_with (go_at_call 15; with_reducible refine (cI _ b1).mono ?_; rintro e w' ⟨rfl, hb1⟩)
    go_ret
    exact ⟨.slice (some ⟨G + 1, 0, none⟩) 0 0, rfl, row_keep q0 hb1, b1.trans (hb1.mono hs1)⟩
  | true =>
  have K1 : ∀ W, Below W1.heap.size W1 W → W.cell? ⟨G, 0, none⟩ = some (.slice x1 n1 c1) := fun W hb => k1 W (chain b1' hb)
  clear k1 k2
  cases bR with
  | false =>
    have hF : F = [] := by
      rw [← HF.out]
      refine jumpsL_no (fun h => ?_)
      have h1 := HR.out
      unfold inB at h1
      rw [E1.out] at h
      rw [decide_eq_true h.2.1, decide_eq_true (by omega)] at h1
      cases h1
    subst hF
    clear H1
    go_wp2_with (first
      | (go_at_call 15; (with_reducible refine (cI _ b1).mono ?_); rintro e w' ⟨rfl, hb1⟩; have s2 := K1 _ hb1)
      | (go_at_call 16; (with_reducible refine (cR _).mono ?_); rintro e w' ⟨rfl, rfl⟩))
    go_ret
    exact ⟨.slice (some ⟨G + 1, 0, none⟩) 0 0, rfl, row_keep q0 hb1, b1.trans (hb1.mono hs1)⟩
  | true =>
  obtain ⟨K, hK⟩ : ∃ K : Nat, k = (K : Int) := ⟨k.toNat, by
    have h1 := HR.out
    unfold inB at h1
    simp only [Bool.and_eq_true, decide_eq_true_eq] at h1
    omega⟩
  subst hK
  have hKn : K < n1 := by
    have h1 := HR.out
    unfold inB at h1
    simp only [Bool.and_eq_true, decide_eq_true_eq] at h1
    omega
  obtain ⟨b, o, rfl, hbz, hcell⟩ := H1.out (by omega)
  obtain ⟨f, hf⟩ : ∃ f, p.funcs[K]? = some f := ⟨_, List.getElem?_eq_getElem (by have := E1.out; omega)⟩
  obtain ⟨cv, kv, hv, hA⟩ := hcell K f hf
  have HF2 : Hid (F = jumpsN f.code 301) := by
    show _ = _
    rw [← HF.out]
    exact jumpsL_yes HBI.out hf
  have KA : ∀ W, Below W1.heap.size W1 W → W.cell? ⟨b, o + K * 5 + 3, none⟩ = some kv := fun W hb => (hb.cell (p := ⟨b, o + K * 5 + 3, none⟩) (by show b < _; have := b1.size; omega)).trans ((b1.cell (p := ⟨b, o + K * 5 + 3, none⟩) (by show b < _; omega)).trans hA.c3)
  obtain ⟨kx, kc, rfl, mk, ok⟩ := hA.code.opened insC_len
  obtain ⟨nk, hnk⟩ : ∃ n, f.code.length = n := ⟨_, rfl⟩
  rw [hnk] at mk ok KA
  unfold maxLen at mk
  have HNK : Hid (f.code.length = nk) := hnk
  have HC : Hid (0 < nk → ∃ b o, kx = some ⟨b, o, none⟩ ∧ b < w.heap.size ∧ ∀ j q, f.code[j]? = some q → ∀ c u, (insC q)[c]? = some u → w.cell? ⟨b, o + j * 3 + c, none⟩ = some u) := ok
  clear ok hnk hA hcell H1 hf HF HBI HR
  have hKi : (K : Int) < (n1 : Int) := by omega
  have hK0 : (0 : Int) ≤ (K : Int) := by omega
  go_upto_region 4 with (first
    | (go_at_call 15; (with_reducible refine (cI _ b1).mono ?_); rintro e w2 ⟨rfl, hb2⟩; have s2 := K1 _ hb2; have s3 := KA _ hb2)
    | (go_at_call 16; (with_reducible refine (cR _).mono ?_); rintro e w' ⟨rfl, rfl⟩))
  have q2 := row_keep q0 hb2
  have B2 : Below G w w2 := b1.trans (hb2.mono hs1)
  have S2 : G ≤ w2.heap.size := Nat.le_trans hs1 hb2.size
  have q2' : OwnI w2 G (.slice (some ⟨G + 1, 0, none⟩) 0 0) (jumpsN f.code 0) := q2
  clear q0 q2 b1 b1' hb2 hs hs1 cI cR K1 KA b0 s0 s1
  go_upto_region 6 with fail
  clear s2 s3
  go_loopw [5, 7] (fun v x wr => ∃ t : Nat, t ≤ 301 ∧ x = .int .i64 t ∧ OwnI wr G v (jumpsN f.code t) ∧ Below G w wr ∧ G ≤ wr.heap.size) (fun _ x _ => 301 - (intOf x).toNat)
  case atStart => exact ⟨0, Nat.zero_le _, rfl, q2', B2, S2⟩
  case round =>
    obtain ⟨wo, rfl⟩ : ∃ wo : World, wo = wr := ⟨_, rfl⟩
    clear q2' B2 S2
    obtain ⟨t, ht, rfl, hO, hB, hS⟩ := hrel
    obtain ⟨vx, vc, rfl⟩ := row_slice hO
    by_cases hlt : t < 301
    · have hti : (t : Int) ≤ 300 := by omega
      have HO : Hid (OwnI wo G (.slice vx (jumpsN f.code t).length vc) (jumpsN f.code t)) := hO
      obtain ⟨M, hM⟩ : ∃ M, (jumpsN f.code t).length = M := ⟨_, rfl⟩
      rw [hM] at HO ⊢
      have hMl : M ≤ t := by rw [← hM]; exact jumpsN_len _ _
      clear hO
      go_upto_region 10 with fail
      go_loopw [8, 9] (fun b i wi => ∃ j : Nat, j ≤ nk ∧ i = .int .i64 j ∧ b = .bool (hasJ (f.code.take j) t) ∧ wo = wi) (fun _ i _ => nk - (intOf i).toNat)
      case atStart => exact ⟨0, Nat.zero_le _, rfl, rfl, rfl⟩
      case round =>
        obtain ⟨j, hj, rfl, rfl, rfl⟩ := hrel
        by_cases hjn : j < nk
        · obtain ⟨cb, co, rfl, hcb, hcc⟩ := HC.out (by omega)
          obtain ⟨q, hq⟩ : ∃ q, f.code[j]? = some q := ⟨_, List.getElem?_eq_getElem (by have := HNK.out; omega)⟩
          have g0 : wo.cell? ⟨cb, co + j * 3, none⟩ = some (.int .i64 q.op) := (hB.cell (p := ⟨cb, co + j * 3, none⟩) (by show cb < _; omega)).trans (hcc j q hq 0 _ rfl)
          have g1 : wo.cell? ⟨cb, co + j * 3 + 1, none⟩ = some (.int .i64 q.a) := (hB.cell (p := ⟨cb, co + j * 3 + 1, none⟩) (by show cb < _; omega)).trans (hcc j q hq 1 _ rfl)
          have hji : (j : Int) < (nk : Int) := by omega
          have hj0 : (0 : Int) ≤ (j : Int) := by omega
          have HT : Hid (hasJ (f.code.take (j + 1)) t = (hasJ (f.code.take j) t || jumpsTo t q)) := hasJ_take hq
          obtain ⟨h0, eh⟩ : ∃ h, hasJ (f.code.take j) t = h := ⟨_, rfl⟩
          rw [eh] at HT ⊢
          clear hcc hq eh
          cases h0 with
          | true =>
            go_wp2
            go_roundw
            case rel => exact ⟨j + 1, by omega, by go_num, by rw [HT.out]; rfl, trivial⟩
            case measure => simp [intOf]; omega
          | false =>
            have cR := fun W => l01In_b q.op 12 14 W
            obtain ⟨b1, e1⟩ : ∃ b, inB q.op 12 14 = b := ⟨_, rfl⟩
            simp only [e1] at cR
            cases b1 with
            | false =>
              have HT2 : Hid (hasJ (f.code.take (j + 1)) t = false) := by
                show _ = _
                rw [HT.out]
                unfold jumpsTo
                rw [← inB_jump, e1]
                rfl
              clear e1 HT
              go_wp2_with (go_at_call 16; (with_reducible refine (cR _).mono ?_); rintro e w' ⟨rfl, rfl⟩)
              go_roundw
              case rel => exact ⟨j + 1, by omega, by go_num, by rw [HT2.out], trivial⟩
              case measure => simp [intOf]; omega
            | true =>
              have HT2 : Hid (hasJ (f.code.take (j + 1)) t = decide (q.a = (t : Int))) := by
                show _ = _
                rw [HT.out]
                unfold jumpsTo
                rw [← inB_jump, e1]
                rfl
              clear e1 HT
              by_cases ha : q.a = (t : Int)
              · have hab : (q.a == (t : Int)) = true := by rw [ha]; exact beq_self_eq_true _
                go_wp2_with (go_at_call 16; (with_reducible refine (cR _).mono ?_); rintro e w' ⟨rfl, rfl⟩)
                go_roundw
                case rel => exact ⟨j + 1, by omega, by go_num, by rw [HT2.out, decide_eq_true ha], trivial⟩
                case measure => simp [intOf]; omega
              · have hab : (q.a == (t : Int)) = false := by rw [beq_eq_false_iff_ne]; exact ha
                go_wp2_with (go_at_call 16; (with_reducible refine (cR _).mono ?_); rintro e w' ⟨rfl, rfl⟩)
                go_roundw
                case rel => exact ⟨j + 1, by omega, by go_num, by rw [HT2.out, decide_eq_false ha], trivial⟩
                case measure => simp [intOf]; omega
        · have hje : j = nk := by omega
          subst hje
          have HT : Hid (hasJ (f.code.take j) t = hasJ f.code t) := by
            show _ = _
            rw [← HNK.out, List.take_length]
          rw [HT.out]
          clear HT
          obtain ⟨h0, eh⟩ : ∃ h, hasJ f.code t = h := ⟨_, rfl⟩
          rw [eh]
          cases h0 with
          | true =>
            have HJ : Hid (jumpsN f.code (t + 1) = jumpsN f.code t ++ [(t : Int)]) := jumpsN_yes eh
            have HMe : Hid ((jumpsN f.code t).length = M) := hM
            clear eh hM
            have hown : wo.ownsRow G 3 1 (.slice vx M vc) M ((jumpsN f.code t).flatMap intC) := by
              have h := HO.out
              unfold OwnI at h
              rw [HMe.out] at h
              exact h
            have hMb : M < 1000000000000 := by omega
            go_wp2_with (at_builtin; refine append_one (w0 := w) rfl _ _ 27 rfl G 3 i0 (.int .i64 0) 8 Try.underlying27 hi hz0 hz1 hz2 rfl _ _ _ rfl hown (.int .i64 (t : Int)) rfl rfl hMb (by decide) hB hS ?_; intro v' w' ho' hb')
            go_roundw
            case rel => exact ⟨t + 1, by omega, by go_num, by
              rw [HJ.out]
              unfold OwnI
              rw [List.length_append, HMe.out, List.flatMap_append]
              exact ho', hb', by rw [← HG.out]; exact hb'.size⟩
            case measure => simp [intOf]; omega
          | false =>
            have HJ : Hid (jumpsN f.code (t + 1) = jumpsN f.code t) := jumpsN_no eh
            have HMe : Hid ((jumpsN f.code t).length = M) := hM
            clear eh hM
            go_wp2
            go_roundw
            case rel => exact ⟨t + 1, by omega, by go_num, by
              rw [HJ.out, ← HMe.out]
              have h := HO.out
              rw [← HMe.out] at h
              exact h, hB, hS⟩
            case measure => simp [intOf]; omega
    · have hte : t = 301 := by omega
      subst hte
      have hti : ¬ (((301 : Nat) : Int)) ≤ 300 := by omega
      go_wp2
      go_ret
      exact ⟨_, rfl, by rw [HF2.out]; exact hO, hB⟩
end Go.Proofs.Ytkmmojpfcklocaa
