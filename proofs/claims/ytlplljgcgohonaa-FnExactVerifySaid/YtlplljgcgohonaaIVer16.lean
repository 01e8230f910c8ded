/-
  The program's own Verify.
-/
import Derived.Test.YtlplljgcgohonaaIVer16T
import Derived.Test.YtlplljgcgohonaaVer16V
import Derived.Test.YtlplljgcgohonaaIImg13
namespace Go.Proofs.Ytlplljgcgohonaa
open Go.RowKit Go.Sort
set_option linter.unusedVariables false

theorem bad_let {p : PImg} {f : PFun} {r : RunP} (I : RunInv p f r) (h : r.bad = true ∨ r.todo = []) : r.bad = !letB p f := by
  cases hb : r.bad with
  | true => rw [letB_no (bad_no I hb)]; rfl
  | false =>
    rcases h with h | h
    · rw [hb] at h; cases h
    · rw [letB_yes (end_best I hb h).sound]; rfl

set_option maxHeartbeats 1000000 in
set_option maxRecDepth 100000 in
theorem iVerify1 (p : PImg) (f : PFun) (x1 : Option Addr) (n1 c1 : Nat) (x2 : Option Addr) (n2 c2 : Nat) (qc qk qh : Value) (G : Nat) (w : World) (h : ArgImg w (.slice x1 n1 c1) (.slice x2 n2 c2) p) (hf : FunV w f qc qk qh) (hok : imgOk p = true) (hfk : funOk f = true) (hG : w.heap[G]? = some (.cells #[.slice x1 n1 c1, .slice x2 n2 c2] 34 (0, 0))) :
    Calls Try.prog 71 #[.agg #[.int .i64 f.params, .int .i64 f.regs, qc, qk, qh], .pointer (some ⟨G, 0, none⟩)] w fun e w' => e = .returned (.bool (!letB p f)) ∧ Below w.heap.size w w' := by
  have HFV : Hid (FunV w f qc qk qh) := hf
  have HI : Hid (ArgImg w (.slice x1 n1 c1) (.slice x2 n2 c2) p) := h
  obtain ⟨xc, cc, rfl, _, _⟩ := hf.caps.opened capC_len
  obtain ⟨xk, ck, rfl, _, _⟩ := hf.code.opened insC_len
  obtain ⟨xh, ch, rfl, _, _⟩ := hf.hnds.opened hndC_len
  have b0 : Below w.heap.size w (w.alloc (.cells #[.int .i64 f.params, .int .i64 f.regs, .slice xc f.caps.length cc, .slice xk f.code.length ck, .slice xh f.hnds.length ch] 77)) := (Below.refl _ _).alloc (Nat.le_refl _) _
  have g1 : (w.alloc (.cells #[.int .i64 f.params, .int .i64 f.regs, .slice xc f.caps.length cc, .slice xk f.code.length ck, .slice xh f.hnds.length ch] 77)).heap[w.heap.size]? = some (.cells #[.int .i64 f.params, .int .i64 f.regs, .slice xc f.caps.length cc, .slice xk f.code.length ck, .slice xh f.hnds.length ch] 77 (0, 0)) := heap_alloc_new w _
  have cT0 := iTrace p f f.code.length f.regs.toNat _ _ _ _ _ _ ⟨HI.out.below b0, HFV.out.below b0, hok, hfk, rfl, rfl⟩
  have cT := cT0.mono (fun e w' (hh : ∃ (X S H L K : Nat) (r : RunP) (fi : Nat), e = .returned (.agg #[.slice x1 n1 c1, .slice x2 n2 c2, .int .i64 f.params, .int .i64 f.regs, .slice xc f.caps.length cc, .slice xk f.code.length ck, .slice xh f.hnds.length ch, .slice (some ⟨S, 0, none⟩) f.code.length f.code.length, .slice (some ⟨H, 0, none⟩) f.code.length f.code.length, .slice (some ⟨L, 0, none⟩) f.code.length f.code.length, .int .i64 (fi : Int), .int .i64 (((fi + r.todo.length) % f.code.length : Nat) : Int), .slice (some ⟨K, 0, none⟩) f.code.length f.code.length, .bool r.bad]) ∧ _ ∧ RunInv p f r ∧ (r.bad = true ∨ r.todo = []) ∧ Below _ _ w') => show ∃ (S H L K : Nat) (k1 k2 : Int), e = .returned (.agg #[.slice x1 n1 c1, .slice x2 n2 c2, .int .i64 f.params, .int .i64 f.regs, .slice xc f.caps.length cc, .slice xk f.code.length ck, .slice xh f.hnds.length ch, .slice (some ⟨S, 0, none⟩) f.code.length f.code.length, .slice (some ⟨H, 0, none⟩) f.code.length f.code.length, .slice (some ⟨L, 0, none⟩) f.code.length f.code.length, .int .i64 k1, .int .i64 k2, .slice (some ⟨K, 0, none⟩) f.code.length f.code.length, .bool (!letB p f)]) ∧ Below (w.alloc (.cells #[.int .i64 f.params, .int .i64 f.regs, .slice xc f.caps.length cc, .slice xk f.code.length ck, .slice xh f.hnds.length ch] 77)).heap.size (w.alloc (.cells #[.int .i64 f.params, .int .i64 f.regs, .slice xc f.caps.length cc, .slice xk f.code.length ck, .slice xh f.hnds.length ch] 77)) w' by
    obtain ⟨X, S, H, L, K, r, fi, e1, _, I, e2, e3⟩ := hh
    rw [bad_let I e2] at e1
    exact ⟨S, H, L, K, _, _, e1, e3⟩)
  obtain ⟨PA, ePA⟩ : ∃ k, f.params = k := ⟨_, rfl⟩
  obtain ⟨RE, eRE⟩ : ∃ k, f.regs = k := ⟨_, rfl⟩
  obtain ⟨nc, e1⟩ : ∃ k, f.caps.length = k := ⟨_, rfl⟩
  obtain ⟨n, e2⟩ : ∃ k, f.code.length = k := ⟨_, rfl⟩
  obtain ⟨nh, e3⟩ : ∃ k, f.hnds.length = k := ⟨_, rfl⟩
  obtain ⟨F, eF⟩ : ∃ b, (!letB p f) = b := ⟨_, rfl⟩
  simp only [ePA, eRE, e1, e2, e3, eF] at cT b0 g1 ⊢
  obtain ⟨W0, hW0⟩ : ∃ W, w.alloc (.cells #[.int .i64 PA, .int .i64 RE, .slice xc nc cc, .slice xk n ck, .slice xh nh ch] 77) = W := ⟨_, rfl⟩
  simp only [hW0] at cT b0 g1
  have HW0 : Hid (_ = W0) := hW0
  have hlG := lt16 hG
  obtain ⟨i0, i1⟩ := two_cells_of ((b0.block G hlG).trans hG)
  obtain ⟨f0, f1, f2, f3, f4⟩ := five_cells g1
  have hfd : ∀ (a1 a2 a3 a4 a5 a6 a7 a8 a9 : Option Addr) (l1 l2 l3 l4 l5 l6 l7 l8 l9 d1 d2 d3 d4 d5 d6 d7 d8 d9 : Nat) (k1 k2 k3 k4 : Int) (b : Bool) (W : World), (Instr.field 123 (.agg #[.slice a1 l1 d1, .slice a2 l2 d2, .int .i64 k1, .int .i64 k2, .slice a3 l3 d3, .slice a4 l4 d4, .slice a5 l5 d5, .slice a6 l6 d6, .slice a7 l7 d7, .slice a8 l8 d8, .int .i64 k3, .int .i64 k4, .slice a9 l9 d9, .bool b]) 5).run Try.prog W = .ok (.bool b) W := fun _ _ _ _ _ _ _ _ _ _ _ _ _ _ _ _ _ _ _ _ _ _ _ _ _ _ _ _ _ _ _ _ W => by kernel_rfl
  clear cT0 hW0 hG h hf HFV HI g1 ePA eRE e1 e2 e3 eF
  go_enter Try.func71, Try.ntmps71
  go_upto_region 1 with fail
  rw [HW0.out]
  clear HW0
  go_wp2_with (go_at_call 72; (with_reducible refine cT.mono ?_); rintro e w5 ⟨S5, H5, L5, K5, k15, k25, rfl, hb5⟩)
  go_ret
  exact ⟨rfl, chain b0 hb5⟩

set_option maxHeartbeats 1000000 in
set_option maxRecDepth 100000 in
theorem iIndexFunc (p : PImg) (fv : Value) (G : Nat) (w : World) (h : ArgFuns w fv p.funcs)
    (hc : ∀ (k : Nat) (g : PFun) (qc qk qh : Value) (W : World), p.funcs[k]? = some g → Below w.heap.size w W → FunV W g qc qk qh → Calls Try.prog 71 #[.agg #[.int .i64 g.params, .int .i64 g.regs, qc, qk, qh], .pointer (some ⟨G, 0, none⟩)] W fun e w' => e = .returned (.bool (!letB p g)) ∧ Below W.heap.size W w') :
    Calls Try.prog 70 #[fv, .func (.func 71) #[] #[.pointer (some ⟨G, 0, none⟩)]] w fun e w' => e = .returned (.int .i64 (verAt p 0 p.funcs)) ∧ Below w.heap.size w w' := by
  obtain ⟨x1, c1, rfl, m1, o1⟩ := h
  unfold maxLen at m1
  obtain ⟨n1, e1⟩ : ∃ n, p.funcs.length = n := ⟨_, rfl⟩
  rw [e1] at m1 o1 ⊢
  have HL : Hid (p.funcs.length = n1) := e1
  have HO : Hid (0 < n1 → ∃ b o, x1 = some ⟨b, o, none⟩ ∧ b < w.heap.size ∧ ∀ j p1, p.funcs[j]? = some p1 → ∃ cv kv hv, FunAt w b (o + j * 5) p1 cv kv hv) := o1
  have HCC : Hid _ := hc
  obtain ⟨V, eV⟩ : ∃ v, verAt p 0 p.funcs = v := ⟨_, rfl⟩
  rw [eV]
  have HV1 : Hid (verAt p 0 p.funcs = V) := eV
  clear e1 o1 hc eV
  go_enter Try.func70, Try.ntmps70
  go_wp2
  go_loopw [8] (fun x wr => ∃ k : Nat, x = .int .i64 k ∧ k ≤ n1 ∧ Hid (∀ i g, i < k → p.funcs[i]? = some g → letB p g = true) ∧ Below w.heap.size w wr) (fun x _ => n1 - (intOf x).toNat)
  case atStart => exact ⟨0, rfl, Nat.zero_le _, fun i g hi => absurd hi (Nat.not_lt_zero _), Below.refl _ _⟩
  case round =>
    obtain ⟨k, rfl, hk, HA, hb⟩ := hrel
    by_cases hkn : k < n1
    · have hki : (k : Int) < (n1 : Int) := by omega
      have hk0 : (0 : Int) ≤ (k : Int) := by omega
      obtain ⟨f, hf⟩ : ∃ f, p.funcs[k]? = some f := ⟨_, List.getElem?_eq_getElem (by have := HL.out; omega)⟩
      obtain ⟨b, o, rfl, hbl, hcell⟩ := HO.out (by omega)
      obtain ⟨qc, qk, qh, hF⟩ := hcell k f hf
      have hF2 := hF.below hb
      have HFF : Hid (p.funcs[k]? = some f) := hf
      have cK := HCC.out k f qc qk qh wr hf hb hF2.v
      obtain ⟨xc, cc, rfl, _, _⟩ := hF2.caps.opened capC_len
      obtain ⟨xk, ck, rfl, _, _⟩ := hF2.code.opened insC_len
      obtain ⟨xh, ch, rfl, _, _⟩ := hF2.hnds.opened hndC_len
      have g0 := hF2.c0
      have g1 := hF2.c1
      have g2 := hF2.c2
      have g3 := hF2.c3
      have g4 := hF2.c4
      obtain ⟨PA, ePA⟩ : ∃ k, f.params = k := ⟨_, rfl⟩
      obtain ⟨RE, eRE⟩ : ∃ k, f.regs = k := ⟨_, rfl⟩
      obtain ⟨nc, e1⟩ : ∃ k, f.caps.length = k := ⟨_, rfl⟩
      obtain ⟨n, e2⟩ : ∃ k, f.code.length = k := ⟨_, rfl⟩
      obtain ⟨nh, e3⟩ : ∃ k, f.hnds.length = k := ⟨_, rfl⟩
      obtain ⟨B, hB⟩ : ∃ x, letB p f = x := ⟨_, rfl⟩
      have HB : Hid (letB p f = B) := hB
      simp only [ePA, eRE, e1, e2, e3, hB] at cK g0 g1 g2 g3 g4
      clear hcell hF hF2 hf ePA eRE e1 e2 e3 hB HO HCC
      cases B with
      | true =>
        go_wp2_with (go_at_call 71; (with_reducible refine cK.mono ?_); rintro e w5 ⟨rfl, hb5⟩)
        go_roundw
        case rel =>
          refine ⟨k + 1, by go_num, by omega, fun i g hi hg => ?_, chain hb hb5⟩
          rcases Nat.lt_or_ge i k with h' | h'
          · exact HA.out i g h' hg
          · have e : i = k := by omega
            subst e
            rw [HFF.out] at hg
            injection hg with hg
            rw [← hg]
            exact HB.out
        case measure => simp [intOf]; omega
      | false =>
        have hV : V = (k : Int) := by
          rw [← HV1.out, verAt_no p.funcs 0 k f HFF.out HA.out HB.out, Nat.zero_add]
        subst hV
        go_wp2_with (go_at_call 71; (with_reducible refine cK.mono ?_); rintro e w5 ⟨rfl, hb5⟩)
        go_ret
        exact ⟨rfl, chain hb hb5⟩
    · have hV : V = -1 := by
        rw [← HV1.out, verAt_yes p.funcs 0 (fun i g hg => HA.out i g (by have := (List.getElem?_eq_some_iff.1 hg).1; have := HL.out; omega) hg)]
      subst hV
      have hki : ¬ (k : Int) < (n1 : Int) := by omega
      clear HO HCC
      go_wp2
      go_ret
      exact ⟨rfl, hb⟩

set_option maxHeartbeats 1000000 in
set_option maxRecDepth 100000 in
theorem iVerify_any (p : PImg) (fv cv : Value) (w : World) (h : ArgImg w fv cv p) (hw : imgW p) :
    Calls Try.prog 26 #[.agg #[fv, cv]] w fun e w' => e = .returned (.int .i64 (verN p)) ∧ Below w.heap.size w w' := by
  have HI : Hid (ArgImg w fv cv p) := h
  obtain ⟨hF, hC⟩ := h
  obtain ⟨x1, c1, rfl, m1, _⟩ := hF
  obtain ⟨x2, c2, rfl, m2, _⟩ := hC.opened conC_len
  clear hC
  obtain ⟨n1, e1⟩ : ∃ n, p.funcs.length = n := ⟨_, rfl⟩
  obtain ⟨n2, e2⟩ : ∃ n, p.consts.length = n := ⟨_, rfl⟩
  simp only [e1, e2] at m1 m2 HI ⊢
  clear e1 e2
  have b0 : Below w.heap.size w (w.alloc (.cells #[.slice x1 n1 c1, .slice x2 n2 c2] 34)) := (Below.refl _ _).alloc (Nat.le_refl _) _
  have hG : (w.alloc (.cells #[.slice x1 n1 c1, .slice x2 n2 c2] 34)).heap[w.heap.size]? = some (.cells #[.slice x1 n1 c1, .slice x2 n2 c2] 34 (0, 0)) := heap_alloc_new w _
  obtain ⟨W0, hW0⟩ : ∃ W, w.alloc (.cells #[.slice x1 n1 c1, .slice x2 n2 c2] 34) = W := ⟨_, rfl⟩
  rw [hW0] at b0 hG
  have HW0 : Hid (_ = W0) := hW0
  clear hW0
  obtain ⟨V, eV⟩ : ∃ x, verN p = x := ⟨_, rfl⟩
  rw [eV]
  have HV : Hid (verN p = V) := eV
  clear eV
  have cO := iImageOk_any p _ _ W0 (HI.out.below b0) hw
  obtain ⟨OK, hOK⟩ : ∃ b, imgOk p = b := ⟨_, rfl⟩
  simp only [hOK] at cO
  have HOK : Hid (imgOk p = OK) := hOK
  clear hOK
  obtain ⟨i0, i1⟩ := two_cells_of hG
  have hmf : ∀ (fn : Fn) (first cap : Array Value) (w : World), (Instr.makeFunc fn first cap).run Try.prog w = .ok (.func fn first cap) w := fun _ _ _ _ => rfl
  cases OK with
  | false =>
    have hV : V = -2 := by
      rw [← HV.out]
      unfold verN
      rw [HOK.out]
      rfl
    subst hV
    go_enter Try.func26, Try.ntmps26
    go_upto_region 1 with fail
    rw [HW0.out]
    clear HW0
    go_wp2_with (go_at_call 45; (with_reducible refine cO.mono ?_); rintro e w4 ⟨rfl, hb4⟩)
    go_ret
    exact ⟨rfl, chain b0 hb4⟩
  | true =>
    have hV : V = verAt p 0 p.funcs := by
      rw [← HV.out]
      unfold verN
      rw [HOK.out]
      rfl
    have cX := fun (W : World) (hW : Below W0.heap.size W0 W) => iIndexFunc p (.slice x1 n1 c1) w.heap.size W ((HI.out.below (chain b0 hW)).1) (fun k g qc qk qh W' hg hW' hf => iVerify1 p g x1 n1 c1 x2 n2 c2 qc qk qh w.heap.size W' (HI.out.below (chain (chain b0 hW) hW')) hf HOK.out ((imgOk_le HOK.out).funsOk g (List.mem_of_getElem? hg)) (((chain hW hW').block _ (lt16 hG)).trans hG))
    simp only [← hV] at cX
    go_enter Try.func26, Try.ntmps26
    go_upto_region 1 with fail
    rw [HW0.out]
    clear HW0
    go_upto_region 3 with (go_at_call 45; (with_reducible refine cO.mono ?_); rintro e w4 ⟨rfl, hb4⟩)
    have cX4 := cX w4 hb4
    obtain ⟨i2, i3⟩ := two_cells_of ((hb4.block _ (lt16 hG)).trans hG)
    have HB4 : Hid (Below w.heap.size w w4) := chain b0 hb4
    clear cX cO i0 i1 hV
    go_wp2_with (go_at_call 70; (with_reducible refine cX4.mono ?_); rintro e w5 ⟨rfl, hb5⟩)
    go_ret
    exact ⟨rfl, chain HB4.out hb5⟩

end Go.Proofs.Ytlplljgcgohonaa
