/-
  Part 24 of what is proved of drawn right trees.
-/
import Derived.Test.YtbgdapdenbldmaaPaw

namespace Go.Proofs.Ytbgdapdenbldmaa
open Go.RowKit Go.Sort
set_option linter.unusedVariables false
set_option maxHeartbeats 4000000 in
set_option maxRecDepth 100000 in
theorem iStates_any (p : PImg) (k : Int) (fv cv : Value) (w : World) (h : ArgImg w fv cv p) (hw : imgW p) :
    Calls Try.prog 27 #[.agg #[fv, cv], .int .i64 k] w fun e w' => ∃ lv hv, e = .returned (.tuple #[lv, hv, .bool (stB p k)]) ∧ ISta p k (stB p k) lv hv w w' := by
  have HI : Hid (ArgImg w fv cv p) := h
  obtain ⟨hF, hC⟩ := h
  obtain ⟨x1, c1, rfl, m1, o1⟩ := hF
  obtain ⟨x2, c2, rfl, m2, _⟩ := hC.opened conC_len
  clear hC
  unfold maxLen at m1 m2
  obtain ⟨n1, e1⟩ : ∃ n, p.funcs.length = n := ⟨_, rfl⟩
  obtain ⟨n2, e2⟩ : ∃ n, p.consts.length = n := ⟨_, rfl⟩
  simp only [e1, e2] at m1 m2 o1 HI ⊢
  have HL : Hid (p.funcs.length = n1) := e1
  have HO : Hid (0 < n1 → ∃ b o, x1 = some ⟨b, o, none⟩ ∧ b < w.heap.size ∧ ∀ j p1, p.funcs[j]? = some p1 → ∃ cv kv hv, FunAt w b (o + j * 5) p1 cv kv hv) := o1
  clear e1 e2 o1
  have b0 : Below w.heap.size w (w.alloc (.cells #[.slice x1 n1 c1, .slice x2 n2 c2] 31)) := (Below.refl _ _).alloc (Nat.le_refl _) _
  have hG : (w.alloc (.cells #[.slice x1 n1 c1, .slice x2 n2 c2] 31)).heap[w.heap.size]? = some (.cells #[.slice x1 n1 c1, .slice x2 n2 c2] 31 (0, 0)) := heap_alloc_new w _
  obtain ⟨W0, hW0⟩ : ∃ W, w.alloc (.cells #[.slice x1 n1 c1, .slice x2 n2 c2] 31) = W := ⟨_, rfl⟩
  rw [hW0] at b0 hG
  have HW0 : Hid (_ = W0) := hW0
  clear hW0
  obtain ⟨F, eF⟩ : ∃ x, stB p k = x := ⟨_, rfl⟩
  rw [eF]
  have HF : Hid (stB p k = F) := eF
  clear eF
  have cO := iImageOk_any p _ _ W0 (HI.out.below b0) hw
  obtain ⟨OK, hOK⟩ : ∃ b, imgOk p = b := ⟨_, rfl⟩
  simp only [hOK] at cO
  have HOK : Hid (imgOk p = OK) := hOK
  clear hOK
  obtain ⟨i0, i1⟩ := two_cells_of hG
  have hNo : ∀ (W : World), Below w.heap.size w W → Hid (ISta p k false (.slice none 0 0) (.slice none 0 0) w W) := fun W hW => ⟨hW, fun _ => ⟨rfl, rfl⟩, fun h => by cases h⟩
  cases OK with
  | false =>
    have hF : F = false := by
      rw [← HF.out]
      unfold stB
      rw [HOK.out]
      rfl
    subst hF
    go_enter Try.func27, Try.ntmps27
    go_upto_region 1 with fail
    rw [HW0.out]
    clear HW0
    go_wp2_with (go_at_call 50; (with_reducible refine cO.mono ?_); rintro e w4 ⟨rfl, hb4⟩)
    have HE := hNo _ (chain b0 hb4)
    go_returns
    exact ⟨_, _, rfl, HE.out⟩
  | true =>
  have cL := fun W => iIsInFunc x1 n1 c1 k W (by unfold maxLen; omega)
  obtain ⟨PK, hPK⟩ : ∃ b, inB k 0 ((n1 : Int) - 1) = b := ⟨_, rfl⟩
  simp only [hPK] at cL
  have HPK : Hid (inB k 0 ((n1 : Int) - 1) = PK) := hPK
  clear hPK
  have hX4 : ∀ W, Below W0.heap.size W0 W → W.cell? ⟨w.heap.size, 0, none⟩ = some (.slice x1 n1 c1) ∧ W.cell? ⟨w.heap.size, 1, none⟩ = some (.slice x2 n2 c2) := fun W hW => two_cells_of ((hW.block _ (lt16 hG)).trans hG)
  cases PK with
  | false =>
    have hF : F = false := by
      rw [← HF.out]
      unfold stB
      rw [HOK.out, HL.out, HPK.out]
      rfl
    subst hF
    go_enter Try.func27, Try.ntmps27
    go_upto_region 1 with fail
    rw [HW0.out]
    clear HW0
    go_wp2_with (first | (go_at_call 50; (with_reducible refine cO.mono ?_); rintro e w4 ⟨rfl, hb4⟩; have y0 := (hX4 _ hb4).1; have y1 := (hX4 _ hb4).2; have HB4 : Hid (Below W0.heap.size W0 w4) := hb4; clear hb4) | (go_at_call 51; (with_reducible refine (cL _).mono ?_); rintro e w' ⟨rfl, rfl⟩))
    have HE := hNo _ (chain b0 HB4.out)
    go_returns
    exact ⟨_, _, rfl, HE.out⟩
  | true =>
  have hin := HPK.out
  unfold inB at hin
  simp only [Bool.and_eq_true, decide_eq_true_eq] at hin
  obtain ⟨K, rfl⟩ : ∃ K : Nat, k = (K : Int) := ⟨k.toNat, by omega⟩
  have hK1 : (K : Int) < (n1 : Int) := by omega
  have hK0 : (0 : Int) ≤ (K : Int) := by omega
  obtain ⟨f, hf⟩ : ∃ f, p.funcs[K]? = some f := ⟨_, List.getElem?_eq_getElem (by have := HL.out; omega)⟩
  have HFF : Hid (p.funcs[K]? = some f) := hf
  have hFl : F = letB p f := by
    rw [← HF.out]
    unfold stB
    rw [HOK.out, HL.out, HPK.out, Int.toNat_natCast, hf]
    rfl
  have HFL : Hid (F = letB p f) := hFl
  have hfok := (imgOk_le HOK.out).funsOk f (List.mem_of_getElem? hf)
  obtain ⟨b, o, rfl, hbl, hcell⟩ := HO.out (by omega)
  obtain ⟨qc, qk, qh, hFA⟩ := hcell K f hf
  have HFA : Hid (FunAt w b (o + K * 5) f qc qk qh) := hFA
  have cT0 := fun W (hW : Below w.heap.size w W) => iTrace p f f.code.length f.regs.toNat _ _ _ _ _ W ⟨HI.out.below hW, HFA.out.v.below hW, HOK.out, hfok, rfl, rfl⟩
  have hn3 : f.code.length ≤ 300 := by
    have h := hfok
    unfold funOk inB at h
    simp only [Bool.and_eq_true, decide_eq_true_eq] at h
    omega
  obtain ⟨xc, cc, rfl, _, _⟩ := hFA.caps.opened capC_len
  obtain ⟨xk, ck, rfl, _, _⟩ := hFA.code.opened insC_len
  obtain ⟨xh, ch, rfl, _, _⟩ := hFA.hnds.opened hndC_len
  obtain ⟨PA, ePA⟩ : ∃ k, f.params = k := ⟨_, rfl⟩
  obtain ⟨RE, eRE⟩ : ∃ k, f.regs = k := ⟨_, rfl⟩
  obtain ⟨nc, e1⟩ : ∃ k, f.caps.length = k := ⟨_, rfl⟩
  obtain ⟨n, e2⟩ : ∃ k, f.code.length = k := ⟨_, rfl⟩
  obtain ⟨nh, e3⟩ : ∃ k, f.hnds.length = k := ⟨_, rfl⟩
  have g0 := hFA.c0
  have g1 := hFA.c1
  have g2 := hFA.c2
  have g3 := hFA.c3
  have g4 := hFA.c4
  have hfl := HL.out
  simp only [ePA, eRE, e1, e2, e3] at cT0 hn3 g0 g1 g2 g3 g4
  have cT := fun W (hW : Below w.heap.size w W) => (cT0 W hW).mono (fun e w' (hh : ∃ (X S H L K : Nat) (r : RunP) (fi : Nat), e = .returned (.agg #[_, _, .int .i64 PA, .int .i64 RE, .slice xc nc cc, .slice xk n ck, .slice xh nh ch, .slice (some ⟨S, 0, none⟩) n n, .slice (some ⟨H, 0, none⟩) n n, .slice (some ⟨L, 0, none⟩) n n, .int .i64 (fi : Int), .int .i64 (((fi + r.todo.length) % n : Nat) : Int), .slice (some ⟨K, 0, none⟩) n n, .bool r.bad]) ∧ TAt X S H L K n W.heap.size _ _ PA RE _ _ _ r fi w' ∧ RunInv p f r ∧ (r.bad = true ∨ r.todo = []) ∧ Below W.heap.size W w') => show ∃ (S H L Kk : Nat) (k1 k2 : Int), e = .returned (.agg #[.slice (some ⟨b, o, none⟩) n1 c1, .slice x2 n2 c2, .int .i64 PA, .int .i64 RE, .slice xc nc cc, .slice xk n ck, .slice xh nh ch, .slice (some ⟨S, 0, none⟩) n n, .slice (some ⟨H, 0, none⟩) n n, .slice (some ⟨L, 0, none⟩) n n, .int .i64 k1, .int .i64 k2, .slice (some ⟨Kk, 0, none⟩) n n, .bool (!F)]) ∧ Hid (TRes p f S H L Kk n W.heap.size PA RE (!F) w') ∧ Hid (Below W.heap.size W w') by
    obtain ⟨X, S, H, L, Kk, r, fi, e1, hT, I, e2, e3⟩ := hh
    have hb : r.bad = !F := by rw [HFL.out]; exact bad_let I e2
    rw [hb] at e1
    exact ⟨S, H, L, Kk, _, _, e1, ⟨X, r, fi, _, _, _, _, _, hT, I, e2, hb⟩, e3⟩)
  have HK : Hid (∀ W, Below w.heap.size w W → W.cell? ⟨b, o + K * 5, none⟩ = some (.int .i64 PA) ∧ W.cell? ⟨b, o + K * 5 + 1, none⟩ = some (.int .i64 RE) ∧ W.cell? ⟨b, o + K * 5 + 2, none⟩ = some (.slice xc nc cc) ∧ W.cell? ⟨b, o + K * 5 + 3, none⟩ = some (.slice xk n ck) ∧ W.cell? ⟨b, o + K * 5 + 4, none⟩ = some (.slice xh nh ch)) := fun W hW => ⟨(hW.cell hbl).trans g0, (hW.cell hbl).trans g1, (hW.cell hbl).trans g2, (hW.cell hbl).trans g3, (hW.cell hbl).trans g4⟩
  have HN3 : Hid (n ≤ 300 ∧ f.code.length = n) := ⟨hn3, e2⟩
  clear hf hFl hin hfok hcell hFA cT0 ePA eRE e1 e2 e3 g0 g1 g2 g3 g4 HO HFA hfl hn3
  go_enter Try.func27, Try.ntmps27
  go_upto_region 1 with fail
  rw [HW0.out]
  clear HW0
  go_upto_region 3 with (first | (go_at_call 50; (with_reducible refine cO.mono ?_); rintro e w4 ⟨rfl, hb4⟩; have y0 := (hX4 _ hb4).1; have y1 := (hX4 _ hb4).2; have HB4 : Hid (Below W0.heap.size W0 w4) := hb4; clear hb4) | (go_at_call 51; (with_reducible refine (cL _).mono ?_); rintro e w' ⟨rfl, rfl⟩))
  have B4 : Below w.heap.size w w4 := chain b0 HB4.out
  have HK4 : Hid (∀ W, Below w4.heap.size w4 W → (W.cell? ⟨w.heap.size, 0, none⟩ = some (.slice (some ⟨b, o, none⟩) n1 c1) ∧ W.cell? ⟨w.heap.size, 1, none⟩ = some (.slice x2 n2 c2)) ∧ W.cell? ⟨b, o + K * 5, none⟩ = some (.int .i64 PA) ∧ W.cell? ⟨b, o + K * 5 + 1, none⟩ = some (.int .i64 RE) ∧ W.cell? ⟨b, o + K * 5 + 2, none⟩ = some (.slice xc nc cc) ∧ W.cell? ⟨b, o + K * 5 + 3, none⟩ = some (.slice xk n ck) ∧ W.cell? ⟨b, o + K * 5 + 4, none⟩ = some (.slice xh nh ch)) := fun W hW => ⟨hX4 W (chain HB4.out hW), HK.out W (chain B4 hW)⟩
  have cT4 := fun W (hW : Below w4.heap.size w4 W) => cT W (chain B4 hW)
  clear cT cL cO y0 y1 hX4 i0 i1 HK
  have HB4w : Hid (Below w.heap.size w w4) := B4
  clear B4
  go_cut [7] (fun pv wr => ∃ (C S H : Nat), pv = .pointer (some ⟨C, 0, none⟩) ∧ Hid (TMade p f C w wr (!F) S H n))
  case first =>
    have bZ : ∀ (W : World), Below W.heap.size W (W.alloc (.cells #[.slice none 0 0, .slice none 0 0, .int .i64 0, .int .i64 0, .slice none 0 0, .slice none 0 0, .slice none 0 0, .slice none 0 0, .slice none 0 0, .slice none 0 0, .int .i64 0, .int .i64 0, .slice none 0 0, .bool false] 107)).drew := fun W => ((Below.refl _ _).alloc (Nat.le_refl _) _).drew
    have bZ' : ∀ (W : World), Below W.heap.size W (W.alloc (.cells #[.slice none 0 0, .slice none 0 0, .int .i64 0, .int .i64 0, .slice none 0 0, .slice none 0 0, .slice none 0 0, .slice none 0 0, .slice none 0 0, .slice none 0 0, .int .i64 0, .int .i64 0, .slice none 0 0, .bool false] 107)) := fun W => ((Below.refl _ _).alloc (Nat.le_refl _) _)
    have nZ : ∀ (W : World), (W.alloc (.cells #[.slice none 0 0, .slice none 0 0, .int .i64 0, .int .i64 0, .slice none 0 0, .slice none 0 0, .slice none 0 0, .slice none 0 0, .slice none 0 0, .slice none 0 0, .int .i64 0, .int .i64 0, .slice none 0 0, .bool false] 107)).heap[W.heap.size]? = some (.cells #[.slice none 0 0, .slice none 0 0, .int .i64 0, .int .i64 0, .slice none 0 0, .slice none 0 0, .slice none 0 0, .slice none 0 0, .slice none 0 0, .slice none 0 0, .int .i64 0, .int .i64 0, .slice none 0 0, .bool false] 107 (0, 0)) := fun W => heap_alloc_new W _
    have nZd : ∀ (W : World), (W.alloc (.cells #[.slice none 0 0, .slice none 0 0, .int .i64 0, .int .i64 0, .slice none 0 0, .slice none 0 0, .slice none 0 0, .slice none 0 0, .slice none 0 0, .slice none 0 0, .int .i64 0, .int .i64 0, .slice none 0 0, .bool false] 107)).drew.heap[W.heap.size]? = some (.cells #[.slice none 0 0, .slice none 0 0, .int .i64 0, .int .i64 0, .slice none 0 0, .slice none 0 0, .slice none 0 0, .slice none 0 0, .slice none 0 0, .slice none 0 0, .int .i64 0, .int .i64 0, .slice none 0 0, .bool false] 107 (0, 0)) := fun W => heap_alloc_new W _
    have bD : ∀ (W : World), Below W.heap.size W W.drew := fun W => (Below.refl _ _).drew
    have bO : ∀ (W : World) (o : Obj), Below W.heap.size W (W.alloc o) := fun W o => (Below.refl _ _).alloc (Nat.le_refl _) o
    have hA2 : ∀ (V W : World), Below w4.heap.size w4 V → Below V.heap.size V W → Hid (Below w4.heap.size w4 W) := fun V W h1 h2 => chain h1 h2
    have hK2 : ∀ (C : Nat) (V W : World), V.heap[C]? = some (.cells #[.slice none 0 0, .slice none 0 0, .int .i64 0, .int .i64 0, .slice none 0 0, .slice none 0 0, .slice none 0 0, .slice none 0 0, .slice none 0 0, .slice none 0 0, .int .i64 0, .int .i64 0, .slice none 0 0, .bool false] 107 (0, 0)) → Below V.heap.size V W → Hid (W.heap[C]? = some (.cells #[.slice none 0 0, .slice none 0 0, .int .i64 0, .int .i64 0, .slice none 0 0, .slice none 0 0, .slice none 0 0, .slice none 0 0, .slice none 0 0, .slice none 0 0, .int .i64 0, .int .i64 0, .slice none 0 0, .bool false] 107 (0, 0))) := fun C V W h hb => (hb.block _ (lt16 h)).trans h
    have hB4s := HB4w.out.size
    have hEndA : ∀ (W : World) (S H L Kk B : Nat) (k1 k2 : Int), w4.heap.size ≤ B → Hid (TRes p f S H L Kk n B PA RE (!F) W) → Hid (Below w4.heap.size w4 W) → Hid (TMade p f W.heap.size w (W.alloc (.cells #[.slice (some ⟨b, o, none⟩) n1 c1, .slice x2 n2 c2, .int .i64 PA, .int .i64 RE, .slice xc nc cc, .slice xk n ck, .slice xh nh ch, .slice (some ⟨S, 0, none⟩) n n, .slice (some ⟨H, 0, none⟩) n n, .slice (some ⟨L, 0, none⟩) n n, .int .i64 k1, .int .i64 k2, .slice (some ⟨Kk, 0, none⟩) n n, .bool (!F)] 107)) (!F) S H n) := fun W S H L Kk B k1 k2 hB hT hb => by
      obtain ⟨X, r, fi, u1, u2, u3, u4, u5, hT, hI, hE, hbd⟩ := hT.out
      have c := cells14 (heap_alloc_new W (.cells #[.slice (some ⟨b, o, none⟩) n1 c1, .slice x2 n2 c2, .int .i64 PA, .int .i64 RE, .slice xc nc cc, .slice xk n ck, .slice xh nh ch, .slice (some ⟨S, 0, none⟩) n n, .slice (some ⟨H, 0, none⟩) n n, .slice (some ⟨L, 0, none⟩) n n, .int .i64 k1, .int .i64 k2, .slice (some ⟨Kk, 0, none⟩) n n, .bool (!F)] 107))
      exact ⟨⟨L, Kk, B, PA, RE, ⟨X, r, fi, u1, u2, u3, u4, u5, hT.below (bO _ _), hI, hE, hbd⟩, by omega⟩, c.2.2.2.2.2.2.2.1, c.2.2.2.2.2.2.2.2.1, c.2.2.2.2.2.2.2.2.2.2.2.2.2, chain (chain HB4w.out hb.out) (bO _ _)⟩
    have hEndB : ∀ (W : World) (S H L Kk B : Nat) (k1 k2 : Int), w4.heap.size < B → Hid (TRes p f S H L Kk n B PA RE (!F) W) → Hid (Below w4.heap.size w4 W) → Hid (W.heap[w4.heap.size]? = some (.cells #[.slice none 0 0, .slice none 0 0, .int .i64 0, .int .i64 0, .slice none 0 0, .slice none 0 0, .slice none 0 0, .slice none 0 0, .slice none 0 0, .slice none 0 0, .int .i64 0, .int .i64 0, .slice none 0 0, .bool false] 107 (0, 0))) → Hid (TMade p f w4.heap.size w ((((((((((((((W.setCell ⟨w4.heap.size, 0, none⟩ (.slice (some ⟨b, o, none⟩) n1 c1)).setCell ⟨w4.heap.size, 1, none⟩ (.slice x2 n2 c2)).setCell ⟨w4.heap.size, 2, none⟩ (.int .i64 PA)).setCell ⟨w4.heap.size, 3, none⟩ (.int .i64 RE)).setCell ⟨w4.heap.size, 4, none⟩ (.slice xc nc cc)).setCell ⟨w4.heap.size, 5, none⟩ (.slice xk n ck)).setCell ⟨w4.heap.size, 6, none⟩ (.slice xh nh ch)).setCell ⟨w4.heap.size, 7, none⟩ (.slice (some ⟨S, 0, none⟩) n n)).setCell ⟨w4.heap.size, 8, none⟩ (.slice (some ⟨H, 0, none⟩) n n)).setCell ⟨w4.heap.size, 9, none⟩ (.slice (some ⟨L, 0, none⟩) n n)).setCell ⟨w4.heap.size, 10, none⟩ (.int .i64 k1)).setCell ⟨w4.heap.size, 11, none⟩ (.int .i64 k2)).setCell ⟨w4.heap.size, 12, none⟩ (.slice (some ⟨Kk, 0, none⟩) n n)).setCell ⟨w4.heap.size, 13, none⟩ (.bool (!F))) (!F) S H n) := fun W S H L Kk B k1 k2 hB hT hb hZ => by
      obtain ⟨X, r, fi, u1, u2, u3, u4, u5, hT, hI, hE, hbd⟩ := hT.out
      have hlo := hT.lo
      have c := cells14 (set14 hZ.out (.slice (some ⟨b, o, none⟩) n1 c1) (.slice x2 n2 c2) (.int .i64 PA) (.int .i64 RE) (.slice xc nc cc) (.slice xk n ck) (.slice xh nh ch) (.slice (some ⟨S, 0, none⟩) n n) (.slice (some ⟨H, 0, none⟩) n n) (.slice (some ⟨L, 0, none⟩) n n) (.int .i64 k1) (.int .i64 k2) (.slice (some ⟨Kk, 0, none⟩) n n) (.bool (!F)))
      exact ⟨⟨L, Kk, B, PA, RE, ⟨X, r, fi, u1, u2, u3, u4, u5, hT.out14 hZ.out (by unfold Own5; omega) _ _ _ _ _ _ _ _ _ _ _ _ _ _, hI, hE, hbd⟩, by omega⟩, c.2.2.2.2.2.2.2.1, c.2.2.2.2.2.2.2.2.1, c.2.2.2.2.2.2.2.2.2.2.2.2.2, bel_set14 (chain HB4w.out hb.out) hB4s _ _ _ _ _ _ _ _ _ _ _ _ _ _⟩
    have hLt : ∀ (W : World) (o : Obj), Below w4.heap.size w4 W → w4.heap.size < (W.alloc o).heap.size ∧ w4.heap.size < (W.alloc o).drew.heap.size := fun W o h => ⟨by have := h.size; simp; omega, by have := h.size; simp [World.drew]; omega⟩
    go_region_held_law (fun W => (W.cell? ⟨w.heap.size, 0, none⟩ = some (.slice (some ⟨b, o, none⟩) n1 c1) ∧ W.cell? ⟨w.heap.size, 1, none⟩ = some (.slice x2 n2 c2)) ∧ W.cell? ⟨b, o + K * 5, none⟩ = some (.int .i64 PA) ∧ W.cell? ⟨b, o + K * 5 + 1, none⟩ = some (.int .i64 RE) ∧ W.cell? ⟨b, o + K * 5 + 2, none⟩ = some (.slice xc nc cc) ∧ W.cell? ⟨b, o + K * 5 + 3, none⟩ = some (.slice xk n ck) ∧ W.cell? ⟨b, o + K * 5 + 4, none⟩ = some (.slice xh nh ch))
      (exact HK4.out _ (by first | with_reducible exact bel_set14 HBT.out (Nat.le_refl _) _ _ _ _ _ _ _ _ _ _ _ _ _ _ | with_reducible exact HBT.out | with_reducible exact RowKit.Below.drew HBT.out | with_reducible exact chain HBT.out (bO _ _) | with_reducible exact chain HBT.out (RowKit.Below.drew (bO _ _)) | with_reducible exact Below.refl _ _ | with_reducible exact (Below.refl _ _).drew | with_reducible exact bZ _ | with_reducible exact bZ' _))
      (first
        | (go_at_call 52; (with_reducible refine (cT4 _ (by first | with_reducible exact bZ _ | with_reducible exact bZ' _)).mono ?_); rintro e wt ⟨S, H, L, Kk, k1, k2, rfl, HT, hbT⟩; have HBT := hA2 _ _ (by first | with_reducible exact bZ _ | with_reducible exact bZ' _) hbT.out; have HCT := hK2 w4.heap.size _ _ (by first | with_reducible exact nZd _ | with_reducible exact nZ _) hbT.out; have pz := cells14 HCT.out; obtain ⟨z0, z1, z2, z3, z4, z5, z6, z7, z8, z9, z10, z11, z12, z13⟩ := pz; have fz := fun i => frozen_of_row wt _ i _ _ HCT.out)
        | (go_at_call 52; (with_reducible refine (cT4 _ (by first | with_reducible exact Below.refl _ _ | with_reducible exact bD _)).mono ?_); rintro e wt ⟨S, H, L, Kk, k1, k2, rfl, HT, hbT⟩; have HBT := hA2 _ _ (by first | with_reducible exact Below.refl _ _ | with_reducible exact bD _) hbT.out))
    all_goals
      first
        | (have HE := hEndB wt S H L Kk _ k1 k2 (by first | exact (hLt _ _ (Below.refl _ _)).1 | exact (hLt _ _ (Below.refl _ _)).2) HT HBT HCT
           clear HK4 cT4 hEndA hEndB bZ bZ' nZ bD hA2 nZd hK2 bO hLt
           go_wp2
           go_meet
           case rel => exact ⟨_, _, _, rfl, HE⟩)
        | (have HE := hEndA wt S H L Kk _ k1 k2 (by first | exact Nat.le_refl _ | exact (bD _).size) HT HBT
           clear HK4 cT4 hEndA hEndB bZ bZ' nZ bD hA2 nZd hK2 bO hLt
           go_wp2
           go_meet
           case rel => exact ⟨_, _, _, rfl, HE⟩)
  case rest =>
    obtain ⟨C, S, H, rfl, HM⟩ := hcut
    have m7 := HM.out.c7
    have m8 := HM.out.c8
    have m13 := HM.out.c13
    clear HK4 cT4 HB4 HB4w
    cases F with
    | false =>
      have HE := hNo wc HM.out.bel
      have m13' : wc.cell? ⟨C, 13, none⟩ = some (.bool true) := m13
      clear HM hNo m13 m7 m8
      go_wp2
      go_returns
      exact ⟨_, _, rfl, HE.out⟩
    | true =>
      have m13' : wc.cell? ⟨C, 13, none⟩ = some (.bool false) := m13
      have HE : Hid (∀ W, Below wc.heap.size wc W → ISta p (K : Int) true (.slice (some ⟨S, 0, none⟩) n n) (.slice (some ⟨H, 0, none⟩) n n) w W) := fun W hW => by
        obtain ⟨⟨L, Kk, B, PA, RE, ⟨X, r, fi, u1, u2, u3, u4, u5, hT, hI, hE, hbd⟩, hBB⟩, _, _, _, hbel⟩ := HM.out
        have hTW := hT.below hW
        obtain ⟨rv, st, hS, hs⟩ := hTW.states
        have hb2 : r.bad = false := hbd
        have hbo := hTW.hits HN3.out.1
        have hlo := hT.lo
        have dn : ∀ {v : Value} {l : List Int}, OwnI W B v l → OwnI W w.heap.size v l := fun h => row_low h hBB
        refine ⟨chain hbel hW, fun h => (by cases h), fun _ => ⟨K, f, r, S, H, n, rv, st, rfl, HFF.out, hI, ?_, hb2, hT.ll, hT.hl, HN3.out.1, hs, rfl, rfl, by omega, ⟨hS.row, fun q hq => dn (hS.regs q hq), hS.apart⟩, row_low hbo hBB⟩⟩
        rcases hE with h | h
        · rw [hb2] at h; cases h
        · exact h
      clear HM hNo m13
      go_wp2
      go_quiet (fail)
      go_wp2
      go_returns
      exact ⟨_, _, rfl, HE.out _ (below_drewN (Below.refl _ _) _)⟩
end Go.Proofs.Ytbgdapdenbldmaa
