/-
  Part 23 of what is proved of drawn right trees.
-/
import Derived.Test.YtbgdapdenbldmaaPav
import Derived.Test.YtbgdapdenbldmaaPad
import Derived.Test.YtbgdapdenbldmaaPaj
import Derived.Test.YtbgdapdenbldmaaPai

namespace Go.Proofs.Ytbgdapdenbldmaa
open Go.RowKit Go.Sort
set_option linter.unusedVariables false
theorem argStas_nil (w : World) (x : Option Addr) : ArgStas w (.slice x 0 0) [] := ⟨x, 0, rfl, Nat.zero_le _, fun h => by simp at h⟩
theorem argBo_nil (w : World) (x : Option Addr) : ArgBo w (.slice x 0 0) [] := ⟨x, 0, rfl, Nat.zero_le _, rfl, fun h => by simp at h⟩
theorem VAt.hits {X L H tb n : Nat} {tv : Value} {r : RunP} {w : World} (h : VAt X L H tb n tv r w) (hn : n ≤ 300) (hl : r.hit.length = n) : ArgBo w (.slice (some ⟨H, 0, none⟩) n n) r.hit := by
  obtain ⟨cur, h1, h2, h3⟩ := h.rh
  refine ⟨_, n, by rw [hl], by rw [hl]; unfold maxLen; omega, by rw [hl]; have := flat_len boolC_len r.hit; omega, fun h0 => ⟨H, 0, rfl, lt16 h1, fun j u hj => ?_⟩⟩
  have hjl : j < r.hit.length := by
    have h4 := (List.getElem?_eq_some_iff.1 hj).1
    have := flat_len boolC_len r.hit
    omega
  obtain ⟨b, hb⟩ : ∃ b, r.hit[j]? = some b := ⟨_, List.getElem?_eq_getElem hjl⟩
  have e := bool_at hb
  rw [hj] at e
  injection e with e
  rw [e, Nat.zero_add, cell_of_row _ _ _ _ _ _ h1]
  exact h3 j b hb
set_option maxHeartbeats 2000000 in
set_option maxRecDepth 100000 in
theorem specStates_any (p : PImg) (k : Int) (fv cv : Value) (w : World) (h : ArgImg w fv cv p) (hw : imgW p) :
    Calls Try.prog 24 #[.agg #[fv, cv], .int .i64 k] w fun e w' => ∃ lv hv, e = .returned (.tuple #[lv, hv, .bool (stB p k)]) ∧ StaRes p k (stB p k) lv hv w w' := by
  have HI : Hid (ArgImg w fv cv p) := h
  obtain ⟨hF, hC⟩ := h
  obtain ⟨x1, c1, rfl, m1, _⟩ := hF
  obtain ⟨x2, c2, rfl, m2, _⟩ := hC.opened conC_len
  clear hC
  unfold maxLen at m1 m2
  obtain ⟨n1, e1⟩ : ∃ n, p.funcs.length = n := ⟨_, rfl⟩
  obtain ⟨n2, e2⟩ : ∃ n, p.consts.length = n := ⟨_, rfl⟩
  simp only [e1, e2] at m1 m2 HI ⊢
  have HL : Hid (p.funcs.length = n1) := e1
  clear e1 e2
  have b0 : Below w.heap.size w (w.alloc (.cells #[.slice x1 n1 c1, .slice x2 n2 c2] 31)) := (Below.refl _ _).alloc (Nat.le_refl _) _
  have hG : (w.alloc (.cells #[.slice x1 n1 c1, .slice x2 n2 c2] 31)).heap[w.heap.size]? = some (.cells #[.slice x1 n1 c1, .slice x2 n2 c2] 31 (0, 0)) := heap_alloc_new w _
  obtain ⟨W0, hW0⟩ : ∃ W, w.alloc (.cells #[.slice x1 n1 c1, .slice x2 n2 c2] 31) = W := ⟨_, rfl⟩
  rw [hW0] at b0 hG
  have HW0 : Hid (_ = W0) := hW0
  clear hW0
  obtain ⟨F, eF⟩ : ∃ x, stB p k = x := ⟨_, rfl⟩
  rw [eF]
  have HF : Hid (stB p k = F) := eF
  clear eF
  have cO := specImageOk_any p _ _ W0 (HI.out.below b0) hw
  obtain ⟨OK, hOK⟩ : ∃ b, imgOk p = b := ⟨_, rfl⟩
  simp only [hOK] at cO
  have HOK : Hid (imgOk p = OK) := hOK
  clear hOK
  obtain ⟨i0, i1⟩ := two_cells_of hG
  have hNo : ∀ (W : World) (x y : Option Addr), Below w.heap.size w W → Hid (StaRes p k false (.slice x 0 0) (.slice y 0 0) w W) := fun W x y hW => ⟨hW, fun _ => ⟨argStas_nil W x, argBo_nil W y⟩, fun h => by cases h⟩
  have bQ : ∀ {W0 W : World} (o : Obj), Below W0.heap.size W0 W → Below W0.heap.size W0 (W.alloc o) := fun o h => h.alloc h.size o
  cases OK with
  | false =>
    have hF : F = false := by
      rw [← HF.out]
      unfold stB
      rw [HOK.out]
      rfl
    subst hF
    go_enter Try.func24, Try.ntmps24
    go_upto_region 1 with fail
    rw [HW0.out]
    clear HW0
    go_wp2_with (go_at_call 32; (with_reducible refine cO.mono ?_); rintro e w4 ⟨rfl, hb4⟩)
    have HE := hNo _ (some ⟨w4.heap.size, 0, none⟩) (some ⟨w4.heap.size + 1, 0, none⟩) (bQ (.cells #[] 4) (bQ (.cells #[] 98) (chain b0 hb4)))
    go_returns
    exact ⟨_, _, rfl, HE.out⟩
  | true =>
  have hw1 : IntKind.i64.wrap ((n1 : Int) - 1) = (n1 : Int) - 1 := wrap_less n1 (by omega)
  have cL := fun W => l01In_b k 0 ((n1 : Int) - 1) W
  obtain ⟨PK, hPK⟩ : ∃ b, inB k 0 ((n1 : Int) - 1) = b := ⟨_, rfl⟩
  simp only [hPK] at cL
  have HPK : Hid (inB k 0 ((n1 : Int) - 1) = PK) := hPK
  clear hPK
  have hX4 : ∀ W, Below W0.heap.size W0 W → W.cell? ⟨w.heap.size, 0, none⟩ = some (.slice x1 n1 c1) ∧ W.cell? ⟨w.heap.size, 1, none⟩ = some (.slice x2 n2 c2) := fun W hW => two_cells_of ((hW.block _ (lt16 hG)).trans hG)
  cases PK with
  | false =>
    have hF : F = false := by
      rw [← HF.out]
      unfold stB
      rw [HOK.out, HL.out, HPK.out]
      rfl
    subst hF
    go_enter Try.func24, Try.ntmps24
    go_upto_region 1 with fail
    rw [HW0.out]
    clear HW0
    go_wp2_with (first | (go_at_call 32; (with_reducible refine cO.mono ?_); rintro e w4 ⟨rfl, hb4⟩; have y0 := (hX4 _ hb4).1; have y1 := (hX4 _ hb4).2; have HB4 : Hid (Below W0.heap.size W0 w4) := hb4; clear hb4) | (go_at_call 33; (with_reducible refine (cL _).mono ?_); rintro e w' ⟨rfl, rfl⟩))
    have HE := hNo _ (some ⟨w4.heap.size, 0, none⟩) (some ⟨w4.heap.size + 1, 0, none⟩) (bQ (.cells #[] 4) (bQ (.cells #[] 98) (chain b0 HB4.out)))
    go_returns
    exact ⟨_, _, rfl, HE.out⟩
  | true =>
  have hin := HPK.out
  unfold inB at hin
  simp only [Bool.and_eq_true, decide_eq_true_eq] at hin
  obtain ⟨K, rfl⟩ : ∃ K : Nat, k = (K : Int) := ⟨k.toNat, by omega⟩
  obtain ⟨f, hf⟩ : ∃ f, p.funcs[K]? = some f := ⟨_, List.getElem?_eq_getElem (by have := HL.out; omega)⟩
  have HFF : Hid (p.funcs[K]? = some f) := hf
  have hFl : F = letB p f := by
    rw [← HF.out]
    unfold stB
    rw [HOK.out, HL.out, HPK.out, Int.toNat_natCast, hf]
    rfl
  have cS := fun W (hW : Below W0.heap.size W0 W) => l16States_any p f K _ _ W (HI.out.below (chain b0 hW)) HOK.out hf
  have HFL : Hid (F = letB p f) := hFl
  clear hf hFl hin
  go_enter Try.func24, Try.ntmps24
  go_upto_region 1 with fail
  rw [HW0.out]
  clear HW0
  go_upto_region 3 with (first | (go_at_call 32; (with_reducible refine cO.mono ?_); rintro e w4 ⟨rfl, hb4⟩; have y0 := (hX4 _ hb4).1; have y1 := (hX4 _ hb4).2; have HB4 : Hid (Below W0.heap.size W0 w4) := hb4; clear hb4) | (go_at_call 33; (with_reducible refine (cL _).mono ?_); rintro e w' ⟨rfl, rfl⟩))
  go_upto_region 4 with (go_at_call 47; (with_reducible refine (cS _ HB4.out).mono ?_); rintro e w5 ⟨X, rfl, h5⟩)
  obtain ⟨L, H, tb, n, tv, r, V, en, hb5, hlo, hbad, hgood⟩ := h5
  have B5 : Below w.heap.size w w5 := chain (chain b0 HB4.out) hb5
  clear cS cL cO y0 y1 hX4 i0 i1
  obtain ⟨v0, v1, v2, v3⟩ := four_cells V.box
  obtain ⟨bd, hbd⟩ : ∃ x, r.bad = x := ⟨_, rfl⟩
  rw [hbd] at v3
  cases bd with
  | true =>
    have hF : F = false := by rw [HFL.out]; exact letB_no (hbad hbd)
    subst hF
    have HE := hNo _ (some ⟨w5.heap.size, 0, none⟩) (some ⟨w5.heap.size + 1, 0, none⟩) (bQ (.cells #[] 4) (bQ (.cells #[] 98) B5))
    clear V hbad hgood
    go_wp2
    go_returns
    exact ⟨_, _, rfl, HE.out⟩
  | false =>
    obtain ⟨I, htd⟩ := hgood hbd
    have hF : F = true := by rw [HFL.out]; exact letB_yes (end_best I hbd htd).sound
    subst hF
    have hfun : funOk f = true ∧ r.hit.length = n := by
      have h := HOK.out
      unfold imgOk at h
      simp only [Bool.and_eq_true] at h
      have h1 := h.2.2.2.1
      rw [List.all_eq_true] at h1
      exact ⟨h1 f (List.mem_iff_getElem?.2 ⟨K, HFF.out⟩), by rw [en]; exact I.ok.hlen⟩
    have hn3 : n ≤ 300 := by
      have h := hfun.1
      unfold funOk inB at h
      simp only [Bool.and_eq_true, decide_eq_true_eq] at h
      omega
    have hst : ∀ (q : Nat) (s : PSta), r.list[q]? = some s → s.regs.length ≤ 1000 := fun q s hs => by
      by_cases hh : r.hit[q]? = some true
      · have := I.ok.regs q s (fam_of hh hs)
        have h := hfun.1
        unfold funOk inB at h
        simp only [Bool.and_eq_true, decide_eq_true_eq] at h
        omega
      · have := I.ok.zero q s hs hh
        rw [this]
        simp
    have HR : Hid (RunInv p f r ∧ r.todo = [] ∧ r.bad = false ∧ r.hit.length = n) := ⟨I, htd, hbd, hfun.2⟩
    clear I htd hbd hfun hbad hgood en
    have bL : Below w5.heap.size w5 (w5.alloc (.cells #[] 98)) := (Below.refl _ _).alloc (Nat.le_refl _) _
    have S0 : OutAt w5 (w5.alloc (.cells #[] 98)) w5.heap.size 0 (.slice (some ⟨w5.heap.size, 0, none⟩) 0 0) [] r := ⟨own16 (heap_alloc_new w5 _) (Nat.le_refl _), fun q s hq => absurd hq (Nat.not_lt_zero _), bL⟩
    obtain ⟨WL, hWL⟩ : ∃ W, w5.alloc (.cells #[] 98) = W := ⟨_, rfl⟩
    rw [hWL] at S0
    have HWL : Hid (_ = WL) := hWL
    have HS0 : Hid _ := S0
    clear hWL S0 bL
    go_upto_region 7 with fail
    rw [HWL.out]
    clear HWL v0 v1 v2 v3
    go_wp2
    go_loopw [8, 9] (fun y x wr => ∃ (j : Nat) (xo : Option Addr) (co : Nat) (xs : List Value), x = .int .i64 j ∧ y = .slice xo j co ∧ j ≤ n ∧ Hid (OutAt w5 wr w5.heap.size j (.slice xo j co) xs r)) (fun _ x _ => n - (intOf x).toNat)
    case atStart => exact ⟨0, _, _, _, rfl, rfl, Nat.zero_le _, HS0⟩
    case round =>
      clear HS0
      obtain ⟨j, xo, co, xs, rfl, rfl, hj, HO⟩ := hrel
      have VR := V.below HO.out.bel
      obtain ⟨v0, v1, v2, v3⟩ := four_cells VR.box
      by_cases hlt : j < n
      · have hji : (j : Int) < (n : Int) := by omega
        have hj0 : (0 : Int) ≤ (j : Int) := by omega
        obtain ⟨st, hs⟩ : ∃ t, r.list[j]? = some t := ⟨_, List.getElem?_eq_getElem (by have := V.ll; omega)⟩
        obtain ⟨cl, l1, l2, l3⟩ := V.rl
        obtain ⟨vs, k1, k2, k3⟩ := l3 j st hs
        obtain ⟨xv, cv', rfl, mv, _⟩ := k3.1.opened
        obtain ⟨m, em⟩ : ∃ x, st.regs.length = x := ⟨_, rfl⟩
        obtain ⟨SC, eSC⟩ : ∃ x, st.acc = x := ⟨_, rfl⟩
        have hm9 : m ≤ 1000 := by rw [← em]; exact hst j st hs
        rw [em] at k2
        rw [eSC] at k1
        have q0 : w5.cell? ⟨L, j * 2, none⟩ = some (.int .i64 SC) := by rw [cell_of_row _ _ _ _ _ _ l1]; exact k1
        have q1 : w5.cell? ⟨L, j * 2 + 1, none⟩ = some (.slice xv m cv') := by rw [cell_of_row _ _ _ _ _ _ l1]; exact k2
        have HK : Hid (∀ W, Below w5.heap.size w5 W → W.cell? ⟨X, 0, none⟩ = some (.slice (some ⟨L, 0, none⟩) n n) ∧ W.cell? ⟨L, j * 2, none⟩ = some (.int .i64 SC) ∧ W.cell? ⟨L, j * 2 + 1, none⟩ = some (.slice xv m cv')) := fun W hW => ⟨(four_cells ((hW.block X (lt16 V.box)).trans V.box)).1, (hW.cell (p := ⟨L, j * 2, none⟩) (lt16 l1)).trans q0, (hW.cell (p := ⟨L, j * 2 + 1, none⟩) (lt16 l1)).trans q1⟩
        have hArg : ∀ W, Below w5.heap.size w5 W → ArgFlat W (.slice xv m cv') 1 m (st.regs.flatMap intC) := fun W hW => by
          have h := k3.1.below hW
          unfold ArgI at h
          rw [em] at h
          exact h
        have HMORE : Hid (∀ (w6 w7 : World) (y : Option Addr) (d : Nat) (v7 : Value), Below wr.heap.size wr w6 → w6.ownsRow wr.heap.size 3 1 (.slice y m d) m (st.regs.flatMap intC) → (w6.alloc (.cells #[.int .i64 SC, .slice y m d] 98)).grownBy w7 (Value.ownBlock (.slice xo j co)) → w7.ownsRow w5.heap.size 98 2 v7 (j + 1) (xs ++ [.int .i64 SC, .slice y m d]) → OutAt w5 w7 w5.heap.size (j + 1) v7 (xs ++ [.int .i64 SC, .slice y m d]) r) := fun w6 w7 y d v7 hb ho hg h7 => by
          have ho' : OwnI w6 wr.heap.size (.slice y m d) st.regs := by unfold OwnI; rw [em]; exact ho
          have h := HO.out.more (s := st) hs hb ho' (Nat.le_refl _) HO.out.bel.size (by rw [eSC]; exact hg) (by rw [eSC]; exact h7)
          rw [eSC] at h
          exact h
        have hOwn6 : ∀ w6, Below wr.heap.size wr w6 → w6.ownsRow w5.heap.size 98 2 (.slice xo j co) j xs := fun w6 hb => row_keep HO.out.own hb
        have hBel := HO.out.bel
        obtain ⟨i0, hi, hz0, hz1, hz2⟩ := info_in Try.info13I
        obtain ⟨i1, hi', hz0', hz1', hz2'⟩ := info_in Try.infoSta16
        have hbS : ∀ (a : Option Addr) (d : Nat) (W : World), (Instr.build 98 #[(0, .int .i64 SC), (1, .slice a m d)]).run Try.prog W = .ok (.agg #[.int .i64 SC, .slice a m d]) W := fun a d W => run_build W 98 _ _ (by kernel_rfl)
        obtain ⟨ZH, hZH⟩ : ∃ x, wr.heap.size = x := ⟨_, rfl⟩
        have e1 : (wr.alloc (.cells #[] 3)).drew.heap[ZH]? = some (.cells #[] 3 (0, 0)) := by rw [← hZH]; exact heap_alloc_new wr _
        have bE : Below wr.heap.size wr (wr.alloc (.cells #[] 3)).drew := ((Below.refl _ _).alloc (Nat.le_refl _) _).drew
        have hBW := hArg _ (chain hBel bE)
        have hGR : ∀ (W' : World), (wr.alloc (.cells #[] 3)).drew.grownBy W' (Value.ownBlock (.slice (some ⟨ZH, 0, none⟩) 0 0)) → Hid (Below wr.heap.size wr W') := fun W' h2 => Below.grown bE h2 bE.size (fun k e => by have e2 : ZH = k := Option.some.inj e; omega)
        have hHid : ∀ (W : World) (v : Value), W.ownsRow wr.heap.size 3 1 v m (st.regs.flatMap intC) → Hid (W.ownsRow wr.heap.size 3 1 v m (st.regs.flatMap intC)) := fun W v h => h
        have hone := one_int st.regs
        have hone2 : ∀ (y : Option Addr) (d : Nat), ∀ u ∈ (#[Value.int .i64 SC, .slice y m d] : Array Value).toList, u.oneCell' = true := fun y d u hu => by
          simp at hu
          rcases hu with rfl | rfl <;> rfl
        have hR9 : m ≤ 1000000000 := by omega
        have hj9 : j < 1000000000 := by omega
        have hle0 : wr.heap.size ≤ ZH := by omega
        have hBS : ∀ W, Below wr.heap.size wr W → w5.heap.size ≤ W.heap.size := fun W hW => Nat.le_trans hBel.size hW.size
        have bQ2 : ∀ {W : World} (o : Obj), Below wr.heap.size wr W → Below wr.heap.size wr (W.alloc o) := fun o h => h.alloc h.size o
        clear q0 q1 k1 k2 k3 l3 l1 l2 v1 v2 v3 VR HO hArg em eSC
        go_upto_region 10 with fail
        clear v0
        go_region_held_law (fun W => W.cell? ⟨X, 0, none⟩ = some (.slice (some ⟨L, 0, none⟩) n n) ∧ W.cell? ⟨L, j * 2, none⟩ = some (.int .i64 SC) ∧ W.cell? ⟨L, j * 2 + 1, none⟩ = some (.slice xv m cv'))
          (first | exact HK.out _ HM7.out.bel | exact HK.out _ (chain hBel (by first | with_reducible exact HB6.out | with_reducible exact RowKit.Below.drew HB6.out | with_reducible exact bQ2 _ HB6.out | with_reducible exact RowKit.Below.drew (bQ2 _ HB6.out) | with_reducible exact bE | with_reducible exact Below.refl _ _ | with_reducible exact (Below.refl _ _).drew)))
          (first
            | (refine step_copyI rfl _ _ 35 rfl wr.heap.size 3 i0 _ 1 8 Try.underlying35 hi hz0 hz1 hz2 rfl (by decide) (by decide) (.slice (some ⟨ZH, 0, none⟩) 0 0) rfl (own16 e1 hle0) (.slice xv m cv') rfl m _ hBW hone hR9 bE.size (some 61) rfl ?_; intro v6 w6 ho6 hg6; have HB6 := hGR _ hg6; obtain ⟨y6, d6, rfl⟩ := row_slice ho6; have HO6 := hHid _ _ ho6; clear ho6 hg6)
            | (refine step_append16 rfl _ _ 49 rfl w5.heap.size 98 i1 _ 2 32 Try.underlying49 hi' hz0' hz1' hz2' rfl (by decide) (by decide) (.slice xo j co) j xs rfl (hOwn6 _ HB6.out) #[.int .i64 SC, .slice y6 m d6] rfl (hone2 _ _) rfl (some 64) rfl hj9 (hBS _ HB6.out) ?_; intro v7 w7 ho7 hg7; have HM7 : Hid (OutAt w5 w7 w5.heap.size (j + 1) v7 (xs ++ [.int .i64 SC, .slice y6 m d6]) r) := HMORE.out _ _ _ _ _ HB6.out HO6.out hg7 ho7; obtain ⟨x7, c7, rfl⟩ := row_slice ho7; clear ho7 hg7))
        all_goals
          clear HMORE HK hOwn6 hBW hGR
          go_wp2
          go_roundw
          case rel => exact ⟨j + 1, _, _, _, by go_num, rfl, by omega, HM7⟩
          case measure => simp [intOf]; omega
      · have hji : ¬ (j : Int) < (n : Int) := by omega
        have ej : j = n := by omega
        subst ej
        have HE : Hid (∀ W, Below wr.heap.size wr W → StaRes p (K : Int) true (.slice xo j co) (.slice (some ⟨H, 0, none⟩) j j) w W) := fun W hW => by
          refine ⟨chain (chain B5 HO.out.bel) hW, (fun h => by cases h), fun _ => ⟨K, f, r, rfl, HFF.out, HR.out.1, HR.out.2.1, HR.out.2.2.1, (HO.out.arg V.ll).below hW, ((VR.hits hn3 HR.out.2.2.2)).below hW⟩⟩
        clear VR HO v2 v3
        go_wp2
        go_quiet (fail)
        go_wp2
        go_returns
        exact ⟨.slice xo j co, .slice (some ⟨H, 0, none⟩) j j, rfl, HE.out _ (below_drewN (Below.refl _ _) _)⟩
end Go.Proofs.Ytbgdapdenbldmaa
namespace Go.Proofs.Ytbgdapdenbldmaa
open Go.RowKit Go.Sort
set_option linter.unusedVariables false
theorem hit_fam {p : PImg} {f : PFun} {r : RunP} (h : RunInv p f r) {q : Nat} (hq : q < f.code.length) : (r.hit[q]? = some true ↔ (fam r q).isSome = true) := by
  constructor
  · intro hh
    obtain ⟨t, ht⟩ : ∃ t, r.list[q]? = some t := ⟨_, List.getElem?_eq_getElem (by have := h.ok.len; omega)⟩
    rw [fam_of hh ht]
    rfl
  · intro hh
    obtain ⟨t, ht⟩ := Option.isSome_iff_exists.1 hh
    exact (fam_at ht).1
theorem run_same {p : PImg} {f : PFun} {r r' : RunP} (h : RunInv p f r) (ht : r.todo = []) (hb : r.bad = false) (h' : RunInv p f r') (ht' : r'.todo = []) (hb' : r'.bad = false) : r.list = r'.list ∧ r.hit = r'.hit := by
  have e : fam r = fam r' := (end_best h hb ht).unique (end_best h' hb' ht')
  have hH : ∀ q, q < f.code.length → (r.hit[q]? = some true ↔ r'.hit[q]? = some true) := fun q hq => by
    rw [hit_fam h hq, hit_fam h' hq, e]
  constructor
  · apply List.ext_getElem?
    intro q
    by_cases hq : q < f.code.length
    · obtain ⟨t, k1⟩ : ∃ t, r.list[q]? = some t := ⟨_, List.getElem?_eq_getElem (by have := h.ok.len; omega)⟩
      obtain ⟨t', k2⟩ : ∃ t, r'.list[q]? = some t := ⟨_, List.getElem?_eq_getElem (by have := h'.ok.len; omega)⟩
      by_cases hh : r.hit[q]? = some true
      · have f1 := fam_of hh k1
        have f2 := fam_of ((hH q hq).1 hh) k2
        rw [e, f2] at f1
        rw [k1, k2, f1]
      · rw [k1, k2, h.ok.zero q t k1 hh, h'.ok.zero q t' k2 (fun x => hh ((hH q hq).2 x))]
    · rw [List.getElem?_eq_none (by have := h.ok.len; omega), List.getElem?_eq_none (by have := h'.ok.len; omega)]
  · apply List.ext_getElem?
    intro q
    by_cases hq : q < f.code.length
    · obtain ⟨b, k1⟩ : ∃ t, r.hit[q]? = some t := ⟨_, List.getElem?_eq_getElem (by have := h.ok.hlen; omega)⟩
      obtain ⟨b', k2⟩ : ∃ t, r'.hit[q]? = some t := ⟨_, List.getElem?_eq_getElem (by have := h'.ok.hlen; omega)⟩
      have hx := hH q hq
      rw [k1, k2] at hx ⊢
      cases b <;> cases b' <;> simp_all
    · rw [List.getElem?_eq_none (by have := h.ok.hlen; omega), List.getElem?_eq_none (by have := h'.ok.hlen; omega)]
end Go.Proofs.Ytbgdapdenbldmaa
namespace Go.Proofs.Ytbgdapdenbldmaa
open Go.RowKit Go.Sort
set_option linter.unusedVariables false
structure StM (w : World) (B g n : Nat) (rv : Nat → Value) (st : Nat → PSta) : Prop where
  row : ∃ cur, w.heap[g]? = some (.cells cur 98 (0, 0)) ∧ n * 2 ≤ cur.size ∧ ∀ q, q < n → cur[q * 2]? = some (.int .i64 (st q).acc) ∧ cur[q * 2 + 1]? = some (rv q)
  regs : ∀ q, q < n → OwnI w B (rv q) (st q).regs
  apart : ∀ q q', q < n → q' < n → q ≠ q' → (rv q).ownBlock = none ∨ (rv q).ownBlock ≠ (rv q').ownBlock
end Go.Proofs.Ytbgdapdenbldmaa
namespace Go.Proofs.Ytbgdapdenbldmaa
open Go.RowKit Go.Sort
set_option linter.unusedVariables false
theorem TAt.states {X S H L K n B : Nat} {fv cv : Value} {PA RE : Int} {qc qk qh : Value} {r : RunP} {fi : Nat} {w : World} (h : TAt X S H L K n B fv cv PA RE qc qk qh r fi w) :
    ∃ (rv : Nat → Value) (st : Nat → PSta), StM w B S n rv st ∧ ∀ q s, r.list[q]? = some s → st q = s := by
  obtain ⟨cur, h1, h2, h3, h4⟩ := h.st
  have hl := h.ll
  refine ⟨fun q => (cur[q * 2 + 1]?).getD .nilIface, fun q => (r.list[q]?).getD ⟨0, []⟩, ⟨⟨cur, h1, by omega, fun q hq => ?_⟩, fun q hq => ?_, fun q q' hq hq' hne => ?_⟩, fun q s hs => by simp only [hs, Option.getD_some]⟩
  · obtain ⟨s, hs⟩ : ∃ s, r.list[q]? = some s := ⟨_, List.getElem?_eq_getElem (by omega)⟩
    obtain ⟨v, k1, k2, k3⟩ := h3 q s hs
    simp only [hs, k2, Option.getD_some]
    exact ⟨k1, trivial⟩
  · obtain ⟨s, hs⟩ : ∃ s, r.list[q]? = some s := ⟨_, List.getElem?_eq_getElem (by omega)⟩
    obtain ⟨v, k1, k2, k3⟩ := h3 q s hs
    simp only [hs, k2, Option.getD_some]
    exact k3
  · obtain ⟨s, hs⟩ : ∃ s, r.list[q]? = some s := ⟨_, List.getElem?_eq_getElem (by omega)⟩
    obtain ⟨v, k1, k2, k3⟩ := h3 q s hs
    obtain ⟨s', hs'⟩ : ∃ s, r.list[q']? = some s := ⟨_, List.getElem?_eq_getElem (by omega)⟩
    obtain ⟨v', k1', k2', k3'⟩ := h3 q' s' hs'
    simp only [k2, k2', Option.getD_some]
    cases hv : v.ownBlock with
    | none => exact .inl rfl
    | some g => exact .inr (fun e => h4 q q' g v v' hne k2 k2' hv e.symm)
theorem TAt.hits {X S H L K n B : Nat} {fv cv : Value} {PA RE : Int} {qc qk qh : Value} {r : RunP} {fi : Nat} {w : World} (h : TAt X S H L K n B fv cv PA RE qc qk qh r fi w) (hn : n ≤ 300) : OwnBo w B (.slice (some ⟨H, 0, none⟩) n n) r.hit := by
  obtain ⟨cur, h1, h2, h3⟩ := h.ht
  have hl := h.hl
  have e : cur.toList = r.hit.flatMap boolC := bools_is (by rw [Array.length_toList, h2, hl]) (fun j z hz => by
    have := h3 j z hz
    simpa using this)
  unfold OwnBo
  rw [hl]
  refine ⟨by rw [← e, Array.length_toList, h2, Nat.mul_one], .inr ⟨H, n, cur, rfl, h.lo.2.2.1, h1, Nat.le_refl _, by unfold maxLen; omega, by rw [h2, Nat.mul_one], ?_⟩⟩
  rw [← e, List.take_of_length_le]
  rw [Array.length_toList, h2]
  omega
def ISta (p : PImg) (k : Int) (bb : Bool) (lv hv : Value) (w w' : World) : Prop :=
  Below w.heap.size w w' ∧ (bb = false → lv = .slice none 0 0 ∧ hv = .slice none 0 0) ∧ (bb = true → ∃ (K : Nat) (f : PFun) (r : RunP) (g h n : Nat) (rv : Nat → Value) (st : Nat → PSta), k = (K : Int) ∧ p.funcs[K]? = some f ∧ RunInv p f r ∧ r.todo = [] ∧ r.bad = false ∧ r.list.length = n ∧ r.hit.length = n ∧ n ≤ 300 ∧ (∀ q s, r.list[q]? = some s → st q = s) ∧ lv = .slice (some ⟨g, 0, none⟩) n n ∧ hv = .slice (some ⟨h, 0, none⟩) n n ∧ w.heap.size ≤ g ∧ StM w' w.heap.size g n rv st ∧ OwnBo w' w.heap.size (.slice (some ⟨h, 0, none⟩) n n) r.hit)
def TRes (p : PImg) (f : PFun) (S H L K n B : Nat) (PA RE : Int) (bad : Bool) (w : World) : Prop := ∃ (X : Nat) (r : RunP) (fi : Nat) (fv cv qc qk qh : Value), TAt X S H L K n B fv cv PA RE qc qk qh r fi w ∧ RunInv p f r ∧ (r.bad = true ∨ r.todo = []) ∧ r.bad = bad
structure TMade (p : PImg) (f : PFun) (C : Nat) (w wr : World) (bad : Bool) (S H n : Nat) : Prop where
  run : ∃ (L K B : Nat) (PA RE : Int), TRes p f S H L K n B PA RE bad wr ∧ w.heap.size ≤ B
  c7 : wr.cell? ⟨C, 7, none⟩ = some (.slice (some ⟨S, 0, none⟩) n n)
  c8 : wr.cell? ⟨C, 8, none⟩ = some (.slice (some ⟨H, 0, none⟩) n n)
  c13 : wr.cell? ⟨C, 13, none⟩ = some (.bool bad)
  bel : Below w.heap.size w wr
end Go.Proofs.Ytbgdapdenbldmaa
namespace Go.Proofs.Ytbgdapdenbldmaa
open Go.RowKit Go.Sort
set_option linter.unusedVariables false
def OwnSt (w : World) (B : Nat) (v : Value) (l : List PSta) : Prop := (v = .slice none 0 0 ∧ l = []) ∨ ∃ (g : Nat) (rv : Nat → Value) (st : Nat → PSta), v = .slice (some ⟨g, 0, none⟩) l.length l.length ∧ B ≤ g ∧ StM w B g l.length rv st ∧ l.length ≤ 300 ∧ ∀ q s, l[q]? = some s → st q = s
def IsRes (p : PImg) (k : Int) (L : List PSta) (Hh : List Bool) : Prop := (stB p k = false ∧ L = [] ∧ Hh = []) ∨ (stB p k = true ∧ ∃ (K : Nat) (f : PFun) (r : RunP), k = (K : Int) ∧ p.funcs[K]? = some f ∧ RunInv p f r ∧ r.todo = [] ∧ r.bad = false ∧ L = r.list ∧ Hh = r.hit)
theorem IsRes.one {p : PImg} {k : Int} {L L' : List PSta} {H H' : List Bool} (h : IsRes p k L H) (h' : IsRes p k L' H') : L = L' ∧ H = H' := by
  rcases h with ⟨hb, rfl, rfl⟩ | ⟨hb, K, f, r, e1, e2, I, t, b, rfl, rfl⟩
  · rcases h' with ⟨_, rfl, rfl⟩ | ⟨hb', _⟩
    · exact ⟨rfl, rfl⟩
    · rw [hb] at hb'; cases hb'
  · rcases h' with ⟨hb', _⟩ | ⟨_, K', f', r', e1', e2', I', t', b', rfl, rfl⟩
    · rw [hb] at hb'; cases hb'
    · have eK : K = K' := by omega
      subst eK
      rw [e2] at e2'
      injection e2' with ef
      subst ef
      exact run_same I t b I' t' b'
theorem stB_ok {p : PImg} {k : Int} (h : stB p k = true) : imgOk p = true := by
  unfold stB at h
  rw [Bool.and_eq_true] at h
  exact h.1
theorem IsRes.few {p : PImg} {k : Int} {L : List PSta} {H : List Bool} (h : IsRes p k L H) : L.length ≤ 300 ∧ H.length ≤ 300 ∧ ∀ s ∈ L, s.regs.length ≤ 1000 := by
  rcases h with ⟨_, rfl, rfl⟩ | ⟨hb, K, f, r, e1, e2, I, t, b, rfl, rfl⟩
  · exact ⟨by simp, by simp, fun s hs => by cases hs⟩
  · have hf := (imgOk_le (stB_ok hb)).funsOk f (List.mem_of_getElem? e2)
    have hl := funOk_le hf
    have h1 := hl.code
    have h2 := hl.regs
    have h3 := hl.params
    refine ⟨by rw [I.ok.len]; omega, by rw [I.ok.hlen]; omega, fun s hs => ?_⟩
    obtain ⟨q, hq⟩ := List.mem_iff_getElem?.1 hs
    by_cases hh : r.hit[q]? = some true
    · have := I.ok.regs q s (fam_of hh hq)
      omega
    · have := I.ok.zero q s hq hh
      rw [this]
      simp
theorem StaRes.lists {p : PImg} {k : Int} {lv hv : Value} {w w' : World} (h : StaRes p k (stB p k) lv hv w w') : ∃ L H, IsRes p k L H ∧ ArgStas w' lv L ∧ ArgBo w' hv H := by
  obtain ⟨hb, h1, h2⟩ := h
  cases e : stB p k with
  | false =>
    obtain ⟨a, b⟩ := h1 e
    exact ⟨[], [], .inl ⟨e, rfl, rfl⟩, a, b⟩
  | true =>
    obtain ⟨K, f, r, e1, e2, I, t, bb, a, b⟩ := h2 e
    exact ⟨r.list, r.hit, .inr ⟨e, K, f, r, e1, e2, I, t, bb, rfl, rfl⟩, a, b⟩
theorem ISta.lists {p : PImg} {k : Int} {lv hv : Value} {w w' : World} {L : List PSta} {H : List Bool} (hr : IsRes p k L H) (h : ISta p k (stB p k) lv hv w w') : OwnSt w' w.heap.size lv L ∧ OwnBo w' w.heap.size hv H := by
  obtain ⟨hb, h1, h2⟩ := h
  cases e : stB p k with
  | false =>
    obtain ⟨rfl, rfl⟩ := h1 e
    obtain ⟨rfl, rfl⟩ := hr.one (.inl ⟨e, rfl, rfl⟩)
    exact ⟨.inl ⟨rfl, rfl⟩, World.ownsRow_nil _ _ _ _⟩
  | true =>
    obtain ⟨K, f, r, g, hh, n, rv, st, e1, e2, I, t, bb, l1, l2, l3, hs, rfl, rfl, hg, hS, hB⟩ := h2 e
    obtain ⟨rfl, rfl⟩ := hr.one (.inr ⟨e, K, f, r, e1, e2, I, t, bb, rfl, rfl⟩)
    exact ⟨.inr ⟨g, rv, st, by rw [l1], hg, by rw [l1]; exact hS, by rw [l1]; exact l3, hs⟩, hB⟩
end Go.Proofs.Ytbgdapdenbldmaa
namespace Go.Proofs.Ytbgdapdenbldmaa
open Go.RowKit Go.Sort
set_option linter.unusedVariables false
def ReachIs (p : PImg) (k : Int) (r : Int) : Prop := (stB p k = false ∧ r = -1) ∨ (stB p k = true ∧ ∃ L H, IsRes p k L H ∧ r = ((H.count true : Nat) : Int))
theorem ReachIs.one {p : PImg} {k : Int} {r r' : Int} (h : ReachIs p k r) (h' : ReachIs p k r') : r = r' := by
  rcases h with ⟨a, rfl⟩ | ⟨a, L, H, b, rfl⟩
  · rcases h' with ⟨_, rfl⟩ | ⟨a', _⟩
    · rfl
    · rw [a] at a'; cases a'
  · rcases h' with ⟨a', _⟩ | ⟨_, L', H', b', rfl⟩
    · rw [a] at a'; cases a'
    · rw [(b.one b').2]
theorem count_more {l : List Bool} {i : Nat} {b : Bool} (h : l[i]? = some b) : ((l.take (i + 1)).count true) = (l.take i).count true + (if b then 1 else 0) := by
  rw [List.take_add_one, h, List.count_append]
  cases b <;> rfl
set_option maxHeartbeats 1000000 in
set_option maxRecDepth 100000 in
theorem specReached_any (p : PImg) (k : Int) (fv cv : Value) (w : World) (h : ArgImg w fv cv p) (hw : imgW p) :
    Calls Try.prog 7 #[.agg #[fv, cv], .int .i64 k] w fun e w' => ∃ r : Int, e = .returned (.int .i64 r) ∧ ReachIs p k r ∧ Below w.heap.size w w' := by
  have b0 : Below w.heap.size w (w.alloc (.cells #[fv, cv] 31)) := (Below.refl _ _).alloc (Nat.le_refl _) _
  have z0 := heap_alloc_new w (.cells #[fv, cv] 31)
  have cS := (specStates_any p k fv cv _ (h.below b0) hw).mono (fun e w' (hh : ∃ lv hv, e = .returned (.tuple #[lv, hv, .bool (stB p k)]) ∧ StaRes p k (stB p k) lv hv _ w') => show ∃ (lv hv : Value) (L : List PSta) (Hh : List Bool), e = .returned (.tuple #[lv, hv, .bool (stB p k)]) ∧ Hid (IsRes p k L Hh) ∧ Hid (ArgBo w' hv Hh) ∧ Below _ _ w' by
    obtain ⟨lv, hv, e1, e2⟩ := hh
    obtain ⟨L, Hh, a, b, c⟩ := e2.lists
    exact ⟨lv, hv, L, Hh, e1, a, c, e2.1⟩)
  obtain ⟨SB, eSB⟩ : ∃ x, stB p k = x := ⟨_, rfl⟩
  have HSB : Hid (stB p k = SB) := eSB
  rw [eSB] at cS
  clear eSB h hw
  obtain ⟨W0, hW0⟩ : ∃ W, w.alloc (.cells #[fv, cv] 31) = W := ⟨_, rfl⟩
  rw [hW0] at b0 z0 cS
  have HW0 : Hid (_ = W0) := hW0
  clear hW0
  obtain ⟨G, hG⟩ : ∃ G, w.heap.size = G := ⟨_, rfl⟩
  rw [hG] at z0
  obtain ⟨p0, p1⟩ := two_cells_of z0
  go_enter Try.func7, Try.ntmps7
  go_upto_region 1 with fail
  rw [HW0.out]
  clear HW0
  try simp only [hG]
  cases SB with
  | false =>
    go_wp2_with (go_at_call 24; (with_reducible refine cS.mono ?_); rintro e w2 ⟨lv, hv, L, Hh, rfl, HR, HHa, b2⟩)
    go_ret
    exact ⟨-1, rfl, .inl ⟨HSB.out, rfl⟩, chain b0 b2⟩
  | true =>
    go_upto_region 2 with (go_at_call 24; (with_reducible refine cS.mono ?_); rintro e w2 ⟨lv, hv, L, Hh, rfl, HR, HHa, b2⟩)
    obtain ⟨hx, hc, rfl, hm, ho⟩ := HHa.out.opened
    obtain ⟨n, hn⟩ : ∃ n, Hh.length = n := ⟨_, rfl⟩
    have hfew : n ≤ 300 := by rw [← hn]; exact HR.out.few.2.1
    rw [hn] at ho hm ⊢
    have HN : Hid (Hh.length = n) := hn
    have HO : Hid (0 < n → ∃ b o, hx = some ⟨b, o, none⟩ ∧ b < w2.heap.size ∧ ∀ (j : Nat) (z : Bool), Hh[j]? = some z → w2.cell? ⟨b, o + j, none⟩ = some (.bool z)) := ho
    have B2 : Below w.heap.size w w2 := chain b0 b2
    clear ho hn p0 p1 cS b2 z0 HHa hm
    go_upto_region 6 with fail
    go_loopw [8, 9] (fun v i wr => ∃ j : Nat, j ≤ n ∧ i = .int .i64 j ∧ v = .int .i64 (((Hh.take j).count true : Nat) : Int) ∧ w2 = wr) (fun _ i _ => n - (intOf i).toNat)
    case atStart => exact ⟨0, Nat.zero_le _, rfl, rfl, rfl⟩
    case round =>
      obtain ⟨j, hj, rfl, rfl, rfl⟩ := hrel
      by_cases hjn : j < n
      · obtain ⟨b, o, rfl, hb, hcc⟩ := HO.out (by omega)
        obtain ⟨q, hq⟩ : ∃ q, Hh[j]? = some q := ⟨_, List.getElem?_eq_getElem (by have := HN.out; omega)⟩
        have g0 : w2.cell? ⟨b, o + j, none⟩ = some (.bool q) := hcc j q hq
        have hji : (j : Int) < (n : Int) := by omega
        have hj0 : (0 : Int) ≤ (j : Int) := by omega
        have HT := count_more hq
        obtain ⟨N, hN⟩ : ∃ N, (Hh.take j).count true = N := ⟨_, rfl⟩
        have hNj : N ≤ j := by
          rw [← hN]
          refine Nat.le_trans List.count_le_length ?_
          rw [List.length_take]
          omega
        rw [hN] at HT ⊢
        have HT2 : Hid ((Hh.take (j + 1)).count true = N + if q then 1 else 0) := HT
        clear HT hN hcc hq
        cases q with
        | true =>
          go_wp2
          go_roundw
          case rel => exact ⟨j + 1, by omega, by go_num, by rw [HT2.out]; go_num, trivial⟩
          case measure => simp [intOf]; omega
        | false =>
          go_wp2
          go_roundw
          case rel => exact ⟨j + 1, by omega, by go_num, by rw [HT2.out]; rfl, trivial⟩
          case measure => simp [intOf]; omega
      · have hje : j = n := by omega
        subst hje
        go_wp2
        go_ret
        exact ⟨_, rfl, .inr ⟨HSB.out, L, Hh, HR.out, by rw [← HN.out, List.take_length]⟩, B2⟩
end Go.Proofs.Ytbgdapdenbldmaa
