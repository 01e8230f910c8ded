/-
  The program's own ImageOk and CodeSize.
-/
import Derived.Test.YtgaphgejpnepfaaIImg13F
import Derived.Test.YtgaphgejpnepfaaImg13G
namespace Go.Proofs.Ytgaphgejpnepfaa
open Go.RowKit Go.Sort
set_option linter.unusedVariables false

set_option maxHeartbeats 2000000 in
set_option maxRecDepth 100000 in
theorem iAllFunc (l : List PFun) (v : Value) (w : World) (h : ArgFuns w v l) :
    Calls Try.prog 100 #[v, .func (.func 101) #[] #[]] w fun e w' => e = .returned (.bool (l.all funOk)) ∧ Below w.heap.size w w' := by
  obtain ⟨x, c, rfl, m, o⟩ := h
  unfold maxLen at m
  obtain ⟨n, e1⟩ : ∃ n, l.length = n := ⟨_, rfl⟩
  rw [e1] at m o ⊢
  obtain ⟨F, hF⟩ : ∃ F, l.all funOk = F := ⟨_, rfl⟩
  rw [hF]
  have HF : Hid (l.all funOk = F) := hF
  have H1 : Hid (0 < n → ∃ b o, x = some ⟨b, o, none⟩ ∧ b < w.heap.size ∧ ∀ j q, l[j]? = some q → ∃ cv kv hv, FunAt w b (o + j * 5) q cv kv hv) := o
  have E1 : Hid (l.length = n) := e1
  clear o e1 hF
  go_enter Try.func100, Try.ntmps100
  go_wp2
  go_loopw [9] (fun i wr => ∃ k : Nat, k ≤ n ∧ i = .int .i64 k ∧ Hid (∀ j q, j < k → l[j]? = some q → funOk q = true) ∧ Below w.heap.size w wr) (fun i _ => n - (intOf i).toNat)
  case atStart => exact ⟨0, Nat.zero_le _, rfl, fun j q hj => absurd hj (Nat.not_lt_zero _), Below.refl _ _⟩
  case round =>
    obtain ⟨k, hk, rfl, HA, hb⟩ := hrel
    by_cases hkn : k < n
    · obtain ⟨b, o, rfl, hbz, hcell⟩ := H1.out (by omega)
      obtain ⟨q, hq⟩ : ∃ q, l[k]? = some q := ⟨_, List.getElem?_eq_getElem (by have := E1.out; omega)⟩
      obtain ⟨cv, kv, hv, hA⟩ := hcell k q hq
      obtain ⟨z1, d1, rfl, _, _⟩ := id hA.caps
      obtain ⟨z2, d2, rfl, _, _⟩ := id hA.code
      obtain ⟨z3, d3, rfl, _, _⟩ := id hA.hnds
      have hA' := hA.below hb
      have g0 := hA'.c0
      have g1 := hA'.c1
      have g2 := hA'.c2
      have g3 := hA'.c3
      have g4 := hA'.c4
      have hki : (k : Int) < (n : Int) := by omega
      have hk0 : (0 : Int) ≤ (k : Int) := by omega
      have cI := fun W (h1 : Below w.heap.size w W) => iFuncOk q _ _ _ W (hA.caps.below h1) (hA.code.below h1) (hA.hnds.below h1)
      obtain ⟨bI, eI⟩ : ∃ b, funOk q = b := ⟨_, rfl⟩
      simp only [eI] at cI
      have HI : Hid (funOk q = bI) := eI
      have HQ : Hid (l[k]? = some q) := hq
      have hz : w.heap.size ≤ wr.heap.size := hb.size
      clear hcell eI hq hA hA'
      cases bI with
      | false =>
        have hF : F = false := by rw [← HF.out, all_no HQ.out HI.out]
        subst hF
        clear H1
        go_wp2_with (go_at_call 101; refine (cI _ (by repeat (first | exact hb | refine Below.setCell ?_ (by show w.heap.size ≤ wr.heap.size; exact hz) _ | refine Below.alloc ?_ hz _))).mono ?_; rintro e w' ⟨rfl, hb1⟩)
        go_ret
        exact ⟨rfl, chain (by repeat (first | exact hb | refine Below.setCell ?_ (by show w.heap.size ≤ wr.heap.size; exact hz) _ | refine Below.alloc ?_ hz _)) hb1⟩
      | true =>
        go_wp2_with (go_at_call 101; refine (cI _ (by repeat (first | exact hb | refine Below.setCell ?_ (by show w.heap.size ≤ wr.heap.size; exact hz) _ | refine Below.alloc ?_ hz _))).mono ?_; rintro e w' ⟨rfl, hb1⟩)
        go_roundw
        case rel => exact ⟨k + 1, by omega, by go_num, all_more HA.out HQ.out HI.out, chain (by repeat (first | exact hb | refine Below.setCell ?_ (by show w.heap.size ≤ wr.heap.size; exact hz) _ | refine Below.alloc ?_ hz _)) hb1⟩
        case measure => simp [intOf]; omega
    · have hall : l.all funOk = true := all_yes (n := k) (by have := E1.out; omega) HA.out
      have hF : F = true := by rw [← HF.out, hall]
      subst hF
      have hd : decide ((k : Int) < (n : Int)) = false := decide_eq_false (by omega)
      clear HA H1 hall
      go_wp2
      go_ret
      exact ⟨rfl, hb⟩

theorem img_meas (a c : Nat) : (wi (a : Int) 1 16 && (wi (c : Int) 0 40 && (wi 0 0 0 && (wi 0 0 0 && wi 0 0 0)))) = (inB a 1 16 && decide (c ≤ 40)) := by
  rw [wi_0, wi_in _ 1 16 (by decide), wi_in _ 0 40 (by decide)]
  have e1 : inB c 0 40 = decide (c ≤ 40) := by unfold inB; rw [Bool.eq_iff_iff]; simp; omega
  rw [e1]
  simp

theorem img_ok4 (p : PImg) (b : Bool) (h : (inB p.funcs.length 1 16 && decide (p.consts.length ≤ 40)) = b) : imgOk p = (b && (p.consts.all conOk && (p.funcs.all funOk && firstOk p.funcs))) := by
  rw [← h]
  show (inB p.funcs.length 1 16 && (decide (p.consts.length ≤ 40) && (p.consts.all conOk && (p.funcs.all funOk && firstOk p.funcs)))) = _
  simp only [Bool.and_assoc]

set_option maxHeartbeats 2000000 in
set_option maxRecDepth 100000 in
theorem iImageOk_any (p : PImg) (fv cv : Value) (w : World) (h : ArgImg w fv cv p) (hw : imgW p) :
    Calls Try.prog 47 #[.agg #[fv, cv]] w fun e w' => e = .returned (.bool (imgOk p)) ∧ Below w.heap.size w w' := by
  have cC := fun W (hb : Below w.heap.size w W) => iAllConst p.consts cv W (h.2.below hb) hw.consts
  have cF := fun W (hb : Below w.heap.size w W) => iAllFunc p.funcs fv W (h.1.below hb)
  obtain ⟨hF, hC⟩ := h
  obtain ⟨x1, c1, rfl, m1, o1⟩ := hF
  obtain ⟨x2, c2, rfl, m2, _⟩ := hC
  unfold maxLen at m1 m2
  have cW := fun W => iWithin5 p.funcs.length p.consts.length 0 0 0 1 0 0 0 0 16 40 0 0 0 W
  simp only [img_meas] at cW
  obtain ⟨b1, e1⟩ : ∃ b, (inB p.funcs.length 1 16 && decide (p.consts.length ≤ 40)) = b := ⟨_, rfl⟩
  simp only [e1] at cW
  rw [img_ok4 p b1 e1]
  have hpos : b1 = true → 0 < p.funcs.length := fun h => by
    rw [h] at e1
    unfold inB at e1
    simp only [Bool.and_eq_true, decide_eq_true_eq] at e1
    omega
  have H1 : Hid (b1 = true → ∃ b o q qx qc kv hv, x1 = some ⟨b, o, none⟩ ∧ b < w.heap.size ∧ FunAt w b o q (.slice qx q.caps.length qc) kv hv ∧ q.caps.length ≤ maxLen ∧ firstOk p.funcs = (decide (q.params = 0) && decide (q.caps.length = 0))) := fun h => by
    obtain ⟨b, o, e, hlt, hc⟩ := o1 (hpos h)
    obtain ⟨q, hq⟩ : ∃ q, p.funcs[0]? = some q := ⟨_, List.getElem?_eq_getElem (hpos h)⟩
    obtain ⟨qv, kv, hv, hA⟩ := hc 0 q hq
    rw [Nat.zero_mul, Nat.add_zero] at hA
    obtain ⟨qx, qc, rfl, hm, _⟩ := hA.caps
    refine ⟨b, o, q, qx, qc, kv, hv, e, hlt, hA, hm, ?_⟩
    revert hq
    cases p.funcs with
    | nil => intro h; simp at h
    | cons f r =>
      intro h
      simp at h
      subst h
      rfl
  clear e1 o1 hw
  obtain ⟨b2, e2⟩ : ∃ b, p.consts.all conOk = b := ⟨_, rfl⟩
  obtain ⟨b3, e3⟩ : ∃ b, p.funcs.all funOk = b := ⟨_, rfl⟩
  obtain ⟨b4, e4⟩ : ∃ b, firstOk p.funcs = b := ⟨_, rfl⟩
  simp only [e2] at cC
  simp only [e3] at cF
  simp only [e4] at H1
  rw [e2, e3, e4]
  clear e2 e3 e4
  obtain ⟨n1, e1⟩ : ∃ n, p.funcs.length = n := ⟨_, rfl⟩
  obtain ⟨n2, e2⟩ : ∃ n, p.consts.length = n := ⟨_, rfl⟩
  rw [e1, e2]
  simp only [e1, e2] at cW
  simp only [e1] at cF m1
  simp only [e2] at cC m2
  rw [e1] at hpos
  clear e1 e2
  have hb2 := build2
  have b0 : ∀ cs t, Below w.heap.size w (w.alloc (.cells cs t)) := fun cs t => (Below.refl _ _).alloc (Nat.le_refl _) _
  go_enter Try.func47, Try.ntmps47
  go_wp2_with fail
  refine (cW _).mono ?_
  rintro e w1 ⟨rfl, hb1⟩
  have hX1 : Below (w.alloc (.cells #[.slice x1 n1 c1, .slice x2 n2 c2] 41)).heap.size (w.alloc (.cells #[.slice x1 n1 c1, .slice x2 n2 c2] 41)) w1 := chain (by repeat (first | exact Below.refl _ _ | refine Below.setCell ?_ (by simp; try omega) _ | refine Below.alloc ?_ (by simp; try omega) _)) hb1
  have hY1 : Below w.heap.size w w1 := chain (b0 _ _) hX1
  clear hb1 cW
  cases b1 with
  | false =>
    go_wp2
    go_ret
    exact ⟨rfl, hY1⟩
  | true =>
  have k2 := new_cell hX1 1 _ rfl
  go_wp2_with fail
  refine (cC _ hY1).mono ?_
  rintro e w2 ⟨rfl, hb2⟩
  have hX2 := chain hX1 hb2
  have hY2 := chain hY1 hb2
  clear hb2 cC k2
  cases b2 with
  | false =>
    go_wp2
    go_ret
    exact ⟨rfl, hY2⟩
  | true =>
  have k3 := new_cell hX2 0 _ rfl
  go_wp2_with fail
  refine (cF _ hY2).mono ?_
  rintro e w3 ⟨rfl, hb3⟩
  have hX3 := chain hX2 hb3
  have hY3 := chain hY2 hb3
  clear hb3 cF k3
  cases b3 with
  | false =>
    go_wp2
    go_ret
    exact ⟨rfl, hY3⟩
  | true =>
  have k4 := new_cell hX3 0 _ rfl
  obtain ⟨b, o, q, qx, qc, kv, hv, rfl, hlt, hA, hm, hf⟩ := H1.out (by first | rfl | trivial)
  have hA' := hA.below hY3
  have g0 := hA'.c0
  have g1 := hA'.c1
  have g2 := hA'.c2
  have g3 := hA'.c3
  have g4 := hA'.c4
  have hp0 : (0 : Int) < (n1 : Int) := by have := hpos (by first | rfl | trivial); omega
  have cS := fun W => iStartsAlone q qx qc kv hv W hm
  simp only [← hf] at cS
  clear hf hA hA' H1 hpos
  go_wp2_with fail
  refine (cS _).mono ?_
  rintro e w4 ⟨rfl, hb4⟩
  go_wp2
  go_ret
  exact ⟨rfl, chain hY3 hb4⟩

end Go.Proofs.Ytgaphgejpnepfaa
