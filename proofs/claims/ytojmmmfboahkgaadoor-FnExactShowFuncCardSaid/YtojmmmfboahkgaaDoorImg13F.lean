/-
  The specification's ImageOk and CodeSize.
-/
import Derived.Test.YtojmmmfboahkgaaDoorImg13D
namespace Go.Proofs.YtojmmmfboahkgaaDoor
open Go.RowKit Go.Sort
set_option linter.unusedVariables false

/-- what is asked of the first function -/
def firstOk (l : List PFun) : Bool := match l with | [] => false | f :: _ => decide (f.params = 0) && decide (f.caps.length = 0)

set_option maxHeartbeats 1000000 in
set_option maxRecDepth 100000 in
theorem specImageOk_any (p : PImg) (fv cv : Value) (w : World) (h : ArgImg w fv cv p) (hw : imgW p) :
    Calls Tryd.prog 19 #[.agg #[fv, cv]] w fun e w' => e = .returned (.bool (imgOk p)) ∧ Below w.heap.size w w' := by
  obtain ⟨hF, hC⟩ := h
  obtain ⟨x1, c1, rfl, m1, o1⟩ := hF
  obtain ⟨x2, c2, rfl, m2, o2⟩ := hC.opened conC_len
  have HW : Hid (∀ x ∈ p.consts, conW x) := hw.consts
  clear hC hw
  unfold maxLen at m1 m2
  obtain ⟨n1, e1⟩ : ∃ n, p.funcs.length = n := ⟨_, rfl⟩
  obtain ⟨n2, e2⟩ : ∃ n, p.consts.length = n := ⟨_, rfl⟩
  have HF0 : imgOk p = (inB n1 1 16 && (decide (n2 ≤ 40) && (p.consts.all conOk && (p.funcs.all funOk && firstOk p.funcs)))) := by unfold imgOk; rw [e1, e2]; rfl
  obtain ⟨F, hF⟩ : ∃ F, imgOk p = F := ⟨_, rfl⟩
  rw [hF] at HF0 ⊢
  rw [e1] at m1 o1 ⊢
  rw [e2] at m2 o2 ⊢
  have H1 : Hid (0 < n1 → ∃ b o, x1 = some ⟨b, o, none⟩ ∧ b < w.heap.size ∧ ∀ j q, p.funcs[j]? = some q → ∃ cv kv hv, FunAt w b (o + j * 5) q cv kv hv) := o1
  have H2 : Hid (0 < n2 → ∃ b o, x2 = some ⟨b, o, none⟩ ∧ b < w.heap.size ∧ ∀ j q, p.consts[j]? = some q → ∀ c u, (conC q)[c]? = some u → w.cell? ⟨b, o + j * 3 + c, none⟩ = some u) := o2
  have E1 : Hid (p.funcs.length = n1) := e1
  have E2 : Hid (p.consts.length = n2) := e2
  clear o1 o2 e1 e2 hF
  have cP := fun W => l01In_b n1 1 16 W
  obtain ⟨bP, eP⟩ : ∃ b, inB n1 1 16 = b := ⟨_, rfl⟩
  have HP : Hid (inB n1 1 16 = bP) := eP
  simp only [eP] at cP HF0
  have HF : Hid (F = (bP && (decide (n2 ≤ 40) && (p.consts.all conOk && (p.funcs.all funOk && firstOk p.funcs))))) := HF0
  clear eP HF0
  cases bP with
  | false =>
    have hF : F = false := by rw [HF.out]; rfl
    subst hF
    clear HF H1 H2 E1 E2 HP
    go_enter Tryd.func19, Tryd.ntmps19
    go_wp2_with (go_at_call 13; with_reducible refine (cP _).mono ?_; rintro e w' ⟨rfl, rfl⟩)
    go_ret
    exact ⟨rfl, (Below.refl _ _).alloc (Nat.le_refl _) _⟩
  | true =>
  by_cases hn2 : n2 ≤ 40
  case neg =>
    have hF : F = false := by rw [HF.out, decide_eq_false hn2]; rfl
    subst hF
    clear HF H1 H2 E1 E2 HP
    have hx : (40 : Int) < (n2 : Int) := by omega
    go_enter Tryd.func19, Tryd.ntmps19
    go_wp2_with (go_at_call 13; with_reducible refine (cP _).mono ?_; rintro e w' ⟨rfl, rfl⟩)
    go_ret
    exact ⟨rfl, (Below.refl _ _).alloc (Nat.le_refl _) _⟩
  have hx2 : ¬ (40 : Int) < (n2 : Int) := by omega
  have hpos : 0 < n1 := by
    have h := HP.out
    unfold inB at h
    simp only [Bool.and_eq_true, decide_eq_true_eq] at h
    omega
  have HF1 : Hid (F = (p.consts.all conOk && (p.funcs.all funOk && firstOk p.funcs))) := by
    have h := HF.out
    rw [decide_eq_true hn2] at h
    exact h
  clear HF HP
  have b0 : Below w.heap.size w (w.alloc (.cells #[.slice x1 n1 c1, .slice x2 n2 c2] 37)) := (Below.refl _ _).alloc (Nat.le_refl _) _
  have k1 := fun W (h : Below _ _ W) => new_cell (w := w) (cs := #[.slice x1 n1 c1, .slice x2 n2 c2]) (t := 37) h 0 _ rfl
  have k2 := fun W (h : Below _ _ W) => new_cell (w := w) (cs := #[.slice x1 n1 c1, .slice x2 n2 c2]) (t := 37) h 1 _ rfl
  obtain ⟨W0, hW0⟩ : ∃ W, w.alloc (.cells #[.slice x1 n1 c1, .slice x2 n2 c2] 37) = W := ⟨_, rfl⟩
  rw [hW0] at b0 k1 k2
  have HW0 : Hid (w.alloc (.cells #[.slice x1 n1 c1, .slice x2 n2 c2] 37) = W0) := hW0
  clear hW0
  go_enter Tryd.func19, Tryd.ntmps19
  go_upto_region 3 with (go_at_call 13; with_reducible refine (cP _).mono ?_; rintro e w' ⟨rfl, rfl⟩)
  rw [HW0.out]
  clear HW0 cP hx2 hn2
  go_wp2
  go_loopw [3] (fun i wr => ∃ k : Nat, k ≤ n2 ∧ i = .int .i64 k ∧ Hid (∀ j q, j < k → p.consts[j]? = some q → conOk q = true) ∧ Below W0.heap.size W0 wr) (fun i _ => n2 - (intOf i).toNat)
  case atStart => exact ⟨0, Nat.zero_le _, rfl, fun j q hj => absurd hj (Nat.not_lt_zero _), Below.refl _ _⟩
  case round =>
    obtain ⟨k, hk, rfl, HA, hb⟩ := hrel
    have s2 := k2 wr hb
    by_cases hkn : k < n2
    · obtain ⟨b, o, rfl, hbz, hcell⟩ := H2.out (by omega)
      obtain ⟨q, hq⟩ : ∃ q, p.consts[k]? = some q := ⟨_, List.getElem?_eq_getElem (by have := E2.out; omega)⟩
      have g0 : wr.cell? ⟨b, o + k * 3, none⟩ = some (.int .i64 q.kind) := ((chain b0 hb).cell hbz).trans (hcell k q hq 0 _ rfl)
      have g1 : wr.cell? ⟨b, o + k * 3 + 1, none⟩ = some (.int .u64 (q.num : Int)) := ((chain b0 hb).cell hbz).trans (hcell k q hq 1 _ rfl)
      have g2 : wr.cell? ⟨b, o + k * 3 + 2, none⟩ = some (.string q.text) := ((chain b0 hb).cell hbz).trans (hcell k q hq 2 _ rfl)
      have hki : (k : Int) < (n2 : Int) := by omega
      have hk0 : (0 : Int) ≤ (k : Int) := by omega
      have cI := fun W => specConstOk_any q W (HW.out q (List.mem_iff_getElem?.2 ⟨_, hq⟩))
      obtain ⟨bI, eI⟩ : ∃ b, conOk q = b := ⟨_, rfl⟩
      simp only [eI] at cI
      have HI : Hid (conOk q = bI) := eI
      have HQ : Hid (p.consts[k]? = some q) := hq
      clear hcell eI hq
      cases bI with
      | false =>
        have hF : F = false := by rw [HF1.out, all_no HQ.out HI.out]; rfl
        subst hF
        clear H1 H2 k1 k2
        go_wp2_with (go_at_call 32; with_reducible refine (cI _).mono ?_; rintro e w' ⟨rfl, hb1⟩)
        go_ret
        exact ⟨rfl, chain (chain b0 hb) hb1⟩
      | true =>
        go_wp2_with (go_at_call 32; with_reducible refine (cI _).mono ?_; rintro e w' ⟨rfl, hb1⟩)
        go_roundw
        case rel => exact ⟨k + 1, by omega, by go_num, all_more HA.out HQ.out HI.out, chain hb hb1⟩
        case measure => simp [intOf]; omega
    · have hall : p.consts.all conOk = true := all_yes (n := k) (by have := E2.out; omega) HA.out
      have HF2 : Hid (F = (p.funcs.all funOk && firstOk p.funcs)) := by
        have h := HF1.out
        rw [hall] at h
        exact h
      clear HF1 hall HA H2 k2
      go_wp2
      go_loopw [4] (fun i wr => ∃ k : Nat, k ≤ n1 ∧ i = .int .i64 k ∧ Hid (∀ j q, j < k → p.funcs[j]? = some q → funOk q = true) ∧ Below W0.heap.size W0 wr) (fun i _ => n1 - (intOf i).toNat)
      case atStart => exact ⟨0, Nat.zero_le _, rfl, fun j q hj => absurd hj (Nat.not_lt_zero _), hb⟩
      case round =>
        clear hb hk hkn
        obtain ⟨k, hk, rfl, HA, hb⟩ := hrel
        have s2 := k1 _ hb
        by_cases hkn : k < n1
        · obtain ⟨b, o, rfl, hbz, hcell⟩ := H1.out (by omega)
          obtain ⟨q, hq⟩ : ∃ q, p.funcs[k]? = some q := ⟨_, List.getElem?_eq_getElem (by have := E1.out; omega)⟩
          obtain ⟨cv, kv, hv, hA⟩ := hcell k q hq
          have hA' := hA.below (chain b0 hb)
          have g0 := hA'.c0
          have g1 := hA'.c1
          have g2 := hA'.c2
          have g3 := hA'.c3
          have g4 := hA'.c4
          have hki : (k : Int) < (n1 : Int) := by omega
          have hk0 : (0 : Int) ≤ (k : Int) := by omega
          have cI := l13Func_any q cv kv hv wr hA'.caps hA'.code hA'.hnds
          obtain ⟨bI, eI⟩ : ∃ b, funOk q = b := ⟨_, rfl⟩
          simp only [eI] at cI
          have HI : Hid (funOk q = bI) := eI
          have HQ : Hid (p.funcs[k]? = some q) := hq
          clear hcell eI hq hA hA'
          cases bI with
          | false =>
            have hF : F = false := by rw [HF2.out, all_no HQ.out HI.out]; rfl
            subst hF
            clear H1 k1
            go_wp2_with (go_at_call 33; with_reducible refine cI.mono ?_; rintro e w' ⟨rfl, hb1⟩)
            go_ret
            exact ⟨rfl, chain (chain b0 hb) hb1⟩
          | true =>
            go_wp2_with (go_at_call 33; with_reducible refine cI.mono ?_; rintro e w' ⟨rfl, hb1⟩)
            go_roundw
            case rel => exact ⟨k + 1, by omega, by go_num, all_more HA.out HQ.out HI.out, chain hb hb1⟩
            case measure => simp [intOf]; omega
        · have hall : p.funcs.all funOk = true := all_yes (n := k) (by have := E1.out; omega) HA.out
          have HF3 : Hid (F = firstOk p.funcs) := by
            have h := HF2.out
            rw [hall] at h
            exact h
          clear HF2 hall HA
          obtain ⟨b, o, rfl, hbz, hcell⟩ := H1.out hpos
          obtain ⟨q, hq⟩ : ∃ q, p.funcs[0]? = some q := ⟨_, List.getElem?_eq_getElem (by have := E1.out; omega)⟩
          obtain ⟨cv, kv, hv, hA⟩ := hcell 0 q hq
          have hA' := hA.below (chain b0 hb)
          obtain ⟨cx, cc, rfl, _, _⟩ := hA'.caps.opened capC_len
          have g0 := hA'.c0
          have g2 := hA'.c2
          have e0 : o + 0 * 5 = o := by omega
          rw [e0] at g0 g2
          have hq1 : firstOk p.funcs = (decide (q.params = 0) && decide (q.caps.length = 0)) := by
            revert hq
            cases p.funcs with
            | nil => intro h; simp at h
            | cons f r =>
              intro h
              simp at h
              subst h
              rfl
          rw [hq1] at HF3
          have hp0 : (0 : Int) < (n1 : Int) := by omega
          obtain ⟨P, hP⟩ : ∃ x, q.params = x := ⟨_, rfl⟩
          obtain ⟨M, hM⟩ : ∃ x, q.caps.length = x := ⟨_, rfl⟩
          rw [hP, hM] at HF3
          rw [hP] at g0
          rw [hM] at g2
          clear hP hM hA hA' hcell hq hq1 H1 k1
          by_cases z1 : P = 0
          · subst z1
            by_cases z2 : M = 0
            · subst z2
              have hF : F = true := by rw [HF3.out]; rfl
              subst hF
              clear HF3
              go_wp2
              go_ret
              exact ⟨rfl, chain b0 hb⟩
            · have hF : F = false := by rw [HF3.out, decide_eq_false z2]; rfl
              subst hF
              have z3 : ((M : Int) == 0) = false := by rw [beq_eq_false_iff_ne]; omega
              clear HF3
              go_wp2
              go_ret
              exact ⟨rfl, chain b0 hb⟩
          · have hF : F = false := by rw [HF3.out, decide_eq_false z1]; rfl
            subst hF
            have z3 : (P == 0) = false := by rw [beq_eq_false_iff_ne]; omega
            clear HF3
            go_wp2
            go_ret
            exact ⟨rfl, chain b0 hb⟩

end Go.Proofs.YtojmmmfboahkgaaDoor
