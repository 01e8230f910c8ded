/-
  The specification's ConstOk and what it asks of a function of an image.
-/
import Derived.Test.YtojmmmfboahkgaaDoorImg13B
import Derived.Test.YtojmmmfboahkgaaDoorOrder
import Derived.Test.YtojmmmfboahkgaaDoorGreat
import Derived.Deep.QuietTactic
import Derived.BigQuiet
import Derived.Lib.QuietBelow
namespace Go.Proofs.YtojmmmfboahkgaaDoor
open Go.RowKit Go.Sort
set_option linter.unusedVariables false

/-- a number within bounds -/
def inB (x a b : Int) : Bool := decide (a ≤ x) && decide (x ≤ b)
theorem l01In_b (x a b : Int) (w : World) : Calls Tryd.prog 13 #[.int .i64 x, .int .i64 a, .int .i64 b] w fun e w' => e = .returned (.bool (inB x a b)) ∧ w = w' := l01In_any x a b w

/-- a right constant -/
def conOk (p : PCon) : Bool :=
  if p.kind = 1 then decide (p.text.size = 0) && (decide (kindN p.num ≠ 1) || decide (p.num = 9221120237041090560))
  else if p.kind = 2 then decide (p.num = 0) && decide (p.text.size ≤ 40)
  else if p.kind = 3 ∨ p.kind = 4 ∨ p.kind = 5 then decide (p.num = 0) && decide (p.text.size = 0)
  else false
def insOk (p : PIns) : Bool := inB p.op 1 19 && (inB p.a 0 300 && inB p.b 0 300)
def capOk (p : PCap) : Bool := inB p.index 0 40
def hndOk (p : PHnd) : Bool := inB p.lo 0 300 && (inB p.hi 0 300 && inB p.target 0 300)
/-- a right function -/
def funOk (p : PFun) : Bool :=
  inB p.params 0 4 && (inB p.regs p.params 40 && (decide (p.caps.length ≤ 20) && (inB p.code.length 1 300 && (decide (p.hnds.length ≤ 40) && (p.caps.all capOk && (p.code.all insOk && p.hnds.all hndOk))))))
/-- a right image -/
def imgOk (p : PImg) : Bool :=
  inB p.funcs.length 1 16 && (decide (p.consts.length ≤ 40) && (p.consts.all conOk && (p.funcs.all funOk && (match p.funcs with | [] => false | f :: _ => decide (f.params = 0) && decide (f.caps.length = 0)))))
/-- how many instructions it has -/
def imgSize (p : PImg) : Nat := if imgOk p then (p.funcs.map (fun f => f.code.length)).sum else 0

theorem all_no {α : Type} {l : List α} {f : α → Bool} {k : Nat} {q : α} (h : l[k]? = some q) (hf : f q = false) : l.all f = false := by
  rw [List.all_eq_false]
  exact ⟨q, List.mem_iff_getElem?.2 ⟨k, h⟩, by rw [hf]; decide⟩
theorem all_yes {α : Type} {l : List α} {f : α → Bool} {n : Nat} (hn : l.length ≤ n) (h : ∀ j q, j < n → l[j]? = some q → f q = true) : l.all f = true := by
  rw [List.all_eq_true]
  intro q hq
  obtain ⟨j, hj⟩ := List.mem_iff_getElem?.1 hq
  exact h j q (Nat.lt_of_lt_of_le (List.getElem?_eq_some_iff.1 hj).1 hn) hj
theorem all_more {α : Type} {l : List α} {f : α → Bool} {k : Nat} {q : α} (h : ∀ j q, j < k → l[j]? = some q → f q = true) (hq : l[k]? = some q) (hf : f q = true) : ∀ j q, j < k + 1 → l[j]? = some q → f q = true := fun j x hj hx => by
  rcases Nat.lt_or_ge j k with h' | h'
  · exact h j x h' hx
  · have e : j = k := by omega
    subst e
    rw [hq] at hx
    injection hx with hx
    rw [← hx]
    exact hf

set_option maxHeartbeats 1000000 in
set_option maxRecDepth 100000 in
theorem l13Func_any (p : PFun) (cv kv hv : Value) (w : World) (h2 : ArgFlat w cv 2 p.caps.length (p.caps.flatMap capC)) (h3 : ArgFlat w kv 3 p.code.length (p.code.flatMap insC)) (h4 : ArgFlat w hv 3 p.hnds.length (p.hnds.flatMap hndC)) :
    Calls Tryd.prog 33 #[.agg #[.int .i64 p.params, .int .i64 p.regs, cv, kv, hv]] w fun e w' => e = .returned (.bool (funOk p)) ∧ Below w.heap.size w w' := by
  obtain ⟨x2, c2, rfl, m2, o2⟩ := h2.opened capC_len
  obtain ⟨x3, c3, rfl, m3, o3⟩ := h3.opened insC_len
  obtain ⟨x4, c4, rfl, m4, o4⟩ := h4.opened hndC_len
  clear h2 h3 h4
  unfold maxLen at m2 m3 m4
  obtain ⟨n2, e2⟩ : ∃ n, p.caps.length = n := ⟨_, rfl⟩
  obtain ⟨n3, e3⟩ : ∃ n, p.code.length = n := ⟨_, rfl⟩
  obtain ⟨n4, e4⟩ : ∃ n, p.hnds.length = n := ⟨_, rfl⟩
  have HF0 : funOk p = (inB p.params 0 4 && (inB p.regs p.params 40 && (decide (n2 ≤ 20) && (inB n3 1 300 && (decide (n4 ≤ 40) && (p.caps.all capOk && (p.code.all insOk && p.hnds.all hndOk))))))) := by unfold funOk; rw [e2, e3, e4]
  obtain ⟨F, hF⟩ : ∃ F, funOk p = F := ⟨_, rfl⟩
  rw [hF] at HF0 ⊢
  rw [e2] at m2 o2 ⊢
  rw [e3] at m3 o3 ⊢
  rw [e4] at m4 o4 ⊢
  have H2 : Hid (0 < n2 → ∃ b o, x2 = some ⟨b, o, none⟩ ∧ b < w.heap.size ∧ ∀ j q, p.caps[j]? = some q → ∀ c u, (capC q)[c]? = some u → w.cell? ⟨b, o + j * 2 + c, none⟩ = some u) := o2
  have H3 : Hid (0 < n3 → ∃ b o, x3 = some ⟨b, o, none⟩ ∧ b < w.heap.size ∧ ∀ j q, p.code[j]? = some q → ∀ c u, (insC q)[c]? = some u → w.cell? ⟨b, o + j * 3 + c, none⟩ = some u) := o3
  have H4 : Hid (0 < n4 → ∃ b o, x4 = some ⟨b, o, none⟩ ∧ b < w.heap.size ∧ ∀ j q, p.hnds[j]? = some q → ∀ c u, (hndC q)[c]? = some u → w.cell? ⟨b, o + j * 3 + c, none⟩ = some u) := o4
  have E2 : Hid (p.caps.length = n2) := e2
  have E3 : Hid (p.code.length = n3) := e3
  have E4 : Hid (p.hnds.length = n4) := e4
  clear o2 o3 o4 e2 e3 e4 hF
  obtain ⟨P, hP⟩ : ∃ x, p.params = x := ⟨_, rfl⟩
  obtain ⟨R, hR⟩ : ∃ x, p.regs = x := ⟨_, rfl⟩
  rw [hP, hR] at HF0 ⊢
  clear hP hR
  have cP := fun W => l01In_b P 0 4 W
  have cR := fun W => l01In_b R P 40 W
  have cK := fun W => l01In_b n3 1 300 W
  obtain ⟨bP, eP⟩ : ∃ b, inB P 0 4 = b := ⟨_, rfl⟩
  obtain ⟨bR, eR⟩ : ∃ b, inB R P 40 = b := ⟨_, rfl⟩
  obtain ⟨bK, eK⟩ : ∃ b, inB n3 1 300 = b := ⟨_, rfl⟩
  simp only [eP] at cP HF0
  simp only [eR] at cR HF0
  simp only [eK] at cK HF0
  have HF : Hid (F = (bP && (bR && (decide (n2 ≤ 20) && (bK && (decide (n4 ≤ 40) && (p.caps.all capOk && (p.code.all insOk && p.hnds.all hndOk)))))))) := HF0
  clear eP eR eK HF0
  cases bP with
  | false =>
    have hF : F = false := by rw [HF.out]; rfl
    subst hF
    clear HF H2 H3 H4 E2 E3 E4
    go_enter Tryd.func33, Tryd.ntmps33
    go_wp2_with (go_at_call 13; (first | with_reducible refine (cP _).mono ?_ | with_reducible refine (cR _).mono ?_ | with_reducible refine (cK _).mono ?_); rintro e w' ⟨rfl, rfl⟩)
    go_ret
    exact ⟨rfl, (Below.refl _ _).alloc (Nat.le_refl _) _⟩
  | true =>
  cases bR with
  | false =>
    have hF : F = false := by rw [HF.out]; rfl
    subst hF
    clear HF H2 H3 H4 E2 E3 E4
    go_enter Tryd.func33, Tryd.ntmps33
    go_wp2_with (go_at_call 13; (first | with_reducible refine (cP _).mono ?_ | with_reducible refine (cR _).mono ?_ | with_reducible refine (cK _).mono ?_); rintro e w' ⟨rfl, rfl⟩)
    go_ret
    exact ⟨rfl, (Below.refl _ _).alloc (Nat.le_refl _) _⟩
  | true =>
  by_cases hn2 : n2 ≤ 20
  case neg =>
    have hF : F = false := by rw [HF.out, decide_eq_false hn2]; rfl
    subst hF
    clear HF H2 H3 H4 E2 E3 E4
    have hx : (20 : Int) < (n2 : Int) := by omega
    go_enter Tryd.func33, Tryd.ntmps33
    go_wp2_with (go_at_call 13; (first | with_reducible refine (cP _).mono ?_ | with_reducible refine (cR _).mono ?_ | with_reducible refine (cK _).mono ?_); rintro e w' ⟨rfl, rfl⟩)
    go_ret
    exact ⟨rfl, (Below.refl _ _).alloc (Nat.le_refl _) _⟩
  have hx2 : ¬ (20 : Int) < (n2 : Int) := by omega
  cases bK with
  | false =>
    have hF : F = false := by rw [HF.out, decide_eq_true hn2]; rfl
    subst hF
    clear HF H2 H3 H4 E2 E3 E4
    go_enter Tryd.func33, Tryd.ntmps33
    go_wp2_with (go_at_call 13; (first | with_reducible refine (cP _).mono ?_ | with_reducible refine (cR _).mono ?_ | with_reducible refine (cK _).mono ?_); rintro e w' ⟨rfl, rfl⟩)
    go_ret
    exact ⟨rfl, (Below.refl _ _).alloc (Nat.le_refl _) _⟩
  | true =>
  by_cases hn4 : n4 ≤ 40
  case neg =>
    have hF : F = false := by rw [HF.out, decide_eq_true hn2, decide_eq_false hn4]; rfl
    subst hF
    clear HF H2 H3 H4 E2 E3 E4
    have hx : (40 : Int) < (n4 : Int) := by omega
    go_enter Tryd.func33, Tryd.ntmps33
    go_wp2_with (go_at_call 13; (first | with_reducible refine (cP _).mono ?_ | with_reducible refine (cR _).mono ?_ | with_reducible refine (cK _).mono ?_); rintro e w' ⟨rfl, rfl⟩)
    go_ret
    exact ⟨rfl, (Below.refl _ _).alloc (Nat.le_refl _) _⟩
  have hx4 : ¬ (40 : Int) < (n4 : Int) := by omega
  have HF1 : Hid (F = (p.caps.all capOk && (p.code.all insOk && p.hnds.all hndOk))) := by
    have h := HF.out
    rw [decide_eq_true hn2, decide_eq_true hn4] at h
    exact h
  clear HF
  have b0 : Below w.heap.size w (w.alloc (.cells #[.int .i64 P, .int .i64 R, .slice x2 n2 c2, .slice x3 n3 c3, .slice x4 n4 c4] 54)) := (Below.refl _ _).alloc (Nat.le_refl _) _
  have hz : w.heap.size < (w.alloc (.cells #[.int .i64 P, .int .i64 R, .slice x2 n2 c2, .slice x3 n3 c3, .slice x4 n4 c4] 54)).heap.size := by simp
  have k2 := fun W (h : Below _ _ W) => new_cell (w := w) (cs := #[.int .i64 P, .int .i64 R, .slice x2 n2 c2, .slice x3 n3 c3, .slice x4 n4 c4]) (t := 54) h 2 _ rfl
  have k3 := fun W (h : Below _ _ W) => new_cell (w := w) (cs := #[.int .i64 P, .int .i64 R, .slice x2 n2 c2, .slice x3 n3 c3, .slice x4 n4 c4]) (t := 54) h 3 _ rfl
  have k4 := fun W (h : Below _ _ W) => new_cell (w := w) (cs := #[.int .i64 P, .int .i64 R, .slice x2 n2 c2, .slice x3 n3 c3, .slice x4 n4 c4]) (t := 54) h 4 _ rfl
  obtain ⟨W0, hW0⟩ : ∃ W, w.alloc (.cells #[.int .i64 P, .int .i64 R, .slice x2 n2 c2, .slice x3 n3 c3, .slice x4 n4 c4] 54) = W := ⟨_, rfl⟩
  rw [hW0] at b0 hz k2 k3 k4
  have HW : Hid (w.alloc (.cells #[.int .i64 P, .int .i64 R, .slice x2 n2 c2, .slice x3 n3 c3, .slice x4 n4 c4] 54) = W0) := hW0
  clear hW0
  go_enter Tryd.func33, Tryd.ntmps33
  go_upto_region 3 with (go_at_call 13; (first | with_reducible refine (cP _).mono ?_ | with_reducible refine (cR _).mono ?_ | with_reducible refine (cK _).mono ?_); rintro e w' ⟨rfl, rfl⟩)
  rw [HW.out]
  clear HW cP cR cK hx2 hx4 hn2 hn4
  go_wp2
  go_loopw [3] (fun i wr => ∃ k : Nat, k ≤ n2 ∧ i = .int .i64 k ∧ Hid (∀ j q, j < k → p.caps[j]? = some q → capOk q = true) ∧ Below W0.heap.size W0 wr) (fun i _ => n2 - (intOf i).toNat)
  case atStart => exact ⟨0, Nat.zero_le _, rfl, fun j q hj => absurd hj (Nat.not_lt_zero _), Below.refl _ _⟩
  case round =>
    obtain ⟨k, hk, rfl, HA, hb⟩ := hrel
    have s2 := k2 wr hb
    by_cases hkn : k < n2
    · obtain ⟨b, o, rfl, hbz, hcell⟩ := H2.out (by omega)
      obtain ⟨q, hq⟩ : ∃ q, p.caps[k]? = some q := ⟨_, List.getElem?_eq_getElem (by have := E2.out; omega)⟩
      have c1 : wr.cell? ⟨b, o + k * 2 + 1, none⟩ = some (.int .i64 q.index) := ((chain b0 hb).cell hbz).trans (hcell k q hq 1 _ rfl)
      have hki : (k : Int) < (n2 : Int) := by omega
      have hk0 : (0 : Int) ≤ (k : Int) := by omega
      have cI := fun W => l01In_b q.index 0 40 W
      obtain ⟨bI, eI⟩ : ∃ b, inB q.index 0 40 = b := ⟨_, rfl⟩
      simp only [eI] at cI
      have HI : Hid (capOk q = bI) := eI
      have HQ : Hid (p.caps[k]? = some q) := hq
      clear hcell eI hq
      cases bI with
      | false =>
        have hF : F = false := by rw [HF1.out, all_no HQ.out HI.out]; rfl
        subst hF
        clear H2 H3 H4 k2 k3 k4
        go_wp2_with (go_at_call 13; with_reducible refine (cI _).mono ?_; rintro e w' ⟨rfl, rfl⟩)
        go_ret
        exact ⟨rfl, chain b0 hb⟩
      | true =>
        go_wp2_with (go_at_call 13; with_reducible refine (cI _).mono ?_; rintro e w' ⟨rfl, rfl⟩)
        go_roundw
        case rel => exact ⟨k + 1, by omega, by go_num, all_more HA.out HQ.out HI.out, hb⟩
        case measure => simp [intOf]; omega
    · have hall : p.caps.all capOk = true := all_yes (n := k) (by have := E2.out; omega) HA.out
      have HF2 : Hid (F = (p.code.all insOk && p.hnds.all hndOk)) := by
        have h := HF1.out
        rw [hall] at h
        exact h
      clear HF1 hall HA H2 k2
      go_wp2
      go_loopw [4] (fun i wr => ∃ k : Nat, k ≤ n3 ∧ i = .int .i64 k ∧ Hid (∀ j q, j < k → p.code[j]? = some q → insOk q = true) ∧ Below W0.heap.size W0 wr) (fun i _ => n3 - (intOf i).toNat)
      case atStart => exact ⟨0, Nat.zero_le _, rfl, fun j q hj => absurd hj (Nat.not_lt_zero _), hb⟩
      case round =>
        clear hb hk hkn
        obtain ⟨k, hk, rfl, HA, hb⟩ := hrel
        have s2 := k3 _ hb
        by_cases hkn : k < n3
        · obtain ⟨b, o, rfl, hbz, hcell⟩ := H3.out (by omega)
          obtain ⟨q, hq⟩ : ∃ q, p.code[k]? = some q := ⟨_, List.getElem?_eq_getElem (by have := E3.out; omega)⟩
          have g0 : wr.cell? ⟨b, o + k * 3, none⟩ = some (.int .i64 q.op) := ((chain b0 hb).cell hbz).trans (hcell k q hq 0 _ rfl)
          have g1 : wr.cell? ⟨b, o + k * 3 + 1, none⟩ = some (.int .i64 q.a) := ((chain b0 hb).cell hbz).trans (hcell k q hq 1 _ rfl)
          have g2 : wr.cell? ⟨b, o + k * 3 + 2, none⟩ = some (.int .i64 q.b) := ((chain b0 hb).cell hbz).trans (hcell k q hq 2 _ rfl)
          have hki : (k : Int) < (n3 : Int) := by omega
          have hk0 : (0 : Int) ≤ (k : Int) := by omega
          have d1 := fun W => l01In_b q.op 1 19 W
          have d2 := fun W => l01In_b q.a 0 300 W
          have d3 := fun W => l01In_b q.b 0 300 W
          have hI : insOk q = (inB q.op 1 19 && (inB q.a 0 300 && inB q.b 0 300)) := rfl
          obtain ⟨v0, f0⟩ : ∃ v, q.op = v := ⟨_, rfl⟩
          obtain ⟨v1, f1⟩ : ∃ v, q.a = v := ⟨_, rfl⟩
          obtain ⟨v2, f2⟩ : ∃ v, q.b = v := ⟨_, rfl⟩
          simp only [f0] at g0 d1 hI
          simp only [f1] at g1 d2 hI
          simp only [f2] at g2 d3 hI
          obtain ⟨p1, e1⟩ : ∃ b, inB v0 1 19 = b := ⟨_, rfl⟩
          obtain ⟨p2, e2⟩ : ∃ b, inB v1 0 300 = b := ⟨_, rfl⟩
          obtain ⟨p3, e3⟩ : ∃ b, inB v2 0 300 = b := ⟨_, rfl⟩
          simp only [e1] at d1 hI
          simp only [e2] at d2 hI
          simp only [e3] at d3 hI
          have HI : Hid (insOk q = (p1 && (p2 && p3))) := hI
          have HQ : Hid (p.code[k]? = some q) := hq
          clear hcell e1 e2 e3 hq hI f0 f1 f2
          have hb' : ∀ cs t, Below W0.heap.size W0 (wr.alloc (.cells cs t)) := fun cs t => hb.alloc hb.size _
          by_cases hpp : (p1 && (p2 && p3)) = true
          · have z1 : p1 = true := by revert hpp; cases p1 <;> simp
            have z2 : p2 = true := by revert hpp; cases p1 <;> cases p2 <;> simp
            have z3 : p3 = true := by revert hpp; cases p1 <;> cases p2 <;> cases p3 <;> simp
            subst z1 z2 z3
            have HT : Hid (insOk q = true) := HI.out
            clear HI hpp
            go_wp2_with (go_at_call 13; (first | with_reducible refine (d1 _).mono ?_ | with_reducible refine (d2 _).mono ?_ | with_reducible refine (d3 _).mono ?_); rintro e w' ⟨rfl, rfl⟩)
            go_roundw
            case rel => exact ⟨k + 1, by omega, by go_num, all_more HA.out HQ.out HT.out, hb' _ _⟩
            case measure => simp [intOf]; omega
          · have hpf : (p1 && (p2 && p3)) = false := by revert hpp; cases p1 <;> cases p2 <;> cases p3 <;> simp
            have hF : F = false := by rw [HF2.out, all_no HQ.out (HI.out.trans hpf)]; rfl
            subst hF
            have hbe : ∀ cs t, Below w.heap.size w (wr.alloc (.cells cs t)) := fun cs t => chain b0 (hb' cs t)
            clear HI hpp H3 H4 k3 k4 HA
            cases p1 with
            | false =>
              go_wp2_with (go_at_call 13; (first | with_reducible refine (d1 _).mono ?_ | with_reducible refine (d2 _).mono ?_ | with_reducible refine (d3 _).mono ?_); rintro e w' ⟨rfl, rfl⟩)
              go_ret
              exact ⟨rfl, hbe _ _⟩
            | true =>
            cases p2 with
            | false =>
              go_wp2_with (go_at_call 13; (first | with_reducible refine (d1 _).mono ?_ | with_reducible refine (d2 _).mono ?_ | with_reducible refine (d3 _).mono ?_); rintro e w' ⟨rfl, rfl⟩)
              go_ret
              exact ⟨rfl, hbe _ _⟩
            | true =>
            cases p3 with
            | false =>
              go_wp2_with (go_at_call 13; (first | with_reducible refine (d1 _).mono ?_ | with_reducible refine (d2 _).mono ?_ | with_reducible refine (d3 _).mono ?_); rintro e w' ⟨rfl, rfl⟩)
              go_ret
              exact ⟨rfl, hbe _ _⟩
            | true => cases hpf
        · have hall : p.code.all insOk = true := all_yes (n := k) (by have := E3.out; omega) HA.out
          have HF3 : Hid (F = p.hnds.all hndOk) := by
            have h := HF2.out
            rw [hall] at h
            exact h
          clear HF2 hall HA H3 k3
          go_wp2
          go_loopw [6] (fun i wr => ∃ k : Nat, k ≤ n4 ∧ i = .int .i64 k ∧ Hid (∀ j q, j < k → p.hnds[j]? = some q → hndOk q = true) ∧ Below W0.heap.size W0 wr) (fun i _ => n4 - (intOf i).toNat)
          case atStart => exact ⟨0, Nat.zero_le _, rfl, fun j q hj => absurd hj (Nat.not_lt_zero _), hb⟩
          case round =>
            clear hb hk hkn
            obtain ⟨k, hk, rfl, HA, hb⟩ := hrel
            have s2 := k4 _ hb
            by_cases hkn : k < n4
            · obtain ⟨b, o, rfl, hbz, hcell⟩ := H4.out (by omega)
              obtain ⟨q, hq⟩ : ∃ q, p.hnds[k]? = some q := ⟨_, List.getElem?_eq_getElem (by have := E4.out; omega)⟩
              have g0 : wr.cell? ⟨b, o + k * 3, none⟩ = some (.int .i64 q.lo) := ((chain b0 hb).cell hbz).trans (hcell k q hq 0 _ rfl)
              have g1 : wr.cell? ⟨b, o + k * 3 + 1, none⟩ = some (.int .i64 q.hi) := ((chain b0 hb).cell hbz).trans (hcell k q hq 1 _ rfl)
              have g2 : wr.cell? ⟨b, o + k * 3 + 2, none⟩ = some (.int .i64 q.target) := ((chain b0 hb).cell hbz).trans (hcell k q hq 2 _ rfl)
              have hki : (k : Int) < (n4 : Int) := by omega
              have hk0 : (0 : Int) ≤ (k : Int) := by omega
              have d1 := fun W => l01In_b q.lo 0 300 W
              have d2 := fun W => l01In_b q.hi 0 300 W
              have d3 := fun W => l01In_b q.target 0 300 W
              have hI : hndOk q = (inB q.lo 0 300 && (inB q.hi 0 300 && inB q.target 0 300)) := rfl
              obtain ⟨v0, f0⟩ : ∃ v, q.lo = v := ⟨_, rfl⟩
              obtain ⟨v1, f1⟩ : ∃ v, q.hi = v := ⟨_, rfl⟩
              obtain ⟨v2, f2⟩ : ∃ v, q.target = v := ⟨_, rfl⟩
              simp only [f0] at g0 d1 hI
              simp only [f1] at g1 d2 hI
              simp only [f2] at g2 d3 hI
              obtain ⟨p1, e1⟩ : ∃ b, inB v0 0 300 = b := ⟨_, rfl⟩
              obtain ⟨p2, e2⟩ : ∃ b, inB v1 0 300 = b := ⟨_, rfl⟩
              obtain ⟨p3, e3⟩ : ∃ b, inB v2 0 300 = b := ⟨_, rfl⟩
              simp only [e1] at d1 hI
              simp only [e2] at d2 hI
              simp only [e3] at d3 hI
              have HI : Hid (hndOk q = (p1 && (p2 && p3))) := hI
              have HQ : Hid (p.hnds[k]? = some q) := hq
              clear hcell e1 e2 e3 hq hI f0 f1 f2
              have hb' : ∀ cs t, Below W0.heap.size W0 (wr.alloc (.cells cs t)) := fun cs t => hb.alloc hb.size _
              by_cases hpp : (p1 && (p2 && p3)) = true
              · have z1 : p1 = true := by revert hpp; cases p1 <;> simp
                have z2 : p2 = true := by revert hpp; cases p1 <;> cases p2 <;> simp
                have z3 : p3 = true := by revert hpp; cases p1 <;> cases p2 <;> cases p3 <;> simp
                subst z1 z2 z3
                have HT : Hid (hndOk q = true) := HI.out
                clear HI hpp
                go_wp2_with (go_at_call 13; (first | with_reducible refine (d1 _).mono ?_ | with_reducible refine (d2 _).mono ?_ | with_reducible refine (d3 _).mono ?_); rintro e w' ⟨rfl, rfl⟩)
                go_roundw
                case rel => exact ⟨k + 1, by omega, by go_num, all_more HA.out HQ.out HT.out, hb' _ _⟩
                case measure => simp [intOf]; omega
              · have hpf : (p1 && (p2 && p3)) = false := by revert hpp; cases p1 <;> cases p2 <;> cases p3 <;> simp
                have hF : F = false := by rw [HF3.out, all_no HQ.out (HI.out.trans hpf)]
                subst hF
                have hbe : ∀ cs t, Below w.heap.size w (wr.alloc (.cells cs t)) := fun cs t => chain b0 (hb' cs t)
                clear HI hpp H4 k4 HA
                cases p1 with
                | false =>
                  go_wp2_with (go_at_call 13; (first | with_reducible refine (d1 _).mono ?_ | with_reducible refine (d2 _).mono ?_ | with_reducible refine (d3 _).mono ?_); rintro e w' ⟨rfl, rfl⟩)
                  go_ret
                  exact ⟨rfl, hbe _ _⟩
                | true =>
                cases p2 with
                | false =>
                  go_wp2_with (go_at_call 13; (first | with_reducible refine (d1 _).mono ?_ | with_reducible refine (d2 _).mono ?_ | with_reducible refine (d3 _).mono ?_); rintro e w' ⟨rfl, rfl⟩)
                  go_ret
                  exact ⟨rfl, hbe _ _⟩
                | true =>
                cases p3 with
                | false =>
                  go_wp2_with (go_at_call 13; (first | with_reducible refine (d1 _).mono ?_ | with_reducible refine (d2 _).mono ?_ | with_reducible refine (d3 _).mono ?_); rintro e w' ⟨rfl, rfl⟩)
                  go_ret
                  exact ⟨rfl, hbe _ _⟩
                | true => cases hpf
            · have hall : p.hnds.all hndOk = true := all_yes (n := k) (by have := E4.out; omega) HA.out
              have hF : F = true := by rw [HF3.out, hall]
              subst hF
              clear HF3 hall HA H4 k4
              go_wp2
              go_ret
              exact ⟨rfl, chain b0 hb⟩

end Go.Proofs.YtojmmmfboahkgaaDoor
