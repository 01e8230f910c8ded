/-
  Part 22 of what is proved of drawn right trees.
-/
import Derived.Test.YtheofdiaenlbgaaGreatPau
import Derived.Test.YtheofdiaenlbgaaGreatPak
import Derived.Test.YtheofdiaenlbgaaGreatPag
import Derived.Test.YtheofdiaenlbgaaGreatPas
import Derived.Test.YtheofdiaenlbgaaGreatPat
import Derived.Test.YtheofdiaenlbgaaGreatPac

namespace Go.Proofs.YtheofdiaenlbgaaGreat
open Go.RowKit Go.Sort
set_option linter.unusedVariables false
set_option maxHeartbeats 1000000 in
set_option maxRecDepth 100000 in
theorem iAllCap (l : List PCap) (v : Value) (w : World) (h : ArgFlat w v 2 l.length (l.flatMap capC)) :
    Calls Tryz.prog 73 #[v, .func (.func 74) #[] #[]] w fun e w' => e = .returned (.bool (l.all capOk)) ∧ Below w.heap.size w w' := by
  obtain ⟨x, c, rfl, m, o⟩ := h.opened capC_len
  unfold maxLen at m
  clear h
  obtain ⟨n, e1⟩ : ∃ n, l.length = n := ⟨_, rfl⟩
  rw [e1] at m o ⊢
  obtain ⟨F, hF⟩ : ∃ F, l.all capOk = F := ⟨_, rfl⟩
  rw [hF]
  have HF : Hid (l.all capOk = F) := hF
  have H1 : Hid (0 < n → ∃ b o, x = some ⟨b, o, none⟩ ∧ b < w.heap.size ∧ ∀ j q, l[j]? = some q → ∀ c u, (capC q)[c]? = some u → w.cell? ⟨b, o + j * 2 + c, none⟩ = some u) := o
  have E1 : Hid (l.length = n) := e1
  clear o e1 hF
  go_enter Tryz.func73, Tryz.ntmps73
  go_wp2
  go_loopw [9] (fun i wr => ∃ k : Nat, k ≤ n ∧ i = .int .i64 k ∧ Hid (∀ j q, j < k → l[j]? = some q → capOk q = true) ∧ Below w.heap.size w wr) (fun i _ => n - (intOf i).toNat)
  case atStart => exact ⟨0, Nat.zero_le _, rfl, fun j q hj => absurd hj (Nat.not_lt_zero _), Below.refl _ _⟩
  case round =>
    obtain ⟨k, hk, rfl, HA, hb⟩ := hrel
    by_cases hkn : k < n
    · obtain ⟨b, o, rfl, hbz, hcell⟩ := H1.out (by omega)
      obtain ⟨q, hq⟩ : ∃ q, l[k]? = some q := ⟨_, List.getElem?_eq_getElem (by have := E1.out; omega)⟩
      have g0 : wr.cell? ⟨b, o + k * 2, none⟩ = some (.bool q.reg) := (hb.cell hbz).trans (hcell k q hq 0 _ rfl)
      have g1 : wr.cell? ⟨b, o + k * 2 + 1, none⟩ = some (.int .i64 q.index) := (hb.cell hbz).trans (hcell k q hq 1 _ rfl)
      have hki : (k : Int) < (n : Int) := by omega
      have hk0 : (0 : Int) ≤ (k : Int) := by omega
      have cI := fun W => iCapOk q W
      obtain ⟨bI, eI⟩ : ∃ b, capOk q = b := ⟨_, rfl⟩
      simp only [eI] at cI
      have HI : Hid (capOk q = bI) := eI
      have HQ : Hid (l[k]? = some q) := hq
      have hz : w.heap.size ≤ wr.heap.size := hb.size
      clear hcell eI hq
      cases bI with
      | false =>
        have hF : F = false := by rw [← HF.out, all_no HQ.out HI.out]
        subst hF
        clear H1
        go_wp2_with (go_at_call 74; with_reducible refine (cI _).mono ?_; rintro e w' ⟨rfl, hb1⟩)
        go_ret
        exact ⟨rfl, chain (by repeat (first | exact hb | refine Below.setCell ?_ (by show w.heap.size ≤ wr.heap.size; exact hz) _ | refine Below.alloc ?_ hz _)) hb1⟩
      | true =>
        go_wp2_with (go_at_call 74; with_reducible refine (cI _).mono ?_; rintro e w' ⟨rfl, hb1⟩)
        go_roundw
        case rel => exact ⟨k + 1, by omega, by go_num, all_more HA.out HQ.out HI.out, chain (by repeat (first | exact hb | refine Below.setCell ?_ (by show w.heap.size ≤ wr.heap.size; exact hz) _ | refine Below.alloc ?_ hz _)) hb1⟩
        case measure => simp [intOf]; omega
    · have hall : l.all capOk = true := all_yes (n := k) (by have := E1.out; omega) HA.out
      have hF : F = true := by rw [← HF.out, hall]
      subst hF
      have hd : decide ((k : Int) < (n : Int)) = false := decide_eq_false (by omega)
      clear HA H1 hall
      go_wp2
      go_ret
      exact ⟨rfl, hb⟩
set_option maxHeartbeats 1000000 in
set_option maxRecDepth 100000 in
theorem iAllIns (l : List PIns) (v : Value) (w : World) (h : ArgFlat w v 3 l.length (l.flatMap insC)) :
    Calls Tryz.prog 75 #[v, .func (.func 76) #[] #[]] w fun e w' => e = .returned (.bool (l.all insOk)) ∧ Below w.heap.size w w' := by
  obtain ⟨x, c, rfl, m, o⟩ := h.opened insC_len
  unfold maxLen at m
  clear h
  obtain ⟨n, e1⟩ : ∃ n, l.length = n := ⟨_, rfl⟩
  rw [e1] at m o ⊢
  obtain ⟨F, hF⟩ : ∃ F, l.all insOk = F := ⟨_, rfl⟩
  rw [hF]
  have HF : Hid (l.all insOk = F) := hF
  have H1 : Hid (0 < n → ∃ b o, x = some ⟨b, o, none⟩ ∧ b < w.heap.size ∧ ∀ j q, l[j]? = some q → ∀ c u, (insC q)[c]? = some u → w.cell? ⟨b, o + j * 3 + c, none⟩ = some u) := o
  have E1 : Hid (l.length = n) := e1
  clear o e1 hF
  go_enter Tryz.func75, Tryz.ntmps75
  go_wp2
  go_loopw [9] (fun i wr => ∃ k : Nat, k ≤ n ∧ i = .int .i64 k ∧ Hid (∀ j q, j < k → l[j]? = some q → insOk q = true) ∧ Below w.heap.size w wr) (fun i _ => n - (intOf i).toNat)
  case atStart => exact ⟨0, Nat.zero_le _, rfl, fun j q hj => absurd hj (Nat.not_lt_zero _), Below.refl _ _⟩
  case round =>
    obtain ⟨k, hk, rfl, HA, hb⟩ := hrel
    by_cases hkn : k < n
    · obtain ⟨b, o, rfl, hbz, hcell⟩ := H1.out (by omega)
      obtain ⟨q, hq⟩ : ∃ q, l[k]? = some q := ⟨_, List.getElem?_eq_getElem (by have := E1.out; omega)⟩
      have g0 : wr.cell? ⟨b, o + k * 3, none⟩ = some (.int .i64 q.op) := (hb.cell hbz).trans (hcell k q hq 0 _ rfl)
      have g1 : wr.cell? ⟨b, o + k * 3 + 1, none⟩ = some (.int .i64 q.a) := (hb.cell hbz).trans (hcell k q hq 1 _ rfl)
      have g2 : wr.cell? ⟨b, o + k * 3 + 2, none⟩ = some (.int .i64 q.b) := (hb.cell hbz).trans (hcell k q hq 2 _ rfl)
      have hki : (k : Int) < (n : Int) := by omega
      have hk0 : (0 : Int) ≤ (k : Int) := by omega
      have cI := fun W => iInsOk q W
      obtain ⟨bI, eI⟩ : ∃ b, insOk q = b := ⟨_, rfl⟩
      simp only [eI] at cI
      have HI : Hid (insOk q = bI) := eI
      have HQ : Hid (l[k]? = some q) := hq
      have hz : w.heap.size ≤ wr.heap.size := hb.size
      clear hcell eI hq
      cases bI with
      | false =>
        have hF : F = false := by rw [← HF.out, all_no HQ.out HI.out]
        subst hF
        clear H1
        go_wp2_with (go_at_call 76; with_reducible refine (cI _).mono ?_; rintro e w' ⟨rfl, hb1⟩)
        go_ret
        exact ⟨rfl, chain (by repeat (first | exact hb | refine Below.setCell ?_ (by show w.heap.size ≤ wr.heap.size; exact hz) _ | refine Below.alloc ?_ hz _)) hb1⟩
      | true =>
        go_wp2_with (go_at_call 76; with_reducible refine (cI _).mono ?_; rintro e w' ⟨rfl, hb1⟩)
        go_roundw
        case rel => exact ⟨k + 1, by omega, by go_num, all_more HA.out HQ.out HI.out, chain (by repeat (first | exact hb | refine Below.setCell ?_ (by show w.heap.size ≤ wr.heap.size; exact hz) _ | refine Below.alloc ?_ hz _)) hb1⟩
        case measure => simp [intOf]; omega
    · have hall : l.all insOk = true := all_yes (n := k) (by have := E1.out; omega) HA.out
      have hF : F = true := by rw [← HF.out, hall]
      subst hF
      have hd : decide ((k : Int) < (n : Int)) = false := decide_eq_false (by omega)
      clear HA H1 hall
      go_wp2
      go_ret
      exact ⟨rfl, hb⟩
set_option maxHeartbeats 1000000 in
set_option maxRecDepth 100000 in
theorem iAllHandler (l : List PHnd) (v : Value) (w : World) (h : ArgFlat w v 3 l.length (l.flatMap hndC)) :
    Calls Tryz.prog 77 #[v, .func (.func 78) #[] #[]] w fun e w' => e = .returned (.bool (l.all hndOk)) ∧ Below w.heap.size w w' := by
  obtain ⟨x, c, rfl, m, o⟩ := h.opened hndC_len
  unfold maxLen at m
  clear h
  obtain ⟨n, e1⟩ : ∃ n, l.length = n := ⟨_, rfl⟩
  rw [e1] at m o ⊢
  obtain ⟨F, hF⟩ : ∃ F, l.all hndOk = F := ⟨_, rfl⟩
  rw [hF]
  have HF : Hid (l.all hndOk = F) := hF
  have H1 : Hid (0 < n → ∃ b o, x = some ⟨b, o, none⟩ ∧ b < w.heap.size ∧ ∀ j q, l[j]? = some q → ∀ c u, (hndC q)[c]? = some u → w.cell? ⟨b, o + j * 3 + c, none⟩ = some u) := o
  have E1 : Hid (l.length = n) := e1
  clear o e1 hF
  go_enter Tryz.func77, Tryz.ntmps77
  go_wp2
  go_loopw [9] (fun i wr => ∃ k : Nat, k ≤ n ∧ i = .int .i64 k ∧ Hid (∀ j q, j < k → l[j]? = some q → hndOk q = true) ∧ Below w.heap.size w wr) (fun i _ => n - (intOf i).toNat)
  case atStart => exact ⟨0, Nat.zero_le _, rfl, fun j q hj => absurd hj (Nat.not_lt_zero _), Below.refl _ _⟩
  case round =>
    obtain ⟨k, hk, rfl, HA, hb⟩ := hrel
    by_cases hkn : k < n
    · obtain ⟨b, o, rfl, hbz, hcell⟩ := H1.out (by omega)
      obtain ⟨q, hq⟩ : ∃ q, l[k]? = some q := ⟨_, List.getElem?_eq_getElem (by have := E1.out; omega)⟩
      have g0 : wr.cell? ⟨b, o + k * 3, none⟩ = some (.int .i64 q.lo) := (hb.cell hbz).trans (hcell k q hq 0 _ rfl)
      have g1 : wr.cell? ⟨b, o + k * 3 + 1, none⟩ = some (.int .i64 q.hi) := (hb.cell hbz).trans (hcell k q hq 1 _ rfl)
      have g2 : wr.cell? ⟨b, o + k * 3 + 2, none⟩ = some (.int .i64 q.target) := (hb.cell hbz).trans (hcell k q hq 2 _ rfl)
      have hki : (k : Int) < (n : Int) := by omega
      have hk0 : (0 : Int) ≤ (k : Int) := by omega
      have cI := fun W => iHandlerOk q W
      obtain ⟨bI, eI⟩ : ∃ b, hndOk q = b := ⟨_, rfl⟩
      simp only [eI] at cI
      have HI : Hid (hndOk q = bI) := eI
      have HQ : Hid (l[k]? = some q) := hq
      have hz : w.heap.size ≤ wr.heap.size := hb.size
      clear hcell eI hq
      cases bI with
      | false =>
        have hF : F = false := by rw [← HF.out, all_no HQ.out HI.out]
        subst hF
        clear H1
        go_wp2_with (go_at_call 78; with_reducible refine (cI _).mono ?_; rintro e w' ⟨rfl, hb1⟩)
        go_ret
        exact ⟨rfl, chain (by repeat (first | exact hb | refine Below.setCell ?_ (by show w.heap.size ≤ wr.heap.size; exact hz) _ | refine Below.alloc ?_ hz _)) hb1⟩
      | true =>
        go_wp2_with (go_at_call 78; with_reducible refine (cI _).mono ?_; rintro e w' ⟨rfl, hb1⟩)
        go_roundw
        case rel => exact ⟨k + 1, by omega, by go_num, all_more HA.out HQ.out HI.out, chain (by repeat (first | exact hb | refine Below.setCell ?_ (by show w.heap.size ≤ wr.heap.size; exact hz) _ | refine Below.alloc ?_ hz _)) hb1⟩
        case measure => simp [intOf]; omega
    · have hall : l.all hndOk = true := all_yes (n := k) (by have := E1.out; omega) HA.out
      have hF : F = true := by rw [← HF.out, hall]
      subst hF
      have hd : decide ((k : Int) < (n : Int)) = false := decide_eq_false (by omega)
      clear HA H1 hall
      go_wp2
      go_ret
      exact ⟨rfl, hb⟩
set_option maxHeartbeats 1000000 in
set_option maxRecDepth 100000 in
theorem iAllConst (l : List PCon) (v : Value) (w : World) (h : ArgFlat w v 3 l.length (l.flatMap conC)) (HW : ∀ x ∈ l, conW x) :
    Calls Tryz.prog 43 #[v, .func (.func 44) #[] #[]] w fun e w' => e = .returned (.bool (l.all conOk)) ∧ Below w.heap.size w w' := by
  obtain ⟨x, c, rfl, m, o⟩ := h.opened conC_len
  unfold maxLen at m
  clear h
  obtain ⟨n, e1⟩ : ∃ n, l.length = n := ⟨_, rfl⟩
  rw [e1] at m o ⊢
  obtain ⟨F, hF⟩ : ∃ F, l.all conOk = F := ⟨_, rfl⟩
  rw [hF]
  have HF : Hid (l.all conOk = F) := hF
  have H1 : Hid (0 < n → ∃ b o, x = some ⟨b, o, none⟩ ∧ b < w.heap.size ∧ ∀ j q, l[j]? = some q → ∀ c u, (conC q)[c]? = some u → w.cell? ⟨b, o + j * 3 + c, none⟩ = some u) := o
  have E1 : Hid (l.length = n) := e1
  clear o e1 hF
  go_enter Tryz.func43, Tryz.ntmps43
  go_wp2
  go_loopw [9] (fun i wr => ∃ k : Nat, k ≤ n ∧ i = .int .i64 k ∧ Hid (∀ j q, j < k → l[j]? = some q → conOk q = true) ∧ Below w.heap.size w wr) (fun i _ => n - (intOf i).toNat)
  case atStart => exact ⟨0, Nat.zero_le _, rfl, fun j q hj => absurd hj (Nat.not_lt_zero _), Below.refl _ _⟩
  case round =>
    obtain ⟨k, hk, rfl, HA, hb⟩ := hrel
    by_cases hkn : k < n
    · obtain ⟨b, o, rfl, hbz, hcell⟩ := H1.out (by omega)
      obtain ⟨q, hq⟩ : ∃ q, l[k]? = some q := ⟨_, List.getElem?_eq_getElem (by have := E1.out; omega)⟩
      have g0 : wr.cell? ⟨b, o + k * 3, none⟩ = some (.int .i64 q.kind) := (hb.cell hbz).trans (hcell k q hq 0 _ rfl)
      have g1 : wr.cell? ⟨b, o + k * 3 + 1, none⟩ = some (.int .u64 (q.num : Int)) := (hb.cell hbz).trans (hcell k q hq 1 _ rfl)
      have g2 : wr.cell? ⟨b, o + k * 3 + 2, none⟩ = some (.string q.text) := (hb.cell hbz).trans (hcell k q hq 2 _ rfl)
      have hki : (k : Int) < (n : Int) := by omega
      have hk0 : (0 : Int) ≤ (k : Int) := by omega
      have cI := fun W => iConstOk_any q W (HW q (List.mem_iff_getElem?.2 ⟨_, hq⟩))
      obtain ⟨bI, eI⟩ : ∃ b, conOk q = b := ⟨_, rfl⟩
      simp only [eI] at cI
      have HI : Hid (conOk q = bI) := eI
      have HQ : Hid (l[k]? = some q) := hq
      have hz : w.heap.size ≤ wr.heap.size := hb.size
      clear hcell eI hq
      cases bI with
      | false =>
        have hF : F = false := by rw [← HF.out, all_no HQ.out HI.out]
        subst hF
        clear H1
        go_wp2_with (go_at_call 44; with_reducible refine (cI _).mono ?_; rintro e w' ⟨rfl, hb1⟩)
        go_ret
        exact ⟨rfl, chain (by repeat (first | exact hb | refine Below.setCell ?_ (by show w.heap.size ≤ wr.heap.size; exact hz) _ | refine Below.alloc ?_ hz _)) hb1⟩
      | true =>
        go_wp2_with (go_at_call 44; with_reducible refine (cI _).mono ?_; rintro e w' ⟨rfl, hb1⟩)
        go_roundw
        case rel => exact ⟨k + 1, by omega, by go_num, all_more HA.out HQ.out HI.out, chain (by repeat (first | exact hb | refine Below.setCell ?_ (by show w.heap.size ≤ wr.heap.size; exact hz) _ | refine Below.alloc ?_ hz _)) hb1⟩
        case measure => simp [intOf]; omega
    · have hall : l.all conOk = true := all_yes (n := k) (by have := E1.out; omega) HA.out
      have hF : F = true := by rw [← HF.out, hall]
      subst hF
      have hd : decide ((k : Int) < (n : Int)) = false := decide_eq_false (by omega)
      clear HA H1 hall
      go_wp2
      go_ret
      exact ⟨rfl, hb⟩
end Go.Proofs.YtheofdiaenlbgaaGreat
namespace Go.Proofs.YtheofdiaenlbgaaGreat
open Go.RowKit Go.Sort
set_option linter.unusedVariables false
theorem fun_meas (p : PFun) : (wi p.params 0 4 && (wi p.regs p.params 40 && (wi p.caps.length 0 20 && (wi p.code.length 1 300 && wi p.hnds.length 0 40)))) = (inB p.params 0 4 && (inB p.regs p.params 40 && (decide (p.caps.length ≤ 20) && (inB p.code.length 1 300 && decide (p.hnds.length ≤ 40))))) := by
  rw [wi_in _ 0 4 (by decide), wi_in _ 0 20 (by decide), wi_in _ 1 300 (by decide), wi_in _ 0 40 (by decide)]
  by_cases h : inB p.params 0 4 = true
  · have h2 : p.params ≤ 40 := by
      unfold inB at h
      simp only [Bool.and_eq_true, decide_eq_true_eq] at h
      omega
    rw [wi_in _ _ _ h2]
    have e1 : inB p.caps.length 0 20 = decide (p.caps.length ≤ 20) := by unfold inB; rw [Bool.eq_iff_iff]; simp; omega
    have e2 : inB p.hnds.length 0 40 = decide (p.hnds.length ≤ 40) := by unfold inB; rw [Bool.eq_iff_iff]; simp; omega
    rw [e1, e2]
  · have h' : inB p.params 0 4 = false := by simpa using h
    rw [h']
    rfl
theorem fun_ok4 (p : PFun) (b : Bool) (h : (inB p.params 0 4 && (inB p.regs p.params 40 && (decide (p.caps.length ≤ 20) && (inB p.code.length 1 300 && decide (p.hnds.length ≤ 40))))) = b) : funOk p = (b && (p.caps.all capOk && (p.code.all insOk && p.hnds.all hndOk))) := by
  rw [← h]
  unfold funOk
  simp only [Bool.and_assoc]
set_option maxHeartbeats 2000000 in
set_option maxRecDepth 100000 in
theorem iFuncOk (p : PFun) (cv kv hv : Value) (w : World) (h2 : ArgFlat w cv 2 p.caps.length (p.caps.flatMap capC)) (h3 : ArgFlat w kv 3 p.code.length (p.code.flatMap insC)) (h4 : ArgFlat w hv 3 p.hnds.length (p.hnds.flatMap hndC)) :
    Calls Tryz.prog 46 #[.agg #[.int .i64 p.params, .int .i64 p.regs, cv, kv, hv]] w fun e w' => e = .returned (.bool (funOk p)) ∧ Below w.heap.size w w' := by
  have cC := fun W (hb : Below w.heap.size w W) => iAllCap p.caps cv W (h2.below hb)
  have cK := fun W (hb : Below w.heap.size w W) => iAllIns p.code kv W (h3.below hb)
  have cH := fun W (hb : Below w.heap.size w W) => iAllHandler p.hnds hv W (h4.below hb)
  obtain ⟨x2, c2, rfl, m2, _⟩ := h2
  obtain ⟨x3, c3, rfl, m3, _⟩ := h3
  obtain ⟨x4, c4, rfl, m4, _⟩ := h4
  unfold maxLen at m2 m3 m4
  have cW := fun W => iWithin5 p.params p.regs p.caps.length p.code.length p.hnds.length 0 p.params 0 1 0 4 40 20 300 40 W
  simp only [fun_meas p] at cW
  obtain ⟨b1, e1⟩ : ∃ b, (inB p.params 0 4 && (inB p.regs p.params 40 && (decide (p.caps.length ≤ 20) && (inB p.code.length 1 300 && decide (p.hnds.length ≤ 40))))) = b := ⟨_, rfl⟩
  simp only [e1] at cW
  rw [fun_ok4 p b1 e1]
  clear e1
  obtain ⟨b2, e2⟩ : ∃ b, p.caps.all capOk = b := ⟨_, rfl⟩
  obtain ⟨b3, e3⟩ : ∃ b, p.code.all insOk = b := ⟨_, rfl⟩
  obtain ⟨b4, e4⟩ : ∃ b, p.hnds.all hndOk = b := ⟨_, rfl⟩
  simp only [e2] at cC
  simp only [e3] at cK
  simp only [e4] at cH
  rw [e2, e3, e4]
  clear e2 e3 e4
  obtain ⟨P, hP⟩ : ∃ x, p.params = x := ⟨_, rfl⟩
  obtain ⟨R, hR⟩ : ∃ x, p.regs = x := ⟨_, rfl⟩
  obtain ⟨n2, e2⟩ : ∃ n, p.caps.length = n := ⟨_, rfl⟩
  obtain ⟨n3, e3⟩ : ∃ n, p.code.length = n := ⟨_, rfl⟩
  obtain ⟨n4, e4⟩ : ∃ n, p.hnds.length = n := ⟨_, rfl⟩
  rw [hP, hR, e2, e3, e4]
  simp only [hP, hR, e2, e3, e4] at cW
  simp only [e2] at cC m2
  simp only [e3] at cK m3
  simp only [e4] at cH m4
  clear hP hR e2 e3 e4
  have hb5 := build5
  have b0 : ∀ cs t, Below w.heap.size w (w.alloc (.cells cs t)) := fun cs t => (Below.refl _ _).alloc (Nat.le_refl _) _
  go_enter Tryz.func46, Tryz.ntmps46
  go_wp2_with fail
  refine (cW _).mono ?_
  rintro e w1 ⟨rfl, hb1⟩
  have hX1 : Below (w.alloc (.cells #[.int .i64 P, .int .i64 R, .slice x2 n2 c2, .slice x3 n3 c3, .slice x4 n4 c4] 61)).heap.size (w.alloc (.cells #[.int .i64 P, .int .i64 R, .slice x2 n2 c2, .slice x3 n3 c3, .slice x4 n4 c4] 61)) w1 := chain (by repeat (first | exact Below.refl _ _ | refine Below.setCell ?_ (by simp; try omega) _ | refine Below.alloc ?_ (by simp; try omega) _)) hb1
  have hY1 : Below w.heap.size w w1 := chain (b0 _ _) hX1
  clear hb1 cW
  cases b1 with
  | false =>
    go_wp2
    go_ret
    exact ⟨rfl, hY1⟩
  | true =>
  have k2 := new_cell hX1 2 _ rfl
  go_wp2_with fail
  refine (cC _ hY1).mono ?_
  rintro e w2 ⟨rfl, hb2⟩
  have hX2 := chain hX1 hb2
  have hY2 := chain hY1 hb2
  clear hb2 cC k2
  cases b2 with
  | false =>
    go_wp2
    go_ret
    exact ⟨rfl, hY2⟩
  | true =>
  have k3 := new_cell hX2 3 _ rfl
  go_wp2_with fail
  refine (cK _ hY2).mono ?_
  rintro e w3 ⟨rfl, hb3⟩
  have hX3 := chain hX2 hb3
  have hY3 := chain hY2 hb3
  clear hb3 cK k3
  cases b3 with
  | false =>
    go_wp2
    go_ret
    exact ⟨rfl, hY3⟩
  | true =>
  have k4 := new_cell hX3 4 _ rfl
  go_wp2_with fail
  refine (cH _ hY3).mono ?_
  rintro e w4 ⟨rfl, hb4⟩
  go_wp2
  go_ret
  exact ⟨rfl, chain hY3 hb4⟩
end Go.Proofs.YtheofdiaenlbgaaGreat
namespace Go.Proofs.YtheofdiaenlbgaaGreat
open Go.RowKit Go.Sort
set_option linter.unusedVariables false
set_option maxHeartbeats 2000000 in
set_option maxRecDepth 100000 in
theorem iAllFunc (l : List PFun) (v : Value) (w : World) (h : ArgFuns w v l) :
    Calls Tryz.prog 45 #[v, .func (.func 46) #[] #[]] w fun e w' => e = .returned (.bool (l.all funOk)) ∧ Below w.heap.size w w' := by
  obtain ⟨x, c, rfl, m, o⟩ := h
  unfold maxLen at m
  obtain ⟨n, e1⟩ : ∃ n, l.length = n := ⟨_, rfl⟩
  rw [e1] at m o ⊢
  obtain ⟨F, hF⟩ : ∃ F, l.all funOk = F := ⟨_, rfl⟩
  rw [hF]
  have HF : Hid (l.all funOk = F) := hF
  have H1 : Hid (0 < n → ∃ b o, x = some ⟨b, o, none⟩ ∧ b < w.heap.size ∧ ∀ j q, l[j]? = some q → ∃ cv kv hv, FunAt w b (o + j * 5) q cv kv hv) := o
  have E1 : Hid (l.length = n) := e1
  clear o e1 hF
  go_enter Tryz.func45, Tryz.ntmps45
  go_wp2
  go_loopw [9] (fun i wr => ∃ k : Nat, k ≤ n ∧ i = .int .i64 k ∧ Hid (∀ j q, j < k → l[j]? = some q → funOk q = true) ∧ Below w.heap.size w wr) (fun i _ => n - (intOf i).toNat)
  case atStart => exact ⟨0, Nat.zero_le _, rfl, fun j q hj => absurd hj (Nat.not_lt_zero _), Below.refl _ _⟩
  case round =>
    obtain ⟨k, hk, rfl, HA, hb⟩ := hrel
    by_cases hkn : k < n
    · obtain ⟨b, o, rfl, hbz, hcell⟩ := H1.out (by omega)
      obtain ⟨q, hq⟩ : ∃ q, l[k]? = some q := ⟨_, List.getElem?_eq_getElem (by have := E1.out; omega)⟩
      obtain ⟨cv, kv, hv, hA⟩ := hcell k q hq
      obtain ⟨z1, d1, rfl, _, _⟩ := id hA.caps
      obtain ⟨z2, d2, rfl, _, _⟩ := id hA.code
      obtain ⟨z3, d3, rfl, _, _⟩ := id hA.hnds
      have hA' := hA.below hb
      have g0 := hA'.c0
      have g1 := hA'.c1
      have g2 := hA'.c2
      have g3 := hA'.c3
      have g4 := hA'.c4
      have hki : (k : Int) < (n : Int) := by omega
      have hk0 : (0 : Int) ≤ (k : Int) := by omega
      have cI := fun W (h1 : Below w.heap.size w W) => iFuncOk q _ _ _ W (hA.caps.below h1) (hA.code.below h1) (hA.hnds.below h1)
      obtain ⟨bI, eI⟩ : ∃ b, funOk q = b := ⟨_, rfl⟩
      simp only [eI] at cI
      have HI : Hid (funOk q = bI) := eI
      have HQ : Hid (l[k]? = some q) := hq
      have hz : w.heap.size ≤ wr.heap.size := hb.size
      clear hcell eI hq hA hA'
      cases bI with
      | false =>
        have hF : F = false := by rw [← HF.out, all_no HQ.out HI.out]
        subst hF
        clear H1
        go_wp2_with (go_at_call 46; refine (cI _ (by repeat (first | exact hb | refine Below.setCell ?_ (by show w.heap.size ≤ wr.heap.size; exact hz) _ | refine Below.alloc ?_ hz _))).mono ?_; rintro e w' ⟨rfl, hb1⟩)
        go_ret
        exact ⟨rfl, chain (by repeat (first | exact hb | refine Below.setCell ?_ (by show w.heap.size ≤ wr.heap.size; exact hz) _ | refine Below.alloc ?_ hz _)) hb1⟩
      | true =>
        go_wp2_with (go_at_call 46; refine (cI _ (by repeat (first | exact hb | refine Below.setCell ?_ (by show w.heap.size ≤ wr.heap.size; exact hz) _ | refine Below.alloc ?_ hz _))).mono ?_; rintro e w' ⟨rfl, hb1⟩)
        go_roundw
        case rel => exact ⟨k + 1, by omega, by go_num, all_more HA.out HQ.out HI.out, chain (by repeat (first | exact hb | refine Below.setCell ?_ (by show w.heap.size ≤ wr.heap.size; exact hz) _ | refine Below.alloc ?_ hz _)) hb1⟩
        case measure => simp [intOf]; omega
    · have hall : l.all funOk = true := all_yes (n := k) (by have := E1.out; omega) HA.out
      have hF : F = true := by rw [← HF.out, hall]
      subst hF
      have hd : decide ((k : Int) < (n : Int)) = false := decide_eq_false (by omega)
      clear HA H1 hall
      go_wp2
      go_ret
      exact ⟨rfl, hb⟩
theorem img_meas (a c : Nat) : (wi (a : Int) 1 16 && (wi (c : Int) 0 40 && (wi 0 0 0 && (wi 0 0 0 && wi 0 0 0)))) = (inB a 1 16 && decide (c ≤ 40)) := by
  rw [wi_0, wi_in _ 1 16 (by decide), wi_in _ 0 40 (by decide)]
  have e1 : inB c 0 40 = decide (c ≤ 40) := by unfold inB; rw [Bool.eq_iff_iff]; simp; omega
  rw [e1]
  simp
theorem img_ok4 (p : PImg) (b : Bool) (h : (inB p.funcs.length 1 16 && decide (p.consts.length ≤ 40)) = b) : imgOk p = (b && (p.consts.all conOk && (p.funcs.all funOk && firstOk p.funcs))) := by
  rw [← h]
  show (inB p.funcs.length 1 16 && (decide (p.consts.length ≤ 40) && (p.consts.all conOk && (p.funcs.all funOk && firstOk p.funcs)))) = _
  simp only [Bool.and_assoc]
set_option maxHeartbeats 2000000 in
set_option maxRecDepth 100000 in
theorem iImageOk_any (p : PImg) (fv cv : Value) (w : World) (h : ArgImg w fv cv p) (hw : imgW p) :
    Calls Tryz.prog 23 #[.agg #[fv, cv]] w fun e w' => e = .returned (.bool (imgOk p)) ∧ Below w.heap.size w w' := by
  have cC := fun W (hb : Below w.heap.size w W) => iAllConst p.consts cv W (h.2.below hb) hw.consts
  have cF := fun W (hb : Below w.heap.size w W) => iAllFunc p.funcs fv W (h.1.below hb)
  obtain ⟨hF, hC⟩ := h
  obtain ⟨x1, c1, rfl, m1, o1⟩ := hF
  obtain ⟨x2, c2, rfl, m2, _⟩ := hC
  unfold maxLen at m1 m2
  have cW := fun W => iWithin5 p.funcs.length p.consts.length 0 0 0 1 0 0 0 0 16 40 0 0 0 W
  simp only [img_meas] at cW
  obtain ⟨b1, e1⟩ : ∃ b, (inB p.funcs.length 1 16 && decide (p.consts.length ≤ 40)) = b := ⟨_, rfl⟩
  simp only [e1] at cW
  rw [img_ok4 p b1 e1]
  have hpos : b1 = true → 0 < p.funcs.length := fun h => by
    rw [h] at e1
    unfold inB at e1
    simp only [Bool.and_eq_true, decide_eq_true_eq] at e1
    omega
  have H1 : Hid (b1 = true → ∃ b o q qx qc kv hv, x1 = some ⟨b, o, none⟩ ∧ b < w.heap.size ∧ FunAt w b o q (.slice qx q.caps.length qc) kv hv ∧ q.caps.length ≤ maxLen ∧ firstOk p.funcs = (decide (q.params = 0) && decide (q.caps.length = 0))) := fun h => by
    obtain ⟨b, o, e, hlt, hc⟩ := o1 (hpos h)
    obtain ⟨q, hq⟩ : ∃ q, p.funcs[0]? = some q := ⟨_, List.getElem?_eq_getElem (hpos h)⟩
    obtain ⟨qv, kv, hv, hA⟩ := hc 0 q hq
    rw [Nat.zero_mul, Nat.add_zero] at hA
    obtain ⟨qx, qc, rfl, hm, _⟩ := hA.caps
    refine ⟨b, o, q, qx, qc, kv, hv, e, hlt, hA, hm, ?_⟩
    revert hq
    cases p.funcs with
    | nil => intro h; simp at h
    | cons f r =>
      intro h
      simp at h
      subst h
      rfl
  clear e1 o1 hw
  obtain ⟨b2, e2⟩ : ∃ b, p.consts.all conOk = b := ⟨_, rfl⟩
  obtain ⟨b3, e3⟩ : ∃ b, p.funcs.all funOk = b := ⟨_, rfl⟩
  obtain ⟨b4, e4⟩ : ∃ b, firstOk p.funcs = b := ⟨_, rfl⟩
  simp only [e2] at cC
  simp only [e3] at cF
  simp only [e4] at H1
  rw [e2, e3, e4]
  clear e2 e3 e4
  obtain ⟨n1, e1⟩ : ∃ n, p.funcs.length = n := ⟨_, rfl⟩
  obtain ⟨n2, e2⟩ : ∃ n, p.consts.length = n := ⟨_, rfl⟩
  rw [e1, e2]
  simp only [e1, e2] at cW
  simp only [e1] at cF m1
  simp only [e2] at cC m2
  rw [e1] at hpos
  clear e1 e2
  have hb2 := build2
  have b0 : ∀ cs t, Below w.heap.size w (w.alloc (.cells cs t)) := fun cs t => (Below.refl _ _).alloc (Nat.le_refl _) _
  go_enter Tryz.func23, Tryz.ntmps23
  go_wp2_with fail
  refine (cW _).mono ?_
  rintro e w1 ⟨rfl, hb1⟩
  have hX1 : Below (w.alloc (.cells #[.slice x1 n1 c1, .slice x2 n2 c2] 34)).heap.size (w.alloc (.cells #[.slice x1 n1 c1, .slice x2 n2 c2] 34)) w1 := chain (by repeat (first | exact Below.refl _ _ | refine Below.setCell ?_ (by simp; try omega) _ | refine Below.alloc ?_ (by simp; try omega) _)) hb1
  have hY1 : Below w.heap.size w w1 := chain (b0 _ _) hX1
  clear hb1 cW
  cases b1 with
  | false =>
    go_wp2
    go_ret
    exact ⟨rfl, hY1⟩
  | true =>
  have k2 := new_cell hX1 1 _ rfl
  go_wp2_with fail
  refine (cC _ hY1).mono ?_
  rintro e w2 ⟨rfl, hb2⟩
  have hX2 := chain hX1 hb2
  have hY2 := chain hY1 hb2
  clear hb2 cC k2
  cases b2 with
  | false =>
    go_wp2
    go_ret
    exact ⟨rfl, hY2⟩
  | true =>
  have k3 := new_cell hX2 0 _ rfl
  go_wp2_with fail
  refine (cF _ hY2).mono ?_
  rintro e w3 ⟨rfl, hb3⟩
  have hX3 := chain hX2 hb3
  have hY3 := chain hY2 hb3
  clear hb3 cF k3
  cases b3 with
  | false =>
    go_wp2
    go_ret
    exact ⟨rfl, hY3⟩
  | true =>
  have k4 := new_cell hX3 0 _ rfl
  obtain ⟨b, o, q, qx, qc, kv, hv, rfl, hlt, hA, hm, hf⟩ := H1.out (by first | rfl | trivial)
  have hA' := hA.below hY3
  have g0 := hA'.c0
  have g1 := hA'.c1
  have g2 := hA'.c2
  have g3 := hA'.c3
  have g4 := hA'.c4
  have hp0 : (0 : Int) < (n1 : Int) := by have := hpos (by first | rfl | trivial); omega
  have cS := fun W => iStartsAlone q qx qc kv hv W hm
  simp only [← hf] at cS
  clear hf hA hA' H1 hpos
  go_wp2_with fail
  refine (cS _).mono ?_
  rintro e w4 ⟨rfl, hb4⟩
  go_wp2
  go_ret
  exact ⟨rfl, chain hY3 hb4⟩
end Go.Proofs.YtheofdiaenlbgaaGreat
namespace Go.Proofs.YtheofdiaenlbgaaGreat
open Go.RowKit Go.Sort
set_option linter.unusedVariables false
theorem bad_let {p : PImg} {f : PFun} {r : RunP} (I : RunInv p f r) (h : r.bad = true ∨ r.todo = []) : r.bad = !letB p f := by
  cases hb : r.bad with
  | true => rw [letB_no (bad_no I hb)]; rfl
  | false =>
    rcases h with h | h
    · rw [hb] at h; cases h
    · rw [letB_yes (end_best I hb h).sound]; rfl
end Go.Proofs.YtheofdiaenlbgaaGreat
namespace Go.Proofs.YtheofdiaenlbgaaGreat
open Go.RowKit Go.Sort
set_option linter.unusedVariables false
def boolC (x : Bool) : List Value := [.bool x]
theorem boolC_len (x : Bool) : (boolC x).length = 1 := rfl
def ArgBo (w : World) (v : Value) (l : List Bool) : Prop := ArgFlat w v 1 l.length (l.flatMap boolC)
theorem ArgBo.below {w w' : World} {v : Value} {l : List Bool} (h : ArgBo w v l) (hb : Below w.heap.size w w') : ArgBo w' v l := ArgFlat.below h hb
def OwnBo (w : World) (B : Nat) (v : Value) (l : List Bool) : Prop := w.ownsRow B 4 1 v l.length (l.flatMap boolC)
theorem OwnBo.below {w w' : World} {B : Nat} {v : Value} {l : List Bool} (h : OwnBo w B v l) (hb : Below w.heap.size w w') : OwnBo w' B v l := row_keep h hb
theorem OwnBo.arg {w : World} {B : Nat} {v : Value} {l : List Bool} (h : OwnBo w B v l) : ArgBo w v l := ArgFlat.of_own h
theorem bool_at {l : List Bool} {j : Nat} {z : Bool} (h : l[j]? = some z) : (l.flatMap boolC)[j]? = some (.bool z) := by
  have := flat_at boolC_len l j 0 z _ h rfl
  rwa [Nat.mul_one, Nat.add_zero] at this
theorem bools_is {l : List Bool} {xs : List Value} (hl : xs.length = l.length) (h : ∀ (j : Nat) (z : Bool), l[j]? = some z → xs[j]? = some (.bool z)) : xs = l.flatMap boolC :=
  flat_ext boolC_len (by decide) l xs (by omega) (fun j p c u hp hu => by
    have hc : c < 1 := (List.getElem?_eq_some_iff.1 hu).1
    have e : c = 0 := by omega
    subst e
    simp [boolC] at hu
    subst hu
    rw [Nat.mul_one, Nat.add_zero]
    exact h j p hp)
theorem ArgBo.opened {w : World} {v : Value} {l : List Bool} (h : ArgBo w v l) : ∃ x c, v = .slice x l.length c ∧ l.length ≤ maxLen ∧ (0 < l.length → ∃ b o, x = some ⟨b, o, none⟩ ∧ b < w.heap.size ∧ ∀ (j : Nat) (z : Bool), l[j]? = some z → w.cell? ⟨b, o + j, none⟩ = some (.bool z)) := by
  obtain ⟨x, c, e, hm, hl, hc⟩ := h
  refine ⟨x, c, e, hm, fun h0 => ?_⟩
  obtain ⟨b, o, e1, h1, h2⟩ := hc h0
  exact ⟨b, o, e1, h1, fun j z hz => h2 j _ (bool_at hz)⟩
set_option maxHeartbeats 1000000 in
set_option maxRecDepth 100000 in
theorem eqBoolS_f (a b : Value) (ls ms : List Bool) (w : World) (ha : ArgBo w a ls) (hb : ArgBo w b ms) :
    Calls Tryz.prog 9 #[a, b] w fun e w' => e = .returned (.bool (decide (ls = ms))) ∧ Below w.heap.size w w' := by
  obtain ⟨xa, ca, rfl, hm, oa⟩ := ha.opened
  obtain ⟨xb, cb, rfl, hm', ob⟩ := hb.opened
  clear ha hb
  unfold maxLen at hm hm'
  obtain ⟨n, hn⟩ : ∃ n, ls.length = n := ⟨_, rfl⟩
  obtain ⟨m, hmm⟩ : ∃ m, ms.length = m := ⟨_, rfl⟩
  have HN : Hid (ls.length = n) := hn
  have HM : Hid (ms.length = m) := hmm
  rw [hn] at hm oa ⊢
  rw [hmm] at hm' ob ⊢
  obtain ⟨F, hF⟩ : ∃ F, decide (ls = ms) = F := ⟨_, rfl⟩
  rw [hF]
  have HF : Hid (decide (ls = ms) = F) := hF
  clear hn hmm hF
  by_cases hnm : n = m
  case neg =>
    have hf : F = false := by
      rw [← HF.out]
      apply decide_eq_false
      intro e
      apply hnm
      rw [← HN.out, ← HM.out, e]
    subst hf
    have hne : ((n : Int) == (m : Int)) = false := by rw [beq_eq_false_iff_ne]; omega
    clear oa ob
    go_enter Tryz.func9, Tryz.ntmps9
    go_wp2
    go_ret
    exact ⟨rfl, Below.refl _ _⟩
  subst hnm
  have HA : Hid (0 < n → ∃ b o, xa = some ⟨b, o, none⟩ ∧ b < w.heap.size ∧ ∀ (j : Nat) (z : Bool), ls[j]? = some z → w.cell? ⟨b, o + j, none⟩ = some (.bool z)) := oa
  have HB : Hid (0 < n → ∃ b o, xb = some ⟨b, o, none⟩ ∧ b < w.heap.size ∧ ∀ (j : Nat) (z : Bool), ms[j]? = some z → w.cell? ⟨b, o + j, none⟩ = some (.bool z)) := ob
  clear oa ob
  go_enter Tryz.func9, Tryz.ntmps9
  go_wp2
  go_loopw [5] (fun i wr => ∃ k : Nat, k ≤ n ∧ i = .int .i64 k ∧ Hid (∀ j, j < k → ls[j]? = ms[j]?) ∧ Below w.heap.size w wr) (fun i _ => n - (intOf i).toNat)
  case atStart => exact ⟨0, Nat.zero_le _, rfl, fun j hj => absurd hj (Nat.not_lt_zero _), Below.refl _ _⟩
  case round =>
    obtain ⟨k, hk, rfl, HS, hbel⟩ := hrel
    by_cases hlt : k < n
    · obtain ⟨ga, sa, rfl, hga, hca⟩ := HA.out (by omega)
      obtain ⟨gb, sb, rfl, hgb, hcb⟩ := HB.out (by omega)
      obtain ⟨y, hy⟩ : ∃ s, ls[k]? = some s := ⟨_, List.getElem?_eq_getElem (by have := HN.out; omega)⟩
      obtain ⟨z, hz⟩ : ∃ s, ms[k]? = some s := ⟨_, List.getElem?_eq_getElem (by have := HM.out; omega)⟩
      have h1 : wr.cell? ⟨ga, sa + k, none⟩ = some (.bool y) := (hbel.cell hga).trans (hca k y hy)
      have h2 : wr.cell? ⟨gb, sb + k, none⟩ = some (.bool z) := (hbel.cell hgb).trans (hcb k z hz)
      have hki : (k : Int) < (n : Int) := by omega
      have hk0 : (0 : Int) ≤ (k : Int) := by omega
      by_cases e : y = z
      · have HS2 : Hid (∀ j, j < k + 1 → ls[j]? = ms[j]?) := fun j hj => by
          rcases Nat.lt_or_ge j k with h' | h'
          · exact HS.out j h'
          · have e3 : j = k := by omega
            subst e3
            rw [hy, hz, e]
        subst e
        clear hca hcb hy hz HS HA HB
        go_wp2
        go_quiet (fail)
        go_wp2
        go_roundw
        case rel => exact ⟨k + 1, by omega, by go_num, HS2, below_drewN hbel _⟩
        case measure => simp [intOf]; omega
      · have hf : F = false := by
          rw [← HF.out]
          apply decide_eq_false
          intro e3
          rw [e3, hz] at hy
          injection hy with hy
          exact e hy.symm
        subst hf
        have hne : (y == z) = false := by rw [beq_eq_false_iff_ne]; exact e
        clear hca hcb hy hz HS HA HB
        go_wp2
        go_quiet (fail)
        go_wp2
        go_ret
        exact ⟨rfl, below_drewN hbel _⟩
    · have hf : F = true := by
        rw [← HF.out]
        apply decide_eq_true
        apply List.ext_getElem?
        intro j
        by_cases hj : j < k
        · exact HS.out j hj
        · rw [List.getElem?_eq_none (by have := HN.out; omega), List.getElem?_eq_none (by have := HM.out; omega)]
      subst hf
      go_wp2
      go_ret
      exact ⟨rfl, hbel⟩
def mkB (k : Nat) : Bool := (k : Int) % 3 == 0
def upB (k n : Nat) : List Bool := (List.range n).map fun j => mkB (k + j)
theorem upB_len (k n : Nat) : (upB k n).length = n := by simp [upB]
theorem upB_at {k n j : Nat} (h : j < n) : (upB k n)[j]? = some (mkB (k + j)) := by
  unfold upB
  rw [List.getElem?_map, List.getElem?_range h]
  rfl
theorem OwnBo.opened {w : World} {B : Nat} {v : Value} {l : List Bool} (h : OwnBo w B v l) : ∃ x c, v = .slice x l.length c ∧ l.length ≤ maxLen ∧ (0 < l.length → ∃ g, x = some ⟨g, 0, none⟩) := by
  obtain ⟨_, ⟨rfl, h0⟩ | ⟨g, cap, cur, rfl, _, _, hnc, hc, _⟩⟩ := h
  · exact ⟨none, 0, by rw [h0], by rw [h0]; exact Nat.zero_le _, fun h => by omega⟩
  · exact ⟨_, _, rfl, Nat.le_trans hnc hc, fun _ => ⟨g, rfl⟩⟩
set_option maxHeartbeats 1000000 in
set_option maxRecDepth 100000 in
theorem markBoolS_f (B : Nat) (v : Value) (l : List Bool) (k : Nat) (w : World) (hv : OwnBo w B v l) (hl : l.length ≤ 2000000) (hk : k ≤ 1000000000) :
    Calls Tryz.prog 13 #[v, .int .i64 k] w fun e w' => e = .returned (.int .i64 ((k + l.length : Nat) : Int)) ∧ OwnBo w' B v (upB k l.length) ∧ w.grownBy w' v.ownBlock := by
  obtain ⟨x, c, rfl, hm, hg⟩ := hv.opened
  unfold maxLen at hm
  obtain ⟨n, hn⟩ : ∃ n, l.length = n := ⟨_, rfl⟩
  have HV : Hid (w.ownsRow B 4 1 (.slice x n c) n (l.flatMap boolC)) := by
    have h := hv
    unfold OwnBo at h
    rw [hn] at h
    exact h
  have HE : Hid (∀ (W : World) (xs : List Value), W.ownsRow B 4 1 (.slice x n c) n xs → (∀ j, j < n → xs[j]? = some (.bool (mkB (k + j)))) → OwnBo W B (.slice x n c) (upB k n)) := fun W xs h1 h2 => by
    have e := bools_is (l := upB k n) (xs := xs) (by rw [upB_len]; have := h1.1; omega) (fun j z hz => by
      have hj : j < n := by have := (List.getElem?_eq_some_iff.1 hz).1; rw [upB_len] at this; exact this
      rw [upB_at hj] at hz
      injection hz with hz
      rw [← hz]
      exact h2 j hj)
    unfold OwnBo
    rw [upB_len, ← e]
    exact h1
  rw [hn] at hm hg hl ⊢
  clear hn hv
  by_cases h0 : n = 0
  · subst h0
    have hE := HE.out w _ HV.out (fun j hj => absurd hj (Nat.not_lt_zero _))
    clear HE HV
    go_enter Tryz.func13, Tryz.ntmps13
    go_wp2
    go_loop [1, 5] (fun y i => y = .int .i64 k ∧ i = .int .i64 0) (fun _ _ => 0)
    case atStart => exact ⟨rfl, rfl⟩
    case round =>
      obtain ⟨rfl, rfl⟩ := hrel
      go_wp2
      go_ret
      exact ⟨rfl, hE, grown_same _ _⟩
  · obtain ⟨g, rfl⟩ := hg (by omega)
    go_enter Tryz.func13, Tryz.ntmps13
    go_wp2
    go_loopw [1, 5] (fun y i wr => ∃ (j : Nat) (xs : List Value), j ≤ n ∧ y = .int .i64 ((k + j : Nat) : Int) ∧ i = .int .i64 j ∧ Hid (∀ q, q < j → xs[q]? = some (.bool (mkB (k + q)))) ∧ Hid (wr.ownsRow B 4 1 (.slice (some ⟨g, 0, none⟩) n c) n xs) ∧ w.grownBy wr (some g)) (fun _ i _ => n - (intOf i).toNat)
    case atStart => exact ⟨0, _, Nat.zero_le _, rfl, rfl, fun q hq => absurd hq (Nat.not_lt_zero _), HV, grown_same _ _⟩
    case round =>
      obtain ⟨j, xs, hj, rfl, rfl, HY, HO, hgr⟩ := hrel
      by_cases hlt : j < n
      · have hji : (j : Int) < (n : Int) := by omega
        have hj0 : (0 : Int) ≤ (j : Int) := by omega
        obtain ⟨⟨u, hu⟩, hfz⟩ := row_cell HO.out j (by omega)
        have hxl : xs.length = n := by have := HO.out.1; omega
        obtain ⟨bb, hbb⟩ : ∃ b, mkB (k + j) = b := ⟨_, rfl⟩
        have HS : Hid ((wr.setCell ⟨g, j, none⟩ (.bool bb)).ownsRow B 4 1 (.slice (some ⟨g, 0, none⟩) n c) n (xs.set j (.bool bb)) ∧ w.grownBy (wr.setCell ⟨g, j, none⟩ (.bool bb)) (some g)) := ⟨(HO.out.stored j _).1, hgr.trans (HO.out.stored j _).2⟩
        have HY2 : Hid (∀ q, q < j + 1 → (xs.set j (.bool bb))[q]? = some (.bool (mkB (k + q)))) := fun q hq => by
          by_cases e : q = j
          · subst e; rw [List.getElem?_set_self (by omega), hbb]
          · rw [List.getElem?_set_ne (by omega)]; exact HY.out q (by omega)
        have e0 : (((k + j : Nat) : Nat) : Int) = (k : Int) + (j : Int) := by omega
        unfold mkB at hbb
        rw [e0] at hbb
        clear HY HO HE HV
        go_wp2
        go_roundw
        case rel => exact ⟨j + 1, _, by omega, by go_num, by go_num, HY2, HS.out.1, HS.out.2⟩
        case measure => simp [intOf]; omega
      · have e : j = n := by omega
        subst e
        have hE := HE.out wr xs HO.out HY.out
        clear HY HO HE HV
        go_wp2
        go_ret
        exact ⟨rfl, hE, hgr⟩
set_option maxHeartbeats 1000000 in
set_option maxRecDepth 100000 in
theorem heldBoolS_f (v : Value) (n k : Nat) (w : World) (hv : ArgBo w v (upB k n)) (hl : n ≤ 2000000) (hk : k ≤ 1000000000) :
    Calls Tryz.prog 15 #[v, .int .i64 k] w fun e w' => e = .returned (.int .i64 ((k + n : Nat) : Int)) ∧ Below w.heap.size w w' := by
  obtain ⟨x, c, rfl, hm, hc⟩ := hv.opened
  clear hv
  rw [upB_len] at hm hc ⊢
  unfold maxLen at hm
  have HC : Hid (0 < n → ∃ b o, x = some ⟨b, o, none⟩ ∧ b < w.heap.size ∧ ∀ j, j < n → w.cell? ⟨b, o + j, none⟩ = some (.bool (mkB (k + j)))) := fun h0 => by
    obtain ⟨b, o, e, hb, h⟩ := hc h0
    exact ⟨b, o, e, hb, fun j hj => h j _ (upB_at hj)⟩
  clear hc
  go_enter Tryz.func15, Tryz.ntmps15
  go_wp2
  go_loopw [1, 5] (fun y i wr => ∃ j : Nat, j ≤ n ∧ y = .int .i64 ((k + j : Nat) : Int) ∧ i = .int .i64 j ∧ Below w.heap.size w wr) (fun _ i _ => n - (intOf i).toNat)
  case atStart => exact ⟨0, Nat.zero_le _, rfl, rfl, Below.refl _ _⟩
  case round =>
    obtain ⟨j, hj, rfl, rfl, hbel⟩ := hrel
    by_cases hlt : j < n
    · obtain ⟨b, o, rfl, hb, hcell⟩ := HC.out (by omega)
      obtain ⟨bb, hbb⟩ : ∃ b, mkB (k + j) = b := ⟨_, rfl⟩
      have h1 := (hbel.cell hb).trans (hcell j hlt)
      rw [hbb] at h1
      have e0 : (((k + j : Nat) : Nat) : Int) = (k : Int) + (j : Int) := by omega
      unfold mkB at hbb
      rw [e0] at hbb
      have hji : (j : Int) < (n : Int) := by omega
      have hj0 : (0 : Int) ≤ (j : Int) := by omega
      have hss : (!(bb == bb)) = false := by simp
      have hsn : (bb != bb) = false := by simp
      clear hcell HC
      go_wp2
      go_roundw
      case rel => exact ⟨j + 1, by omega, by go_num, by go_num, hbel⟩
      case measure => simp [intOf]; omega
    · have e : j = n := by omega
      subst e
      go_wp2
      go_ret
      exact ⟨rfl, hbel⟩
end Go.Proofs.YtheofdiaenlbgaaGreat
