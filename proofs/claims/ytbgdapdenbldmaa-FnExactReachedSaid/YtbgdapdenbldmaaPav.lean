/-
  Part 22 of what is proved of drawn right trees.
-/
import Derived.Test.YtbgdapdenbldmaaPau
import Derived.Test.YtbgdapdenbldmaaPak
import Derived.Test.YtbgdapdenbldmaaPag
import Derived.Test.YtbgdapdenbldmaaPas
import Derived.Test.YtbgdapdenbldmaaPat
import Derived.Test.YtbgdapdenbldmaaPac

namespace Go.Proofs.Ytbgdapdenbldmaa
open Go.RowKit Go.Sort
set_option linter.unusedVariables false
set_option maxHeartbeats 1000000 in
set_option maxRecDepth 100000 in
theorem iAllCap (l : List PCap) (v : Value) (w : World) (h : ArgFlat w v 2 l.length (l.flatMap capC)) :
    Calls Try.prog 109 #[v, .func (.func 110) #[] #[]] w fun e w' => e = .returned (.bool (l.all capOk)) ∧ Below w.heap.size w w' := by
  obtain ⟨x, c, rfl, m, o⟩ := h.opened capC_len
  unfold maxLen at m
  clear h
  obtain ⟨n, e1⟩ : ∃ n, l.length = n := ⟨_, rfl⟩
  rw [e1] at m o ⊢
  obtain ⟨F, hF⟩ : ∃ F, l.all capOk = F := ⟨_, rfl⟩
  rw [hF]
  have HF : Hid (l.all capOk = F) := hF
  have H1 : Hid (0 < n → ∃ b o, x = some ⟨b, o, none⟩ ∧ b < w.heap.size ∧ ∀ j q, l[j]? = some q → ∀ c u, (capC q)[c]? = some u → w.cell? ⟨b, o + j * 2 + c, none⟩ = some u) := o
  have E1 : Hid (l.length = n) := e1
  clear o e1 hF
  go_enter Try.func109, Try.ntmps109
  go_wp2
  go_loopw [9] (fun i wr => ∃ k : Nat, k ≤ n ∧ i = .int .i64 k ∧ Hid (∀ j q, j < k → l[j]? = some q → capOk q = true) ∧ Below w.heap.size w wr) (fun i _ => n - (intOf i).toNat)
  case atStart => exact ⟨0, Nat.zero_le _, rfl, fun j q hj => absurd hj (Nat.not_lt_zero _), Below.refl _ _⟩
  case round =>
    obtain ⟨k, hk, rfl, HA, hb⟩ := hrel
    by_cases hkn : k < n
    · obtain ⟨b, o, rfl, hbz, hcell⟩ := H1.out (by omega)
      obtain ⟨q, hq⟩ : ∃ q, l[k]? = some q := ⟨_, List.getElem?_eq_getElem (by have := E1.out; omega)⟩
      have g0 : wr.cell? ⟨b, o + k * 2, none⟩ = some (.bool q.reg) := (hb.cell hbz).trans (hcell k q hq 0 _ rfl)
      have g1 : wr.cell? ⟨b, o + k * 2 + 1, none⟩ = some (.int .i64 q.index) := (hb.cell hbz).trans (hcell k q hq 1 _ rfl)
      have hki : (k : Int) < (n : Int) := by omega
      have hk0 : (0 : Int) ≤ (k : Int) := by omega
      have cI := fun W => iCapOk q W
      obtain ⟨bI, eI⟩ : ∃ b, capOk q = b := ⟨_, rfl⟩
      simp only [eI] at cI
      have HI : Hid (capOk q = bI) := eI
      have HQ : Hid (l[k]? = some q) := hq
      have hz : w.heap.size ≤ wr.heap.size := hb.size
      clear hcell eI hq
      cases bI with
      | false =>
        have hF : F = false := by rw [← HF.out, all_no HQ.out HI.out]
        subst hF
        clear H1
        go_wp2_with (go_at_call 110; with_reducible refine (cI _).mono ?_; rintro e w' ⟨rfl, hb1⟩)
        go_ret
        exact ⟨rfl, chain (by repeat (first | exact hb | refine Below.setCell ?_ (by show w.heap.size ≤ wr.heap.size; exact hz) _ | refine Below.alloc ?_ hz _)) hb1⟩
      | true =>
        go_wp2_with (go_at_call 110; with_reducible refine (cI _).mono ?_; rintro e w' ⟨rfl, hb1⟩)
        go_roundw
        case rel => exact ⟨k + 1, by omega, by go_num, all_more HA.out HQ.out HI.out, chain (by repeat (first | exact hb | refine Below.setCell ?_ (by show w.heap.size ≤ wr.heap.size; exact hz) _ | refine Below.alloc ?_ hz _)) hb1⟩
        case measure => simp [intOf]; omega
    · have hall : l.all capOk = true := all_yes (n := k) (by have := E1.out; omega) HA.out
      have hF : F = true := by rw [← HF.out, hall]
      subst hF
      have hd : decide ((k : Int) < (n : Int)) = false := decide_eq_false (by omega)
      clear HA H1 hall
      go_wp2
      go_ret
      exact ⟨rfl, hb⟩
set_option maxHeartbeats 1000000 in
set_option maxRecDepth 100000 in
theorem iAllIns (l : List PIns) (v : Value) (w : World) (h : ArgFlat w v 3 l.length (l.flatMap insC)) :
    Calls Try.prog 111 #[v, .func (.func 112) #[] #[]] w fun e w' => e = .returned (.bool (l.all insOk)) ∧ Below w.heap.size w w' := by
  obtain ⟨x, c, rfl, m, o⟩ := h.opened insC_len
  unfold maxLen at m
  clear h
  obtain ⟨n, e1⟩ : ∃ n, l.length = n := ⟨_, rfl⟩
  rw [e1] at m o ⊢
  obtain ⟨F, hF⟩ : ∃ F, l.all insOk = F := ⟨_, rfl⟩
  rw [hF]
  have HF : Hid (l.all insOk = F) := hF
  have H1 : Hid (0 < n → ∃ b o, x = some ⟨b, o, none⟩ ∧ b < w.heap.size ∧ ∀ j q, l[j]? = some q → ∀ c u, (insC q)[c]? = some u → w.cell? ⟨b, o + j * 3 + c, none⟩ = some u) := o
  have E1 : Hid (l.length = n) := e1
  clear o e1 hF
  go_enter Try.func111, Try.ntmps111
  go_wp2
  go_loopw [9] (fun i wr => ∃ k : Nat, k ≤ n ∧ i = .int .i64 k ∧ Hid (∀ j q, j < k → l[j]? = some q → insOk q = true) ∧ Below w.heap.size w wr) (fun i _ => n - (intOf i).toNat)
  case atStart => exact ⟨0, Nat.zero_le _, rfl, fun j q hj => absurd hj (Nat.not_lt_zero _), Below.refl _ _⟩
  case round =>
    obtain ⟨k, hk, rfl, HA, hb⟩ := hrel
    by_cases hkn : k < n
    · obtain ⟨b, o, rfl, hbz, hcell⟩ := H1.out (by omega)
      obtain ⟨q, hq⟩ : ∃ q, l[k]? = some q := ⟨_, List.getElem?_eq_getElem (by have := E1.out; omega)⟩
      have g0 : wr.cell? ⟨b, o + k * 3, none⟩ = some (.int .i64 q.op) := (hb.cell hbz).trans (hcell k q hq 0 _ rfl)
      have g1 : wr.cell? ⟨b, o + k * 3 + 1, none⟩ = some (.int .i64 q.a) := (hb.cell hbz).trans (hcell k q hq 1 _ rfl)
      have g2 : wr.cell? ⟨b, o + k * 3 + 2, none⟩ = some (.int .i64 q.b) := (hb.cell hbz).trans (hcell k q hq 2 _ rfl)
      have hki : (k : Int) < (n : Int) := by omega
      have hk0 : (0 : Int) ≤ (k : Int) := by omega
      have cI := fun W => iInsOk q W
      obtain ⟨bI, eI⟩ : ∃ b, insOk q = b := ⟨_, rfl⟩
      simp only [eI] at cI
      have HI : Hid (insOk q = bI) := eI
      have HQ : Hid (l[k]? = some q) := hq
      have hz : w.heap.size ≤ wr.heap.size := hb.size
      clear hcell eI hq
      cases bI with
      | false =>
        have hF : F = false := by rw [← HF.out, all_no HQ.out HI.out]
        subst hF
        clear H1
        go_wp2_with (go_at_call 112; with_reducible refine (cI _).mono ?_; rintro e w' ⟨rfl, hb1⟩)
        go_ret
        exact ⟨rfl, chain (by repeat (first | exact hb | refine Below.setCell ?_ (by show w.heap.size ≤ wr.heap.size; exact hz) _ | refine Below.alloc ?_ hz _)) hb1⟩
      | true =>
        go_wp2_with (go_at_call 112; with_reducible refine (cI _).mono ?_; rintro e w' ⟨rfl, hb1⟩)
        go_roundw
        case rel => exact ⟨k + 1, by omega, by go_num, all_more HA.out HQ.out HI.out, chain (by repeat (first | exact hb | refine Below.setCell ?_ (by show w.heap.size ≤ wr.heap.size; exact hz) _ | refine Below.alloc ?_ hz _)) hb1⟩
        case measure => simp [intOf]; omega
    · have hall : l.all insOk = true := all_yes (n := k) (by have := E1.out; omega) HA.out
      have hF : F = true := by rw [← HF.out, hall]
      subst hF
      have hd : decide ((k : Int) < (n : Int)) = false := decide_eq_false (by omega)
      clear HA H1 hall
      go_wp2
      go_ret
      exact ⟨rfl, hb⟩
set_option maxHeartbeats 1000000 in
set_option maxRecDepth 100000 in
theorem iAllHandler (l : List PHnd) (v : Value) (w : World) (h : ArgFlat w v 3 l.length (l.flatMap hndC)) :
    Calls Try.prog 113 #[v, .func (.func 114) #[] #[]] w fun e w' => e = .returned (.bool (l.all hndOk)) ∧ Below w.heap.size w w' := by
  obtain ⟨x, c, rfl, m, o⟩ := h.opened hndC_len
  unfold maxLen at m
  clear h
  obtain ⟨n, e1⟩ : ∃ n, l.length = n := ⟨_, rfl⟩
  rw [e1] at m o ⊢
  obtain ⟨F, hF⟩ : ∃ F, l.all hndOk = F := ⟨_, rfl⟩
  rw [hF]
  have HF : Hid (l.all hndOk = F) := hF
  have H1 : Hid (0 < n → ∃ b o, x = some ⟨b, o, none⟩ ∧ b < w.heap.size ∧ ∀ j q, l[j]? = some q → ∀ c u, (hndC q)[c]? = some u → w.cell? ⟨b, o + j * 3 + c, none⟩ = some u) := o
  have E1 : Hid (l.length = n) := e1
  clear o e1 hF
  go_enter Try.func113, Try.ntmps113
  go_wp2
  go_loopw [9] (fun i wr => ∃ k : Nat, k ≤ n ∧ i = .int .i64 k ∧ Hid (∀ j q, j < k → l[j]? = some q → hndOk q = true) ∧ Below w.heap.size w wr) (fun i _ => n - (intOf i).toNat)
  case atStart => exact ⟨0, Nat.zero_le _, rfl, fun j q hj => absurd hj (Nat.not_lt_zero _), Below.refl _ _⟩
  case round =>
    obtain ⟨k, hk, rfl, HA, hb⟩ := hrel
    by_cases hkn : k < n
    · obtain ⟨b, o, rfl, hbz, hcell⟩ := H1.out (by omega)
      obtain ⟨q, hq⟩ : ∃ q, l[k]? = some q := ⟨_, List.getElem?_eq_getElem (by have := E1.out; omega)⟩
      have g0 : wr.cell? ⟨b, o + k * 3, none⟩ = some (.int .i64 q.lo) := (hb.cell hbz).trans (hcell k q hq 0 _ rfl)
      have g1 : wr.cell? ⟨b, o + k * 3 + 1, none⟩ = some (.int .i64 q.hi) := (hb.cell hbz).trans (hcell k q hq 1 _ rfl)
      have g2 : wr.cell? ⟨b, o + k * 3 + 2, none⟩ = some (.int .i64 q.target) := (hb.cell hbz).trans (hcell k q hq 2 _ rfl)
      have hki : (k : Int) < (n : Int) := by omega
      have hk0 : (0 : Int) ≤ (k : Int) := by omega
      have cI := fun W => iHandlerOk q W
      obtain ⟨bI, eI⟩ : ∃ b, hndOk q = b := ⟨_, rfl⟩
      simp only [eI] at cI
      have HI : Hid (hndOk q = bI) := eI
      have HQ : Hid (l[k]? = some q) := hq
      have hz : w.heap.size ≤ wr.heap.size := hb.size
      clear hcell eI hq
      cases bI with
      | false =>
        have hF : F = false := by rw [← HF.out, all_no HQ.out HI.out]
        subst hF
        clear H1
        go_wp2_with (go_at_call 114; with_reducible refine (cI _).mono ?_; rintro e w' ⟨rfl, hb1⟩)
        go_ret
        exact ⟨rfl, chain (by repeat (first | exact hb | refine Below.setCell ?_ (by show w.heap.size ≤ wr.heap.size; exact hz) _ | refine Below.alloc ?_ hz _)) hb1⟩
      | true =>
        go_wp2_with (go_at_call 114; with_reducible refine (cI _).mono ?_; rintro e w' ⟨rfl, hb1⟩)
        go_roundw
        case rel => exact ⟨k + 1, by omega, by go_num, all_more HA.out HQ.out HI.out, chain (by repeat (first | exact hb | refine Below.setCell ?_ (by show w.heap.size ≤ wr.heap.size; exact hz) _ | refine Below.alloc ?_ hz _)) hb1⟩
        case measure => simp [intOf]; omega
    · have hall : l.all hndOk = true := all_yes (n := k) (by have := E1.out; omega) HA.out
      have hF : F = true := by rw [← HF.out, hall]
      subst hF
      have hd : decide ((k : Int) < (n : Int)) = false := decide_eq_false (by omega)
      clear HA H1 hall
      go_wp2
      go_ret
      exact ⟨rfl, hb⟩
set_option maxHeartbeats 1000000 in
set_option maxRecDepth 100000 in
theorem iAllConst (l : List PCon) (v : Value) (w : World) (h : ArgFlat w v 3 l.length (l.flatMap conC)) (HW : ∀ x ∈ l, conW x) :
    Calls Try.prog 75 #[v, .func (.func 76) #[] #[]] w fun e w' => e = .returned (.bool (l.all conOk)) ∧ Below w.heap.size w w' := by
  obtain ⟨x, c, rfl, m, o⟩ := h.opened conC_len
  unfold maxLen at m
  clear h
  obtain ⟨n, e1⟩ : ∃ n, l.length = n := ⟨_, rfl⟩
  rw [e1] at m o ⊢
  obtain ⟨F, hF⟩ : ∃ F, l.all conOk = F := ⟨_, rfl⟩
  rw [hF]
  have HF : Hid (l.all conOk = F) := hF
  have H1 : Hid (0 < n → ∃ b o, x = some ⟨b, o, none⟩ ∧ b < w.heap.size ∧ ∀ j q, l[j]? = some q → ∀ c u, (conC q)[c]? = some u → w.cell? ⟨b, o + j * 3 + c, none⟩ = some u) := o
  have E1 : Hid (l.length = n) := e1
  clear o e1 hF
  go_enter Try.func75, Try.ntmps75
  go_wp2
  go_loopw [9] (fun i wr => ∃ k : Nat, k ≤ n ∧ i = .int .i64 k ∧ Hid (∀ j q, j < k → l[j]? = some q → conOk q = true) ∧ Below w.heap.size w wr) (fun i _ => n - (intOf i).toNat)
  case atStart => exact ⟨0, Nat.zero_le _, rfl, fun j q hj => absurd hj (Nat.not_lt_zero _), Below.refl _ _⟩
  case round =>
    obtain ⟨k, hk, rfl, HA, hb⟩ := hrel
    by_cases hkn : k < n
    · obtain ⟨b, o, rfl, hbz, hcell⟩ := H1.out (by omega)
      obtain ⟨q, hq⟩ : ∃ q, l[k]? = some q := ⟨_, List.getElem?_eq_getElem (by have := E1.out; omega)⟩
      have g0 : wr.cell? ⟨b, o + k * 3, none⟩ = some (.int .i64 q.kind) := (hb.cell hbz).trans (hcell k q hq 0 _ rfl)
      have g1 : wr.cell? ⟨b, o + k * 3 + 1, none⟩ = some (.int .u64 (q.num : Int)) := (hb.cell hbz).trans (hcell k q hq 1 _ rfl)
      have g2 : wr.cell? ⟨b, o + k * 3 + 2, none⟩ = some (.string q.text) := (hb.cell hbz).trans (hcell k q hq 2 _ rfl)
      have hki : (k : Int) < (n : Int) := by omega
      have hk0 : (0 : Int) ≤ (k : Int) := by omega
      have cI := fun W => iConstOk_any q W (HW q (List.mem_iff_getElem?.2 ⟨_, hq⟩))
      obtain ⟨bI, eI⟩ : ∃ b, conOk q = b := ⟨_, rfl⟩
      simp only [eI] at cI
      have HI : Hid (conOk q = bI) := eI
      have HQ : Hid (l[k]? = some q) := hq
      have hz : w.heap.size ≤ wr.heap.size := hb.size
      clear hcell eI hq
      cases bI with
      | false =>
        have hF : F = false := by rw [← HF.out, all_no HQ.out HI.out]
        subst hF
        clear H1
        go_wp2_with (go_at_call 76; with_reducible refine (cI _).mono ?_; rintro e w' ⟨rfl, hb1⟩)
        go_ret
        exact ⟨rfl, chain (by repeat (first | exact hb | refine Below.setCell ?_ (by show w.heap.size ≤ wr.heap.size; exact hz) _ | refine Below.alloc ?_ hz _)) hb1⟩
      | true =>
        go_wp2_with (go_at_call 76; with_reducible refine (cI _).mono ?_; rintro e w' ⟨rfl, hb1⟩)
        go_roundw
        case rel => exact ⟨k + 1, by omega, by go_num, all_more HA.out HQ.out HI.out, chain (by repeat (first | exact hb | refine Below.setCell ?_ (by show w.heap.size ≤ wr.heap.size; exact hz) _ | refine Below.alloc ?_ hz _)) hb1⟩
        case measure => simp [intOf]; omega
    · have hall : l.all conOk = true := all_yes (n := k) (by have := E1.out; omega) HA.out
      have hF : F = true := by rw [← HF.out, hall]
      subst hF
      have hd : decide ((k : Int) < (n : Int)) = false := decide_eq_false (by omega)
      clear HA H1 hall
      go_wp2
      go_ret
      exact ⟨rfl, hb⟩
end Go.Proofs.Ytbgdapdenbldmaa
namespace Go.Proofs.Ytbgdapdenbldmaa
open Go.RowKit Go.Sort
set_option linter.unusedVariables false
theorem fun_meas (p : PFun) : (wi p.params 0 4 && (wi p.regs p.params 40 && (wi p.caps.length 0 20 && (wi p.code.length 1 300 && wi p.hnds.length 0 40)))) = (inB p.params 0 4 && (inB p.regs p.params 40 && (decide (p.caps.length ≤ 20) && (inB p.code.length 1 300 && decide (p.hnds.length ≤ 40))))) := by
  rw [wi_in _ 0 4 (by decide), wi_in _ 0 20 (by decide), wi_in _ 1 300 (by decide), wi_in _ 0 40 (by decide)]
  by_cases h : inB p.params 0 4 = true
  · have h2 : p.params ≤ 40 := by
      unfold inB at h
      simp only [Bool.and_eq_true, decide_eq_true_eq] at h
      omega
    rw [wi_in _ _ _ h2]
    have e1 : inB p.caps.length 0 20 = decide (p.caps.length ≤ 20) := by unfold inB; rw [Bool.eq_iff_iff]; simp; omega
    have e2 : inB p.hnds.length 0 40 = decide (p.hnds.length ≤ 40) := by unfold inB; rw [Bool.eq_iff_iff]; simp; omega
    rw [e1, e2]
  · have h' : inB p.params 0 4 = false := by simpa using h
    rw [h']
    rfl
theorem fun_ok4 (p : PFun) (b : Bool) (h : (inB p.params 0 4 && (inB p.regs p.params 40 && (decide (p.caps.length ≤ 20) && (inB p.code.length 1 300 && decide (p.hnds.length ≤ 40))))) = b) : funOk p = (b && (p.caps.all capOk && (p.code.all insOk && p.hnds.all hndOk))) := by
  rw [← h]
  unfold funOk
  simp only [Bool.and_assoc]
set_option maxHeartbeats 2000000 in
set_option maxRecDepth 100000 in
theorem iFuncOk (p : PFun) (cv kv hv : Value) (w : World) (h2 : ArgFlat w cv 2 p.caps.length (p.caps.flatMap capC)) (h3 : ArgFlat w kv 3 p.code.length (p.code.flatMap insC)) (h4 : ArgFlat w hv 3 p.hnds.length (p.hnds.flatMap hndC)) :
    Calls Try.prog 78 #[.agg #[.int .i64 p.params, .int .i64 p.regs, cv, kv, hv]] w fun e w' => e = .returned (.bool (funOk p)) ∧ Below w.heap.size w w' := by
  have cC := fun W (hb : Below w.heap.size w W) => iAllCap p.caps cv W (h2.below hb)
  have cK := fun W (hb : Below w.heap.size w W) => iAllIns p.code kv W (h3.below hb)
  have cH := fun W (hb : Below w.heap.size w W) => iAllHandler p.hnds hv W (h4.below hb)
  obtain ⟨x2, c2, rfl, m2, _⟩ := h2
  obtain ⟨x3, c3, rfl, m3, _⟩ := h3
  obtain ⟨x4, c4, rfl, m4, _⟩ := h4
  unfold maxLen at m2 m3 m4
  have cW := fun W => iWithin5 p.params p.regs p.caps.length p.code.length p.hnds.length 0 p.params 0 1 0 4 40 20 300 40 W
  simp only [fun_meas p] at cW
  obtain ⟨b1, e1⟩ : ∃ b, (inB p.params 0 4 && (inB p.regs p.params 40 && (decide (p.caps.length ≤ 20) && (inB p.code.length 1 300 && decide (p.hnds.length ≤ 40))))) = b := ⟨_, rfl⟩
  simp only [e1] at cW
  rw [fun_ok4 p b1 e1]
  clear e1
  obtain ⟨b2, e2⟩ : ∃ b, p.caps.all capOk = b := ⟨_, rfl⟩
  obtain ⟨b3, e3⟩ : ∃ b, p.code.all insOk = b := ⟨_, rfl⟩
  obtain ⟨b4, e4⟩ : ∃ b, p.hnds.all hndOk = b := ⟨_, rfl⟩
  simp only [e2] at cC
  simp only [e3] at cK
  simp only [e4] at cH
  rw [e2, e3, e4]
  clear e2 e3 e4
  obtain ⟨P, hP⟩ : ∃ x, p.params = x := ⟨_, rfl⟩
  obtain ⟨R, hR⟩ : ∃ x, p.regs = x := ⟨_, rfl⟩
  obtain ⟨n2, e2⟩ : ∃ n, p.caps.length = n := ⟨_, rfl⟩
  obtain ⟨n3, e3⟩ : ∃ n, p.code.length = n := ⟨_, rfl⟩
  obtain ⟨n4, e4⟩ : ∃ n, p.hnds.length = n := ⟨_, rfl⟩
  rw [hP, hR, e2, e3, e4]
  simp only [hP, hR, e2, e3, e4] at cW
  simp only [e2] at cC m2
  simp only [e3] at cK m3
  simp only [e4] at cH m4
  clear hP hR e2 e3 e4
  have hb5 := build5
  have b0 : ∀ cs t, Below w.heap.size w (w.alloc (.cells cs t)) := fun cs t => (Below.refl _ _).alloc (Nat.le_refl _) _
  go_enter Try.func78, Try.ntmps78
  go_wp2_with fail
  refine (cW _).mono ?_
  rintro e w1 ⟨rfl, hb1⟩
  have hX1 : Below (w.alloc (.cells #[.int .i64 P, .int .i64 R, .slice x2 n2 c2, .slice x3 n3 c3, .slice x4 n4 c4] 70)).heap.size (w.alloc (.cells #[.int .i64 P, .int .i64 R, .slice x2 n2 c2, .slice x3 n3 c3, .slice x4 n4 c4] 70)) w1 := chain (by repeat (first | exact Below.refl _ _ | refine Below.setCell ?_ (by simp; try omega) _ | refine Below.alloc ?_ (by simp; try omega) _)) hb1
  have hY1 : Below w.heap.size w w1 := chain (b0 _ _) hX1
  clear hb1 cW
  cases b1 with
  | false =>
    go_wp2
    go_ret
    exact ⟨rfl, hY1⟩
  | true =>
  have k2 := new_cell hX1 2 _ rfl
  go_wp2_with fail
  refine (cC _ hY1).mono ?_
  rintro e w2 ⟨rfl, hb2⟩
  have hX2 := chain hX1 hb2
  have hY2 := chain hY1 hb2
  clear hb2 cC k2
  cases b2 with
  | false =>
    go_wp2
    go_ret
    exact ⟨rfl, hY2⟩
  | true =>
  have k3 := new_cell hX2 3 _ rfl
  go_wp2_with fail
  refine (cK _ hY2).mono ?_
  rintro e w3 ⟨rfl, hb3⟩
  have hX3 := chain hX2 hb3
  have hY3 := chain hY2 hb3
  clear hb3 cK k3
  cases b3 with
  | false =>
    go_wp2
    go_ret
    exact ⟨rfl, hY3⟩
  | true =>
  have k4 := new_cell hX3 4 _ rfl
  go_wp2_with fail
  refine (cH _ hY3).mono ?_
  rintro e w4 ⟨rfl, hb4⟩
  go_wp2
  go_ret
  exact ⟨rfl, chain hY3 hb4⟩
end Go.Proofs.Ytbgdapdenbldmaa
namespace Go.Proofs.Ytbgdapdenbldmaa
open Go.RowKit Go.Sort
set_option linter.unusedVariables false
set_option maxHeartbeats 2000000 in
set_option maxRecDepth 100000 in
theorem iAllFunc (l : List PFun) (v : Value) (w : World) (h : ArgFuns w v l) :
    Calls Try.prog 77 #[v, .func (.func 78) #[] #[]] w fun e w' => e = .returned (.bool (l.all funOk)) ∧ Below w.heap.size w w' := by
  obtain ⟨x, c, rfl, m, o⟩ := h
  unfold maxLen at m
  obtain ⟨n, e1⟩ : ∃ n, l.length = n := ⟨_, rfl⟩
  rw [e1] at m o ⊢
  obtain ⟨F, hF⟩ : ∃ F, l.all funOk = F := ⟨_, rfl⟩
  rw [hF]
  have HF : Hid (l.all funOk = F) := hF
  have H1 : Hid (0 < n → ∃ b o, x = some ⟨b, o, none⟩ ∧ b < w.heap.size ∧ ∀ j q, l[j]? = some q → ∃ cv kv hv, FunAt w b (o + j * 5) q cv kv hv) := o
  have E1 : Hid (l.length = n) := e1
  clear o e1 hF
  go_enter Try.func77, Try.ntmps77
  go_wp2
  go_loopw [9] (fun i wr => ∃ k : Nat, k ≤ n ∧ i = .int .i64 k ∧ Hid (∀ j q, j < k → l[j]? = some q → funOk q = true) ∧ Below w.heap.size w wr) (fun i _ => n - (intOf i).toNat)
  case atStart => exact ⟨0, Nat.zero_le _, rfl, fun j q hj => absurd hj (Nat.not_lt_zero _), Below.refl _ _⟩
  case round =>
    obtain ⟨k, hk, rfl, HA, hb⟩ := hrel
    by_cases hkn : k < n
    · obtain ⟨b, o, rfl, hbz, hcell⟩ := H1.out (by omega)
      obtain ⟨q, hq⟩ : ∃ q, l[k]? = some q := ⟨_, List.getElem?_eq_getElem (by have := E1.out; omega)⟩
      obtain ⟨cv, kv, hv, hA⟩ := hcell k q hq
      obtain ⟨z1, d1, rfl, _, _⟩ := id hA.caps
      obtain ⟨z2, d2, rfl, _, _⟩ := id hA.code
      obtain ⟨z3, d3, rfl, _, _⟩ := id hA.hnds
      have hA' := hA.below hb
      have g0 := hA'.c0
      have g1 := hA'.c1
      have g2 := hA'.c2
      have g3 := hA'.c3
      have g4 := hA'.c4
      have hki : (k : Int) < (n : Int) := by omega
      have hk0 : (0 : Int) ≤ (k : Int) := by omega
      have cI := fun W (h1 : Below w.heap.size w W) => iFuncOk q _ _ _ W (hA.caps.below h1) (hA.code.below h1) (hA.hnds.below h1)
      obtain ⟨bI, eI⟩ : ∃ b, funOk q = b := ⟨_, rfl⟩
      simp only [eI] at cI
      have HI : Hid (funOk q = bI) := eI
      have HQ : Hid (l[k]? = some q) := hq
      have hz : w.heap.size ≤ wr.heap.size := hb.size
      clear hcell eI hq hA hA'
      cases bI with
      | false =>
        have hF : F = false := by rw [← HF.out, all_no HQ.out HI.out]
        subst hF
        clear H1
        go_wp2_with (go_at_call 78; refine (cI _ (by repeat (first | exact hb | refine Below.setCell ?_ (by show w.heap.size ≤ wr.heap.size; exact hz) _ | refine Below.alloc ?_ hz _))).mono ?_; rintro e w' ⟨rfl, hb1⟩)
        go_ret
        exact ⟨rfl, chain (by repeat (first | exact hb | refine Below.setCell ?_ (by show w.heap.size ≤ wr.heap.size; exact hz) _ | refine Below.alloc ?_ hz _)) hb1⟩
      | true =>
        go_wp2_with (go_at_call 78; refine (cI _ (by repeat (first | exact hb | refine Below.setCell ?_ (by show w.heap.size ≤ wr.heap.size; exact hz) _ | refine Below.alloc ?_ hz _))).mono ?_; rintro e w' ⟨rfl, hb1⟩)
        go_roundw
        case rel => exact ⟨k + 1, by omega, by go_num, all_more HA.out HQ.out HI.out, chain (by repeat (first | exact hb | refine Below.setCell ?_ (by show w.heap.size ≤ wr.heap.size; exact hz) _ | refine Below.alloc ?_ hz _)) hb1⟩
        case measure => simp [intOf]; omega
    · have hall : l.all funOk = true := all_yes (n := k) (by have := E1.out; omega) HA.out
      have hF : F = true := by rw [← HF.out, hall]
      subst hF
      have hd : decide ((k : Int) < (n : Int)) = false := decide_eq_false (by omega)
      clear HA H1 hall
      go_wp2
      go_ret
      exact ⟨rfl, hb⟩
theorem img_meas (a c : Nat) : (wi (a : Int) 1 16 && (wi (c : Int) 0 40 && (wi 0 0 0 && (wi 0 0 0 && wi 0 0 0)))) = (inB a 1 16 && decide (c ≤ 40)) := by
  rw [wi_0, wi_in _ 1 16 (by decide), wi_in _ 0 40 (by decide)]
  have e1 : inB c 0 40 = decide (c ≤ 40) := by unfold inB; rw [Bool.eq_iff_iff]; simp; omega
  rw [e1]
  simp
theorem img_ok4 (p : PImg) (b : Bool) (h : (inB p.funcs.length 1 16 && decide (p.consts.length ≤ 40)) = b) : imgOk p = (b && (p.consts.all conOk && (p.funcs.all funOk && firstOk p.funcs))) := by
  rw [← h]
  show (inB p.funcs.length 1 16 && (decide (p.consts.length ≤ 40) && (p.consts.all conOk && (p.funcs.all funOk && firstOk p.funcs)))) = _
  simp only [Bool.and_assoc]
set_option maxHeartbeats 2000000 in
set_option maxRecDepth 100000 in
theorem iImageOk_any (p : PImg) (fv cv : Value) (w : World) (h : ArgImg w fv cv p) (hw : imgW p) :
    Calls Try.prog 50 #[.agg #[fv, cv]] w fun e w' => e = .returned (.bool (imgOk p)) ∧ Below w.heap.size w w' := by
  have cC := fun W (hb : Below w.heap.size w W) => iAllConst p.consts cv W (h.2.below hb) hw.consts
  have cF := fun W (hb : Below w.heap.size w W) => iAllFunc p.funcs fv W (h.1.below hb)
  obtain ⟨hF, hC⟩ := h
  obtain ⟨x1, c1, rfl, m1, o1⟩ := hF
  obtain ⟨x2, c2, rfl, m2, _⟩ := hC
  unfold maxLen at m1 m2
  have cW := fun W => iWithin5 p.funcs.length p.consts.length 0 0 0 1 0 0 0 0 16 40 0 0 0 W
  simp only [img_meas] at cW
  obtain ⟨b1, e1⟩ : ∃ b, (inB p.funcs.length 1 16 && decide (p.consts.length ≤ 40)) = b := ⟨_, rfl⟩
  simp only [e1] at cW
  rw [img_ok4 p b1 e1]
  have hpos : b1 = true → 0 < p.funcs.length := fun h => by
    rw [h] at e1
    unfold inB at e1
    simp only [Bool.and_eq_true, decide_eq_true_eq] at e1
    omega
  have H1 : Hid (b1 = true → ∃ b o q qx qc kv hv, x1 = some ⟨b, o, none⟩ ∧ b < w.heap.size ∧ FunAt w b o q (.slice qx q.caps.length qc) kv hv ∧ q.caps.length ≤ maxLen ∧ firstOk p.funcs = (decide (q.params = 0) && decide (q.caps.length = 0))) := fun h => by
    obtain ⟨b, o, e, hlt, hc⟩ := o1 (hpos h)
    obtain ⟨q, hq⟩ : ∃ q, p.funcs[0]? = some q := ⟨_, List.getElem?_eq_getElem (hpos h)⟩
    obtain ⟨qv, kv, hv, hA⟩ := hc 0 q hq
    rw [Nat.zero_mul, Nat.add_zero] at hA
    obtain ⟨qx, qc, rfl, hm, _⟩ := hA.caps
    refine ⟨b, o, q, qx, qc, kv, hv, e, hlt, hA, hm, ?_⟩
    revert hq
    cases p.funcs with
    | nil => intro h; simp at h
    | cons f r =>
      intro h
      simp at h
      subst h
      rfl
  clear e1 o1 hw
  obtain ⟨b2, e2⟩ : ∃ b, p.consts.all conOk = b := ⟨_, rfl⟩
  obtain ⟨b3, e3⟩ : ∃ b, p.funcs.all funOk = b := ⟨_, rfl⟩
  obtain ⟨b4, e4⟩ : ∃ b, firstOk p.funcs = b := ⟨_, rfl⟩
  simp only [e2] at cC
  simp only [e3] at cF
  simp only [e4] at H1
  rw [e2, e3, e4]
  clear e2 e3 e4
  obtain ⟨n1, e1⟩ : ∃ n, p.funcs.length = n := ⟨_, rfl⟩
  obtain ⟨n2, e2⟩ : ∃ n, p.consts.length = n := ⟨_, rfl⟩
  rw [e1, e2]
  simp only [e1, e2] at cW
  simp only [e1] at cF m1
  simp only [e2] at cC m2
  rw [e1] at hpos
  clear e1 e2
  have hb2 := build2
  have b0 : ∀ cs t, Below w.heap.size w (w.alloc (.cells cs t)) := fun cs t => (Below.refl _ _).alloc (Nat.le_refl _) _
  go_enter Try.func50, Try.ntmps50
  go_wp2_with fail
  refine (cW _).mono ?_
  rintro e w1 ⟨rfl, hb1⟩
  have hX1 : Below (w.alloc (.cells #[.slice x1 n1 c1, .slice x2 n2 c2] 31)).heap.size (w.alloc (.cells #[.slice x1 n1 c1, .slice x2 n2 c2] 31)) w1 := chain (by repeat (first | exact Below.refl _ _ | refine Below.setCell ?_ (by simp; try omega) _ | refine Below.alloc ?_ (by simp; try omega) _)) hb1
  have hY1 : Below w.heap.size w w1 := chain (b0 _ _) hX1
  clear hb1 cW
  cases b1 with
  | false =>
    go_wp2
    go_ret
    exact ⟨rfl, hY1⟩
  | true =>
  have k2 := new_cell hX1 1 _ rfl
  go_wp2_with fail
  refine (cC _ hY1).mono ?_
  rintro e w2 ⟨rfl, hb2⟩
  have hX2 := chain hX1 hb2
  have hY2 := chain hY1 hb2
  clear hb2 cC k2
  cases b2 with
  | false =>
    go_wp2
    go_ret
    exact ⟨rfl, hY2⟩
  | true =>
  have k3 := new_cell hX2 0 _ rfl
  go_wp2_with fail
  refine (cF _ hY2).mono ?_
  rintro e w3 ⟨rfl, hb3⟩
  have hX3 := chain hX2 hb3
  have hY3 := chain hY2 hb3
  clear hb3 cF k3
  cases b3 with
  | false =>
    go_wp2
    go_ret
    exact ⟨rfl, hY3⟩
  | true =>
  have k4 := new_cell hX3 0 _ rfl
  obtain ⟨b, o, q, qx, qc, kv, hv, rfl, hlt, hA, hm, hf⟩ := H1.out (by first | rfl | trivial)
  have hA' := hA.below hY3
  have g0 := hA'.c0
  have g1 := hA'.c1
  have g2 := hA'.c2
  have g3 := hA'.c3
  have g4 := hA'.c4
  have hp0 : (0 : Int) < (n1 : Int) := by have := hpos (by first | rfl | trivial); omega
  have cS := fun W => iStartsAlone q qx qc kv hv W hm
  simp only [← hf] at cS
  clear hf hA hA' H1 hpos
  go_wp2_with fail
  refine (cS _).mono ?_
  rintro e w4 ⟨rfl, hb4⟩
  go_wp2
  go_ret
  exact ⟨rfl, chain hY3 hb4⟩
end Go.Proofs.Ytbgdapdenbldmaa
namespace Go.Proofs.Ytbgdapdenbldmaa
open Go.RowKit Go.Sort
set_option linter.unusedVariables false
theorem bad_let {p : PImg} {f : PFun} {r : RunP} (I : RunInv p f r) (h : r.bad = true ∨ r.todo = []) : r.bad = !letB p f := by
  cases hb : r.bad with
  | true => rw [letB_no (bad_no I hb)]; rfl
  | false =>
    rcases h with h | h
    · rw [hb] at h; cases h
    · rw [letB_yes (end_best I hb h).sound]; rfl
end Go.Proofs.Ytbgdapdenbldmaa
namespace Go.Proofs.Ytbgdapdenbldmaa
open Go.RowKit Go.Sort
set_option linter.unusedVariables false
def boolC (x : Bool) : List Value := [.bool x]
theorem boolC_len (x : Bool) : (boolC x).length = 1 := rfl
def ArgBo (w : World) (v : Value) (l : List Bool) : Prop := ArgFlat w v 1 l.length (l.flatMap boolC)
theorem ArgBo.below {w w' : World} {v : Value} {l : List Bool} (h : ArgBo w v l) (hb : Below w.heap.size w w') : ArgBo w' v l := ArgFlat.below h hb
def OwnBo (w : World) (B : Nat) (v : Value) (l : List Bool) : Prop := w.ownsRow B 4 1 v l.length (l.flatMap boolC)
theorem OwnBo.arg {w : World} {B : Nat} {v : Value} {l : List Bool} (h : OwnBo w B v l) : ArgBo w v l := ArgFlat.of_own h
theorem bool_at {l : List Bool} {j : Nat} {z : Bool} (h : l[j]? = some z) : (l.flatMap boolC)[j]? = some (.bool z) := by
  have := flat_at boolC_len l j 0 z _ h rfl
  rwa [Nat.mul_one, Nat.add_zero] at this
theorem bools_is {l : List Bool} {xs : List Value} (hl : xs.length = l.length) (h : ∀ (j : Nat) (z : Bool), l[j]? = some z → xs[j]? = some (.bool z)) : xs = l.flatMap boolC :=
  flat_ext boolC_len (by decide) l xs (by omega) (fun j p c u hp hu => by
    have hc : c < 1 := (List.getElem?_eq_some_iff.1 hu).1
    have e : c = 0 := by omega
    subst e
    simp [boolC] at hu
    subst hu
    rw [Nat.mul_one, Nat.add_zero]
    exact h j p hp)
theorem ArgBo.opened {w : World} {v : Value} {l : List Bool} (h : ArgBo w v l) : ∃ x c, v = .slice x l.length c ∧ l.length ≤ maxLen ∧ (0 < l.length → ∃ b o, x = some ⟨b, o, none⟩ ∧ b < w.heap.size ∧ ∀ (j : Nat) (z : Bool), l[j]? = some z → w.cell? ⟨b, o + j, none⟩ = some (.bool z)) := by
  obtain ⟨x, c, e, hm, hl, hc⟩ := h
  refine ⟨x, c, e, hm, fun h0 => ?_⟩
  obtain ⟨b, o, e1, h1, h2⟩ := hc h0
  exact ⟨b, o, e1, h1, fun j z hz => h2 j _ (bool_at hz)⟩
end Go.Proofs.Ytbgdapdenbldmaa
namespace Go.Proofs.Ytbgdapdenbldmaa
open Go.RowKit Go.Sort
set_option linter.unusedVariables false
def ArgStas (w : World) (v : Value) (l : List PSta) : Prop := ∃ x c, v = .slice x l.length c ∧ l.length ≤ maxLen ∧ (0 < l.length → ∃ b o, x = some ⟨b, o, none⟩ ∧ b < w.heap.size ∧ ∀ (j : Nat) (s : PSta), l[j]? = some s → ∃ rv, w.cell? ⟨b, o + j * 2, none⟩ = some (.int .i64 s.acc) ∧ w.cell? ⟨b, o + j * 2 + 1, none⟩ = some rv ∧ ArgI w rv s.regs)
theorem ArgStas.below {w w' : World} {v : Value} {l : List PSta} (h : ArgStas w v l) (hb : Below w.heap.size w w') : ArgStas w' v l := by
  obtain ⟨x, c, e, hm, hc⟩ := h
  refine ⟨x, c, e, hm, fun h0 => ?_⟩
  obtain ⟨b, o, e1, h1, h2⟩ := hc h0
  refine ⟨b, o, e1, Nat.lt_of_lt_of_le h1 hb.size, fun j s hj => ?_⟩
  obtain ⟨rv, a1, a2, a3⟩ := h2 j s hj
  exact ⟨rv, (hb.cell (p := ⟨b, _, none⟩) h1).trans a1, (hb.cell (p := ⟨b, _, none⟩) h1).trans a2, a3.below hb⟩
def stB (p : PImg) (k : Int) : Bool := imgOk p && (inB k 0 ((p.funcs.length : Int) - 1) && (match p.funcs[k.toNat]? with | some f => letB p f | none => false))
def StaRes (p : PImg) (k : Int) (bb : Bool) (lv hv : Value) (w w' : World) : Prop :=
  Below w.heap.size w w' ∧ (bb = false → ArgStas w' lv [] ∧ ArgBo w' hv []) ∧ (bb = true → ∃ (K : Nat) (f : PFun) (r : RunP), k = (K : Int) ∧ p.funcs[K]? = some f ∧ RunInv p f r ∧ r.todo = [] ∧ r.bad = false ∧ ArgStas w' lv r.list ∧ ArgBo w' hv r.hit)
theorem step_append16 {P : Program} {w : World} {ops : Array Oper} {o : Oper} {a : Act} {K : Act → World → Prop} {Q : Exit → Act → World → Prop} {E : Prop} (hgd : o.guard = none) (s x : Operand) (t : TypeId)
    (ho : o.op = .call { callee := .builtin .append, args := #[s, x], argTypes := #[t, t] })
    (base : Nat) (e : TypeId) (i : TypeInfo) (z : Value) (size bytes : Nat) (ht : P.underlying t = some (.slice e)) (hi : P.info? e = some i) (hz : i.zero = some z)
    (hsize : i.size = size) (hby : i.bytes = bytes) (hzs : z.cells.size = size) (hsz : 0 < size) (hb64 : bytes ≤ 128)
    (v : Value) (n : Nat) (xs : List Value) (hs : a.eval s = v) (hown : w.ownsRow base e size v n xs)
    (cs : Array Value) (hcs : cs.toList.length = size) (h1 : ∀ u ∈ cs.toList, u.oneCell' = true) (hx : a.eval x = .slice (some ⟨w.heap.size, 0, none⟩) 1 1) (d : Option Tmp) (hd : o.dst = d)
    (hn : n < 1000000000) (hbase : base ≤ w.heap.size)
    (h : ∀ v' w', w'.ownsRow base e size v' (n + 1) (xs ++ cs.toList) → (w.alloc (.cells cs e)).grownBy w' v.ownBlock → K (a.put d v') w') :
    if Region.wanted o (yielded ops a.tmps) = true then Oper.wp P o a (w.alloc (.cells cs e)) K Q else E := by
  subst hd
  have hw : Region.wanted o (yielded ops a.tmps) = true := by simp [Region.wanted, hgd]
  rw [if_pos hw]
  have hal : (w.alloc (.cells cs e)).heap.size = w.heap.size + 1 := by simp
  have hbn : (n + 1) * bytes ≤ 1000000000 * 128 := Nat.mul_le_mul (by omega) hb64
  obtain ⟨v', w', hr, h2, h3, _, _⟩ := run_append_own_at (P := P) (w.alloc (.cells cs e)) base t o.type e i z size bytes ht hi hz hsize hby hzs hsz v n xs (hown.alloc _) ⟨w.heap.size, 0, none⟩ 1 1 cs.toList (by rw [hcs, Nat.one_mul]) (fun j u hj => by
    have hadd : (⟨w.heap.size, 0, none⟩ : Addr).add j = ⟨w.heap.size, j, none⟩ := by unfold Addr.add; split <;> simp_all
    rw [hadd, cell_of_row _ _ j _ _ _ (heap_alloc_new w (.cells cs e))]
    simpa using hj) h1 (by unfold maxLen; omega) (by omega) (by rw [hal]; omega)
  unfold Oper.wp execOp
  simp only [ho, resolve, invoke, builtin, Sem.run_bind, Sem.run_pure, Result.andThen_ok, List.map_toArray, List.map_cons, List.map_nil, hs, hx, hr]
  exact h v' w' h2 h3
structure OutAt (w5 wr : World) (B k : Nat) (ov : Value) (xs : List Value) (r : RunP) : Prop where
  own : wr.ownsRow B 98 2 ov k xs
  sts : ∀ (q : Nat) (s : PSta), q < k → r.list[q]? = some s → ∃ rv, xs[q * 2]? = some (.int .i64 s.acc) ∧ xs[q * 2 + 1]? = some rv ∧ OwnI wr B rv s.regs
  bel : Below w5.heap.size w5 wr
theorem OutAt.arg {w5 wr : World} {B n : Nat} {ov : Value} {xs : List Value} {r : RunP} (h : OutAt w5 wr B n ov xs r) (hl : r.list.length = n) : ArgStas wr ov r.list := by
  obtain ⟨x, c, e⟩ := row_slice h.own
  have hm : n ≤ maxLen := by
    obtain ⟨_, ⟨_, h0⟩ | ⟨g, cap, cur, _, _, _, h1, h2, _⟩⟩ := h.own
    · omega
    · omega
  refine ⟨x, c, by rw [hl]; exact e, by rw [hl]; exact hm, fun h0 => ?_⟩
  obtain ⟨hlen, ⟨_, h1⟩ | ⟨g, cap, cur, e1, hB, hg, hnc, hcm, hsz, htk⟩⟩ := h.own
  · omega
  · rw [e1] at e
    injection e with e _ _
    refine ⟨g, 0, e.symm, lt16 hg, fun j s hj => ?_⟩
    have hjn : j < n := by have := (List.getElem?_eq_some_iff.1 hj).1; omega
    obtain ⟨rv, a1, a2, a3⟩ := h.sts j s hjn hj
    have hc : ∀ q u, xs[q]? = some u → wr.cell? ⟨g, 0 + q, none⟩ = some u := fun q u hq => by
      have := h.own.cells (g := g) (by rw [e1]; rfl) q u hq
      have hadd : (⟨g, 0, none⟩ : Addr).add q = ⟨g, 0 + q, none⟩ := by unfold Addr.add; split <;> simp_all
      rw [hadd] at this
      exact this
    exact ⟨rv, by rw [Nat.zero_add]; have := hc _ _ a1; rwa [Nat.zero_add] at this, by rw [Nat.zero_add]; have := hc _ _ a2; rwa [Nat.zero_add] at this, a3.arg⟩
theorem OutAt.more {w5 wr w6 w7 : World} {B k : Nat} {ov ov' rv : Value} {xs : List Value} {r : RunP} {s : PSta} (h : OutAt w5 wr B k ov xs r) (hs : r.list[k]? = some s) (hb6 : Below wr.heap.size wr w6) (ho6 : OwnI w6 wr.heap.size rv s.regs) (hw5 : w5.heap.size ≤ B) (hBr : B ≤ wr.heap.size)
    (hg : (w6.alloc (.cells #[.int .i64 s.acc, rv] 98)).grownBy w7 ov.ownBlock) (ho7 : w7.ownsRow B 98 2 ov' (k + 1) (xs ++ [.int .i64 s.acc, rv])) : OutAt w5 w7 B (k + 1) ov' (xs ++ [.int .i64 s.acc, rv]) r := by
  have bA : Below w6.heap.size w6 (w6.alloc (.cells #[.int .i64 s.acc, rv] 98)) := (Below.refl _ _).alloc (Nat.le_refl _) _
  have b67 := chain hb6 bA
  have hxl : xs.length = k * 2 := h.own.1
  have keep : ∀ (v : Value) (l : List Int), OwnI (w6.alloc (.cells #[.int .i64 s.acc, rv] 98)) B v l → OwnI w7 B v l := fun v l hv => by
    refine hv.kept hg ?_
    obtain ⟨_, ⟨h1, _⟩ | ⟨g, cap, cur, h1, _, hgg, _⟩⟩ := hv
    · left; rw [h1]; rfl
    · right
      rw [h1]
      intro e
      obtain ⟨_, ⟨h2, _⟩ | ⟨g2, cap2, cur2, h2, _, hg2, _⟩⟩ := row_keep h.own b67
      · rw [h2] at e; cases e
      · rw [h2] at e
        have e3 : g = g2 := Option.some.inj e
        rw [e3, hg2] at hgg
        injection hgg with hgg
        injection hgg with _ hgg
        exact absurd hgg (by decide)
  refine ⟨ho7, fun q t hq ht => ?_, ?_⟩
  · by_cases e : q = k
    · subst e
      rw [hs] at ht
      injection ht with ht
      subst ht
      refine ⟨rv, ?_, ?_, keep _ _ (row_low (ho6.below bA) hBr)⟩
      · rw [List.getElem?_append_right (by omega), show q * 2 - xs.length = 0 by omega]; rfl
      · rw [List.getElem?_append_right (by omega), show q * 2 + 1 - xs.length = 1 by omega]; rfl
    · obtain ⟨rv2, a1, a2, a3⟩ := h.sts q t (by omega) ht
      refine ⟨rv2, ?_, ?_, keep _ _ (a3.below b67)⟩
      · rw [List.getElem?_append_left (by omega)]; exact a1
      · rw [List.getElem?_append_left (by omega)]; exact a2
  · have h1 : Below w5.heap.size w5 (w6.alloc (.cells #[.int .i64 s.acc, rv] 98)) := chain h.bel b67
    refine ⟨hg.os.trans h1.os, hg.tape.trans h1.tape, hg.output.trans h1.output, Nat.le_trans h1.size hg.size, fun j hj => (hg.block j (Nat.lt_of_lt_of_le hj h1.size) (fun e => ?_)).trans (h1.block j hj)⟩
    obtain ⟨_, ⟨h2, _⟩ | ⟨g2, cap2, cur2, h2, hB2, _⟩⟩ := h.own
    · rw [h2] at e; cases e
    · rw [h2] at e
      have e3 : j = g2 := Option.some.inj e
      omega
end Go.Proofs.Ytbgdapdenbldmaa
