/-
  The program's own allOk over lists of an image's parts.
-/
import Derived.Test.YtgaphgejpnepfaaIImg13P
import Derived.Test.YtgaphgejpnepfaaIImg13A
namespace Go.Proofs.Ytgaphgejpnepfaa
open Go.RowKit Go.Sort
set_option linter.unusedVariables false

set_option maxHeartbeats 1000000 in
set_option maxRecDepth 100000 in
theorem iAllCap (l : List PCap) (v : Value) (w : World) (h : ArgFlat w v 2 l.length (l.flatMap capC)) :
    Calls Try.prog 162 #[v, .func (.func 163) #[] #[]] w fun e w' => e = .returned (.bool (l.all capOk)) ∧ Below w.heap.size w w' := by
  obtain ⟨x, c, rfl, m, o⟩ := h.opened capC_len
  unfold maxLen at m
  clear h
  obtain ⟨n, e1⟩ : ∃ n, l.length = n := ⟨_, rfl⟩
  rw [e1] at m o ⊢
  obtain ⟨F, hF⟩ : ∃ F, l.all capOk = F := ⟨_, rfl⟩
  rw [hF]
  have HF : Hid (l.all capOk = F) := hF
  have H1 : Hid (0 < n → ∃ b o, x = some ⟨b, o, none⟩ ∧ b < w.heap.size ∧ ∀ j q, l[j]? = some q → ∀ c u, (capC q)[c]? = some u → w.cell? ⟨b, o + j * 2 + c, none⟩ = some u) := o
  have E1 : Hid (l.length = n) := e1
  clear o e1 hF
  go_enter Try.func162, Try.ntmps162
  go_wp2
  go_loopw [9] (fun i wr => ∃ k : Nat, k ≤ n ∧ i = .int .i64 k ∧ Hid (∀ j q, j < k → l[j]? = some q → capOk q = true) ∧ Below w.heap.size w wr) (fun i _ => n - (intOf i).toNat)
  case atStart => exact ⟨0, Nat.zero_le _, rfl, fun j q hj => absurd hj (Nat.not_lt_zero _), Below.refl _ _⟩
  case round =>
    obtain ⟨k, hk, rfl, HA, hb⟩ := hrel
    by_cases hkn : k < n
    · obtain ⟨b, o, rfl, hbz, hcell⟩ := H1.out (by omega)
      obtain ⟨q, hq⟩ : ∃ q, l[k]? = some q := ⟨_, List.getElem?_eq_getElem (by have := E1.out; omega)⟩
      have g0 : wr.cell? ⟨b, o + k * 2, none⟩ = some (.bool q.reg) := (hb.cell hbz).trans (hcell k q hq 0 _ rfl)
      have g1 : wr.cell? ⟨b, o + k * 2 + 1, none⟩ = some (.int .i64 q.index) := (hb.cell hbz).trans (hcell k q hq 1 _ rfl)
      have hki : (k : Int) < (n : Int) := by omega
      have hk0 : (0 : Int) ≤ (k : Int) := by omega
      have cI := fun W => iCapOk q W
      obtain ⟨bI, eI⟩ : ∃ b, capOk q = b := ⟨_, rfl⟩
      simp only [eI] at cI
      have HI : Hid (capOk q = bI) := eI
      have HQ : Hid (l[k]? = some q) := hq
      have hz : w.heap.size ≤ wr.heap.size := hb.size
      clear hcell eI hq
      cases bI with
      | false =>
        have hF : F = false := by rw [← HF.out, all_no HQ.out HI.out]
        subst hF
        clear H1
        go_wp2_with (go_at_call 163; with_reducible refine (cI _).mono ?_; rintro e w' ⟨rfl, hb1⟩)
        go_ret
        exact ⟨rfl, chain (by repeat (first | exact hb | refine Below.setCell ?_ (by show w.heap.size ≤ wr.heap.size; exact hz) _ | refine Below.alloc ?_ hz _)) hb1⟩
      | true =>
        go_wp2_with (go_at_call 163; with_reducible refine (cI _).mono ?_; rintro e w' ⟨rfl, hb1⟩)
        go_roundw
        case rel => exact ⟨k + 1, by omega, by go_num, all_more HA.out HQ.out HI.out, chain (by repeat (first | exact hb | refine Below.setCell ?_ (by show w.heap.size ≤ wr.heap.size; exact hz) _ | refine Below.alloc ?_ hz _)) hb1⟩
        case measure => simp [intOf]; omega
    · have hall : l.all capOk = true := all_yes (n := k) (by have := E1.out; omega) HA.out
      have hF : F = true := by rw [← HF.out, hall]
      subst hF
      have hd : decide ((k : Int) < (n : Int)) = false := decide_eq_false (by omega)
      clear HA H1 hall
      go_wp2
      go_ret
      exact ⟨rfl, hb⟩

set_option maxHeartbeats 1000000 in
set_option maxRecDepth 100000 in
theorem iAllIns (l : List PIns) (v : Value) (w : World) (h : ArgFlat w v 3 l.length (l.flatMap insC)) :
    Calls Try.prog 164 #[v, .func (.func 165) #[] #[]] w fun e w' => e = .returned (.bool (l.all insOk)) ∧ Below w.heap.size w w' := by
  obtain ⟨x, c, rfl, m, o⟩ := h.opened insC_len
  unfold maxLen at m
  clear h
  obtain ⟨n, e1⟩ : ∃ n, l.length = n := ⟨_, rfl⟩
  rw [e1] at m o ⊢
  obtain ⟨F, hF⟩ : ∃ F, l.all insOk = F := ⟨_, rfl⟩
  rw [hF]
  have HF : Hid (l.all insOk = F) := hF
  have H1 : Hid (0 < n → ∃ b o, x = some ⟨b, o, none⟩ ∧ b < w.heap.size ∧ ∀ j q, l[j]? = some q → ∀ c u, (insC q)[c]? = some u → w.cell? ⟨b, o + j * 3 + c, none⟩ = some u) := o
  have E1 : Hid (l.length = n) := e1
  clear o e1 hF
  go_enter Try.func164, Try.ntmps164
  go_wp2
  go_loopw [9] (fun i wr => ∃ k : Nat, k ≤ n ∧ i = .int .i64 k ∧ Hid (∀ j q, j < k → l[j]? = some q → insOk q = true) ∧ Below w.heap.size w wr) (fun i _ => n - (intOf i).toNat)
  case atStart => exact ⟨0, Nat.zero_le _, rfl, fun j q hj => absurd hj (Nat.not_lt_zero _), Below.refl _ _⟩
  case round =>
    obtain ⟨k, hk, rfl, HA, hb⟩ := hrel
    by_cases hkn : k < n
    · obtain ⟨b, o, rfl, hbz, hcell⟩ := H1.out (by omega)
      obtain ⟨q, hq⟩ : ∃ q, l[k]? = some q := ⟨_, List.getElem?_eq_getElem (by have := E1.out; omega)⟩
      have g0 : wr.cell? ⟨b, o + k * 3, none⟩ = some (.int .i64 q.op) := (hb.cell hbz).trans (hcell k q hq 0 _ rfl)
      have g1 : wr.cell? ⟨b, o + k * 3 + 1, none⟩ = some (.int .i64 q.a) := (hb.cell hbz).trans (hcell k q hq 1 _ rfl)
      have g2 : wr.cell? ⟨b, o + k * 3 + 2, none⟩ = some (.int .i64 q.b) := (hb.cell hbz).trans (hcell k q hq 2 _ rfl)
      have hki : (k : Int) < (n : Int) := by omega
      have hk0 : (0 : Int) ≤ (k : Int) := by omega
      have cI := fun W => iInsOk q W
      obtain ⟨bI, eI⟩ : ∃ b, insOk q = b := ⟨_, rfl⟩
      simp only [eI] at cI
      have HI : Hid (insOk q = bI) := eI
      have HQ : Hid (l[k]? = some q) := hq
      have hz : w.heap.size ≤ wr.heap.size := hb.size
      clear hcell eI hq
      cases bI with
      | false =>
        have hF : F = false := by rw [← HF.out, all_no HQ.out HI.out]
        subst hF
        clear H1
        go_wp2_with (go_at_call 165; with_reducible refine (cI _).mono ?_; rintro e w' ⟨rfl, hb1⟩)
        go_ret
        exact ⟨rfl, chain (by repeat (first | exact hb | refine Below.setCell ?_ (by show w.heap.size ≤ wr.heap.size; exact hz) _ | refine Below.alloc ?_ hz _)) hb1⟩
      | true =>
        go_wp2_with (go_at_call 165; with_reducible refine (cI _).mono ?_; rintro e w' ⟨rfl, hb1⟩)
        go_roundw
        case rel => exact ⟨k + 1, by omega, by go_num, all_more HA.out HQ.out HI.out, chain (by repeat (first | exact hb | refine Below.setCell ?_ (by show w.heap.size ≤ wr.heap.size; exact hz) _ | refine Below.alloc ?_ hz _)) hb1⟩
        case measure => simp [intOf]; omega
    · have hall : l.all insOk = true := all_yes (n := k) (by have := E1.out; omega) HA.out
      have hF : F = true := by rw [← HF.out, hall]
      subst hF
      have hd : decide ((k : Int) < (n : Int)) = false := decide_eq_false (by omega)
      clear HA H1 hall
      go_wp2
      go_ret
      exact ⟨rfl, hb⟩

set_option maxHeartbeats 1000000 in
set_option maxRecDepth 100000 in
theorem iAllHandler (l : List PHnd) (v : Value) (w : World) (h : ArgFlat w v 3 l.length (l.flatMap hndC)) :
    Calls Try.prog 166 #[v, .func (.func 167) #[] #[]] w fun e w' => e = .returned (.bool (l.all hndOk)) ∧ Below w.heap.size w w' := by
  obtain ⟨x, c, rfl, m, o⟩ := h.opened hndC_len
  unfold maxLen at m
  clear h
  obtain ⟨n, e1⟩ : ∃ n, l.length = n := ⟨_, rfl⟩
  rw [e1] at m o ⊢
  obtain ⟨F, hF⟩ : ∃ F, l.all hndOk = F := ⟨_, rfl⟩
  rw [hF]
  have HF : Hid (l.all hndOk = F) := hF
  have H1 : Hid (0 < n → ∃ b o, x = some ⟨b, o, none⟩ ∧ b < w.heap.size ∧ ∀ j q, l[j]? = some q → ∀ c u, (hndC q)[c]? = some u → w.cell? ⟨b, o + j * 3 + c, none⟩ = some u) := o
  have E1 : Hid (l.length = n) := e1
  clear o e1 hF
  go_enter Try.func166, Try.ntmps166
  go_wp2
  go_loopw [9] (fun i wr => ∃ k : Nat, k ≤ n ∧ i = .int .i64 k ∧ Hid (∀ j q, j < k → l[j]? = some q → hndOk q = true) ∧ Below w.heap.size w wr) (fun i _ => n - (intOf i).toNat)
  case atStart => exact ⟨0, Nat.zero_le _, rfl, fun j q hj => absurd hj (Nat.not_lt_zero _), Below.refl _ _⟩
  case round =>
    obtain ⟨k, hk, rfl, HA, hb⟩ := hrel
    by_cases hkn : k < n
    · obtain ⟨b, o, rfl, hbz, hcell⟩ := H1.out (by omega)
      obtain ⟨q, hq⟩ : ∃ q, l[k]? = some q := ⟨_, List.getElem?_eq_getElem (by have := E1.out; omega)⟩
      have g0 : wr.cell? ⟨b, o + k * 3, none⟩ = some (.int .i64 q.lo) := (hb.cell hbz).trans (hcell k q hq 0 _ rfl)
      have g1 : wr.cell? ⟨b, o + k * 3 + 1, none⟩ = some (.int .i64 q.hi) := (hb.cell hbz).trans (hcell k q hq 1 _ rfl)
      have g2 : wr.cell? ⟨b, o + k * 3 + 2, none⟩ = some (.int .i64 q.target) := (hb.cell hbz).trans (hcell k q hq 2 _ rfl)
      have hki : (k : Int) < (n : Int) := by omega
      have hk0 : (0 : Int) ≤ (k : Int) := by omega
      have cI := fun W => iHandlerOk q W
      obtain ⟨bI, eI⟩ : ∃ b, hndOk q = b := ⟨_, rfl⟩
      simp only [eI] at cI
      have HI : Hid (hndOk q = bI) := eI
      have HQ : Hid (l[k]? = some q) := hq
      have hz : w.heap.size ≤ wr.heap.size := hb.size
      clear hcell eI hq
      cases bI with
      | false =>
        have hF : F = false := by rw [← HF.out, all_no HQ.out HI.out]
        subst hF
        clear H1
        go_wp2_with (go_at_call 167; with_reducible refine (cI _).mono ?_; rintro e w' ⟨rfl, hb1⟩)
        go_ret
        exact ⟨rfl, chain (by repeat (first | exact hb | refine Below.setCell ?_ (by show w.heap.size ≤ wr.heap.size; exact hz) _ | refine Below.alloc ?_ hz _)) hb1⟩
      | true =>
        go_wp2_with (go_at_call 167; with_reducible refine (cI _).mono ?_; rintro e w' ⟨rfl, hb1⟩)
        go_roundw
        case rel => exact ⟨k + 1, by omega, by go_num, all_more HA.out HQ.out HI.out, chain (by repeat (first | exact hb | refine Below.setCell ?_ (by show w.heap.size ≤ wr.heap.size; exact hz) _ | refine Below.alloc ?_ hz _)) hb1⟩
        case measure => simp [intOf]; omega
    · have hall : l.all hndOk = true := all_yes (n := k) (by have := E1.out; omega) HA.out
      have hF : F = true := by rw [← HF.out, hall]
      subst hF
      have hd : decide ((k : Int) < (n : Int)) = false := decide_eq_false (by omega)
      clear HA H1 hall
      go_wp2
      go_ret
      exact ⟨rfl, hb⟩

set_option maxHeartbeats 1000000 in
set_option maxRecDepth 100000 in
theorem iAllConst (l : List PCon) (v : Value) (w : World) (h : ArgFlat w v 3 l.length (l.flatMap conC)) (HW : ∀ x ∈ l, conW x) :
    Calls Try.prog 98 #[v, .func (.func 99) #[] #[]] w fun e w' => e = .returned (.bool (l.all conOk)) ∧ Below w.heap.size w w' := by
  obtain ⟨x, c, rfl, m, o⟩ := h.opened conC_len
  unfold maxLen at m
  clear h
  obtain ⟨n, e1⟩ : ∃ n, l.length = n := ⟨_, rfl⟩
  rw [e1] at m o ⊢
  obtain ⟨F, hF⟩ : ∃ F, l.all conOk = F := ⟨_, rfl⟩
  rw [hF]
  have HF : Hid (l.all conOk = F) := hF
  have H1 : Hid (0 < n → ∃ b o, x = some ⟨b, o, none⟩ ∧ b < w.heap.size ∧ ∀ j q, l[j]? = some q → ∀ c u, (conC q)[c]? = some u → w.cell? ⟨b, o + j * 3 + c, none⟩ = some u) := o
  have E1 : Hid (l.length = n) := e1
  clear o e1 hF
  go_enter Try.func98, Try.ntmps98
  go_wp2
  go_loopw [9] (fun i wr => ∃ k : Nat, k ≤ n ∧ i = .int .i64 k ∧ Hid (∀ j q, j < k → l[j]? = some q → conOk q = true) ∧ Below w.heap.size w wr) (fun i _ => n - (intOf i).toNat)
  case atStart => exact ⟨0, Nat.zero_le _, rfl, fun j q hj => absurd hj (Nat.not_lt_zero _), Below.refl _ _⟩
  case round =>
    obtain ⟨k, hk, rfl, HA, hb⟩ := hrel
    by_cases hkn : k < n
    · obtain ⟨b, o, rfl, hbz, hcell⟩ := H1.out (by omega)
      obtain ⟨q, hq⟩ : ∃ q, l[k]? = some q := ⟨_, List.getElem?_eq_getElem (by have := E1.out; omega)⟩
      have g0 : wr.cell? ⟨b, o + k * 3, none⟩ = some (.int .i64 q.kind) := (hb.cell hbz).trans (hcell k q hq 0 _ rfl)
      have g1 : wr.cell? ⟨b, o + k * 3 + 1, none⟩ = some (.int .u64 (q.num : Int)) := (hb.cell hbz).trans (hcell k q hq 1 _ rfl)
      have g2 : wr.cell? ⟨b, o + k * 3 + 2, none⟩ = some (.string q.text) := (hb.cell hbz).trans (hcell k q hq 2 _ rfl)
      have hki : (k : Int) < (n : Int) := by omega
      have hk0 : (0 : Int) ≤ (k : Int) := by omega
      have cI := fun W => iConstOk_any q W (HW q (List.mem_iff_getElem?.2 ⟨_, hq⟩))
      obtain ⟨bI, eI⟩ : ∃ b, conOk q = b := ⟨_, rfl⟩
      simp only [eI] at cI
      have HI : Hid (conOk q = bI) := eI
      have HQ : Hid (l[k]? = some q) := hq
      have hz : w.heap.size ≤ wr.heap.size := hb.size
      clear hcell eI hq
      cases bI with
      | false =>
        have hF : F = false := by rw [← HF.out, all_no HQ.out HI.out]
        subst hF
        clear H1
        go_wp2_with (go_at_call 99; with_reducible refine (cI _).mono ?_; rintro e w' ⟨rfl, hb1⟩)
        go_ret
        exact ⟨rfl, chain (by repeat (first | exact hb | refine Below.setCell ?_ (by show w.heap.size ≤ wr.heap.size; exact hz) _ | refine Below.alloc ?_ hz _)) hb1⟩
      | true =>
        go_wp2_with (go_at_call 99; with_reducible refine (cI _).mono ?_; rintro e w' ⟨rfl, hb1⟩)
        go_roundw
        case rel => exact ⟨k + 1, by omega, by go_num, all_more HA.out HQ.out HI.out, chain (by repeat (first | exact hb | refine Below.setCell ?_ (by show w.heap.size ≤ wr.heap.size; exact hz) _ | refine Below.alloc ?_ hz _)) hb1⟩
        case measure => simp [intOf]; omega
    · have hall : l.all conOk = true := all_yes (n := k) (by have := E1.out; omega) HA.out
      have hF : F = true := by rw [← HF.out, hall]
      subst hF
      have hd : decide ((k : Int) < (n : Int)) = false := decide_eq_false (by omega)
      clear HA H1 hall
      go_wp2
      go_ret
      exact ⟨rfl, hb⟩

end Go.Proofs.Ytgaphgejpnepfaa
