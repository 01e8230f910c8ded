/-
  Part 7 of what is proved of drawn right trees.
-/
import Derived.Test.YtkmmojpfcklocaaPaa
import Derived.Laws.BitsAllLaws
import Derived.Test.YtkmmojpfcklocaaPad
import Derived.Test.YtkmmojpfcklocaaPaf

namespace Go.Proofs.Ytkmmojpfcklocaa
theorem kind_nan {x : Nat} (h : 9218868437227405312 < x % 9223372036854775808) : kindN x = 1 := by
  unfold kindN expBits fracBits
  rw [if_pos (by omega), if_neg (by omega)]
theorem kind_inf {x : Nat} (h : x % 9223372036854775808 = 9218868437227405312) : kindN x = 2 := by
  unfold kindN expBits fracBits
  rw [if_pos (by omega), if_pos (by omega)]
theorem kind_zero {x : Nat} (h : x % 9223372036854775808 = 0) : kindN x = 3 := by
  unfold kindN expBits fracBits
  rw [if_neg (by omega), if_pos (by omega)]
theorem kind_fin {x : Nat} (h : x % 9223372036854775808 < 9218868437227405312) (h0 : x % 9223372036854775808 ≠ 0) : kindN x = 4 := by
  unfold kindN expBits fracBits
  rw [if_neg (by omega), if_neg (by omega)]
end Go.Proofs.Ytkmmojpfcklocaa
namespace Go.Proofs.Ytkmmojpfcklocaa
open Go.RowKit
set_option linter.unusedVariables false
set_option maxRecDepth 100000 in
theorem iSize (x : Nat) (w : World) :
    Calls Try.prog 94 #[.int .u64 x] w fun e w' => e = .returned (.int .u64 ((x : Int) % 9223372036854775808)) ∧ w = w' := by
  go_enter Try.func94, Try.ntmps94
  go_wp2
  go_ret
  exact ⟨rfl, rfl⟩
set_option maxHeartbeats 400000 in
set_option maxRecDepth 100000 in
theorem iKind (x : Nat) (w : World) :
    Calls Try.prog 92 #[.int .u64 x] w fun e w' => e = .returned (.int .i64 (kindN x : Nat)) ∧ w = w' := by
  have cS := fun W => iSize x W
  obtain ⟨s, hs⟩ : ∃ s : Int, (x : Int) % 9223372036854775808 = s := ⟨_, rfl⟩
  rw [hs] at cS
  by_cases h1 : 9218868437227405312 < s
  · have HK : Hid (Unit → kindN x = 1) := fun _ => kind_nan (by omega)
    clear hs
    go_enter Try.func92, Try.ntmps92
    go_wp2_with (go_at_call 94; refine (cS _).mono ?_; rintro e w' ⟨rfl, rfl⟩)
    go_ret
    exact ⟨by rw [HK.out ()]; rfl, rfl⟩
  · have d1 : decide (9218868437227405312 < s) = false := by simp; omega
    by_cases h2 : s = 9218868437227405312
    · have HK : Hid (Unit → kindN x = 2) := fun _ => kind_inf (by omega)
      clear hs h1 d1
      subst h2
      go_enter Try.func92, Try.ntmps92
      go_wp2_with (go_at_call 94; refine (cS _).mono ?_; rintro e w' ⟨rfl, rfl⟩)
      go_ret
      exact ⟨by rw [HK.out ()]; rfl, rfl⟩
    · have d2 : (s == 9218868437227405312) = false := by rw [beq_eq_false_iff_ne]; exact h2
      by_cases h3 : s = 0
      · have HK : Hid (Unit → kindN x = 3) := fun _ => kind_zero (by omega)
        clear hs h1 d1 h2 d2
        subst h3
        go_enter Try.func92, Try.ntmps92
        go_wp2_with (go_at_call 94; refine (cS _).mono ?_; rintro e w' ⟨rfl, rfl⟩)
        go_ret
        exact ⟨by rw [HK.out ()]; rfl, rfl⟩
      · have d3 : (s == 0) = false := by rw [beq_eq_false_iff_ne]; exact h3
        have HK : Hid (Unit → kindN x = 4) := fun _ => kind_fin (by omega) (by omega)
        clear hs h1 h2 h3
        go_enter Try.func92, Try.ntmps92
        go_wp2_with (go_at_call 94; refine (cS _).mono ?_; rintro e w' ⟨rfl, rfl⟩)
        go_ret
        exact ⟨by rw [HK.out ()]; rfl, rfl⟩
end Go.Proofs.Ytkmmojpfcklocaa
namespace Go.Proofs.Ytkmmojpfcklocaa
open Go.RowKit Go.Sort
set_option linter.unusedVariables false
set_option maxHeartbeats 400000 in
set_option maxRecDepth 100000 in
theorem iMayBeConst (x : Nat) (w : World) :
    Calls Try.prog 75 #[.int .u64 x] w fun e w' => e = .returned (.bool (decide (kindN x ≠ 1) || decide (x = 9221120237041090560))) ∧ w = w' := by
  have cK := fun W => iKind x W
  obtain ⟨k, hk⟩ : ∃ k, kindN x = k := ⟨_, rfl⟩
  rw [hk]
  simp only [hk] at cK
  by_cases k1 : k = 1
  · subst k1
    by_cases hN : x = 9221120237041090560
    · have hF : (decide ((1 : Nat) ≠ 1) || decide (x = 9221120237041090560)) = true := by rw [decide_eq_true hN]; rfl
      rw [hF]
      have HN : ((x : Int) == 9221120237041090560) = true := by rw [hN]; rfl
      clear hF hN hk
      go_enter Try.func75, Try.ntmps75
      go_wp2_with (go_at_call 92; refine (cK _).mono ?_; rintro e w' ⟨rfl, rfl⟩)
      go_ret
      exact ⟨rfl, rfl⟩
    · have hF : (decide ((1 : Nat) ≠ 1) || decide (x = 9221120237041090560)) = false := by rw [decide_eq_false hN]; rfl
      rw [hF]
      have HN : ((x : Int) == 9221120237041090560) = false := by rw [beq_eq_false_iff_ne]; omega
      clear hF hN hk
      go_enter Try.func75, Try.ntmps75
      go_wp2_with (go_at_call 92; refine (cK _).mono ?_; rintro e w' ⟨rfl, rfl⟩)
      go_ret
      exact ⟨rfl, rfl⟩
  · have hF : (decide (k ≠ 1) || decide (x = 9221120237041090560)) = true := by rw [decide_eq_true k1]; rfl
    rw [hF]
    have HN : ¬ (k : Int) = 1 := by omega
    clear hF hk k1
    go_enter Try.func75, Try.ntmps75
    go_wp2_with (go_at_call 92; refine (cK _).mono ?_; rintro e w' ⟨rfl, rfl⟩)
    go_ret
    exact ⟨rfl, rfl⟩
set_option maxHeartbeats 1000000 in
set_option maxRecDepth 100000 in
theorem iConstOk_any (p : PCon) (w : World) (hp : conW p) :
    Calls Try.prog 52 #[.agg #[.int .i64 p.kind, .int .u64 (p.num : Int), .string p.text]] w fun e w' => e = .returned (.bool (conOk p)) ∧ Below w.heap.size w w' := by
  have hx := hp.2.1
  have hs := hp.2.2
  clear hp
  have HF0 : conOk p = (if p.kind = 1 then decide (p.text.size = 0) && (decide (kindN p.num ≠ 1) || decide (p.num = 9221120237041090560)) else if p.kind = 2 then decide (p.num = 0) && decide (p.text.size ≤ 40) else if p.kind = 3 ∨ p.kind = 4 ∨ p.kind = 5 then decide (p.num = 0) && decide (p.text.size = 0) else false) := rfl
  obtain ⟨F, hF⟩ : ∃ F, conOk p = F := ⟨_, rfl⟩
  obtain ⟨k, hk⟩ : ∃ k, p.kind = k := ⟨_, rfl⟩
  obtain ⟨x, hxx⟩ : ∃ x, p.num = x := ⟨_, rfl⟩
  obtain ⟨s, hss⟩ : ∃ s, p.text = s := ⟨_, rfl⟩
  rw [hF, hk, hxx, hss] at HF0
  rw [hF, hk, hxx, hss]
  rw [hxx] at hx
  rw [hss] at hs
  clear hF hk hxx hss p
  unfold maxLen at hs
  have cN := fun W => iMayBeConst x W
  obtain ⟨bn, en⟩ : ∃ b, (decide (kindN x ≠ 1) || decide (x = 9221120237041090560)) = b := ⟨_, rfl⟩
  simp only [en] at cN HF0
  have HF : Hid _ := HF0
  clear en hx HF0
  have b0 : ∀ cs t, Below w.heap.size w (w.alloc (.cells cs t)) := fun cs t => (Below.refl _ _).alloc (Nat.le_refl _) _
  have hse : ¬ s.size = 0 → s.toList.isEmpty = false := full_text
  by_cases k1 : k = 1
  · subst k1
    cases bn with
    | false =>
      have hF : F = false := by rw [HF.out, if_pos rfl]; simp
      subst hF
      clear HF hse
      go_enter Try.func52, Try.ntmps52
      go_wp2_with (go_at_call 75; refine (cN _).mono ?_; rintro e w' ⟨rfl, rfl⟩)
      go_ret
      exact ⟨rfl, b0 _ _⟩
    | true =>
      by_cases z : s.size = 0
      · have es := empty_is z
        subst es
        have hF : F = true := by rw [HF.out, if_pos rfl, decide_eq_true z]; rfl
        subst hF
        clear HF hse
        go_enter Try.func52, Try.ntmps52
        go_wp2_with (go_at_call 75; refine (cN _).mono ?_; rintro e w' ⟨rfl, rfl⟩)
        go_ret
        exact ⟨rfl, b0 _ _⟩
      · have hF : F = false := by rw [HF.out, if_pos rfl, decide_eq_false z]; rfl
        subst hF
        have hne := hse z
        clear HF hse
        go_enter Try.func52, Try.ntmps52
        go_wp2_with (go_at_call 75; refine (cN _).mono ?_; rintro e w' ⟨rfl, rfl⟩)
        go_ret
        exact ⟨rfl, b0 _ _⟩
  by_cases k2 : k = 2
  · subst k2
    by_cases hx0 : x = 0
    · subst hx0
      by_cases z : s.size ≤ 40
      · have hF : F = true := by rw [HF.out, if_neg (by decide), if_pos rfl, decide_eq_true z]; rfl
        subst hF
        have zi : (s.size : Int) ≤ 40 := by omega
        clear HF hse cN
        go_enter Try.func52, Try.ntmps52
        go_wp2
        go_ret
        exact ⟨rfl, b0 _ _⟩
      · have hF : F = false := by rw [HF.out, if_neg (by decide), if_pos rfl, decide_eq_false z]; rfl
        subst hF
        have zi : ¬ (s.size : Int) ≤ 40 := by omega
        clear HF hse cN
        go_enter Try.func52, Try.ntmps52
        go_wp2
        go_ret
        exact ⟨rfl, b0 _ _⟩
    · have hF : F = false := by rw [HF.out, if_neg (by decide), if_pos rfl, decide_eq_false hx0]; rfl
      subst hF
      have zi : ((x : Int) == 0) = false := by rw [beq_eq_false_iff_ne]; omega
      clear HF hse cN
      go_enter Try.func52, Try.ntmps52
      go_wp2
      go_ret
      exact ⟨rfl, b0 _ _⟩
  by_cases k3 : k = 3 ∨ k = 4 ∨ k = 5
  · have HF1 : Hid (F = (decide (x = 0) && decide (s.size = 0))) := by
      have h := HF.out
      rw [if_neg k1, if_neg k2, if_pos k3] at h
      exact h
    clear HF cN k1 k2
    by_cases hx0 : x = 0
    · subst hx0
      by_cases z : s.size = 0
      · have es := empty_is z
        subst es
        have hF : F = true := by rw [HF1.out]; rfl
        subst hF
        clear HF1 hse
        rcases k3 with rfl | rfl | rfl
        all_goals
          go_enter Try.func52, Try.ntmps52
          go_wp2
          go_ret
          exact ⟨rfl, b0 _ _⟩
      · have hF : F = false := by rw [HF1.out, decide_eq_false z]; rfl
        subst hF
        have hne := hse z
        clear HF1 hse
        rcases k3 with rfl | rfl | rfl
        all_goals
          go_enter Try.func52, Try.ntmps52
          go_wp2
          go_ret
          exact ⟨rfl, b0 _ _⟩
    · have hF : F = false := by rw [HF1.out, decide_eq_false hx0]; rfl
      subst hF
      have zi : ((x : Int) == 0) = false := by rw [beq_eq_false_iff_ne]; omega
      clear HF1 hse
      rcases k3 with rfl | rfl | rfl
      all_goals
        go_enter Try.func52, Try.ntmps52
        go_wp2
        go_ret
        exact ⟨rfl, b0 _ _⟩
  have hF : F = false := by rw [HF.out, if_neg k1, if_neg k2, if_neg k3]
  subst hF
  have k3a : ¬ k = 3 := fun h => k3 (.inl h)
  have k4a : ¬ k = 4 := fun h => k3 (.inr (.inl h))
  have k5a : ¬ k = 5 := fun h => k3 (.inr (.inr h))
  clear HF cN hse k3
  go_enter Try.func52, Try.ntmps52
  go_wp2
  go_ret
  exact ⟨rfl, b0 _ _⟩
end Go.Proofs.Ytkmmojpfcklocaa
namespace Go.Proofs.Ytkmmojpfcklocaa
open Go.RowKit Go.Sort
set_option linter.unusedVariables false
set_option maxHeartbeats 1000000 in
set_option maxRecDepth 100000 in
theorem iAllCap (l : List PCap) (v : Value) (w : World) (h : ArgFlat w v 2 l.length (l.flatMap capC)) :
    Calls Try.prog 76 #[v, .func (.func 77) #[] #[]] w fun e w' => e = .returned (.bool (l.all capOk)) ∧ Below w.heap.size w w' := by
  obtain ⟨x, c, rfl, m, o⟩ := h.opened capC_len
  unfold maxLen at m
  clear h
  obtain ⟨n, e1⟩ : ∃ n, l.length = n := ⟨_, rfl⟩
  rw [e1] at m o ⊢
  obtain ⟨F, hF⟩ : ∃ F, l.all capOk = F := ⟨_, rfl⟩
  rw [hF]
  have HF : Hid (l.all capOk = F) := hF
  have H1 : Hid (0 < n → ∃ b o, x = some ⟨b, o, none⟩ ∧ b < w.heap.size ∧ ∀ j q, l[j]? = some q → ∀ c u, (capC q)[c]? = some u → w.cell? ⟨b, o + j * 2 + c, none⟩ = some u) := o
  have E1 : Hid (l.length = n) := e1
  clear o e1 hF
  go_enter Try.func76, Try.ntmps76
  go_wp2
  go_loopw [9] (fun i wr => ∃ k : Nat, k ≤ n ∧ i = .int .i64 k ∧ Hid (∀ j q, j < k → l[j]? = some q → capOk q = true) ∧ Below w.heap.size w wr) (fun i _ => n - (intOf i).toNat)
  case atStart => exact ⟨0, Nat.zero_le _, rfl, fun j q hj => absurd hj (Nat.not_lt_zero _), Below.refl _ _⟩
  case round =>
    obtain ⟨k, hk, rfl, HA, hb⟩ := hrel
    by_cases hkn : k < n
    · obtain ⟨b, o, rfl, hbz, hcell⟩ := H1.out (by omega)
      obtain ⟨q, hq⟩ : ∃ q, l[k]? = some q := ⟨_, List.getElem?_eq_getElem (by have := E1.out; omega)⟩
      have g0 : wr.cell? ⟨b, o + k * 2, none⟩ = some (.bool q.reg) := (hb.cell hbz).trans (hcell k q hq 0 _ rfl)
      have g1 : wr.cell? ⟨b, o + k * 2 + 1, none⟩ = some (.int .i64 q.index) := (hb.cell hbz).trans (hcell k q hq 1 _ rfl)
      have hki : (k : Int) < (n : Int) := by omega
      have hk0 : (0 : Int) ≤ (k : Int) := by omega
      have cI := fun W => iCapOk q W
      obtain ⟨bI, eI⟩ : ∃ b, capOk q = b := ⟨_, rfl⟩
      simp only [eI] at cI
      have HI : Hid (capOk q = bI) := eI
      have HQ : Hid (l[k]? = some q) := hq
      have hz : w.heap.size ≤ wr.heap.size := hb.size
      clear hcell eI hq
      cases bI with
      | false =>
        have hF : F = false := by rw [← HF.out, all_no HQ.out HI.out]
        subst hF
        clear H1
        go_wp2_with (go_at_call 77; with_reducible refine (cI _).mono ?_; rintro e w' ⟨rfl, hb1⟩)
        go_ret
        exact ⟨rfl, chain (by repeat (first | exact hb | refine Below.setCell ?_ (by show w.heap.size ≤ wr.heap.size; exact hz) _ | refine Below.alloc ?_ hz _)) hb1⟩
      | true =>
        go_wp2_with (go_at_call 77; with_reducible refine (cI _).mono ?_; rintro e w' ⟨rfl, hb1⟩)
        go_roundw
        case rel => exact ⟨k + 1, by omega, by go_num, all_more HA.out HQ.out HI.out, chain (by repeat (first | exact hb | refine Below.setCell ?_ (by show w.heap.size ≤ wr.heap.size; exact hz) _ | refine Below.alloc ?_ hz _)) hb1⟩
        case measure => simp [intOf]; omega
    · have hall : l.all capOk = true := all_yes (n := k) (by have := E1.out; omega) HA.out
      have hF : F = true := by rw [← HF.out, hall]
      subst hF
      have hd : decide ((k : Int) < (n : Int)) = false := decide_eq_false (by omega)
      clear HA H1 hall
      go_wp2
      go_ret
      exact ⟨rfl, hb⟩
set_option maxHeartbeats 1000000 in
set_option maxRecDepth 100000 in
theorem iAllIns (l : List PIns) (v : Value) (w : World) (h : ArgFlat w v 3 l.length (l.flatMap insC)) :
    Calls Try.prog 78 #[v, .func (.func 79) #[] #[]] w fun e w' => e = .returned (.bool (l.all insOk)) ∧ Below w.heap.size w w' := by
  obtain ⟨x, c, rfl, m, o⟩ := h.opened insC_len
  unfold maxLen at m
  clear h
  obtain ⟨n, e1⟩ : ∃ n, l.length = n := ⟨_, rfl⟩
  rw [e1] at m o ⊢
  obtain ⟨F, hF⟩ : ∃ F, l.all insOk = F := ⟨_, rfl⟩
  rw [hF]
  have HF : Hid (l.all insOk = F) := hF
  have H1 : Hid (0 < n → ∃ b o, x = some ⟨b, o, none⟩ ∧ b < w.heap.size ∧ ∀ j q, l[j]? = some q → ∀ c u, (insC q)[c]? = some u → w.cell? ⟨b, o + j * 3 + c, none⟩ = some u) := o
  have E1 : Hid (l.length = n) := e1
  clear o e1 hF
  go_enter Try.func78, Try.ntmps78
  go_wp2
  go_loopw [9] (fun i wr => ∃ k : Nat, k ≤ n ∧ i = .int .i64 k ∧ Hid (∀ j q, j < k → l[j]? = some q → insOk q = true) ∧ Below w.heap.size w wr) (fun i _ => n - (intOf i).toNat)
  case atStart => exact ⟨0, Nat.zero_le _, rfl, fun j q hj => absurd hj (Nat.not_lt_zero _), Below.refl _ _⟩
  case round =>
    obtain ⟨k, hk, rfl, HA, hb⟩ := hrel
    by_cases hkn : k < n
    · obtain ⟨b, o, rfl, hbz, hcell⟩ := H1.out (by omega)
      obtain ⟨q, hq⟩ : ∃ q, l[k]? = some q := ⟨_, List.getElem?_eq_getElem (by have := E1.out; omega)⟩
      have g0 : wr.cell? ⟨b, o + k * 3, none⟩ = some (.int .i64 q.op) := (hb.cell hbz).trans (hcell k q hq 0 _ rfl)
      have g1 : wr.cell? ⟨b, o + k * 3 + 1, none⟩ = some (.int .i64 q.a) := (hb.cell hbz).trans (hcell k q hq 1 _ rfl)
      have g2 : wr.cell? ⟨b, o + k * 3 + 2, none⟩ = some (.int .i64 q.b) := (hb.cell hbz).trans (hcell k q hq 2 _ rfl)
      have hki : (k : Int) < (n : Int) := by omega
      have hk0 : (0 : Int) ≤ (k : Int) := by omega
      have cI := fun W => iInsOk q W
      obtain ⟨bI, eI⟩ : ∃ b, insOk q = b := ⟨_, rfl⟩
      simp only [eI] at cI
      have HI : Hid (insOk q = bI) := eI
      have HQ : Hid (l[k]? = some q) := hq
      have hz : w.heap.size ≤ wr.heap.size := hb.size
      clear hcell eI hq
      cases bI with
      | false =>
        have hF : F = false := by rw [← HF.out, all_no HQ.out HI.out]
        subst hF
        clear H1
        go_wp2_with (go_at_call 79; with_reducible refine (cI _).mono ?_; rintro e w' ⟨rfl, hb1⟩)
        go_ret
        exact ⟨rfl, chain (by repeat (first | exact hb | refine Below.setCell ?_ (by show w.heap.size ≤ wr.heap.size; exact hz) _ | refine Below.alloc ?_ hz _)) hb1⟩
      | true =>
        go_wp2_with (go_at_call 79; with_reducible refine (cI _).mono ?_; rintro e w' ⟨rfl, hb1⟩)
        go_roundw
        case rel => exact ⟨k + 1, by omega, by go_num, all_more HA.out HQ.out HI.out, chain (by repeat (first | exact hb | refine Below.setCell ?_ (by show w.heap.size ≤ wr.heap.size; exact hz) _ | refine Below.alloc ?_ hz _)) hb1⟩
        case measure => simp [intOf]; omega
    · have hall : l.all insOk = true := all_yes (n := k) (by have := E1.out; omega) HA.out
      have hF : F = true := by rw [← HF.out, hall]
      subst hF
      have hd : decide ((k : Int) < (n : Int)) = false := decide_eq_false (by omega)
      clear HA H1 hall
      go_wp2
      go_ret
      exact ⟨rfl, hb⟩
set_option maxHeartbeats 1000000 in
set_option maxRecDepth 100000 in
theorem iAllHandler (l : List PHnd) (v : Value) (w : World) (h : ArgFlat w v 3 l.length (l.flatMap hndC)) :
    Calls Try.prog 80 #[v, .func (.func 81) #[] #[]] w fun e w' => e = .returned (.bool (l.all hndOk)) ∧ Below w.heap.size w w' := by
  obtain ⟨x, c, rfl, m, o⟩ := h.opened hndC_len
  unfold maxLen at m
  clear h
  obtain ⟨n, e1⟩ : ∃ n, l.length = n := ⟨_, rfl⟩
  rw [e1] at m o ⊢
  obtain ⟨F, hF⟩ : ∃ F, l.all hndOk = F := ⟨_, rfl⟩
  rw [hF]
  have HF : Hid (l.all hndOk = F) := hF
  have H1 : Hid (0 < n → ∃ b o, x = some ⟨b, o, none⟩ ∧ b < w.heap.size ∧ ∀ j q, l[j]? = some q → ∀ c u, (hndC q)[c]? = some u → w.cell? ⟨b, o + j * 3 + c, none⟩ = some u) := o
  have E1 : Hid (l.length = n) := e1
  clear o e1 hF
  go_enter Try.func80, Try.ntmps80
  go_wp2
  go_loopw [9] (fun i wr => ∃ k : Nat, k ≤ n ∧ i = .int .i64 k ∧ Hid (∀ j q, j < k → l[j]? = some q → hndOk q = true) ∧ Below w.heap.size w wr) (fun i _ => n - (intOf i).toNat)
  case atStart => exact ⟨0, Nat.zero_le _, rfl, fun j q hj => absurd hj (Nat.not_lt_zero _), Below.refl _ _⟩
  case round =>
    obtain ⟨k, hk, rfl, HA, hb⟩ := hrel
    by_cases hkn : k < n
    · obtain ⟨b, o, rfl, hbz, hcell⟩ := H1.out (by omega)
      obtain ⟨q, hq⟩ : ∃ q, l[k]? = some q := ⟨_, List.getElem?_eq_getElem (by have := E1.out; omega)⟩
      have g0 : wr.cell? ⟨b, o + k * 3, none⟩ = some (.int .i64 q.lo) := (hb.cell hbz).trans (hcell k q hq 0 _ rfl)
      have g1 : wr.cell? ⟨b, o + k * 3 + 1, none⟩ = some (.int .i64 q.hi) := (hb.cell hbz).trans (hcell k q hq 1 _ rfl)
      have g2 : wr.cell? ⟨b, o + k * 3 + 2, none⟩ = some (.int .i64 q.target) := (hb.cell hbz).trans (hcell k q hq 2 _ rfl)
      have hki : (k : Int) < (n : Int) := by omega
      have hk0 : (0 : Int) ≤ (k : Int) := by omega
      have cI := fun W => iHandlerOk q W
      obtain ⟨bI, eI⟩ : ∃ b, hndOk q = b := ⟨_, rfl⟩
      simp only [eI] at cI
      have HI : Hid (hndOk q = bI) := eI
      have HQ : Hid (l[k]? = some q) := hq
      have hz : w.heap.size ≤ wr.heap.size := hb.size
      clear hcell eI hq
      cases bI with
      | false =>
        have hF : F = false := by rw [← HF.out, all_no HQ.out HI.out]
        subst hF
        clear H1
        go_wp2_with (go_at_call 81; with_reducible refine (cI _).mono ?_; rintro e w' ⟨rfl, hb1⟩)
        go_ret
        exact ⟨rfl, chain (by repeat (first | exact hb | refine Below.setCell ?_ (by show w.heap.size ≤ wr.heap.size; exact hz) _ | refine Below.alloc ?_ hz _)) hb1⟩
      | true =>
        go_wp2_with (go_at_call 81; with_reducible refine (cI _).mono ?_; rintro e w' ⟨rfl, hb1⟩)
        go_roundw
        case rel => exact ⟨k + 1, by omega, by go_num, all_more HA.out HQ.out HI.out, chain (by repeat (first | exact hb | refine Below.setCell ?_ (by show w.heap.size ≤ wr.heap.size; exact hz) _ | refine Below.alloc ?_ hz _)) hb1⟩
        case measure => simp [intOf]; omega
    · have hall : l.all hndOk = true := all_yes (n := k) (by have := E1.out; omega) HA.out
      have hF : F = true := by rw [← HF.out, hall]
      subst hF
      have hd : decide ((k : Int) < (n : Int)) = false := decide_eq_false (by omega)
      clear HA H1 hall
      go_wp2
      go_ret
      exact ⟨rfl, hb⟩
set_option maxHeartbeats 1000000 in
set_option maxRecDepth 100000 in
theorem iAllConst (l : List PCon) (v : Value) (w : World) (h : ArgFlat w v 3 l.length (l.flatMap conC)) (HW : ∀ x ∈ l, conW x) :
    Calls Try.prog 51 #[v, .func (.func 52) #[] #[]] w fun e w' => e = .returned (.bool (l.all conOk)) ∧ Below w.heap.size w w' := by
  obtain ⟨x, c, rfl, m, o⟩ := h.opened conC_len
  unfold maxLen at m
  clear h
  obtain ⟨n, e1⟩ : ∃ n, l.length = n := ⟨_, rfl⟩
  rw [e1] at m o ⊢
  obtain ⟨F, hF⟩ : ∃ F, l.all conOk = F := ⟨_, rfl⟩
  rw [hF]
  have HF : Hid (l.all conOk = F) := hF
  have H1 : Hid (0 < n → ∃ b o, x = some ⟨b, o, none⟩ ∧ b < w.heap.size ∧ ∀ j q, l[j]? = some q → ∀ c u, (conC q)[c]? = some u → w.cell? ⟨b, o + j * 3 + c, none⟩ = some u) := o
  have E1 : Hid (l.length = n) := e1
  clear o e1 hF
  go_enter Try.func51, Try.ntmps51
  go_wp2
  go_loopw [9] (fun i wr => ∃ k : Nat, k ≤ n ∧ i = .int .i64 k ∧ Hid (∀ j q, j < k → l[j]? = some q → conOk q = true) ∧ Below w.heap.size w wr) (fun i _ => n - (intOf i).toNat)
  case atStart => exact ⟨0, Nat.zero_le _, rfl, fun j q hj => absurd hj (Nat.not_lt_zero _), Below.refl _ _⟩
  case round =>
    obtain ⟨k, hk, rfl, HA, hb⟩ := hrel
    by_cases hkn : k < n
    · obtain ⟨b, o, rfl, hbz, hcell⟩ := H1.out (by omega)
      obtain ⟨q, hq⟩ : ∃ q, l[k]? = some q := ⟨_, List.getElem?_eq_getElem (by have := E1.out; omega)⟩
      have g0 : wr.cell? ⟨b, o + k * 3, none⟩ = some (.int .i64 q.kind) := (hb.cell hbz).trans (hcell k q hq 0 _ rfl)
      have g1 : wr.cell? ⟨b, o + k * 3 + 1, none⟩ = some (.int .u64 (q.num : Int)) := (hb.cell hbz).trans (hcell k q hq 1 _ rfl)
      have g2 : wr.cell? ⟨b, o + k * 3 + 2, none⟩ = some (.string q.text) := (hb.cell hbz).trans (hcell k q hq 2 _ rfl)
      have hki : (k : Int) < (n : Int) := by omega
      have hk0 : (0 : Int) ≤ (k : Int) := by omega
      have cI := fun W => iConstOk_any q W (HW q (List.mem_iff_getElem?.2 ⟨_, hq⟩))
      obtain ⟨bI, eI⟩ : ∃ b, conOk q = b := ⟨_, rfl⟩
      simp only [eI] at cI
      have HI : Hid (conOk q = bI) := eI
      have HQ : Hid (l[k]? = some q) := hq
      have hz : w.heap.size ≤ wr.heap.size := hb.size
      clear hcell eI hq
      cases bI with
      | false =>
        have hF : F = false := by rw [← HF.out, all_no HQ.out HI.out]
        subst hF
        clear H1
        go_wp2_with (go_at_call 52; with_reducible refine (cI _).mono ?_; rintro e w' ⟨rfl, hb1⟩)
        go_ret
        exact ⟨rfl, chain (by repeat (first | exact hb | refine Below.setCell ?_ (by show w.heap.size ≤ wr.heap.size; exact hz) _ | refine Below.alloc ?_ hz _)) hb1⟩
      | true =>
        go_wp2_with (go_at_call 52; with_reducible refine (cI _).mono ?_; rintro e w' ⟨rfl, hb1⟩)
        go_roundw
        case rel => exact ⟨k + 1, by omega, by go_num, all_more HA.out HQ.out HI.out, chain (by repeat (first | exact hb | refine Below.setCell ?_ (by show w.heap.size ≤ wr.heap.size; exact hz) _ | refine Below.alloc ?_ hz _)) hb1⟩
        case measure => simp [intOf]; omega
    · have hall : l.all conOk = true := all_yes (n := k) (by have := E1.out; omega) HA.out
      have hF : F = true := by rw [← HF.out, hall]
      subst hF
      have hd : decide ((k : Int) < (n : Int)) = false := decide_eq_false (by omega)
      clear HA H1 hall
      go_wp2
      go_ret
      exact ⟨rfl, hb⟩
end Go.Proofs.Ytkmmojpfcklocaa
namespace Go.Proofs.Ytkmmojpfcklocaa
open Go.RowKit Go.Sort
set_option linter.unusedVariables false
theorem fun_meas (p : PFun) : (wi p.params 0 4 && (wi p.regs p.params 40 && (wi p.caps.length 0 20 && (wi p.code.length 1 300 && wi p.hnds.length 0 40)))) = (inB p.params 0 4 && (inB p.regs p.params 40 && (decide (p.caps.length ≤ 20) && (inB p.code.length 1 300 && decide (p.hnds.length ≤ 40))))) := by
  rw [wi_in _ 0 4 (by decide), wi_in _ 0 20 (by decide), wi_in _ 1 300 (by decide), wi_in _ 0 40 (by decide)]
  by_cases h : inB p.params 0 4 = true
  · have h2 : p.params ≤ 40 := by
      unfold inB at h
      simp only [Bool.and_eq_true, decide_eq_true_eq] at h
      omega
    rw [wi_in _ _ _ h2]
    have e1 : inB p.caps.length 0 20 = decide (p.caps.length ≤ 20) := by unfold inB; rw [Bool.eq_iff_iff]; simp; omega
    have e2 : inB p.hnds.length 0 40 = decide (p.hnds.length ≤ 40) := by unfold inB; rw [Bool.eq_iff_iff]; simp; omega
    rw [e1, e2]
  · have h' : inB p.params 0 4 = false := by simpa using h
    rw [h']
    rfl
theorem fun_ok4 (p : PFun) (b : Bool) (h : (inB p.params 0 4 && (inB p.regs p.params 40 && (decide (p.caps.length ≤ 20) && (inB p.code.length 1 300 && decide (p.hnds.length ≤ 40))))) = b) : funOk p = (b && (p.caps.all capOk && (p.code.all insOk && p.hnds.all hndOk))) := by
  rw [← h]
  unfold funOk
  simp only [Bool.and_assoc]
set_option maxHeartbeats 2000000 in
set_option maxRecDepth 100000 in
theorem iFuncOk (p : PFun) (cv kv hv : Value) (w : World) (h2 : ArgFlat w cv 2 p.caps.length (p.caps.flatMap capC)) (h3 : ArgFlat w kv 3 p.code.length (p.code.flatMap insC)) (h4 : ArgFlat w hv 3 p.hnds.length (p.hnds.flatMap hndC)) :
    Calls Try.prog 54 #[.agg #[.int .i64 p.params, .int .i64 p.regs, cv, kv, hv]] w fun e w' => e = .returned (.bool (funOk p)) ∧ Below w.heap.size w w' := by
  have cC := fun W (hb : Below w.heap.size w W) => iAllCap p.caps cv W (h2.below hb)
  have cK := fun W (hb : Below w.heap.size w W) => iAllIns p.code kv W (h3.below hb)
  have cH := fun W (hb : Below w.heap.size w W) => iAllHandler p.hnds hv W (h4.below hb)
  obtain ⟨x2, c2, rfl, m2, _⟩ := h2
  obtain ⟨x3, c3, rfl, m3, _⟩ := h3
  obtain ⟨x4, c4, rfl, m4, _⟩ := h4
  unfold maxLen at m2 m3 m4
  have cW := fun W => iWithin5 p.params p.regs p.caps.length p.code.length p.hnds.length 0 p.params 0 1 0 4 40 20 300 40 W
  simp only [fun_meas p] at cW
  obtain ⟨b1, e1⟩ : ∃ b, (inB p.params 0 4 && (inB p.regs p.params 40 && (decide (p.caps.length ≤ 20) && (inB p.code.length 1 300 && decide (p.hnds.length ≤ 40))))) = b := ⟨_, rfl⟩
  simp only [e1] at cW
  rw [fun_ok4 p b1 e1]
  clear e1
  obtain ⟨b2, e2⟩ : ∃ b, p.caps.all capOk = b := ⟨_, rfl⟩
  obtain ⟨b3, e3⟩ : ∃ b, p.code.all insOk = b := ⟨_, rfl⟩
  obtain ⟨b4, e4⟩ : ∃ b, p.hnds.all hndOk = b := ⟨_, rfl⟩
  simp only [e2] at cC
  simp only [e3] at cK
  simp only [e4] at cH
  rw [e2, e3, e4]
  clear e2 e3 e4
  obtain ⟨P, hP⟩ : ∃ x, p.params = x := ⟨_, rfl⟩
  obtain ⟨R, hR⟩ : ∃ x, p.regs = x := ⟨_, rfl⟩
  obtain ⟨n2, e2⟩ : ∃ n, p.caps.length = n := ⟨_, rfl⟩
  obtain ⟨n3, e3⟩ : ∃ n, p.code.length = n := ⟨_, rfl⟩
  obtain ⟨n4, e4⟩ : ∃ n, p.hnds.length = n := ⟨_, rfl⟩
  rw [hP, hR, e2, e3, e4]
  simp only [hP, hR, e2, e3, e4] at cW
  simp only [e2] at cC m2
  simp only [e3] at cK m3
  simp only [e4] at cH m4
  clear hP hR e2 e3 e4
  have hb5 := build5
  have b0 : ∀ cs t, Below w.heap.size w (w.alloc (.cells cs t)) := fun cs t => (Below.refl _ _).alloc (Nat.le_refl _) _
  go_enter Try.func54, Try.ntmps54
  go_wp2_with fail
  refine (cW _).mono ?_
  rintro e w1 ⟨rfl, hb1⟩
  have hX1 : Below (w.alloc (.cells #[.int .i64 P, .int .i64 R, .slice x2 n2 c2, .slice x3 n3 c3, .slice x4 n4 c4] 47)).heap.size (w.alloc (.cells #[.int .i64 P, .int .i64 R, .slice x2 n2 c2, .slice x3 n3 c3, .slice x4 n4 c4] 47)) w1 := chain (by repeat (first | exact Below.refl _ _ | refine Below.setCell ?_ (by simp; try omega) _ | refine Below.alloc ?_ (by simp; try omega) _)) hb1
  have hY1 : Below w.heap.size w w1 := chain (b0 _ _) hX1
  clear hb1 cW
  cases b1 with
  | false =>
    go_wp2
    go_ret
    exact ⟨rfl, hY1⟩
  | true =>
  have k2 := new_cell hX1 2 _ rfl
  go_wp2_with fail
  refine (cC _ hY1).mono ?_
  rintro e w2 ⟨rfl, hb2⟩
  have hX2 := chain hX1 hb2
  have hY2 := chain hY1 hb2
  clear hb2 cC k2
  cases b2 with
  | false =>
    go_wp2
    go_ret
    exact ⟨rfl, hY2⟩
  | true =>
  have k3 := new_cell hX2 3 _ rfl
  go_wp2_with fail
  refine (cK _ hY2).mono ?_
  rintro e w3 ⟨rfl, hb3⟩
  have hX3 := chain hX2 hb3
  have hY3 := chain hY2 hb3
  clear hb3 cK k3
  cases b3 with
  | false =>
    go_wp2
    go_ret
    exact ⟨rfl, hY3⟩
  | true =>
  have k4 := new_cell hX3 4 _ rfl
  go_wp2_with fail
  refine (cH _ hY3).mono ?_
  rintro e w4 ⟨rfl, hb4⟩
  go_wp2
  go_ret
  exact ⟨rfl, chain hY3 hb4⟩
end Go.Proofs.Ytkmmojpfcklocaa
namespace Go.Proofs.Ytkmmojpfcklocaa
open Go.RowKit Go.Sort
set_option linter.unusedVariables false
set_option maxHeartbeats 2000000 in
set_option maxRecDepth 100000 in
theorem iAllFunc (l : List PFun) (v : Value) (w : World) (h : ArgFuns w v l) :
    Calls Try.prog 53 #[v, .func (.func 54) #[] #[]] w fun e w' => e = .returned (.bool (l.all funOk)) ∧ Below w.heap.size w w' := by
  obtain ⟨x, c, rfl, m, o⟩ := h
  unfold maxLen at m
  obtain ⟨n, e1⟩ : ∃ n, l.length = n := ⟨_, rfl⟩
  rw [e1] at m o ⊢
  obtain ⟨F, hF⟩ : ∃ F, l.all funOk = F := ⟨_, rfl⟩
  rw [hF]
  have HF : Hid (l.all funOk = F) := hF
  have H1 : Hid (0 < n → ∃ b o, x = some ⟨b, o, none⟩ ∧ b < w.heap.size ∧ ∀ j q, l[j]? = some q → ∃ cv kv hv, FunAt w b (o + j * 5) q cv kv hv) := o
  have E1 : Hid (l.length = n) := e1
  clear o e1 hF
  go_enter Try.func53, Try.ntmps53
  go_wp2
  go_loopw [9] (fun i wr => ∃ k : Nat, k ≤ n ∧ i = .int .i64 k ∧ Hid (∀ j q, j < k → l[j]? = some q → funOk q = true) ∧ Below w.heap.size w wr) (fun i _ => n - (intOf i).toNat)
  case atStart => exact ⟨0, Nat.zero_le _, rfl, fun j q hj => absurd hj (Nat.not_lt_zero _), Below.refl _ _⟩
  case round =>
    obtain ⟨k, hk, rfl, HA, hb⟩ := hrel
    by_cases hkn : k < n
    · obtain ⟨b, o, rfl, hbz, hcell⟩ := H1.out (by omega)
      obtain ⟨q, hq⟩ : ∃ q, l[k]? = some q := ⟨_, List.getElem?_eq_getElem (by have := E1.out; omega)⟩
      obtain ⟨cv, kv, hv, hA⟩ := hcell k q hq
      obtain ⟨z1, d1, rfl, _, _⟩ := id hA.caps
      obtain ⟨z2, d2, rfl, _, _⟩ := id hA.code
      obtain ⟨z3, d3, rfl, _, _⟩ := id hA.hnds
      have hA' := hA.below hb
      have g0 := hA'.c0
      have g1 := hA'.c1
      have g2 := hA'.c2
      have g3 := hA'.c3
      have g4 := hA'.c4
      have hki : (k : Int) < (n : Int) := by omega
      have hk0 : (0 : Int) ≤ (k : Int) := by omega
      have cI := fun W (h1 : Below w.heap.size w W) => iFuncOk q _ _ _ W (hA.caps.below h1) (hA.code.below h1) (hA.hnds.below h1)
      obtain ⟨bI, eI⟩ : ∃ b, funOk q = b := ⟨_, rfl⟩
      simp only [eI] at cI
      have HI : Hid (funOk q = bI) := eI
      have HQ : Hid (l[k]? = some q) := hq
      have hz : w.heap.size ≤ wr.heap.size := hb.size
      clear hcell eI hq hA hA'
      cases bI with
      | false =>
        have hF : F = false := by rw [← HF.out, all_no HQ.out HI.out]
        subst hF
        clear H1
        go_wp2_with (go_at_call 54; refine (cI _ (by repeat (first | exact hb | refine Below.setCell ?_ (by show w.heap.size ≤ wr.heap.size; exact hz) _ | refine Below.alloc ?_ hz _))).mono ?_; rintro e w' ⟨rfl, hb1⟩)
        go_ret
        exact ⟨rfl, chain (by repeat (first | exact hb | refine Below.setCell ?_ (by show w.heap.size ≤ wr.heap.size; exact hz) _ | refine Below.alloc ?_ hz _)) hb1⟩
      | true =>
        go_wp2_with (go_at_call 54; refine (cI _ (by repeat (first | exact hb | refine Below.setCell ?_ (by show w.heap.size ≤ wr.heap.size; exact hz) _ | refine Below.alloc ?_ hz _))).mono ?_; rintro e w' ⟨rfl, hb1⟩)
        go_roundw
        case rel => exact ⟨k + 1, by omega, by go_num, all_more HA.out HQ.out HI.out, chain (by repeat (first | exact hb | refine Below.setCell ?_ (by show w.heap.size ≤ wr.heap.size; exact hz) _ | refine Below.alloc ?_ hz _)) hb1⟩
        case measure => simp [intOf]; omega
    · have hall : l.all funOk = true := all_yes (n := k) (by have := E1.out; omega) HA.out
      have hF : F = true := by rw [← HF.out, hall]
      subst hF
      have hd : decide ((k : Int) < (n : Int)) = false := decide_eq_false (by omega)
      clear HA H1 hall
      go_wp2
      go_ret
      exact ⟨rfl, hb⟩
theorem img_meas (a c : Nat) : (wi (a : Int) 1 16 && (wi (c : Int) 0 40 && (wi 0 0 0 && (wi 0 0 0 && wi 0 0 0)))) = (inB a 1 16 && decide (c ≤ 40)) := by
  rw [wi_0, wi_in _ 1 16 (by decide), wi_in _ 0 40 (by decide)]
  have e1 : inB c 0 40 = decide (c ≤ 40) := by unfold inB; rw [Bool.eq_iff_iff]; simp; omega
  rw [e1]
  simp
theorem img_ok4 (p : PImg) (b : Bool) (h : (inB p.funcs.length 1 16 && decide (p.consts.length ≤ 40)) = b) : imgOk p = (b && (p.consts.all conOk && (p.funcs.all funOk && firstOk p.funcs))) := by
  rw [← h]
  show (inB p.funcs.length 1 16 && (decide (p.consts.length ≤ 40) && (p.consts.all conOk && (p.funcs.all funOk && firstOk p.funcs)))) = _
  simp only [Bool.and_assoc]
set_option maxHeartbeats 2000000 in
set_option maxRecDepth 100000 in
theorem iImageOk_any (p : PImg) (fv cv : Value) (w : World) (h : ArgImg w fv cv p) (hw : imgW p) :
    Calls Try.prog 33 #[.agg #[fv, cv]] w fun e w' => e = .returned (.bool (imgOk p)) ∧ Below w.heap.size w w' := by
  have cC := fun W (hb : Below w.heap.size w W) => iAllConst p.consts cv W (h.2.below hb) hw.consts
  have cF := fun W (hb : Below w.heap.size w W) => iAllFunc p.funcs fv W (h.1.below hb)
  obtain ⟨hF, hC⟩ := h
  obtain ⟨x1, c1, rfl, m1, o1⟩ := hF
  obtain ⟨x2, c2, rfl, m2, _⟩ := hC
  unfold maxLen at m1 m2
  have cW := fun W => iWithin5 p.funcs.length p.consts.length 0 0 0 1 0 0 0 0 16 40 0 0 0 W
  simp only [img_meas] at cW
  obtain ⟨b1, e1⟩ : ∃ b, (inB p.funcs.length 1 16 && decide (p.consts.length ≤ 40)) = b := ⟨_, rfl⟩
  simp only [e1] at cW
  rw [img_ok4 p b1 e1]
  have hpos : b1 = true → 0 < p.funcs.length := fun h => by
    rw [h] at e1
    unfold inB at e1
    simp only [Bool.and_eq_true, decide_eq_true_eq] at e1
    omega
  have H1 : Hid (b1 = true → ∃ b o q qx qc kv hv, x1 = some ⟨b, o, none⟩ ∧ b < w.heap.size ∧ FunAt w b o q (.slice qx q.caps.length qc) kv hv ∧ q.caps.length ≤ maxLen ∧ firstOk p.funcs = (decide (q.params = 0) && decide (q.caps.length = 0))) := fun h => by
    obtain ⟨b, o, e, hlt, hc⟩ := o1 (hpos h)
    obtain ⟨q, hq⟩ : ∃ q, p.funcs[0]? = some q := ⟨_, List.getElem?_eq_getElem (hpos h)⟩
    obtain ⟨qv, kv, hv, hA⟩ := hc 0 q hq
    rw [Nat.zero_mul, Nat.add_zero] at hA
    obtain ⟨qx, qc, rfl, hm, _⟩ := hA.caps
    refine ⟨b, o, q, qx, qc, kv, hv, e, hlt, hA, hm, ?_⟩
    revert hq
    cases p.funcs with
    | nil => intro h; simp at h
    | cons f r =>
      intro h
      simp at h
      subst h
      rfl
  clear e1 o1 hw
  obtain ⟨b2, e2⟩ : ∃ b, p.consts.all conOk = b := ⟨_, rfl⟩
  obtain ⟨b3, e3⟩ : ∃ b, p.funcs.all funOk = b := ⟨_, rfl⟩
  obtain ⟨b4, e4⟩ : ∃ b, firstOk p.funcs = b := ⟨_, rfl⟩
  simp only [e2] at cC
  simp only [e3] at cF
  simp only [e4] at H1
  rw [e2, e3, e4]
  clear e2 e3 e4
  obtain ⟨n1, e1⟩ : ∃ n, p.funcs.length = n := ⟨_, rfl⟩
  obtain ⟨n2, e2⟩ : ∃ n, p.consts.length = n := ⟨_, rfl⟩
  rw [e1, e2]
  simp only [e1, e2] at cW
  simp only [e1] at cF m1
  simp only [e2] at cC m2
  rw [e1] at hpos
  clear e1 e2
  have hb2 := build2
  have b0 : ∀ cs t, Below w.heap.size w (w.alloc (.cells cs t)) := fun cs t => (Below.refl _ _).alloc (Nat.le_refl _) _
  go_enter Try.func33, Try.ntmps33
  go_wp2_with fail
  refine (cW _).mono ?_
  rintro e w1 ⟨rfl, hb1⟩
  have hX1 : Below (w.alloc (.cells #[.slice x1 n1 c1, .slice x2 n2 c2] 32)).heap.size (w.alloc (.cells #[.slice x1 n1 c1, .slice x2 n2 c2] 32)) w1 := chain (by repeat (first | exact Below.refl _ _ | refine Below.setCell ?_ (by simp; try omega) _ | refine Below.alloc ?_ (by simp; try omega) _)) hb1
  have hY1 : Below w.heap.size w w1 := chain (b0 _ _) hX1
  clear hb1 cW
  cases b1 with
  | false =>
    go_wp2
    go_ret
    exact ⟨rfl, hY1⟩
  | true =>
  have k2 := new_cell hX1 1 _ rfl
  go_wp2_with fail
  refine (cC _ hY1).mono ?_
  rintro e w2 ⟨rfl, hb2⟩
  have hX2 := chain hX1 hb2
  have hY2 := chain hY1 hb2
  clear hb2 cC k2
  cases b2 with
  | false =>
    go_wp2
    go_ret
    exact ⟨rfl, hY2⟩
  | true =>
  have k3 := new_cell hX2 0 _ rfl
  go_wp2_with fail
  refine (cF _ hY2).mono ?_
  rintro e w3 ⟨rfl, hb3⟩
  have hX3 := chain hX2 hb3
  have hY3 := chain hY2 hb3
  clear hb3 cF k3
  cases b3 with
  | false =>
    go_wp2
    go_ret
    exact ⟨rfl, hY3⟩
  | true =>
  have k4 := new_cell hX3 0 _ rfl
  obtain ⟨b, o, q, qx, qc, kv, hv, rfl, hlt, hA, hm, hf⟩ := H1.out (by first | rfl | trivial)
  have hA' := hA.below hY3
  have g0 := hA'.c0
  have g1 := hA'.c1
  have g2 := hA'.c2
  have g3 := hA'.c3
  have g4 := hA'.c4
  have hp0 : (0 : Int) < (n1 : Int) := by have := hpos (by first | rfl | trivial); omega
  have cS := fun W => iStartsAlone q qx qc kv hv W hm
  simp only [← hf] at cS
  clear hf hA hA' H1 hpos
  go_wp2_with fail
  refine (cS _).mono ?_
  rintro e w4 ⟨rfl, hb4⟩
  go_wp2
  go_ret
  exact ⟨rfl, chain hY3 hb4⟩
end Go.Proofs.Ytkmmojpfcklocaa
