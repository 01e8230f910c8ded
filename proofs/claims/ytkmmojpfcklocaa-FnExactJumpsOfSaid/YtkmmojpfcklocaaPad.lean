/-
  Part 4 of what is proved of drawn right trees.
-/
import Derived.Test.YtkmmojpfcklocaaPab
import Derived.Test.YtkmmojpfcklocaaPac
import Derived.Deep.QuietTactic
import Derived.BigQuiet
import Derived.Lib.QuietBelow
import Derived.Test.YtkmmojpfcklocaaPaa

namespace Go.Proofs.Ytkmmojpfcklocaa
open Go.RowKit Go.Sort
set_option linter.unusedVariables false
def intC (x : Int) : List Value := [.int .i64 x]
theorem intC_len (x : Int) : (intC x).length = 1 := rfl
def ArgI (w : World) (v : Value) (l : List Int) : Prop := ArgFlat w v 1 l.length (l.flatMap intC)
theorem ArgI.below {w w' : World} {v : Value} {l : List Int} (h : ArgI w v l) (hb : Below w.heap.size w w') : ArgI w' v l := ArgFlat.below h hb
def OwnI (w : World) (B : Nat) (v : Value) (l : List Int) : Prop := w.ownsRow B 3 1 v l.length (l.flatMap intC)
theorem OwnI.below {w w' : World} {B : Nat} {v : Value} {l : List Int} (h : OwnI w B v l) (hb : Below w.heap.size w w') : OwnI w' B v l := row_keep h hb
theorem OwnI.arg {w : World} {B : Nat} {v : Value} {l : List Int} (h : OwnI w B v l) : ArgI w v l := ArgFlat.of_own h
theorem Try.info13I : (Try.prog.info? 3).map (fun i => (i.zero, i.size, i.bytes)) = some (some (.int .i64 0), 1, 8) := by kernel_rfl
theorem int_at {l : List Int} {j : Nat} {z : Int} (h : l[j]? = some z) : (l.flatMap intC)[j]? = some (.int .i64 z) := by
  have := flat_at intC_len l j 0 z _ h rfl
  rwa [Nat.mul_one, Nat.add_zero] at this
theorem ints_is {l : List Int} {xs : List Value} (hl : xs.length = l.length) (h : ∀ (j : Nat) (z : Int), l[j]? = some z → xs[j]? = some (.int .i64 z)) : xs = l.flatMap intC :=
  flat_ext intC_len (by decide) l xs (by omega) (fun j p c u hp hu => by
    have hc : c < 1 := (List.getElem?_eq_some_iff.1 hu).1
    have e : c = 0 := by omega
    subst e
    simp [intC] at hu
    subst hu
    rw [Nat.mul_one, Nat.add_zero]
    exact h j p hp)
theorem ArgI.opened {w : World} {v : Value} {l : List Int} (h : ArgI w v l) : ∃ x c, v = .slice x l.length c ∧ l.length ≤ maxLen ∧ (0 < l.length → ∃ b o, x = some ⟨b, o, none⟩ ∧ b < w.heap.size ∧ ∀ (j : Nat) (z : Int), l[j]? = some z → w.cell? ⟨b, o + j, none⟩ = some (.int .i64 z)) := by
  obtain ⟨x, c, e, hm, hl, hc⟩ := h
  refine ⟨x, c, e, hm, fun h0 => ?_⟩
  obtain ⟨b, o, e1, h1, h2⟩ := hc h0
  exact ⟨b, o, e1, h1, fun j z hz => h2 j _ (int_at hz)⟩
set_option maxHeartbeats 1000000 in
set_option maxRecDepth 100000 in
theorem eqIntS_f (a b : Value) (ls ms : List Int) (w : World) (ha : ArgI w a ls) (hb : ArgI w b ms) :
    Calls Try.prog 8 #[a, b] w fun e w' => e = .returned (.bool (decide (ls = ms))) ∧ Below w.heap.size w w' := by
  obtain ⟨xa, ca, rfl, hm, oa⟩ := ha.opened
  obtain ⟨xb, cb, rfl, hm', ob⟩ := hb.opened
  clear ha hb
  unfold maxLen at hm hm'
  obtain ⟨n, hn⟩ : ∃ n, ls.length = n := ⟨_, rfl⟩
  obtain ⟨m, hmm⟩ : ∃ m, ms.length = m := ⟨_, rfl⟩
  have HN : Hid (ls.length = n) := hn
  have HM : Hid (ms.length = m) := hmm
  rw [hn] at hm oa ⊢
  rw [hmm] at hm' ob ⊢
  obtain ⟨F, hF⟩ : ∃ F, decide (ls = ms) = F := ⟨_, rfl⟩
  rw [hF]
  have HF : Hid (decide (ls = ms) = F) := hF
  clear hn hmm hF
  by_cases hnm : n = m
  case neg =>
    have hf : F = false := by
      rw [← HF.out]
      apply decide_eq_false
      intro e
      apply hnm
      rw [← HN.out, ← HM.out, e]
    subst hf
    have hne : ((n : Int) == (m : Int)) = false := by rw [beq_eq_false_iff_ne]; omega
    clear oa ob
    go_enter Try.func8, Try.ntmps8
    go_wp2
    go_ret
    exact ⟨rfl, Below.refl _ _⟩
  subst hnm
  have HA : Hid (0 < n → ∃ b o, xa = some ⟨b, o, none⟩ ∧ b < w.heap.size ∧ ∀ (j : Nat) (z : Int), ls[j]? = some z → w.cell? ⟨b, o + j, none⟩ = some (.int .i64 z)) := oa
  have HB : Hid (0 < n → ∃ b o, xb = some ⟨b, o, none⟩ ∧ b < w.heap.size ∧ ∀ (j : Nat) (z : Int), ms[j]? = some z → w.cell? ⟨b, o + j, none⟩ = some (.int .i64 z)) := ob
  clear oa ob
  go_enter Try.func8, Try.ntmps8
  go_wp2
  go_loopw [5] (fun i wr => ∃ k : Nat, k ≤ n ∧ i = .int .i64 k ∧ Hid (∀ j, j < k → ls[j]? = ms[j]?) ∧ Below w.heap.size w wr) (fun i _ => n - (intOf i).toNat)
  case atStart => exact ⟨0, Nat.zero_le _, rfl, fun j hj => absurd hj (Nat.not_lt_zero _), Below.refl _ _⟩
  case round =>
    obtain ⟨k, hk, rfl, HS, hbel⟩ := hrel
    by_cases hlt : k < n
    · obtain ⟨ga, sa, rfl, hga, hca⟩ := HA.out (by omega)
      obtain ⟨gb, sb, rfl, hgb, hcb⟩ := HB.out (by omega)
      obtain ⟨y, hy⟩ : ∃ s, ls[k]? = some s := ⟨_, List.getElem?_eq_getElem (by have := HN.out; omega)⟩
      obtain ⟨z, hz⟩ : ∃ s, ms[k]? = some s := ⟨_, List.getElem?_eq_getElem (by have := HM.out; omega)⟩
      have h1 : wr.cell? ⟨ga, sa + k, none⟩ = some (.int .i64 y) := (hbel.cell hga).trans (hca k y hy)
      have h2 : wr.cell? ⟨gb, sb + k, none⟩ = some (.int .i64 z) := (hbel.cell hgb).trans (hcb k z hz)
      have hki : (k : Int) < (n : Int) := by omega
      have hk0 : (0 : Int) ≤ (k : Int) := by omega
      by_cases e : y = z
      · have HS2 : Hid (∀ j, j < k + 1 → ls[j]? = ms[j]?) := fun j hj => by
          rcases Nat.lt_or_ge j k with h' | h'
          · exact HS.out j h'
          · have e3 : j = k := by omega
            subst e3
            rw [hy, hz, e]
        subst e
        clear hca hcb hy hz HS HA HB
        go_wp2
        go_quiet (fail)
        go_wp2
        go_roundw
        case rel => exact ⟨k + 1, by omega, by go_num, HS2, below_drewN hbel _⟩
        case measure => simp [intOf]; omega
      · have hf : F = false := by
          rw [← HF.out]
          apply decide_eq_false
          intro e3
          rw [e3, hz] at hy
          injection hy with hy
          exact e hy.symm
        subst hf
        have hne : (y == z) = false := by rw [beq_eq_false_iff_ne]; exact e
        clear hca hcb hy hz HS HA HB
        go_wp2
        go_quiet (fail)
        go_wp2
        go_ret
        exact ⟨rfl, below_drewN hbel _⟩
    · have hf : F = true := by
        rw [← HF.out]
        apply decide_eq_true
        apply List.ext_getElem?
        intro j
        by_cases hj : j < k
        · exact HS.out j hj
        · rw [List.getElem?_eq_none (by have := HN.out; omega), List.getElem?_eq_none (by have := HM.out; omega)]
      subst hf
      go_wp2
      go_ret
      exact ⟨rfl, hbel⟩
def upI (k n : Nat) : List Int := (List.range n).map fun j => ((k + j : Nat) : Int)
theorem upI_len (k n : Nat) : (upI k n).length = n := by simp [upI]
theorem upI_at {k n j : Nat} (h : j < n) : (upI k n)[j]? = some ((k + j : Nat) : Int) := by
  unfold upI
  rw [List.getElem?_map, List.getElem?_range h]
  rfl
theorem grown_same (w : World) (r : Option Nat) : w.grownBy w r := ⟨rfl, rfl, rfl, Nat.le_refl _, fun _ _ _ => rfl⟩
theorem OwnI.opened {w : World} {B : Nat} {v : Value} {l : List Int} (h : OwnI w B v l) : ∃ x c, v = .slice x l.length c ∧ l.length ≤ maxLen ∧ (0 < l.length → ∃ g, x = some ⟨g, 0, none⟩) := by
  obtain ⟨_, ⟨rfl, h0⟩ | ⟨g, cap, cur, rfl, _, _, hnc, hc, _⟩⟩ := h
  · exact ⟨none, 0, by rw [h0], by rw [h0]; exact Nat.zero_le _, fun h => by omega⟩
  · exact ⟨_, _, rfl, Nat.le_trans hnc hc, fun _ => ⟨g, rfl⟩⟩
set_option maxHeartbeats 1000000 in
set_option maxRecDepth 100000 in
theorem markIntS_f (B : Nat) (v : Value) (l : List Int) (k : Nat) (w : World) (hv : OwnI w B v l) (hl : l.length ≤ 2000000) (hk : k ≤ 1000000000) :
    Calls Try.prog 11 #[v, .int .i64 k] w fun e w' => e = .returned (.int .i64 ((k + l.length : Nat) : Int)) ∧ OwnI w' B v (upI k l.length) ∧ w.grownBy w' v.ownBlock := by
  obtain ⟨x, c, rfl, hm, hg⟩ := hv.opened
  unfold maxLen at hm
  obtain ⟨n, hn⟩ : ∃ n, l.length = n := ⟨_, rfl⟩
  have HV : Hid (w.ownsRow B 3 1 (.slice x n c) n (l.flatMap intC)) := by
    have h := hv
    unfold OwnI at h
    rw [hn] at h
    exact h
  have HE : Hid (∀ (W : World) (xs : List Value), W.ownsRow B 3 1 (.slice x n c) n xs → (∀ j, j < n → xs[j]? = some (.int .i64 ((k + j : Nat) : Int))) → OwnI W B (.slice x n c) (upI k n)) := fun W xs h1 h2 => by
    have e := ints_is (l := upI k n) (xs := xs) (by rw [upI_len]; have := h1.1; omega) (fun j z hz => by
      have hj : j < n := by have := (List.getElem?_eq_some_iff.1 hz).1; rw [upI_len] at this; exact this
      rw [upI_at hj] at hz
      injection hz with hz
      rw [← hz]
      exact h2 j hj)
    unfold OwnI
    rw [upI_len, ← e]
    exact h1
  rw [hn] at hm hg hl ⊢
  clear hn hv
  by_cases h0 : n = 0
  · subst h0
    have hE := HE.out w _ HV.out (fun j hj => absurd hj (Nat.not_lt_zero _))
    clear HE HV
    go_enter Try.func11, Try.ntmps11
    go_wp2
    go_loop [1, 5] (fun y i => y = .int .i64 k ∧ i = .int .i64 0) (fun _ _ => 0)
    case atStart => exact ⟨rfl, rfl⟩
    case round =>
      obtain ⟨rfl, rfl⟩ := hrel
      go_wp2
      go_ret
      exact ⟨rfl, hE, grown_same _ _⟩
  · obtain ⟨g, rfl⟩ := hg (by omega)
    go_enter Try.func11, Try.ntmps11
    go_wp2
    go_loopw [1, 5] (fun y i wr => ∃ (j : Nat) (xs : List Value), j ≤ n ∧ y = .int .i64 ((k + j : Nat) : Int) ∧ i = .int .i64 j ∧ Hid (∀ q, q < j → xs[q]? = some (.int .i64 ((k + q : Nat) : Int))) ∧ Hid (wr.ownsRow B 3 1 (.slice (some ⟨g, 0, none⟩) n c) n xs) ∧ w.grownBy wr (some g)) (fun _ i _ => n - (intOf i).toNat)
    case atStart => exact ⟨0, _, Nat.zero_le _, rfl, rfl, fun q hq => absurd hq (Nat.not_lt_zero _), HV, grown_same _ _⟩
    case round =>
      obtain ⟨j, xs, hj, rfl, rfl, HY, HO, hgr⟩ := hrel
      by_cases hlt : j < n
      · have hji : (j : Int) < (n : Int) := by omega
        have hj0 : (0 : Int) ≤ (j : Int) := by omega
        obtain ⟨⟨u, hu⟩, hfz⟩ := row_cell HO.out j (by omega)
        have hxl : xs.length = n := by have := HO.out.1; omega
        have HS : Hid ((wr.setCell ⟨g, j, none⟩ (.int .i64 ((k + j : Nat) : Int))).ownsRow B 3 1 (.slice (some ⟨g, 0, none⟩) n c) n (xs.set j (.int .i64 ((k + j : Nat) : Int))) ∧ w.grownBy (wr.setCell ⟨g, j, none⟩ (.int .i64 ((k + j : Nat) : Int))) (some g)) := ⟨(HO.out.stored j _).1, hgr.trans (HO.out.stored j _).2⟩
        have HY2 : Hid (∀ q, q < j + 1 → (xs.set j (.int .i64 ((k + j : Nat) : Int)))[q]? = some (.int .i64 ((k + q : Nat) : Int))) := fun q hq => by
          by_cases e : q = j
          · subst e; rw [List.getElem?_set_self (by omega)]
          · rw [List.getElem?_set_ne (by omega)]; exact HY.out q (by omega)
        have e0 : (((k + j : Nat) : Nat) : Int) = (k : Int) + (j : Int) := by omega
        rw [e0] at HS HY2
        clear HY HO HE HV
        go_wp2
        go_roundw
        case rel => exact ⟨j + 1, _, by omega, by go_num, by go_num, HY2, HS.out.1, HS.out.2⟩
        case measure => simp [intOf]; omega
      · have e : j = n := by omega
        subst e
        have hE := HE.out wr xs HO.out HY.out
        clear HY HO HE HV
        go_wp2
        go_ret
        exact ⟨rfl, hE, hgr⟩
set_option maxHeartbeats 1000000 in
set_option maxRecDepth 100000 in
theorem heldIntS_f (v : Value) (n k : Nat) (w : World) (hv : ArgI w v (upI k n)) (hl : n ≤ 2000000) (hk : k ≤ 1000000000) :
    Calls Try.prog 12 #[v, .int .i64 k] w fun e w' => e = .returned (.int .i64 ((k + n : Nat) : Int)) ∧ w = w' := by
  obtain ⟨x, c, rfl, hm, hc⟩ := hv.opened
  clear hv
  rw [upI_len] at hm hc ⊢
  unfold maxLen at hm
  have HC : Hid (0 < n → ∃ b o, x = some ⟨b, o, none⟩ ∧ b < w.heap.size ∧ ∀ j, j < n → w.cell? ⟨b, o + j, none⟩ = some (.int .i64 ((k + j : Nat) : Int))) := fun h0 => by
    obtain ⟨b, o, e, hb, h⟩ := hc h0
    exact ⟨b, o, e, hb, fun j hj => h j _ (upI_at hj)⟩
  clear hc
  go_enter Try.func12, Try.ntmps12
  go_wp2
  go_loop [1, 5] (fun y i => ∃ j : Nat, j ≤ n ∧ y = .int .i64 ((k + j : Nat) : Int) ∧ i = .int .i64 j) (fun _ i => n - (intOf i).toNat)
  case atStart => exact ⟨0, Nat.zero_le _, rfl, rfl⟩
  case round =>
    obtain ⟨j, hj, rfl, rfl⟩ := hrel
    by_cases hlt : j < n
    · obtain ⟨b, o, rfl, hb, hcell⟩ := HC.out (by omega)
      have h1 := hcell j hlt
      have e0 : (((k + j : Nat) : Nat) : Int) = (k : Int) + (j : Int) := by omega
      rw [e0] at h1
      have hji : (j : Int) < (n : Int) := by omega
      have hj0 : (0 : Int) ≤ (j : Int) := by omega
      clear hcell HC
      go_wp2
      go_round
      case rel => exact ⟨j + 1, by omega, by go_num, by go_num⟩
      case measure => simp [intOf]; omega
    · have e : j = n := by omega
      subst e
      go_wp2
      go_ret
      exact ⟨rfl, rfl⟩
end Go.Proofs.Ytkmmojpfcklocaa
namespace Go.Proofs.Ytkmmojpfcklocaa
open Go.RowKit
set_option linter.unusedVariables false
def jumpsTo (t : Nat) (i : PIns) : Bool := (decide (12 ≤ i.op) && decide (i.op ≤ 14)) && decide (i.a = (t : Int))
def hasJ (l : List PIns) (t : Nat) : Bool := l.any (jumpsTo t)
def jumpsN (l : List PIns) (n : Nat) : List Int := ((List.range n).filter (hasJ l)).map fun (t : Nat) => (t : Int)
def codeIn (p : PImg) (k : Int) : List PIns := match p.funcs[k.toNat]? with
  | some f => f.code
  | none => []
def jumpsL (p : PImg) (k : Int) : List Int := if imgOk p = true ∧ 0 ≤ k ∧ k < (p.funcs.length : Int) then jumpsN (codeIn p k) 301 else []
theorem jumpsN_yes {l : List PIns} {n : Nat} (h : hasJ l n = true) : jumpsN l (n + 1) = jumpsN l n ++ [(n : Int)] := by
  unfold jumpsN
  rw [List.range_succ, List.filter_append, List.map_append, List.filter_cons_of_pos h]
  rfl
theorem jumpsN_no {l : List PIns} {n : Nat} (h : hasJ l n = false) : jumpsN l (n + 1) = jumpsN l n := by
  unfold jumpsN
  rw [List.range_succ, List.filter_append, List.map_append, List.filter_cons_of_neg (by rw [h]; decide)]
  simp
theorem jumpsN_len (l : List PIns) (n : Nat) : (jumpsN l n).length ≤ n := by
  unfold jumpsN
  rw [List.length_map]
  exact Nat.le_trans (List.length_filter_le _ _) (by rw [List.length_range]; exact Nat.le_refl _)
theorem jumpsL_len (p : PImg) (k : Int) : (jumpsL p k).length ≤ 301 := by
  unfold jumpsL
  split
  · exact jumpsN_len _ _
  · exact Nat.zero_le _
theorem hasJ_take {l : List PIns} {t i : Nat} {x : PIns} (h : l[i]? = some x) : hasJ (l.take (i + 1)) t = (hasJ (l.take i) t || jumpsTo t x) := by
  unfold hasJ
  rw [List.take_add_one, h, List.any_append]
  simp
theorem jumpsL_no {p : PImg} {k : Int} (h : ¬ (imgOk p = true ∧ 0 ≤ k ∧ k < (p.funcs.length : Int))) : jumpsL p k = [] := if_neg h
theorem jumpsL_yes {p : PImg} {k : Nat} {f : PFun} (h1 : imgOk p = true) (h2 : p.funcs[k]? = some f) : jumpsL p (k : Int) = jumpsN f.code 301 := by
  have h3 : k < p.funcs.length := (List.getElem?_eq_some_iff.1 h2).1
  unfold jumpsL codeIn
  rw [if_pos ⟨h1, by omega, by omega⟩, Int.toNat_natCast, h2]
end Go.Proofs.Ytkmmojpfcklocaa
namespace Go.Proofs.Ytkmmojpfcklocaa
open Go.RowKit Go.Sort
set_option linter.unusedVariables false
theorem empty_is {s : ByteArray} (h : s.size = 0) : s = ⟨#[]⟩ := by
  obtain ⟨d⟩ := s
  have : d = #[] := Array.eq_empty_of_size_eq_zero h
  rw [this]
theorem full_text {s : ByteArray} (h : ¬ s.size = 0) : s.toList.isEmpty = false := by
  rw [ByteArray.toList_eq, List.isEmpty_eq_false_iff]
  intro e
  apply h
  show s.data.size = 0
  rw [← Array.length_toList, e]
  rfl
set_option maxHeartbeats 1000000 in
set_option maxRecDepth 100000 in
theorem specConstOk_any (p : PCon) (w : World) (hp : conW p) :
    Calls Try.prog 29 #[.agg #[.int .i64 p.kind, .int .u64 (p.num : Int), .string p.text]] w fun e w' => e = .returned (.bool (conOk p)) ∧ Below w.heap.size w w' := by
  have hx := hp.2.1
  have hs := hp.2.2
  clear hp
  have HF0 : conOk p = (if p.kind = 1 then decide (p.text.size = 0) && (decide (kindN p.num ≠ 1) || decide (p.num = 9221120237041090560)) else if p.kind = 2 then decide (p.num = 0) && decide (p.text.size ≤ 40) else if p.kind = 3 ∨ p.kind = 4 ∨ p.kind = 5 then decide (p.num = 0) && decide (p.text.size = 0) else false) := rfl
  obtain ⟨F, hF⟩ : ∃ F, conOk p = F := ⟨_, rfl⟩
  obtain ⟨k, hk⟩ : ∃ k, p.kind = k := ⟨_, rfl⟩
  obtain ⟨x, hxx⟩ : ∃ x, p.num = x := ⟨_, rfl⟩
  obtain ⟨s, hss⟩ : ∃ s, p.text = s := ⟨_, rfl⟩
  rw [hF, hk, hxx, hss] at HF0
  rw [hF, hk, hxx, hss]
  rw [hxx] at hx
  rw [hss] at hs
  have HF : Hid _ := HF0
  clear hF hk hxx hss HF0 p
  unfold maxLen at hs
  have cN := fun W => l03Nan_any x W hx
  obtain ⟨bn, en⟩ : ∃ b, decide (kindN x = 1) = b := ⟨_, rfl⟩
  simp only [en] at cN
  have HE : Hid (decide (kindN x = 1) = bn) := en
  clear en hx
  have b0 : ∀ cs t, Below w.heap.size w (w.alloc (.cells cs t)) := fun cs t => (Below.refl _ _).alloc (Nat.le_refl _) _
  have hse : ¬ s.size = 0 → s.toList.isEmpty = false := full_text
  by_cases k1 : k = 1
  · subst k1
    by_cases z : s.size = 0
    · have es := empty_is z
      subst es
      cases bn with
      | false =>
        have hF : F = true := by
          rw [HF.out, if_pos rfl, decide_eq_true z]
          have := of_decide_eq_false HE.out
          simp [this]
        subst hF
        clear HF HE hse
        go_enter Try.func29, Try.ntmps29
        go_wp2_with (go_at_call 46; refine (cN _).mono ?_; rintro e w' ⟨rfl, hb⟩)
        go_ret
        exact ⟨rfl, chain (b0 _ _) hb⟩
      | true =>
        have hK : kindN x = 1 := of_decide_eq_true HE.out
        by_cases hN : x = 9221120237041090560
        · have hF : F = true := by
            rw [HF.out, if_pos rfl, decide_eq_true z, decide_eq_true hN]
            simp
          subst hF
          have HN : ((x : Int) == 9221120237041090560) = true := by rw [hN]; rfl
          clear HF HE hse hK hN
          go_enter Try.func29, Try.ntmps29
          go_wp2_with (go_at_call 46; refine (cN _).mono ?_; rintro e w' ⟨rfl, hb⟩; have q1 := new_cell hb 1 _ rfl)
          go_ret
          exact ⟨rfl, chain (b0 _ _) hb⟩
        · have hF : F = false := by
            rw [HF.out, if_pos rfl, decide_eq_true z, decide_eq_false hN]
            simp [hK]
          subst hF
          have HN : ((x : Int) == 9221120237041090560) = false := by rw [beq_eq_false_iff_ne]; omega
          clear HF HE hse hK hN
          go_enter Try.func29, Try.ntmps29
          go_wp2_with (go_at_call 46; refine (cN _).mono ?_; rintro e w' ⟨rfl, hb⟩; have q1 := new_cell hb 1 _ rfl)
          go_ret
          exact ⟨rfl, chain (b0 _ _) hb⟩
    · have hF : F = false := by rw [HF.out, if_pos rfl, decide_eq_false z]; rfl
      subst hF
      have hne := hse z
      clear HF HE hse cN
      go_enter Try.func29, Try.ntmps29
      go_wp2
      go_ret
      exact ⟨rfl, b0 _ _⟩
  by_cases k2 : k = 2
  · subst k2
    by_cases hx0 : x = 0
    · subst hx0
      by_cases z : s.size ≤ 40
      · have hF : F = true := by rw [HF.out, if_neg (by decide), if_pos rfl, decide_eq_true z]; rfl
        subst hF
        have zi : (s.size : Int) ≤ 40 := by omega
        clear HF HE hse cN
        go_enter Try.func29, Try.ntmps29
        go_wp2
        go_ret
        exact ⟨rfl, b0 _ _⟩
      · have hF : F = false := by rw [HF.out, if_neg (by decide), if_pos rfl, decide_eq_false z]; rfl
        subst hF
        have zi : ¬ (s.size : Int) ≤ 40 := by omega
        clear HF HE hse cN
        go_enter Try.func29, Try.ntmps29
        go_wp2
        go_ret
        exact ⟨rfl, b0 _ _⟩
    · have hF : F = false := by rw [HF.out, if_neg (by decide), if_pos rfl, decide_eq_false hx0]; rfl
      subst hF
      have zi : ((x : Int) == 0) = false := by rw [beq_eq_false_iff_ne]; omega
      clear HF HE hse cN
      go_enter Try.func29, Try.ntmps29
      go_wp2
      go_ret
      exact ⟨rfl, b0 _ _⟩
  by_cases k3 : k = 3 ∨ k = 4 ∨ k = 5
  · have HF1 : Hid (F = (decide (x = 0) && decide (s.size = 0))) := by
      have h := HF.out
      rw [if_neg k1, if_neg k2, if_pos k3] at h
      exact h
    clear HF HE cN k1 k2
    by_cases hx0 : x = 0
    · subst hx0
      by_cases z : s.size = 0
      · have es := empty_is z
        subst es
        have hF : F = true := by rw [HF1.out]; rfl
        subst hF
        clear HF1 hse
        rcases k3 with rfl | rfl | rfl
        all_goals
          go_enter Try.func29, Try.ntmps29
          go_wp2
          go_ret
          exact ⟨rfl, b0 _ _⟩
      · have hF : F = false := by rw [HF1.out, decide_eq_false z]; rfl
        subst hF
        have hne := hse z
        clear HF1 hse
        rcases k3 with rfl | rfl | rfl
        all_goals
          go_enter Try.func29, Try.ntmps29
          go_wp2
          go_ret
          exact ⟨rfl, b0 _ _⟩
    · have hF : F = false := by rw [HF1.out, decide_eq_false hx0]; rfl
      subst hF
      have zi : ((x : Int) == 0) = false := by rw [beq_eq_false_iff_ne]; omega
      clear HF1 hse
      rcases k3 with rfl | rfl | rfl
      all_goals
        go_enter Try.func29, Try.ntmps29
        go_wp2
        go_ret
        exact ⟨rfl, b0 _ _⟩
  have hF : F = false := by rw [HF.out, if_neg k1, if_neg k2, if_neg k3]
  subst hF
  have k3a : ¬ k = 3 := fun h => k3 (.inl h)
  have k4a : ¬ k = 4 := fun h => k3 (.inr (.inl h))
  have k5a : ¬ k = 5 := fun h => k3 (.inr (.inr h))
  clear HF HE cN hse k3
  go_enter Try.func29, Try.ntmps29
  go_wp2
  go_ret
  exact ⟨rfl, b0 _ _⟩
end Go.Proofs.Ytkmmojpfcklocaa
namespace Go.Proofs.Ytkmmojpfcklocaa
open Go.RowKit Go.Sort
set_option linter.unusedVariables false
def firstOk (l : List PFun) : Bool := match l with | [] => false | f :: _ => decide (f.params = 0) && decide (f.caps.length = 0)
set_option maxHeartbeats 1000000 in
set_option maxRecDepth 100000 in
theorem specImageOk_any (p : PImg) (fv cv : Value) (w : World) (h : ArgImg w fv cv p) (hw : imgW p) :
    Calls Try.prog 15 #[.agg #[fv, cv]] w fun e w' => e = .returned (.bool (imgOk p)) ∧ Below w.heap.size w w' := by
  obtain ⟨hF, hC⟩ := h
  obtain ⟨x1, c1, rfl, m1, o1⟩ := hF
  obtain ⟨x2, c2, rfl, m2, o2⟩ := hC.opened conC_len
  have HW : Hid (∀ x ∈ p.consts, conW x) := hw.consts
  clear hC hw
  unfold maxLen at m1 m2
  obtain ⟨n1, e1⟩ : ∃ n, p.funcs.length = n := ⟨_, rfl⟩
  obtain ⟨n2, e2⟩ : ∃ n, p.consts.length = n := ⟨_, rfl⟩
  have HF0 : imgOk p = (inB n1 1 16 && (decide (n2 ≤ 40) && (p.consts.all conOk && (p.funcs.all funOk && firstOk p.funcs)))) := by unfold imgOk; rw [e1, e2]; rfl
  obtain ⟨F, hF⟩ : ∃ F, imgOk p = F := ⟨_, rfl⟩
  rw [hF] at HF0 ⊢
  rw [e1] at m1 o1 ⊢
  rw [e2] at m2 o2 ⊢
  have H1 : Hid (0 < n1 → ∃ b o, x1 = some ⟨b, o, none⟩ ∧ b < w.heap.size ∧ ∀ j q, p.funcs[j]? = some q → ∃ cv kv hv, FunAt w b (o + j * 5) q cv kv hv) := o1
  have H2 : Hid (0 < n2 → ∃ b o, x2 = some ⟨b, o, none⟩ ∧ b < w.heap.size ∧ ∀ j q, p.consts[j]? = some q → ∀ c u, (conC q)[c]? = some u → w.cell? ⟨b, o + j * 3 + c, none⟩ = some u) := o2
  have E1 : Hid (p.funcs.length = n1) := e1
  have E2 : Hid (p.consts.length = n2) := e2
  clear o1 o2 e1 e2 hF
  have cP := fun W => l01In_b n1 1 16 W
  obtain ⟨bP, eP⟩ : ∃ b, inB n1 1 16 = b := ⟨_, rfl⟩
  have HP : Hid (inB n1 1 16 = bP) := eP
  simp only [eP] at cP HF0
  have HF : Hid (F = (bP && (decide (n2 ≤ 40) && (p.consts.all conOk && (p.funcs.all funOk && firstOk p.funcs))))) := HF0
  clear eP HF0
  cases bP with
  | false =>
    have hF : F = false := by rw [HF.out]; rfl
    subst hF
    clear HF H1 H2 E1 E2 HP
    go_enter Try.func15, Try.ntmps15
    go_wp2_with (go_at_call 16; with_reducible refine (cP _).mono ?_; rintro e w' ⟨rfl, rfl⟩)
    go_ret
    exact ⟨rfl, (Below.refl _ _).alloc (Nat.le_refl _) _⟩
  | true =>
  by_cases hn2 : n2 ≤ 40
  case neg =>
    have hF : F = false := by rw [HF.out, decide_eq_false hn2]; rfl
    subst hF
    clear HF H1 H2 E1 E2 HP
    have hx : (40 : Int) < (n2 : Int) := by omega
    go_enter Try.func15, Try.ntmps15
    go_wp2_with (go_at_call 16; with_reducible refine (cP _).mono ?_; rintro e w' ⟨rfl, rfl⟩)
    go_ret
    exact ⟨rfl, (Below.refl _ _).alloc (Nat.le_refl _) _⟩
  have hx2 : ¬ (40 : Int) < (n2 : Int) := by omega
  have hpos : 0 < n1 := by
    have h := HP.out
    unfold inB at h
    simp only [Bool.and_eq_true, decide_eq_true_eq] at h
    omega
  have HF1 : Hid (F = (p.consts.all conOk && (p.funcs.all funOk && firstOk p.funcs))) := by
    have h := HF.out
    rw [decide_eq_true hn2] at h
    exact h
  clear HF HP
  have b0 : Below w.heap.size w (w.alloc (.cells #[.slice x1 n1 c1, .slice x2 n2 c2] 32)) := (Below.refl _ _).alloc (Nat.le_refl _) _
  have k1 := fun W (h : Below _ _ W) => new_cell (w := w) (cs := #[.slice x1 n1 c1, .slice x2 n2 c2]) (t := 32) h 0 _ rfl
  have k2 := fun W (h : Below _ _ W) => new_cell (w := w) (cs := #[.slice x1 n1 c1, .slice x2 n2 c2]) (t := 32) h 1 _ rfl
  obtain ⟨W0, hW0⟩ : ∃ W, w.alloc (.cells #[.slice x1 n1 c1, .slice x2 n2 c2] 32) = W := ⟨_, rfl⟩
  rw [hW0] at b0 k1 k2
  have HW0 : Hid (w.alloc (.cells #[.slice x1 n1 c1, .slice x2 n2 c2] 32) = W0) := hW0
  clear hW0
  go_enter Try.func15, Try.ntmps15
  go_upto_region 3 with (go_at_call 16; with_reducible refine (cP _).mono ?_; rintro e w' ⟨rfl, rfl⟩)
  rw [HW0.out]
  clear HW0 cP hx2 hn2
  go_wp2
  go_loopw [3] (fun i wr => ∃ k : Nat, k ≤ n2 ∧ i = .int .i64 k ∧ Hid (∀ j q, j < k → p.consts[j]? = some q → conOk q = true) ∧ Below W0.heap.size W0 wr) (fun i _ => n2 - (intOf i).toNat)
  case atStart => exact ⟨0, Nat.zero_le _, rfl, fun j q hj => absurd hj (Nat.not_lt_zero _), Below.refl _ _⟩
  case round =>
    obtain ⟨k, hk, rfl, HA, hb⟩ := hrel
    have s2 := k2 wr hb
    by_cases hkn : k < n2
    · obtain ⟨b, o, rfl, hbz, hcell⟩ := H2.out (by omega)
      obtain ⟨q, hq⟩ : ∃ q, p.consts[k]? = some q := ⟨_, List.getElem?_eq_getElem (by have := E2.out; omega)⟩
      have g0 : wr.cell? ⟨b, o + k * 3, none⟩ = some (.int .i64 q.kind) := ((chain b0 hb).cell hbz).trans (hcell k q hq 0 _ rfl)
      have g1 : wr.cell? ⟨b, o + k * 3 + 1, none⟩ = some (.int .u64 (q.num : Int)) := ((chain b0 hb).cell hbz).trans (hcell k q hq 1 _ rfl)
      have g2 : wr.cell? ⟨b, o + k * 3 + 2, none⟩ = some (.string q.text) := ((chain b0 hb).cell hbz).trans (hcell k q hq 2 _ rfl)
      have hki : (k : Int) < (n2 : Int) := by omega
      have hk0 : (0 : Int) ≤ (k : Int) := by omega
      have cI := fun W => specConstOk_any q W (HW.out q (List.mem_iff_getElem?.2 ⟨_, hq⟩))
      obtain ⟨bI, eI⟩ : ∃ b, conOk q = b := ⟨_, rfl⟩
      simp only [eI] at cI
      have HI : Hid (conOk q = bI) := eI
      have HQ : Hid (p.consts[k]? = some q) := hq
      clear hcell eI hq
      cases bI with
      | false =>
        have hF : F = false := by rw [HF1.out, all_no HQ.out HI.out]; rfl
        subst hF
        clear H1 H2 k1 k2
        go_wp2_with (go_at_call 29; with_reducible refine (cI _).mono ?_; rintro e w' ⟨rfl, hb1⟩)
        go_ret
        exact ⟨rfl, chain (chain b0 hb) hb1⟩
      | true =>
        go_wp2_with (go_at_call 29; with_reducible refine (cI _).mono ?_; rintro e w' ⟨rfl, hb1⟩)
        go_roundw
        case rel => exact ⟨k + 1, by omega, by go_num, all_more HA.out HQ.out HI.out, chain hb hb1⟩
        case measure => simp [intOf]; omega
    · have hall : p.consts.all conOk = true := all_yes (n := k) (by have := E2.out; omega) HA.out
      have HF2 : Hid (F = (p.funcs.all funOk && firstOk p.funcs)) := by
        have h := HF1.out
        rw [hall] at h
        exact h
      clear HF1 hall HA H2 k2
      go_wp2
      go_loopw [4] (fun i wr => ∃ k : Nat, k ≤ n1 ∧ i = .int .i64 k ∧ Hid (∀ j q, j < k → p.funcs[j]? = some q → funOk q = true) ∧ Below W0.heap.size W0 wr) (fun i _ => n1 - (intOf i).toNat)
      case atStart => exact ⟨0, Nat.zero_le _, rfl, fun j q hj => absurd hj (Nat.not_lt_zero _), hb⟩
      case round =>
        clear hb hk hkn
        obtain ⟨k, hk, rfl, HA, hb⟩ := hrel
        have s2 := k1 _ hb
        by_cases hkn : k < n1
        · obtain ⟨b, o, rfl, hbz, hcell⟩ := H1.out (by omega)
          obtain ⟨q, hq⟩ : ∃ q, p.funcs[k]? = some q := ⟨_, List.getElem?_eq_getElem (by have := E1.out; omega)⟩
          obtain ⟨cv, kv, hv, hA⟩ := hcell k q hq
          have hA' := hA.below (chain b0 hb)
          have g0 := hA'.c0
          have g1 := hA'.c1
          have g2 := hA'.c2
          have g3 := hA'.c3
          have g4 := hA'.c4
          have hki : (k : Int) < (n1 : Int) := by omega
          have hk0 : (0 : Int) ≤ (k : Int) := by omega
          have cI := l13Func_any q cv kv hv wr hA'.caps hA'.code hA'.hnds
          obtain ⟨bI, eI⟩ : ∃ b, funOk q = b := ⟨_, rfl⟩
          simp only [eI] at cI
          have HI : Hid (funOk q = bI) := eI
          have HQ : Hid (p.funcs[k]? = some q) := hq
          clear hcell eI hq hA hA'
          cases bI with
          | false =>
            have hF : F = false := by rw [HF2.out, all_no HQ.out HI.out]; rfl
            subst hF
            clear H1 k1
            go_wp2_with (go_at_call 30; with_reducible refine cI.mono ?_; rintro e w' ⟨rfl, hb1⟩)
            go_ret
            exact ⟨rfl, chain (chain b0 hb) hb1⟩
          | true =>
            go_wp2_with (go_at_call 30; with_reducible refine cI.mono ?_; rintro e w' ⟨rfl, hb1⟩)
            go_roundw
            case rel => exact ⟨k + 1, by omega, by go_num, all_more HA.out HQ.out HI.out, chain hb hb1⟩
            case measure => simp [intOf]; omega
        · have hall : p.funcs.all funOk = true := all_yes (n := k) (by have := E1.out; omega) HA.out
          have HF3 : Hid (F = firstOk p.funcs) := by
            have h := HF2.out
            rw [hall] at h
            exact h
          clear HF2 hall HA
          obtain ⟨b, o, rfl, hbz, hcell⟩ := H1.out hpos
          obtain ⟨q, hq⟩ : ∃ q, p.funcs[0]? = some q := ⟨_, List.getElem?_eq_getElem (by have := E1.out; omega)⟩
          obtain ⟨cv, kv, hv, hA⟩ := hcell 0 q hq
          have hA' := hA.below (chain b0 hb)
          obtain ⟨cx, cc, rfl, _, _⟩ := hA'.caps.opened capC_len
          have g0 := hA'.c0
          have g2 := hA'.c2
          have e0 : o + 0 * 5 = o := by omega
          rw [e0] at g0 g2
          have hq1 : firstOk p.funcs = (decide (q.params = 0) && decide (q.caps.length = 0)) := by
            revert hq
            cases p.funcs with
            | nil => intro h; simp at h
            | cons f r =>
              intro h
              simp at h
              subst h
              rfl
          rw [hq1] at HF3
          have hp0 : (0 : Int) < (n1 : Int) := by omega
          obtain ⟨P, hP⟩ : ∃ x, q.params = x := ⟨_, rfl⟩
          obtain ⟨M, hM⟩ : ∃ x, q.caps.length = x := ⟨_, rfl⟩
          rw [hP, hM] at HF3
          rw [hP] at g0
          rw [hM] at g2
          clear hP hM hA hA' hcell hq hq1 H1 k1
          by_cases z1 : P = 0
          · subst z1
            by_cases z2 : M = 0
            · subst z2
              have hF : F = true := by rw [HF3.out]; rfl
              subst hF
              clear HF3
              go_wp2
              go_ret
              exact ⟨rfl, chain b0 hb⟩
            · have hF : F = false := by rw [HF3.out, decide_eq_false z2]; rfl
              subst hF
              have z3 : ((M : Int) == 0) = false := by rw [beq_eq_false_iff_ne]; omega
              clear HF3
              go_wp2
              go_ret
              exact ⟨rfl, chain b0 hb⟩
          · have hF : F = false := by rw [HF3.out, decide_eq_false z1]; rfl
            subst hF
            have z3 : (P == 0) = false := by rw [beq_eq_false_iff_ne]; omega
            clear HF3
            go_wp2
            go_ret
            exact ⟨rfl, chain b0 hb⟩
end Go.Proofs.Ytkmmojpfcklocaa
namespace Go.Proofs.Ytkmmojpfcklocaa
open Go.RowKit
set_option linter.unusedVariables false
theorem own_begin20 (w : World) (B : Nat) (e : TypeId) (k : Nat) (hB : B ≤ w.heap.size) : (w.alloc (.cells #[] e)).ownsRow B e k (.slice (some ⟨w.heap.size, 0, none⟩) 0 0) 0 [] :=
  ⟨by simp, .inr ⟨w.heap.size, 0, #[], rfl, hB, heap_alloc_new w _, Nat.le_refl _, Nat.zero_le _, by simp, by simp⟩⟩
end Go.Proofs.Ytkmmojpfcklocaa
