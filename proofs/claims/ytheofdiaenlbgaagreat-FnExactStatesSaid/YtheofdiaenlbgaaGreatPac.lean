/-
  Part 3 of what is proved of drawn right trees.
-/
import Derived.Test.YtheofdiaenlbgaaGreatPaa
import Derived.Test.YtheofdiaenlbgaaGreatPab
import Derived.Deep.QuietTactic
import Derived.BigQuiet
import Derived.Lib.QuietBelow
import Derived.Deep.DeepCutAuto

namespace Go.Proofs.YtheofdiaenlbgaaGreat
open Go.RowKit Go.Sort
set_option linter.unusedVariables false
def intC (x : Int) : List Value := [.int .i64 x]
theorem intC_len (x : Int) : (intC x).length = 1 := rfl
def ArgI (w : World) (v : Value) (l : List Int) : Prop := ArgFlat w v 1 l.length (l.flatMap intC)
theorem ArgI.below {w w' : World} {v : Value} {l : List Int} (h : ArgI w v l) (hb : Below w.heap.size w w') : ArgI w' v l := ArgFlat.below h hb
def OwnI (w : World) (B : Nat) (v : Value) (l : List Int) : Prop := w.ownsRow B 3 1 v l.length (l.flatMap intC)
theorem OwnI.below {w w' : World} {B : Nat} {v : Value} {l : List Int} (h : OwnI w B v l) (hb : Below w.heap.size w w') : OwnI w' B v l := row_keep h hb
theorem OwnI.arg {w : World} {B : Nat} {v : Value} {l : List Int} (h : OwnI w B v l) : ArgI w v l := ArgFlat.of_own h
theorem Tryz.info13I : (Tryz.prog.info? 3).map (fun i => (i.zero, i.size, i.bytes)) = some (some (.int .i64 0), 1, 8) := by kernel_rfl
theorem int_at {l : List Int} {j : Nat} {z : Int} (h : l[j]? = some z) : (l.flatMap intC)[j]? = some (.int .i64 z) := by
  have := flat_at intC_len l j 0 z _ h rfl
  rwa [Nat.mul_one, Nat.add_zero] at this
theorem ints_is {l : List Int} {xs : List Value} (hl : xs.length = l.length) (h : ∀ (j : Nat) (z : Int), l[j]? = some z → xs[j]? = some (.int .i64 z)) : xs = l.flatMap intC :=
  flat_ext intC_len (by decide) l xs (by omega) (fun j p c u hp hu => by
    have hc : c < 1 := (List.getElem?_eq_some_iff.1 hu).1
    have e : c = 0 := by omega
    subst e
    simp [intC] at hu
    subst hu
    rw [Nat.mul_one, Nat.add_zero]
    exact h j p hp)
theorem ArgI.opened {w : World} {v : Value} {l : List Int} (h : ArgI w v l) : ∃ x c, v = .slice x l.length c ∧ l.length ≤ maxLen ∧ (0 < l.length → ∃ b o, x = some ⟨b, o, none⟩ ∧ b < w.heap.size ∧ ∀ (j : Nat) (z : Int), l[j]? = some z → w.cell? ⟨b, o + j, none⟩ = some (.int .i64 z)) := by
  obtain ⟨x, c, e, hm, hl, hc⟩ := h
  refine ⟨x, c, e, hm, fun h0 => ?_⟩
  obtain ⟨b, o, e1, h1, h2⟩ := hc h0
  exact ⟨b, o, e1, h1, fun j z hz => h2 j _ (int_at hz)⟩
set_option maxHeartbeats 1000000 in
set_option maxRecDepth 100000 in
theorem eqIntS_f (a b : Value) (ls ms : List Int) (w : World) (ha : ArgI w a ls) (hb : ArgI w b ms) :
    Calls Tryz.prog 53 #[a, b] w fun e w' => e = .returned (.bool (decide (ls = ms))) ∧ Below w.heap.size w w' := by
  obtain ⟨xa, ca, rfl, hm, oa⟩ := ha.opened
  obtain ⟨xb, cb, rfl, hm', ob⟩ := hb.opened
  clear ha hb
  unfold maxLen at hm hm'
  obtain ⟨n, hn⟩ : ∃ n, ls.length = n := ⟨_, rfl⟩
  obtain ⟨m, hmm⟩ : ∃ m, ms.length = m := ⟨_, rfl⟩
  have HN : Hid (ls.length = n) := hn
  have HM : Hid (ms.length = m) := hmm
  rw [hn] at hm oa ⊢
  rw [hmm] at hm' ob ⊢
  obtain ⟨F, hF⟩ : ∃ F, decide (ls = ms) = F := ⟨_, rfl⟩
  rw [hF]
  have HF : Hid (decide (ls = ms) = F) := hF
  clear hn hmm hF
  by_cases hnm : n = m
  case neg =>
    have hf : F = false := by
      rw [← HF.out]
      apply decide_eq_false
      intro e
      apply hnm
      rw [← HN.out, ← HM.out, e]
    subst hf
    have hne : ((n : Int) == (m : Int)) = false := by rw [beq_eq_false_iff_ne]; omega
    clear oa ob
    go_enter Tryz.func53, Tryz.ntmps53
    go_wp2
    go_ret
    exact ⟨rfl, Below.refl _ _⟩
  subst hnm
  have HA : Hid (0 < n → ∃ b o, xa = some ⟨b, o, none⟩ ∧ b < w.heap.size ∧ ∀ (j : Nat) (z : Int), ls[j]? = some z → w.cell? ⟨b, o + j, none⟩ = some (.int .i64 z)) := oa
  have HB : Hid (0 < n → ∃ b o, xb = some ⟨b, o, none⟩ ∧ b < w.heap.size ∧ ∀ (j : Nat) (z : Int), ms[j]? = some z → w.cell? ⟨b, o + j, none⟩ = some (.int .i64 z)) := ob
  clear oa ob
  go_enter Tryz.func53, Tryz.ntmps53
  go_wp2
  go_loopw [5] (fun i wr => ∃ k : Nat, k ≤ n ∧ i = .int .i64 k ∧ Hid (∀ j, j < k → ls[j]? = ms[j]?) ∧ Below w.heap.size w wr) (fun i _ => n - (intOf i).toNat)
  case atStart => exact ⟨0, Nat.zero_le _, rfl, fun j hj => absurd hj (Nat.not_lt_zero _), Below.refl _ _⟩
  case round =>
    obtain ⟨k, hk, rfl, HS, hbel⟩ := hrel
    by_cases hlt : k < n
    · obtain ⟨ga, sa, rfl, hga, hca⟩ := HA.out (by omega)
      obtain ⟨gb, sb, rfl, hgb, hcb⟩ := HB.out (by omega)
      obtain ⟨y, hy⟩ : ∃ s, ls[k]? = some s := ⟨_, List.getElem?_eq_getElem (by have := HN.out; omega)⟩
      obtain ⟨z, hz⟩ : ∃ s, ms[k]? = some s := ⟨_, List.getElem?_eq_getElem (by have := HM.out; omega)⟩
      have h1 : wr.cell? ⟨ga, sa + k, none⟩ = some (.int .i64 y) := (hbel.cell hga).trans (hca k y hy)
      have h2 : wr.cell? ⟨gb, sb + k, none⟩ = some (.int .i64 z) := (hbel.cell hgb).trans (hcb k z hz)
      have hki : (k : Int) < (n : Int) := by omega
      have hk0 : (0 : Int) ≤ (k : Int) := by omega
      by_cases e : y = z
      · have HS2 : Hid (∀ j, j < k + 1 → ls[j]? = ms[j]?) := fun j hj => by
          rcases Nat.lt_or_ge j k with h' | h'
          · exact HS.out j h'
          · have e3 : j = k := by omega
            subst e3
            rw [hy, hz, e]
        subst e
        clear hca hcb hy hz HS HA HB
        go_wp2
        go_quiet (fail)
        go_wp2
        go_roundw
        case rel => exact ⟨k + 1, by omega, by go_num, HS2, below_drewN hbel _⟩
        case measure => simp [intOf]; omega
      · have hf : F = false := by
          rw [← HF.out]
          apply decide_eq_false
          intro e3
          rw [e3, hz] at hy
          injection hy with hy
          exact e hy.symm
        subst hf
        have hne : (y == z) = false := by rw [beq_eq_false_iff_ne]; exact e
        clear hca hcb hy hz HS HA HB
        go_wp2
        go_quiet (fail)
        go_wp2
        go_ret
        exact ⟨rfl, below_drewN hbel _⟩
    · have hf : F = true := by
        rw [← HF.out]
        apply decide_eq_true
        apply List.ext_getElem?
        intro j
        by_cases hj : j < k
        · exact HS.out j hj
        · rw [List.getElem?_eq_none (by have := HN.out; omega), List.getElem?_eq_none (by have := HM.out; omega)]
      subst hf
      go_wp2
      go_ret
      exact ⟨rfl, hbel⟩
def upI (k n : Nat) : List Int := (List.range n).map fun j => ((k + j : Nat) : Int)
theorem upI_len (k n : Nat) : (upI k n).length = n := by simp [upI]
theorem upI_at {k n j : Nat} (h : j < n) : (upI k n)[j]? = some ((k + j : Nat) : Int) := by
  unfold upI
  rw [List.getElem?_map, List.getElem?_range h]
  rfl
theorem grown_same (w : World) (r : Option Nat) : w.grownBy w r := ⟨rfl, rfl, rfl, Nat.le_refl _, fun _ _ _ => rfl⟩
theorem OwnI.opened {w : World} {B : Nat} {v : Value} {l : List Int} (h : OwnI w B v l) : ∃ x c, v = .slice x l.length c ∧ l.length ≤ maxLen ∧ (0 < l.length → ∃ g, x = some ⟨g, 0, none⟩) := by
  obtain ⟨_, ⟨rfl, h0⟩ | ⟨g, cap, cur, rfl, _, _, hnc, hc, _⟩⟩ := h
  · exact ⟨none, 0, by rw [h0], by rw [h0]; exact Nat.zero_le _, fun h => by omega⟩
  · exact ⟨_, _, rfl, Nat.le_trans hnc hc, fun _ => ⟨g, rfl⟩⟩
set_option maxHeartbeats 1000000 in
set_option maxRecDepth 100000 in
theorem markIntS_f (B : Nat) (v : Value) (l : List Int) (k : Nat) (w : World) (hv : OwnI w B v l) (hl : l.length ≤ 2000000) (hk : k ≤ 1000000000) :
    Calls Tryz.prog 31 #[v, .int .i64 k] w fun e w' => e = .returned (.int .i64 ((k + l.length : Nat) : Int)) ∧ OwnI w' B v (upI k l.length) ∧ w.grownBy w' v.ownBlock := by
  obtain ⟨x, c, rfl, hm, hg⟩ := hv.opened
  unfold maxLen at hm
  obtain ⟨n, hn⟩ : ∃ n, l.length = n := ⟨_, rfl⟩
  have HV : Hid (w.ownsRow B 3 1 (.slice x n c) n (l.flatMap intC)) := by
    have h := hv
    unfold OwnI at h
    rw [hn] at h
    exact h
  have HE : Hid (∀ (W : World) (xs : List Value), W.ownsRow B 3 1 (.slice x n c) n xs → (∀ j, j < n → xs[j]? = some (.int .i64 ((k + j : Nat) : Int))) → OwnI W B (.slice x n c) (upI k n)) := fun W xs h1 h2 => by
    have e := ints_is (l := upI k n) (xs := xs) (by rw [upI_len]; have := h1.1; omega) (fun j z hz => by
      have hj : j < n := by have := (List.getElem?_eq_some_iff.1 hz).1; rw [upI_len] at this; exact this
      rw [upI_at hj] at hz
      injection hz with hz
      rw [← hz]
      exact h2 j hj)
    unfold OwnI
    rw [upI_len, ← e]
    exact h1
  rw [hn] at hm hg hl ⊢
  clear hn hv
  by_cases h0 : n = 0
  · subst h0
    have hE := HE.out w _ HV.out (fun j hj => absurd hj (Nat.not_lt_zero _))
    clear HE HV
    go_enter Tryz.func31, Tryz.ntmps31
    go_wp2
    go_loop [1, 5] (fun y i => y = .int .i64 k ∧ i = .int .i64 0) (fun _ _ => 0)
    case atStart => exact ⟨rfl, rfl⟩
    case round =>
      obtain ⟨rfl, rfl⟩ := hrel
      go_wp2
      go_ret
      exact ⟨rfl, hE, grown_same _ _⟩
  · obtain ⟨g, rfl⟩ := hg (by omega)
    go_enter Tryz.func31, Tryz.ntmps31
    go_wp2
    go_loopw [1, 5] (fun y i wr => ∃ (j : Nat) (xs : List Value), j ≤ n ∧ y = .int .i64 ((k + j : Nat) : Int) ∧ i = .int .i64 j ∧ Hid (∀ q, q < j → xs[q]? = some (.int .i64 ((k + q : Nat) : Int))) ∧ Hid (wr.ownsRow B 3 1 (.slice (some ⟨g, 0, none⟩) n c) n xs) ∧ w.grownBy wr (some g)) (fun _ i _ => n - (intOf i).toNat)
    case atStart => exact ⟨0, _, Nat.zero_le _, rfl, rfl, fun q hq => absurd hq (Nat.not_lt_zero _), HV, grown_same _ _⟩
    case round =>
      obtain ⟨j, xs, hj, rfl, rfl, HY, HO, hgr⟩ := hrel
      by_cases hlt : j < n
      · have hji : (j : Int) < (n : Int) := by omega
        have hj0 : (0 : Int) ≤ (j : Int) := by omega
        obtain ⟨⟨u, hu⟩, hfz⟩ := row_cell HO.out j (by omega)
        have hxl : xs.length = n := by have := HO.out.1; omega
        have HS : Hid ((wr.setCell ⟨g, j, none⟩ (.int .i64 ((k + j : Nat) : Int))).ownsRow B 3 1 (.slice (some ⟨g, 0, none⟩) n c) n (xs.set j (.int .i64 ((k + j : Nat) : Int))) ∧ w.grownBy (wr.setCell ⟨g, j, none⟩ (.int .i64 ((k + j : Nat) : Int))) (some g)) := ⟨(HO.out.stored j _).1, hgr.trans (HO.out.stored j _).2⟩
        have HY2 : Hid (∀ q, q < j + 1 → (xs.set j (.int .i64 ((k + j : Nat) : Int)))[q]? = some (.int .i64 ((k + q : Nat) : Int))) := fun q hq => by
          by_cases e : q = j
          · subst e; rw [List.getElem?_set_self (by omega)]
          · rw [List.getElem?_set_ne (by omega)]; exact HY.out q (by omega)
        have e0 : (((k + j : Nat) : Nat) : Int) = (k : Int) + (j : Int) := by omega
        rw [e0] at HS HY2
        clear HY HO HE HV
        go_wp2
        go_roundw
        case rel => exact ⟨j + 1, _, by omega, by go_num, by go_num, HY2, HS.out.1, HS.out.2⟩
        case measure => simp [intOf]; omega
      · have e : j = n := by omega
        subst e
        have hE := HE.out wr xs HO.out HY.out
        clear HY HO HE HV
        go_wp2
        go_ret
        exact ⟨rfl, hE, hgr⟩
set_option maxHeartbeats 1000000 in
set_option maxRecDepth 100000 in
theorem heldIntS_f (v : Value) (n k : Nat) (w : World) (hv : ArgI w v (upI k n)) (hl : n ≤ 2000000) (hk : k ≤ 1000000000) :
    Calls Tryz.prog 32 #[v, .int .i64 k] w fun e w' => e = .returned (.int .i64 ((k + n : Nat) : Int)) ∧ w = w' := by
  obtain ⟨x, c, rfl, hm, hc⟩ := hv.opened
  clear hv
  rw [upI_len] at hm hc ⊢
  unfold maxLen at hm
  have HC : Hid (0 < n → ∃ b o, x = some ⟨b, o, none⟩ ∧ b < w.heap.size ∧ ∀ j, j < n → w.cell? ⟨b, o + j, none⟩ = some (.int .i64 ((k + j : Nat) : Int))) := fun h0 => by
    obtain ⟨b, o, e, hb, h⟩ := hc h0
    exact ⟨b, o, e, hb, fun j hj => h j _ (upI_at hj)⟩
  clear hc
  go_enter Tryz.func32, Tryz.ntmps32
  go_wp2
  go_loop [1, 5] (fun y i => ∃ j : Nat, j ≤ n ∧ y = .int .i64 ((k + j : Nat) : Int) ∧ i = .int .i64 j) (fun _ i => n - (intOf i).toNat)
  case atStart => exact ⟨0, Nat.zero_le _, rfl, rfl⟩
  case round =>
    obtain ⟨j, hj, rfl, rfl⟩ := hrel
    by_cases hlt : j < n
    · obtain ⟨b, o, rfl, hb, hcell⟩ := HC.out (by omega)
      have h1 := hcell j hlt
      have e0 : (((k + j : Nat) : Nat) : Int) = (k : Int) + (j : Int) := by omega
      rw [e0] at h1
      have hji : (j : Int) < (n : Int) := by omega
      have hj0 : (0 : Int) ≤ (j : Int) := by omega
      clear hcell HC
      go_wp2
      go_round
      case rel => exact ⟨j + 1, by omega, by go_num, by go_num⟩
      case measure => simp [intOf]; omega
    · have e : j = n := by omega
      subst e
      go_wp2
      go_ret
      exact ⟨rfl, rfl⟩
end Go.Proofs.YtheofdiaenlbgaaGreat
namespace Go.Proofs.YtheofdiaenlbgaaGreat
open Go.RowKit
set_option linter.unusedVariables false
theorem cells_five {w : World} {g : Nat} {a0 a1 a2 a3 a4 : Value} {t : TypeId} {r : Nat × Nat} (h : w.heap[g]? = some (.cells #[a0, a1, a2, a3, a4] t r)) :
    w.cell? ⟨g, 0, none⟩ = some a0 ∧ w.cell? ⟨g, 1, none⟩ = some a1 ∧ w.cell? ⟨g, 2, none⟩ = some a2 ∧ w.cell? ⟨g, 3, none⟩ = some a3 ∧ w.cell? ⟨g, 4, none⟩ = some a4 := by
  refine ⟨?_, ?_, ?_, ?_, ?_⟩ <;> (rw [cell_of_row _ _ _ _ _ _ h]; rfl)
theorem five_put {w : World} {g : Nat} {a0 a1 a2 a3 a4 b0 b1 b2 b3 b4 : Value} {t : TypeId} (h : w.heap[g]? = some (.cells #[a0, a1, a2, a3, a4] t)) :
    (((((w.setCell ⟨g, 0, none⟩ b0).setCell ⟨g, 1, none⟩ b1).setCell ⟨g, 2, none⟩ b2).setCell ⟨g, 3, none⟩ b3).setCell ⟨g, 4, none⟩ b4).heap[g]? = some (.cells #[b0, b1, b2, b3, b4] t) := by
  have k0 : (w.setCell ⟨g, 0, none⟩ b0).heap[g]? = some (.cells #[b0, a1, a2, a3, a4] t) := heap_setCell_same _ _ _ _ _ _ h
  have k1 := heap_setCell_same _ _ 1 _ _ b1 k0
  have k2 : _ = some (Obj.cells #[b0, b1, b2, a3, a4] t) := heap_setCell_same _ _ 2 _ _ b2 k1
  have k3 := heap_setCell_same _ _ 3 _ _ b3 k2
  exact heap_setCell_same _ _ 4 _ _ b4 k3
theorem made_three (w : World) (o1 o2 o3 : Obj) : (((w.alloc o1).alloc o2).alloc o3).heap[w.heap.size]? = some o1 ∧ (((w.alloc o1).alloc o2).alloc o3).heap[w.heap.size + 1]? = some o2 ∧ (((w.alloc o1).alloc o2).alloc o3).heap[w.heap.size + 2]? = some o3 ∧ (((w.alloc o1).alloc o2).alloc o3).heap.size = w.heap.size + 3 ∧ Below w.heap.size w (((w.alloc o1).alloc o2).alloc o3) := by
  have z1 : (w.alloc o1).heap.size = w.heap.size + 1 := by simp
  have z2 : ((w.alloc o1).alloc o2).heap.size = w.heap.size + 2 := by simp
  refine ⟨?_, ?_, ?_, by simp, (((Below.refl _ _).alloc (Nat.le_refl _) _).alloc (by simp) _).alloc (by simp; omega) _⟩
  · rw [heap_alloc_old (r := w.heap.size) _ _ (by omega), heap_alloc_old (r := w.heap.size) _ _ (by omega)]
    exact heap_alloc_new _ _
  · rw [heap_alloc_old (r := w.heap.size + 1) _ _ (by omega), ← z1]
    exact heap_alloc_new _ _
  · rw [← z2]
    exact heap_alloc_new _ _
theorem put_field {w0 w1 : World} {G D k : Nat} {i r m m' : Array Value} {ti tr tm : TypeId} {B : Nat} {v : Value} (hD : G + 1 + 1 = D) (h0 : w1.heap[G]? = some (.cells i ti)) (h1 : w1.heap[G + 1]? = some (.cells r tr)) (h2 : w1.heap[D]? = some (.cells m tm)) (hb : Below B w0 w1) (hB : B ≤ G) (hs : D + 1 ≤ w1.heap.size) (hm : m.set! k v = m') :
    (w1.setCell ⟨D, k, none⟩ v).heap[G]? = some (.cells i ti) ∧ (w1.setCell ⟨D, k, none⟩ v).heap[G + 1]? = some (.cells r tr) ∧ (w1.setCell ⟨D, k, none⟩ v).heap[D]? = some (.cells m' tm) ∧ Below B w0 (w1.setCell ⟨D, k, none⟩ v) ∧ D + 1 ≤ (w1.setCell ⟨D, k, none⟩ v).heap.size := by
  refine ⟨(heap_setCell_other w1 ⟨D, k, none⟩ G v (by show G ≠ D; omega)).trans h0, (heap_setCell_other w1 ⟨D, k, none⟩ (G + 1) v (by show G + 1 ≠ D; omega)).trans h1, ?_, hb.setCell (p := ⟨D, k, none⟩) (by show B ≤ D; omega) v, by simp; omega⟩
  rw [← hm]
  exact heap_setCell_same w1 D k _ _ v h2
theorem kept_three {w0 w1 w2 : World} {G D : Nat} {i r m : Array Value} {ti tr tm : TypeId} {B : Nat} (hD : G + 1 + 1 = D) (h0 : w1.heap[G]? = some (.cells i ti)) (h1 : w1.heap[G + 1]? = some (.cells r tr)) (h2 : w1.heap[D]? = some (.cells m tm)) (hb : Below B w0 w1) (hB : B ≤ G) (hs : D + 1 ≤ w1.heap.size) (b : Below w1.heap.size w1 w2) :
    w2.heap[G]? = some (.cells i ti) ∧ w2.heap[G + 1]? = some (.cells r tr) ∧ w2.heap[D]? = some (.cells m tm) ∧ Below B w0 w2 ∧ D + 1 ≤ w2.heap.size :=
  ⟨(b.block G (by omega)).trans h0, (b.block (G + 1) (by omega)).trans h1, (b.block D (by omega)).trans h2, hb.trans (b.mono (by omega)), Nat.le_trans hs b.size⟩
set_option maxHeartbeats 1000000 in
set_option maxRecDepth 100000 in
theorem toFunc_any (p : PFun) (cv kv hv : Value) (w : World) (h2 : ArgFlat w cv 2 p.caps.length (p.caps.flatMap capC)) (h3 : ArgFlat w kv 3 p.code.length (p.code.flatMap insC)) (h4 : ArgFlat w hv 3 p.hnds.length (p.hnds.flatMap hndC)) (hf : p.caps.length ≤ 1048576 ∧ p.code.length ≤ 1048576 ∧ p.hnds.length ≤ 1048576) :
    Calls Tryz.prog 40 #[.agg #[.int .i64 p.params, .int .i64 p.regs, cv, kv, hv]] w fun e w' => ∃ cv' kv' hv', e = .returned (.agg #[.int .i64 p.params, .int .i64 p.regs, cv', kv', hv']) ∧ w'.ownsRow w.heap.size 117 2 cv' p.caps.length (p.caps.flatMap capC) ∧ w'.ownsRow w.heap.size 89 3 kv' p.code.length (p.code.flatMap insC) ∧ w'.ownsRow w.heap.size 92 3 hv' p.hnds.length (p.hnds.flatMap hndC) ∧ Below w.heap.size w w' := by
  have cC := fun W (hb : Below w.heap.size w W) => toCapS_any cv p.caps W (h2.below hb) hf.1
  have cK := fun W (hb : Below w.heap.size w W) => toInsS_any kv p.code W (h3.below hb) hf.2.1
  have cH := fun W (hb : Below w.heap.size w W) => toHandlerS_any hv p.hnds W (h4.below hb) hf.2.2
  clear h2 h3 h4 hf
  go_enter Tryz.func40, Tryz.ntmps40
  go_wp2_with fail
  have T := made_three w (Obj.cells #[Value.int IntKind.i64 p.params, Value.int IntKind.i64 p.regs, cv, kv, hv] 79) (Obj.cells #[Value.int IntKind.i64 0, Value.int IntKind.i64 0, Value.slice none 0 0, Value.slice none 0 0, Value.slice none 0 0] 61) (Obj.cells #[Value.int IntKind.i64 p.params, Value.int IntKind.i64 p.regs, Value.slice none 0 0, Value.slice none 0 0, Value.slice none 0 0] 61)
  obtain ⟨W3, hW3⟩ : ∃ W, (((w.alloc (Obj.cells #[Value.int IntKind.i64 p.params, Value.int IntKind.i64 p.regs, cv, kv, hv] 79)).alloc (Obj.cells #[Value.int IntKind.i64 0, Value.int IntKind.i64 0, Value.slice none 0 0, Value.slice none 0 0, Value.slice none 0 0] 61)).alloc (Obj.cells #[Value.int IntKind.i64 p.params, Value.int IntKind.i64 p.regs, Value.slice none 0 0, Value.slice none 0 0, Value.slice none 0 0] 61)) = W := ⟨_, rfl⟩
  rw [hW3] at T ⊢
  clear hW3
  obtain ⟨t0, t1, t2, tz, tb⟩ := T
  obtain ⟨G, hG⟩ : ∃ G, w.heap.size = G := ⟨_, rfl⟩
  obtain ⟨D, hD⟩ : ∃ D, G + 1 + 1 = D := ⟨_, rfl⟩
  rw [hG] at t0 t1 tz
  rw [show w.heap.size + 2 = D by omega] at t2
  have hsz : D + 1 ≤ W3.heap.size := by omega
  have HG : Hid (w.heap.size = G) := hG
  have hB : w.heap.size ≤ G := by omega
  clear tz
  refine (cC W3 tb).mono ?_
  rintro e w1 ⟨v1, rfl, own1, b1⟩
  obtain ⟨x1, y1, rfl⟩ := row_slice own1
  obtain ⟨u0, u1, u2, ub, us⟩ := kept_three hD t0 t1 t2 tb hB hsz b1
  have own1' : w1.ownsRow (D + 1) 117 2 (.slice x1 p.caps.length y1) p.caps.length (p.caps.flatMap capC) := row_low own1 hsz
  obtain ⟨d0, d1, d2, d3, d4⟩ := cells_five u0
  obtain ⟨e0, e1, e2, e3, e4⟩ := cells_five u2
  have fD := fun j => frozen_of_row w1 D j _ _ u2
  obtain ⟨s0, s1, s2, sb, ss⟩ := put_field (k := 2) (v := .slice x1 p.caps.length y1) (m' := #[.int .i64 p.params, .int .i64 p.regs, .slice x1 p.caps.length y1, .slice none 0 0, .slice none 0 0]) hD u0 u1 u2 ub hB us rfl
  have own1'' : (w1.setCell ⟨D, 2, none⟩ (.slice x1 p.caps.length y1)).ownsRow (D + 1) 117 2 (.slice x1 p.caps.length y1) p.caps.length (p.caps.flatMap capC) := ownsRow_setCell_below own1' (a := ⟨D, 2, none⟩) (by show D < D + 1; omega) _
  clear t0 t1 t2 tb hsz b1 own1 u0 u1 u2 ub us own1'
  try simp only [hG, hD]
  go_upto_region 5 with fail
  obtain ⟨V1, hV⟩ : ∃ W, w1.setCell ⟨D, 2, none⟩ (.slice x1 p.caps.length y1) = W := ⟨_, rfl⟩
  simp only [hV] at s0 s1 s2 sb ss own1'' ⊢
  clear hV d0 d1 d2 d3 d4 e0 e1 e2 e3 e4 fD
  have own1' := own1''
  clear own1''
  have t0 := s0
  have t1 := s1
  have t2 := s2
  have tb := sb
  have hsz := ss
  clear s0 s1 s2 sb ss
  obtain ⟨d0, d1, d2, d3, d4⟩ := cells_five t0
  go_wp2_with fail
  refine (cK V1 tb).mono ?_
  rintro e w2 ⟨v2, rfl, own2, b2⟩
  clear d0 d1 d2 d3 d4
  obtain ⟨x2, y2, rfl⟩ := row_slice own2
  obtain ⟨u0, u1, u2, ub, us⟩ := kept_three hD t0 t1 t2 tb hB hsz b2
  have own2' : w2.ownsRow (D + 1) 89 3 (.slice x2 p.code.length y2) p.code.length (p.code.flatMap insC) := row_low own2 hsz
  have own1' := row_keep own1' b2
  obtain ⟨d0, d1, d2, d3, d4⟩ := cells_five u0
  obtain ⟨e0, e1, e2, e3, e4⟩ := cells_five u2
  have fD := fun j => frozen_of_row w2 D j _ _ u2
  obtain ⟨s0, s1, s2, sb, ss⟩ := put_field (k := 3) (v := .slice x2 p.code.length y2) (m' := #[.int .i64 p.params, .int .i64 p.regs, .slice x1 p.caps.length y1, .slice x2 p.code.length y2, .slice none 0 0]) hD u0 u1 u2 ub hB us rfl
  have own1'' : (w2.setCell ⟨D, 3, none⟩ (.slice x2 p.code.length y2)).ownsRow (D + 1) 117 2 (.slice x1 p.caps.length y1) p.caps.length (p.caps.flatMap capC) := ownsRow_setCell_below own1' (a := ⟨D, 3, none⟩) (by show D < D + 1; omega) _
  have own2'' : (w2.setCell ⟨D, 3, none⟩ (.slice x2 p.code.length y2)).ownsRow (D + 1) 89 3 (.slice x2 p.code.length y2) p.code.length (p.code.flatMap insC) := ownsRow_setCell_below own2' (a := ⟨D, 3, none⟩) (by show D < D + 1; omega) _
  clear t0 t1 t2 tb hsz b2 own2 u0 u1 u2 ub us own1' own2'
  go_upto_region 6 with fail
  obtain ⟨V2, hV⟩ : ∃ W, w2.setCell ⟨D, 3, none⟩ (.slice x2 p.code.length y2) = W := ⟨_, rfl⟩
  simp only [hV] at s0 s1 s2 sb ss own1'' own2'' ⊢
  clear hV d0 d1 d2 d3 d4 e0 e1 e2 e3 e4 fD
  have own1' := own1''
  have own2' := own2''
  clear own1'' own2''
  have t0 := s0
  have t1 := s1
  have t2 := s2
  have tb := sb
  have hsz := ss
  clear s0 s1 s2 sb ss
  obtain ⟨d0, d1, d2, d3, d4⟩ := cells_five t0
  go_wp2_with fail
  refine (cH V2 tb).mono ?_
  rintro e w3 ⟨v3, rfl, own3, b3⟩
  clear d0 d1 d2 d3 d4
  obtain ⟨x3, y3, rfl⟩ := row_slice own3
  obtain ⟨u0, u1, u2, ub, us⟩ := kept_three hD t0 t1 t2 tb hB hsz b3
  have own3' : w3.ownsRow (D + 1) 92 3 (.slice x3 p.hnds.length y3) p.hnds.length (p.hnds.flatMap hndC) := row_low own3 hsz
  have own1' := row_keep own1' b3
  have own2' := row_keep own2' b3
  obtain ⟨d0, d1, d2, d3, d4⟩ := cells_five u0
  obtain ⟨e0, e1, e2, e3, e4⟩ := cells_five u2
  have fD := fun j => frozen_of_row w3 D j _ _ u2
  obtain ⟨s0, s1, s2, sb, ss⟩ := put_field (k := 4) (v := .slice x3 p.hnds.length y3) (m' := #[.int .i64 p.params, .int .i64 p.regs, .slice x1 p.caps.length y1, .slice x2 p.code.length y2, .slice x3 p.hnds.length y3]) hD u0 u1 u2 ub hB us rfl
  have own1'' : (w3.setCell ⟨D, 4, none⟩ (.slice x3 p.hnds.length y3)).ownsRow (D + 1) 117 2 (.slice x1 p.caps.length y1) p.caps.length (p.caps.flatMap capC) := ownsRow_setCell_below own1' (a := ⟨D, 4, none⟩) (by show D < D + 1; omega) _
  have own2'' : (w3.setCell ⟨D, 4, none⟩ (.slice x3 p.hnds.length y3)).ownsRow (D + 1) 89 3 (.slice x2 p.code.length y2) p.code.length (p.code.flatMap insC) := ownsRow_setCell_below own2' (a := ⟨D, 4, none⟩) (by show D < D + 1; omega) _
  have own3'' : (w3.setCell ⟨D, 4, none⟩ (.slice x3 p.hnds.length y3)).ownsRow (D + 1) 92 3 (.slice x3 p.hnds.length y3) p.hnds.length (p.hnds.flatMap hndC) := ownsRow_setCell_below own3' (a := ⟨D, 4, none⟩) (by show D < D + 1; omega) _
  clear t0 t1 t2 tb hsz b3 own3 u0 u1 u2 ub us own1' own2' own3'
  go_upto_region 7 with fail
  obtain ⟨V3, hV⟩ : ∃ W, w3.setCell ⟨D, 4, none⟩ (.slice x3 p.hnds.length y3) = W := ⟨_, rfl⟩
  simp only [hV] at s0 s1 s2 sb ss own1'' own2'' own3'' ⊢
  clear hV d0 d1 d2 d3 d4 e0 e1 e2 e3 e4 fD
  have own1' := own1''
  have own2' := own2''
  have own3' := own3''
  clear own1'' own2'' own3''
  have t0 := s0
  have t1 := s1
  have t2 := s2
  have tb := sb
  have hsz := ss
  clear s0 s1 s2 sb ss
  obtain ⟨e0, e1, e2, e3, e4⟩ := cells_five t2
  obtain ⟨i0, i1, i2, i3, i4⟩ := cells_five t1
  have fG := fun j => frozen_of_row V3 (G + 1) j _ _ t1
  have z1 := five_put (b0 := .int .i64 p.params) (b1 := .int .i64 p.regs) (b2 := .slice x1 p.caps.length y1) (b3 := .slice x2 p.code.length y2) (b4 := .slice x3 p.hnds.length y3) t1
  obtain ⟨g0, g1, g2, g3, g4⟩ := cells_five z1
  have HT : Hid (Below w.heap.size w (((((V3.setCell ⟨G + 1, 0, none⟩ (.int .i64 p.params)).setCell ⟨G + 1, 1, none⟩ (.int .i64 p.regs)).setCell ⟨G + 1, 2, none⟩ (.slice x1 p.caps.length y1)).setCell ⟨G + 1, 3, none⟩ (.slice x2 p.code.length y2)).setCell ⟨G + 1, 4, none⟩ (.slice x3 p.hnds.length y3)) ∧ (((((V3.setCell ⟨G + 1, 0, none⟩ (.int .i64 p.params)).setCell ⟨G + 1, 1, none⟩ (.int .i64 p.regs)).setCell ⟨G + 1, 2, none⟩ (.slice x1 p.caps.length y1)).setCell ⟨G + 1, 3, none⟩ (.slice x2 p.code.length y2)).setCell ⟨G + 1, 4, none⟩ (.slice x3 p.hnds.length y3)).ownsRow w.heap.size 117 2 (.slice x1 p.caps.length y1) p.caps.length (p.caps.flatMap capC) ∧ (((((V3.setCell ⟨G + 1, 0, none⟩ (.int .i64 p.params)).setCell ⟨G + 1, 1, none⟩ (.int .i64 p.regs)).setCell ⟨G + 1, 2, none⟩ (.slice x1 p.caps.length y1)).setCell ⟨G + 1, 3, none⟩ (.slice x2 p.code.length y2)).setCell ⟨G + 1, 4, none⟩ (.slice x3 p.hnds.length y3)).ownsRow w.heap.size 89 3 (.slice x2 p.code.length y2) p.code.length (p.code.flatMap insC) ∧ (((((V3.setCell ⟨G + 1, 0, none⟩ (.int .i64 p.params)).setCell ⟨G + 1, 1, none⟩ (.int .i64 p.regs)).setCell ⟨G + 1, 2, none⟩ (.slice x1 p.caps.length y1)).setCell ⟨G + 1, 3, none⟩ (.slice x2 p.code.length y2)).setCell ⟨G + 1, 4, none⟩ (.slice x3 p.hnds.length y3)).ownsRow w.heap.size 92 3 (.slice x3 p.hnds.length y3) p.hnds.length (p.hnds.flatMap hndC)) := by
    have q : ∀ (W : World) (j : Nat) (u : Value), Below w.heap.size w W → Below w.heap.size w (W.setCell ⟨G + 1, j, none⟩ u) := fun W j u h => h.setCell (p := ⟨G + 1, j, none⟩) (by show _ ≤ G + 1; omega) u
    have r : ∀ (W : World) (j : Nat) (u : Value) (e : TypeId) (k : Nat) (v : Value) (n : Nat) (xs : List Value), W.ownsRow (D + 1) e k v n xs → (W.setCell ⟨G + 1, j, none⟩ u).ownsRow (D + 1) e k v n xs := fun W j u e k v n xs h => ownsRow_setCell_below h (by show G + 1 < D + 1; omega) u
    exact ⟨q _ _ _ (q _ _ _ (q _ _ _ (q _ _ _ (q _ _ _ tb)))),
      row_low (r _ _ _ _ _ _ _ _ (r _ _ _ _ _ _ _ _ (r _ _ _ _ _ _ _ _ (r _ _ _ _ _ _ _ _ (r _ _ _ _ _ _ _ _ own1'))))) (by omega),
      row_low (r _ _ _ _ _ _ _ _ (r _ _ _ _ _ _ _ _ (r _ _ _ _ _ _ _ _ (r _ _ _ _ _ _ _ _ (r _ _ _ _ _ _ _ _ own2'))))) (by omega),
      row_low (r _ _ _ _ _ _ _ _ (r _ _ _ _ _ _ _ _ (r _ _ _ _ _ _ _ _ (r _ _ _ _ _ _ _ _ (r _ _ _ _ _ _ _ _ own3'))))) (by omega)⟩
  clear t0 t1 t2 z1 tb own1' own2' own3' cC cK cH
  go_wp2
  refine bodyPost_ret (by simp [results, Tryz.results40, go_sem, g0, g1, g2, g3, g4]; try rfl) rfl ?_
  exact ⟨_, _, _, rfl, HT.out.2.1, HT.out.2.2.1, HT.out.2.2.2, HT.out.1⟩
end Go.Proofs.YtheofdiaenlbgaaGreat
namespace Go.Proofs.YtheofdiaenlbgaaGreat
open Go.RowKit Go.ChangeShapes Go.WideShapes
set_option linter.unusedVariables false
structure PSta where
  acc : Int
  regs : List Int
theorem two_cells_of {w : World} {g : Nat} {a b : Value} {t : TypeId} {r : Nat × Nat} (h : w.heap[g]? = some (.cells #[a, b] t r)) : w.cell? ⟨g, 0, none⟩ = some a ∧ w.cell? ⟨g, 1, none⟩ = some b := by
  refine ⟨?_, ?_⟩ <;> (rw [cell_of_row _ _ _ _ _ _ h]; rfl)
def joinAt (l m : List Int) (i : Nat) : Int := match l[i]?, m[i]? with
  | some x, some y => if x = y then x else 0
  | _, _ => 0
def joinL (l m : List Int) : List Int := (List.range (max l.length m.length)).map (joinAt l m)
def joinS (a b : PSta) : PSta := ⟨if a.acc = b.acc then a.acc else 0, joinL a.regs b.regs⟩
end Go.Proofs.YtheofdiaenlbgaaGreat
