/-
  Rows of whole numbers: as arguments, counted, copied, held against each other, marked; over the law's own helpers.
-/
import Derived.Test.YtbgdapdenbldmaaImg13A
import Derived.Test.YtbgdapdenbldmaaImg13T
import Derived.Test.YtbgdapdenbldmaaImg13S
import Derived.Deep.QuietTactic
import Derived.BigQuiet
import Derived.Lib.QuietBelow
namespace Go.Proofs.Ytbgdapdenbldmaa
open Go.RowKit Go.Sort
set_option linter.unusedVariables false

def intC (x : Int) : List Value := [.int .i64 x]

theorem intC_len (x : Int) : (intC x).length = 1 := rfl

/-- whole numbers are read at a slice -/
def ArgI (w : World) (v : Value) (l : List Int) : Prop := ArgFlat w v 1 l.length (l.flatMap intC)

theorem ArgI.below {w w' : World} {v : Value} {l : List Int} (h : ArgI w v l) (hb : Below w.heap.size w w') : ArgI w' v l := ArgFlat.below h hb

/-- a row of whole numbers of one's own -/
def OwnI (w : World) (B : Nat) (v : Value) (l : List Int) : Prop := w.ownsRow B 3 1 v l.length (l.flatMap intC)

theorem OwnI.below {w w' : World} {B : Nat} {v : Value} {l : List Int} (h : OwnI w B v l) (hb : Below w.heap.size w w') : OwnI w' B v l := row_keep h hb

theorem OwnI.arg {w : World} {B : Nat} {v : Value} {l : List Int} (h : OwnI w B v l) : ArgI w v l := ArgFlat.of_own h

theorem open_intS {H : Type} {enc : TypeId × Value → H} {w : World} {fuel : Nat} {v : Value} {x : DataW H × List MemPlace} (h : DataW.trod enc Try.prog w 0 (fun _ => true) true fuel 35 [v] = some x) : ∃ l : List Int, ArgI w v l ∧ ∀ p ∈ l, I64 p :=
  open_flat 0 intC I64 intC_len Try.underlying35 Try.cellsInt13 (fun n cs x h => by
    obtain ⟨n0, e0, _, w0⟩ := DataW.trod_int Try.underlying3 h
    exact ⟨n0, e0, i64_of w0⟩) (by decide) h

theorem Try.info13I : (Try.prog.info? 3).map (fun i => (i.zero, i.size, i.bytes)) = some (some (.int .i64 0), 1, 8) := by kernel_rfl

theorem made_I (w : World) (n : Nat) (hn : n ≤ 1048576) : ∃ W1 : World, (Instr.makeSlice 35 (.int .i64 (n : Int)) (.int .i64 (n : Int))).run Try.prog w = .ok (.slice (some ⟨w.heap.size, 0, none⟩) n n) W1 ∧
    (∃ xs, W1.ownsRow w.heap.size 3 1 (.slice (some ⟨w.heap.size, 0, none⟩) n n) n xs) ∧ Below w.heap.size w W1 := by
  obtain ⟨i0, hi, hz0, hz1, hz2⟩ := info_in Try.info13I
  obtain ⟨W, h1, h2, h3⟩ := run_make_full (P := Try.prog) w w.heap.size 35 3 i0 _ 1 Try.underlying35 hi hz0 hz1 .i64 .i64 n (by rw [hz2]; omega) (by unfold maxLen; omega) (Nat.le_refl _)
  exact ⟨W, h1, ⟨_, h2⟩, ⟨h3.os, h3.tape, h3.output, h3.size, fun k hk => h3.block k hk (by simp)⟩⟩

theorem row_put {w w0 : World} {H : Nat} {e : TypeId} {size g n c : Nat} {xs : List Value} (h : w.ownsRow H e size (.slice (some ⟨g, 0, none⟩) n c) n xs) (hb : Below w0.heap.size w0 w) (hg : w0.heap.size ≤ g) (j : Nat) (u : Value) :
    (w.setCell ⟨g, j, none⟩ u).ownsRow H e size (.slice (some ⟨g, 0, none⟩) n c) n (xs.set j u) ∧ Below w0.heap.size w0 (w.setCell ⟨g, j, none⟩ u) := ⟨(h.stored j u).1, hb.setCell (p := ⟨g, j, none⟩) hg u⟩

theorem int_at {l : List Int} {j : Nat} {z : Int} (h : l[j]? = some z) : (l.flatMap intC)[j]? = some (.int .i64 z) := by
  have := flat_at intC_len l j 0 z _ h rfl
  rwa [Nat.mul_one, Nat.add_zero] at this

theorem ints_is {l : List Int} {xs : List Value} (hl : xs.length = l.length) (h : ∀ (j : Nat) (z : Int), l[j]? = some z → xs[j]? = some (.int .i64 z)) : xs = l.flatMap intC :=
  flat_ext intC_len (by decide) l xs (by omega) (fun j p c u hp hu => by
    have hc : c < 1 := (List.getElem?_eq_some_iff.1 hu).1
    have e : c = 0 := by omega
    subst e
    simp [intC] at hu
    subst hu
    rw [Nat.mul_one, Nat.add_zero]
    exact h j p hp)

/-- whole numbers, as a walk reads them -/
theorem ArgI.opened {w : World} {v : Value} {l : List Int} (h : ArgI w v l) : ∃ x c, v = .slice x l.length c ∧ l.length ≤ maxLen ∧ (0 < l.length → ∃ b o, x = some ⟨b, o, none⟩ ∧ b < w.heap.size ∧ ∀ (j : Nat) (z : Int), l[j]? = some z → w.cell? ⟨b, o + j, none⟩ = some (.int .i64 z)) := by
  obtain ⟨x, c, e, hm, hl, hc⟩ := h
  refine ⟨x, c, e, hm, fun h0 => ?_⟩
  obtain ⟨b, o, e1, h1, h2⟩ := hc h0
  exact ⟨b, o, e1, h1, fun j z hz => h2 j _ (int_at hz)⟩

set_option maxHeartbeats 1000000 in
set_option maxRecDepth 100000 in
theorem eqIntS_f (a b : Value) (ls ms : List Int) (w : World) (ha : ArgI w a ls) (hb : ArgI w b ms) :
    Calls Try.prog 13 #[a, b] w fun e w' => e = .returned (.bool (decide (ls = ms))) ∧ Below w.heap.size w w' := by
  obtain ⟨xa, ca, rfl, hm, oa⟩ := ha.opened
  obtain ⟨xb, cb, rfl, hm', ob⟩ := hb.opened
  clear ha hb
  unfold maxLen at hm hm'
  obtain ⟨n, hn⟩ : ∃ n, ls.length = n := ⟨_, rfl⟩
  obtain ⟨m, hmm⟩ : ∃ m, ms.length = m := ⟨_, rfl⟩
  have HN : Hid (ls.length = n) := hn
  have HM : Hid (ms.length = m) := hmm
  rw [hn] at hm oa ⊢
  rw [hmm] at hm' ob ⊢
  obtain ⟨F, hF⟩ : ∃ F, decide (ls = ms) = F := ⟨_, rfl⟩
  rw [hF]
  have HF : Hid (decide (ls = ms) = F) := hF
  clear hn hmm hF
  by_cases hnm : n = m
  case neg =>
    have hf : F = false := by
      rw [← HF.out]
      apply decide_eq_false
      intro e
      apply hnm
      rw [← HN.out, ← HM.out, e]
    subst hf
    have hne : ((n : Int) == (m : Int)) = false := by rw [beq_eq_false_iff_ne]; omega
    clear oa ob
    go_enter Try.func13, Try.ntmps13
    go_wp2
    go_ret
    exact ⟨rfl, Below.refl _ _⟩
  subst hnm
  have HA : Hid (0 < n → ∃ b o, xa = some ⟨b, o, none⟩ ∧ b < w.heap.size ∧ ∀ (j : Nat) (z : Int), ls[j]? = some z → w.cell? ⟨b, o + j, none⟩ = some (.int .i64 z)) := oa
  have HB : Hid (0 < n → ∃ b o, xb = some ⟨b, o, none⟩ ∧ b < w.heap.size ∧ ∀ (j : Nat) (z : Int), ms[j]? = some z → w.cell? ⟨b, o + j, none⟩ = some (.int .i64 z)) := ob
  clear oa ob
  go_enter Try.func13, Try.ntmps13
  go_wp2
  go_loopw [5] (fun i wr => ∃ k : Nat, k ≤ n ∧ i = .int .i64 k ∧ Hid (∀ j, j < k → ls[j]? = ms[j]?) ∧ Below w.heap.size w wr) (fun i _ => n - (intOf i).toNat)
  case atStart => exact ⟨0, Nat.zero_le _, rfl, fun j hj => absurd hj (Nat.not_lt_zero _), Below.refl _ _⟩
  case round =>
    obtain ⟨k, hk, rfl, HS, hbel⟩ := hrel
    by_cases hlt : k < n
    · obtain ⟨ga, sa, rfl, hga, hca⟩ := HA.out (by omega)
      obtain ⟨gb, sb, rfl, hgb, hcb⟩ := HB.out (by omega)
      obtain ⟨y, hy⟩ : ∃ s, ls[k]? = some s := ⟨_, List.getElem?_eq_getElem (by have := HN.out; omega)⟩
      obtain ⟨z, hz⟩ : ∃ s, ms[k]? = some s := ⟨_, List.getElem?_eq_getElem (by have := HM.out; omega)⟩
      have h1 : wr.cell? ⟨ga, sa + k, none⟩ = some (.int .i64 y) := (hbel.cell hga).trans (hca k y hy)
      have h2 : wr.cell? ⟨gb, sb + k, none⟩ = some (.int .i64 z) := (hbel.cell hgb).trans (hcb k z hz)
      have hki : (k : Int) < (n : Int) := by omega
      have hk0 : (0 : Int) ≤ (k : Int) := by omega
      by_cases e : y = z
      · have HS2 : Hid (∀ j, j < k + 1 → ls[j]? = ms[j]?) := fun j hj => by
          rcases Nat.lt_or_ge j k with h' | h'
          · exact HS.out j h'
          · have e3 : j = k := by omega
            subst e3
            rw [hy, hz, e]
        subst e
        clear hca hcb hy hz HS HA HB
        go_wp2
        go_quiet (fail)
        go_wp2
        go_roundw
        case rel => exact ⟨k + 1, by omega, by go_num, HS2, below_drewN hbel _⟩
        case measure => simp [intOf]; omega
      · have hf : F = false := by
          rw [← HF.out]
          apply decide_eq_false
          intro e3
          rw [e3, hz] at hy
          injection hy with hy
          exact e hy.symm
        subst hf
        have hne : (y == z) = false := by rw [beq_eq_false_iff_ne]; exact e
        clear hca hcb hy hz HS HA HB
        go_wp2
        go_quiet (fail)
        go_wp2
        go_ret
        exact ⟨rfl, below_drewN hbel _⟩
    · have hf : F = true := by
        rw [← HF.out]
        apply decide_eq_true
        apply List.ext_getElem?
        intro j
        by_cases hj : j < k
        · exact HS.out j hj
        · rw [List.getElem?_eq_none (by have := HN.out; omega), List.getElem?_eq_none (by have := HM.out; omega)]
      subst hf
      go_wp2
      go_ret
      exact ⟨rfl, hbel⟩

/-- numbers from k on -/
def upI (k n : Nat) : List Int := (List.range n).map fun j => ((k + j : Nat) : Int)

theorem upI_len (k n : Nat) : (upI k n).length = n := by simp [upI]

theorem upI_at {k n j : Nat} (h : j < n) : (upI k n)[j]? = some ((k + j : Nat) : Int) := by
  unfold upI
  rw [List.getElem?_map, List.getElem?_range h]
  rfl

theorem grown_same (w : World) (r : Option Nat) : w.grownBy w r := ⟨rfl, rfl, rfl, Nat.le_refl _, fun _ _ _ => rfl⟩

theorem OwnI.opened {w : World} {B : Nat} {v : Value} {l : List Int} (h : OwnI w B v l) : ∃ x c, v = .slice x l.length c ∧ l.length ≤ maxLen ∧ (0 < l.length → ∃ g, x = some ⟨g, 0, none⟩) := by
  obtain ⟨_, ⟨rfl, h0⟩ | ⟨g, cap, cur, rfl, _, _, hnc, hc, _⟩⟩ := h
  · exact ⟨none, 0, by rw [h0], by rw [h0]; exact Nat.zero_le _, fun h => by omega⟩
  · exact ⟨_, _, rfl, Nat.le_trans hnc hc, fun _ => ⟨g, rfl⟩⟩

set_option maxHeartbeats 1000000 in
set_option maxRecDepth 100000 in
/-- a row of one's own is marked: numbers from k on stand in it then, no other block is changed -/
theorem markIntS_f (B : Nat) (v : Value) (l : List Int) (k : Nat) (w : World) (hv : OwnI w B v l) (hl : l.length ≤ 2000000) (hk : k ≤ 1000000000) :
    Calls Try.prog 15 #[v, .int .i64 k] w fun e w' => e = .returned (.int .i64 ((k + l.length : Nat) : Int)) ∧ OwnI w' B v (upI k l.length) ∧ w.grownBy w' v.ownBlock := by
  obtain ⟨x, c, rfl, hm, hg⟩ := hv.opened
  unfold maxLen at hm
  obtain ⟨n, hn⟩ : ∃ n, l.length = n := ⟨_, rfl⟩
  have HV : Hid (w.ownsRow B 3 1 (.slice x n c) n (l.flatMap intC)) := by
    have h := hv
    unfold OwnI at h
    rw [hn] at h
    exact h
  have HE : Hid (∀ (W : World) (xs : List Value), W.ownsRow B 3 1 (.slice x n c) n xs → (∀ j, j < n → xs[j]? = some (.int .i64 ((k + j : Nat) : Int))) → OwnI W B (.slice x n c) (upI k n)) := fun W xs h1 h2 => by
    have e := ints_is (l := upI k n) (xs := xs) (by rw [upI_len]; have := h1.1; omega) (fun j z hz => by
      have hj : j < n := by have := (List.getElem?_eq_some_iff.1 hz).1; rw [upI_len] at this; exact this
      rw [upI_at hj] at hz
      injection hz with hz
      rw [← hz]
      exact h2 j hj)
    unfold OwnI
    rw [upI_len, ← e]
    exact h1
  rw [hn] at hm hg hl ⊢
  clear hn hv
  by_cases h0 : n = 0
  · subst h0
    have hE := HE.out w _ HV.out (fun j hj => absurd hj (Nat.not_lt_zero _))
    clear HE HV
    go_enter Try.func15, Try.ntmps15
    go_wp2
    go_loop [1, 5] (fun y i => y = .int .i64 k ∧ i = .int .i64 0) (fun _ _ => 0)
    case atStart => exact ⟨rfl, rfl⟩
    case round =>
      obtain ⟨rfl, rfl⟩ := hrel
      go_wp2
      go_ret
      exact ⟨rfl, hE, grown_same _ _⟩
  · obtain ⟨g, rfl⟩ := hg (by omega)
    go_enter Try.func15, Try.ntmps15
    go_wp2
    go_loopw [1, 5] (fun y i wr => ∃ (j : Nat) (xs : List Value), j ≤ n ∧ y = .int .i64 ((k + j : Nat) : Int) ∧ i = .int .i64 j ∧ Hid (∀ q, q < j → xs[q]? = some (.int .i64 ((k + q : Nat) : Int))) ∧ Hid (wr.ownsRow B 3 1 (.slice (some ⟨g, 0, none⟩) n c) n xs) ∧ w.grownBy wr (some g)) (fun _ i _ => n - (intOf i).toNat)
    case atStart => exact ⟨0, _, Nat.zero_le _, rfl, rfl, fun q hq => absurd hq (Nat.not_lt_zero _), HV, grown_same _ _⟩
    case round =>
      obtain ⟨j, xs, hj, rfl, rfl, HY, HO, hgr⟩ := hrel
      by_cases hlt : j < n
      · have hji : (j : Int) < (n : Int) := by omega
        have hj0 : (0 : Int) ≤ (j : Int) := by omega
        obtain ⟨⟨u, hu⟩, hfz⟩ := row_cell HO.out j (by omega)
        have hxl : xs.length = n := by have := HO.out.1; omega
        have HS : Hid ((wr.setCell ⟨g, j, none⟩ (.int .i64 ((k + j : Nat) : Int))).ownsRow B 3 1 (.slice (some ⟨g, 0, none⟩) n c) n (xs.set j (.int .i64 ((k + j : Nat) : Int))) ∧ w.grownBy (wr.setCell ⟨g, j, none⟩ (.int .i64 ((k + j : Nat) : Int))) (some g)) := ⟨(HO.out.stored j _).1, hgr.trans (HO.out.stored j _).2⟩
        have HY2 : Hid (∀ q, q < j + 1 → (xs.set j (.int .i64 ((k + j : Nat) : Int)))[q]? = some (.int .i64 ((k + q : Nat) : Int))) := fun q hq => by
          by_cases e : q = j
          · subst e; rw [List.getElem?_set_self (by omega)]
          · rw [List.getElem?_set_ne (by omega)]; exact HY.out q (by omega)
        have e0 : (((k + j : Nat) : Nat) : Int) = (k : Int) + (j : Int) := by omega
        rw [e0] at HS HY2
        clear HY HO HE HV
        go_wp2
        go_roundw
        case rel => exact ⟨j + 1, _, by omega, by go_num, by go_num, HY2, HS.out.1, HS.out.2⟩
        case measure => simp [intOf]; omega
      · have e : j = n := by omega
        subst e
        have hE := HE.out wr xs HO.out HY.out
        clear HY HO HE HV
        go_wp2
        go_ret
        exact ⟨rfl, hE, hgr⟩

set_option maxHeartbeats 1000000 in
set_option maxRecDepth 100000 in
theorem heldIntS_f (v : Value) (n k : Nat) (w : World) (hv : ArgI w v (upI k n)) (hl : n ≤ 2000000) (hk : k ≤ 1000000000) :
    Calls Try.prog 16 #[v, .int .i64 k] w fun e w' => e = .returned (.int .i64 ((k + n : Nat) : Int)) ∧ w = w' := by
  obtain ⟨x, c, rfl, hm, hc⟩ := hv.opened
  clear hv
  rw [upI_len] at hm hc ⊢
  unfold maxLen at hm
  have HC : Hid (0 < n → ∃ b o, x = some ⟨b, o, none⟩ ∧ b < w.heap.size ∧ ∀ j, j < n → w.cell? ⟨b, o + j, none⟩ = some (.int .i64 ((k + j : Nat) : Int))) := fun h0 => by
    obtain ⟨b, o, e, hb, h⟩ := hc h0
    exact ⟨b, o, e, hb, fun j hj => h j _ (upI_at hj)⟩
  clear hc
  go_enter Try.func16, Try.ntmps16
  go_wp2
  go_loop [1, 5] (fun y i => ∃ j : Nat, j ≤ n ∧ y = .int .i64 ((k + j : Nat) : Int) ∧ i = .int .i64 j) (fun _ i => n - (intOf i).toNat)
  case atStart => exact ⟨0, Nat.zero_le _, rfl, rfl⟩
  case round =>
    obtain ⟨j, hj, rfl, rfl⟩ := hrel
    by_cases hlt : j < n
    · obtain ⟨b, o, rfl, hb, hcell⟩ := HC.out (by omega)
      have h1 := hcell j hlt
      have e0 : (((k + j : Nat) : Nat) : Int) = (k : Int) + (j : Int) := by omega
      rw [e0] at h1
      have hji : (j : Int) < (n : Int) := by omega
      have hj0 : (0 : Int) ≤ (j : Int) := by omega
      clear hcell HC
      go_wp2
      go_round
      case rel => exact ⟨j + 1, by omega, by go_num, by go_num⟩
      case measure => simp [intOf]; omega
    · have e : j = n := by omega
      subst e
      go_wp2
      go_ret
      exact ⟨rfl, rfl⟩

end Go.Proofs.Ytbgdapdenbldmaa
