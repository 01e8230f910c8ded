/-
  The program's own copies of states, whether two are the same, and whether a place is in a list.
-/
import Derived.Test.YtbgdapdenbldmaaVer16A
import Derived.Test.YtbgdapdenbldmaaShelf
import Derived.Lib.LazyBuf
namespace Go.Proofs.Ytbgdapdenbldmaa
open Go.RowKit Go.Sort
set_option linter.unusedVariables false

set_option maxHeartbeats 1000000 in
set_option maxRecDepth 100000 in
theorem iClone (l : List Int) (v : Value) (w : World) (h : ArgI w v l) (hl : l.length ≤ 1000000) :
    Calls Try.prog 136 #[v] w fun e w' => ∃ v', e = .returned v' ∧ OwnI w' w.heap.size v' l ∧ Below w.heap.size w w' := by
  obtain ⟨i0, hi, hz0, hz1, hz2⟩ := info_in Try.info13I
  have hnil : ∀ (a : Option Addr) (n c : Nat) (w : World), (binOp .eql 35 (.slice a n c) (.slice none 0 0)).run Try.prog w = .ok (.bool a.isNone) w := fun a n c w => Go.run_eql_slice_nil w 35 3 a n c Try.underlying35
  have HA : Hid (ArgI w v l) := h
  obtain ⟨x, c, rfl, hm, hc⟩ := h.opened
  obtain ⟨n, hn⟩ : ∃ n, l.length = n := ⟨_, rfl⟩
  have HN : Hid (l.length = n) := hn
  rw [hn] at hl hc hm HA ⊢
  clear hn h
  cases x with
  | none =>
    have h0 : l = [] := by
      rcases Nat.eq_zero_or_pos n with h | h
      · exact List.eq_nil_of_length_eq_zero (HN.out.trans h)
      · obtain ⟨b, o, e1, _⟩ := hc h
        cases e1
    subst h0
    clear hc HN HA
    go_enter Try.func136, Try.ntmps136
    go_wp2
    go_ret
    exact ⟨_, rfl, ⟨rfl, .inl ⟨rfl, rfl⟩⟩, Below.refl _ _⟩
  | some a =>
    clear hc
    have b0 : Below w.heap.size w (w.alloc (.cells #[] 3)) := (Below.refl _ _).alloc (Nat.le_refl _) _
    have hG : (w.alloc (.cells #[] 3)).heap[w.heap.size]? = some (.cells #[] 3 (0, 0)) := heap_alloc_new w _
    have hAr : ArgFlat (w.alloc (.cells #[] 3)) (.slice (some a) n c) 1 n (l.flatMap intC) := by
      have h := HA.out.below b0
      unfold ArgI at h
      rw [HN.out] at h
      exact h
    have hown := own16 (size := 1) hG (Nat.le_refl w.heap.size)
    have hone := one_int l
    have hsz : w.heap.size ≤ (w.alloc (.cells #[] 3)).heap.size := by simp
    have hn9 : n ≤ 1000000000 := by omega
    go_enter Try.func136, Try.ntmps136
    go_wp2_with (at_builtin; refine walk_copyI rfl _ _ 35 rfl w.heap.size 3 i0 _ 1 8 Try.underlying35 hi hz0 hz1 hz2 rfl (by decide) (by decide) _ rfl hown (.slice (some a) n c) rfl n _ hAr hone hn9 hsz ?_)
    intro v' w2 ho hg
    have HO : Hid (OwnI w2 w.heap.size v' l) := by
      show OwnI w2 w.heap.size v' l
      unfold OwnI
      rw [HN.out]
      exact ho
    have HB : Hid (Below w.heap.size w w2) := Below.grown b0 hg hsz (fun k e => by have e2 : w.heap.size = k := Option.some.inj e; omega)
    obtain ⟨x2, c2, rfl⟩ := row_slice ho
    clear ho hg
    go_wp2
    go_ret
    exact ⟨_, rfl, HO.out, HB.out⟩

theorem getD_of {l : List Int} {j : Nat} (hj : j < l.length) : l[j]? = some (l.getD j 0) := by
  rw [List.getD_eq_getElem?_getD, List.getElem?_eq_getElem hj]
  rfl

theorem iEqualI (l m : List Int) (u v : Value) (w : World) (hu : ArgI w u l) (hv : ArgI w v m) :
    Calls Try.prog 141 #[u, v] w fun e w' => e = .returned (.bool (decide (l = m))) ∧ Below w.heap.size w w' := by
  obtain ⟨xa, ca, rfl, hm1, oa⟩ := hu.opened
  obtain ⟨xb, cb, rfl, hm2, ob⟩ := hv.opened
  unfold maxLen at hm1 hm2
  by_cases hl : l.length = m.length
  · by_cases h0 : l.length = 0
    · have e1 : l = [] := List.eq_nil_of_length_eq_zero h0
      have e2 : m = [] := List.eq_nil_of_length_eq_zero (by omega)
      subst e1 e2
      refine (Try.slices_Equal_int_empty xa xb ca 0 cb w (by omega)).mono ?_
      rintro e w' ⟨rfl, rfl⟩
      exact ⟨by simp, Below.refl _ _⟩
    · obtain ⟨g1, o1, rfl, _, c1⟩ := oa (by omega)
      obtain ⟨g2, o2, rfl, _, c2⟩ := ob (by omega)
      refine (Try.slices_Equal_int g1 o1 l.length ca g2 o2 m.length cb l m w (Nat.le_refl _) (Nat.le_refl _) (by omega) (by omega) (fun j hj => c1 j _ (getD_of hj)) (fun j hj => c2 j _ (getD_of hj))).mono ?_
      rintro e w' ⟨rfl, q, rfl⟩
      refine ⟨?_, below_drewN (Below.refl _ _) _⟩
      rw [List.take_length, List.take_length]
      have e : (l == m) = decide (l = m) := by
        by_cases h : l = m
        · subst h; simp
        · rw [decide_eq_false h, beq_eq_false_iff_ne]; exact h
      rw [e]
  · refine (Try.slices_Equal_int_lens xa xb l.length ca m.length cb w hl).mono ?_
    rintro e w' ⟨rfl, rfl⟩
    exact ⟨by rw [decide_eq_false (fun h => hl (congrArg List.length h))], Below.refl _ _⟩

set_option maxHeartbeats 1000000 in
set_option maxRecDepth 100000 in
theorem iSameState (p q : PSta) (u v : Value) (w : World) (hu : ArgI w u p.regs) (hv : ArgI w v q.regs) :
    Calls Try.prog 131 #[.agg #[.int .i64 p.acc, u], .agg #[.int .i64 q.acc, v]] w fun e w' => e = .returned (.bool (sameS p q)) ∧ Below w.heap.size w w' := by
  have HU : Hid (ArgI w u p.regs) := hu
  have HV : Hid (ArgI w v q.regs) := hv
  obtain ⟨xa, ca, rfl, hm, _⟩ := hu.opened
  obtain ⟨xb, cb, rfl, hm', _⟩ := hv.opened
  clear hu hv
  obtain ⟨A, ls⟩ := p
  obtain ⟨B, ms⟩ := q
  simp only at HU HV hm hm' ⊢
  obtain ⟨n, hn⟩ : ∃ n, ls.length = n := ⟨_, rfl⟩
  obtain ⟨m, hmm⟩ : ∃ n, ms.length = n := ⟨_, rfl⟩
  rw [hn] at HU hm ⊢
  rw [hmm] at HV hm' ⊢
  clear hn hmm
  have T : Below w.heap.size w ((w.alloc (.cells #[.int .i64 A, .slice xa n ca] 98)).alloc (.cells #[.int .i64 B, .slice xb m cb] 98)) := ((Below.refl _ _).alloc (Nat.le_refl _) _).alloc (by simp) _
  by_cases hAB : A = B
  · subst hAB
    have e0 : sameS ⟨A, ls⟩ ⟨A, ms⟩ = decide (ls = ms) := by unfold sameS; simp
    rw [e0]
    have cE := iEqualI ls ms _ _ _ (HU.out.below T) (HV.out.below T)
    obtain ⟨F, hF⟩ : ∃ F, decide (ls = ms) = F := ⟨_, rfl⟩
    rw [hF] at cE ⊢
    clear hF e0
    go_enter Try.func131, Try.ntmps131
    go_wp2_with (go_at_call 141; (with_reducible refine cE.mono ?_); rintro e w5 ⟨rfl, hb5⟩)
    go_ret
    exact ⟨rfl, chain T hb5⟩
  · have e0 : sameS ⟨A, ls⟩ ⟨B, ms⟩ = false := by unfold sameS; simp [hAB]
    rw [e0]
    have hne : (A == B) = false := by rw [beq_eq_false_iff_ne]; exact hAB
    go_enter Try.func131, Try.ntmps131
    go_wp2
    go_ret
    exact ⟨rfl, T⟩

set_option maxHeartbeats 400000 in
set_option maxRecDepth 100000 in
theorem iIsInFunc (x : Option Addr) (n c : Nat) (k : Int) (w : World) (hn : n ≤ maxLen) :
    Calls Try.prog 51 #[.slice x n c, .int .i64 k] w fun e w' => e = .returned (.bool (inB k 0 ((n : Int) - 1))) ∧ w = w' := by
  unfold maxLen at hn
  obtain ⟨F, hF⟩ : ∃ F, inB k 0 ((n : Int) - 1) = F := ⟨_, rfl⟩
  rw [hF]
  have HF : Hid (inB k 0 ((n : Int) - 1) = F) := hF
  clear hF
  by_cases h0 : 0 ≤ k
  case neg =>
    have e : F = false := by rw [← HF.out]; unfold inB; rw [decide_eq_false h0]; rfl
    subst e
    go_enter Try.func51, Try.ntmps51
    go_wp2
    go_ret
    exact ⟨rfl, rfl⟩
  case pos =>
    by_cases h1 : k < (n : Int)
    · have e : F = true := by rw [← HF.out]; unfold inB; rw [decide_eq_true h0, decide_eq_true (p := k ≤ (n : Int) - 1) (by omega)]; rfl
      subst e
      go_enter Try.func51, Try.ntmps51
      go_wp2
      go_ret
      exact ⟨rfl, rfl⟩
    · have e : F = false := by rw [← HF.out]; unfold inB; rw [decide_eq_false (p := k ≤ (n : Int) - 1) (by omega), Bool.and_false]
      subst e
      go_enter Try.func51, Try.ntmps51
      go_wp2
      go_ret
      exact ⟨rfl, rfl⟩

set_option maxHeartbeats 400000 in
set_option maxRecDepth 100000 in
theorem iIsInIns (x : Option Addr) (n c : Nat) (k : Int) (w : World) (hn : n ≤ maxLen) :
    Calls Try.prog 36 #[.slice x n c, .int .i64 k] w fun e w' => e = .returned (.bool (inB k 0 ((n : Int) - 1))) ∧ w = w' := by
  unfold maxLen at hn
  obtain ⟨F, hF⟩ : ∃ F, inB k 0 ((n : Int) - 1) = F := ⟨_, rfl⟩
  rw [hF]
  have HF : Hid (inB k 0 ((n : Int) - 1) = F) := hF
  clear hF
  by_cases h0 : 0 ≤ k
  case neg =>
    have e : F = false := by rw [← HF.out]; unfold inB; rw [decide_eq_false h0]; rfl
    subst e
    go_enter Try.func36, Try.ntmps36
    go_wp2
    go_ret
    exact ⟨rfl, rfl⟩
  case pos =>
    by_cases h1 : k < (n : Int)
    · have e : F = true := by rw [← HF.out]; unfold inB; rw [decide_eq_true h0, decide_eq_true (p := k ≤ (n : Int) - 1) (by omega)]; rfl
      subst e
      go_enter Try.func36, Try.ntmps36
      go_wp2
      go_ret
      exact ⟨rfl, rfl⟩
    · have e : F = false := by rw [← HF.out]; unfold inB; rw [decide_eq_false (p := k ≤ (n : Int) - 1) (by omega), Bool.and_false]
      subst e
      go_enter Try.func36, Try.ntmps36
      go_wp2
      go_ret
      exact ⟨rfl, rfl⟩

end Go.Proofs.Ytbgdapdenbldmaa
