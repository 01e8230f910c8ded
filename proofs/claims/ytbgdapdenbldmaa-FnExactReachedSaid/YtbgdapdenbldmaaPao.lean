/-
  Part 15 of what is proved of drawn right trees.
-/
import Derived.Test.YtbgdapdenbldmaaPan
import Derived.Test.YtbgdapdenbldmaaPaj
import Derived.Test.YtbgdapdenbldmaaPai
import Derived.Deep.RegionHeld3

namespace Go.Proofs.Ytbgdapdenbldmaa
open Go.RowKit Go.Sort
set_option linter.unusedVariables false
structure TCtx (p : PImg) (f : PFun) (w0 : World) (n R : Nat) (fv cv qc qk qh : Value) : Prop where
  img : ArgImg w0 fv cv p
  fn : FunV w0 f qc qk qh
  ok : imgOk p = true
  fok : funOk f = true
  nn : f.code.length = n
  rr : f.regs.toNat = R
theorem TCtx.le {p : PImg} {f : PFun} {w0 : World} {n R : Nat} {fv cv qc qk qh : Value} (h : TCtx p f w0 n R fv cv qc qk qh) : FunLe f ∧ n ≤ 300 ∧ 1 ≤ n ∧ R ≤ 40 := by
  have a := funOk_le h.fok
  have := a.code
  have := a.regs
  have := h.nn
  have := h.rr
  exact ⟨a, by omega, by omega, by omega⟩
theorem TCtx.up {p : PImg} {f : PFun} {w0 : World} {n R : Nat} {fv cv qc qk qh : Value} (h : TCtx p f w0 n R fv cv qc qk qh) : CapsUp p := fun g hg c hc =>
  (capOk_le ((funOk_le ((imgOk_le h.ok).funsOk g hg)).capsOk c hc)).1
theorem flowsI_ok {n R : Nat} {r : RunP} (h : RunOk n R r) (xs : List (Nat × PSta)) (hx : ∀ x ∈ xs, x.2.regs.length = R) : RunOk n R (flowsI r xs) :=
  (flows_same xs (SameR.refl r)).ok (flows_flowed xs h hx).2.1
theorem hnd_more {α : Type} (g : α → Option (Nat × PSta)) {l : List α} {k : Nat} {x : α} (h : l[k]? = some x) (r : RunP) : flowsI r ((l.take (k + 1)).filterMap g) = (match g x with | some y => flowI (flowsI r ((l.take k).filterMap g)) y.1 y.2 | none => flowsI r ((l.take k).filterMap g)) := by
  rw [List.take_add_one, h, List.filterMap_append, flowsI_app]
  simp only [Option.toList_some, List.filterMap_cons, List.filterMap_nil]
  cases g x with
  | none => rfl
  | some y => rfl
theorem hnds_len {f : PFun} {q R : Nat} {s : PSta} (hs : s.regs.length = R) {l : List PHnd} : ∀ x ∈ l.filterMap (hndTo q s), x.2.regs.length = R := fun x hx => by
  obtain ⟨k, _, hk⟩ := List.mem_filterMap.1 hx
  unfold hndTo at hk
  split at hk
  · injection hk with hk; rw [← hk]; exact hs
  · cases hk
variable {p : PImg} {f : PFun} {w0 : World} {R : Nat} {X S H L K n B : Nat} {fv cv : Value} {PA RE : Int} {qc qk qh : Value} {r : RunP} {fi : Nat} {w w' : World}
set_option maxHeartbeats 2000000 in
set_option maxRecDepth 100000 in
theorem iThrowFrom (C : TCtx p f w0 n R fv cv qc qk qh) (hB0 : w0.heap.size = B) (h : TAt X S H L K n B fv cv PA RE qc qk qh r fi w) (hb : Below B w0 w) (hok : RunOk n R r) (q : Nat) (s : PSta) (hs : r.list[q]? = some s) (hsr : s.regs.length = R) :
    Calls Try.prog 83 #[.pointer (some ⟨X, 0, none⟩), .int .i64 (q : Int)] w fun e w' => e = .returned (.tuple #[]) ∧ TAt X S H L K n B fv cv PA RE qc qk qh (flowsI r (hndsP f q s)) fi w' ∧ TStep X S H L K w w' := by
  obtain ⟨le, hn, hn1, hR⟩ := C.le
  have hqn : q < n := by have := (List.getElem?_eq_some_iff.1 hs).1; have := h.ll; omega
  have hBw : B ≤ w.heap.size := by rw [← hB0]; have := hb.size; omega
  have hq0 : (0 : Int) ≤ (q : Int) := by omega
  have hq1 : (q : Int) < (n : Int) := by omega
  obtain ⟨xo, co, o1, o2, o3, _⟩ := h.at_ hs
  rw [hsr] at o2 o3
  obtain ⟨xk, ck, hqk, mk, _⟩ := C.fn.code.opened insC_len
  rw [C.nn] at hqk
  obtain ⟨xh, ch, hqh, mh, oh⟩ := C.fn.hnds.opened hndC_len
  have bc := boxC h.box
  have x7 := bc.c7
  have b1 : Below w.heap.size w (w.alloc (.cells #[.int .i64 1, .slice xo R co] 98)) := (Below.refl _ _).alloc (Nat.le_refl _) _
  have g1 : (w.alloc (.cells #[.int .i64 1, .slice xo R co] 98)).heap[w.heap.size]? = some (.cells #[.int .i64 1, .slice xo R co] 98 (0, 0)) := heap_alloc_new w _
  have hbS : ∀ (k : Int) (a : Option Addr) (m d : Nat) (W : World), (Instr.build 98 #[(0, .int .i64 k), (1, .slice a m d)]).run Try.prog W = .ok (.agg #[.int .i64 k, .slice a m d]) W := fun k a m d W => run_build W 98 _ _ (by kernel_rfl)
  obtain ⟨W1, hW1⟩ : ∃ W, w.alloc (.cells #[.int .i64 1, .slice xo R co] 98) = W := ⟨_, rfl⟩
  simp only [hW1] at b1 g1
  have HW1 : Hid (_ = W1) := hW1
  have T1 := h.below b1
  have bc1 := boxC T1.box
  have y6 := bc1.c6
  obtain ⟨G, hG⟩ : ∃ g, w.heap.size = g := ⟨_, rfl⟩
  rw [hG] at g1
  have HG : Hid (w.heap.size = G) := hG
  have hGn : ¬ Own5 X S H L K G := by
    have := h.in_
    unfold Own5
    omega
  have HT1 : Hid _ := T1
  have HO : Hid (OwnI W1 B (.slice xo R co) s.regs) := o3.below b1
  have HC : Hid (TCtx p f w0 n R fv cv qc qk qh) := C
  have HB1 : Hid (Below B w0 W1) := (TStep.of_below (X := X) (S := S) (H := H) (L := L) (K := K) b1).low hb hBw h.lo
  have HBW : Hid (B ≤ W1.heap.size) := Nat.le_trans hBw b1.size
  have HS1 : Hid (TStep X S H L K w W1) := TStep.of_below b1
  have HOK : Hid (RunOk n R r) := hok
  have HSR : Hid (s.regs.length = R) := hsr
  subst hqh
  obtain ⟨nh, ehl⟩ : ∃ k, f.hnds.length = k := ⟨_, rfl⟩
  rw [ehl] at y6 mh oh
  unfold maxLen at mh
  have HOH : Hid (0 < nh → ∃ b o, xh = some ⟨b, o, none⟩ ∧ b < w0.heap.size ∧ ∀ j q, f.hnds[j]? = some q → ∀ c u, (hndC q)[c]? = some u → w0.cell? ⟨b, o + j * 3 + c, none⟩ = some u) := oh
  have HL : Hid (f.hnds.length = nh ∧ nh ≤ 40) := ⟨ehl, by have := le.hnds; omega⟩
  have HLE : Hid (∀ q ∈ f.hnds, hndOk q = true) := le.hndsOk
  have hnh : nh ≤ 40 := HL.out.2
  clear hW1 bc bc1 T1 o3 C b1 h hb hok hs hsr oh le ehl hG
  go_enter Try.func83, Try.ntmps83
  go_upto_region 1 with fail
  rw [HW1.out]
  clear HW1
  simp only [HG.out]
  clear x7 o1 o2
  go_wp2
  clear y6
  go_loopw [22] (fun i wr => ∃ k : Nat, i = .int .i64 k ∧ k ≤ nh ∧ Hid (TAt X S H L K n B fv cv PA RE qc qk (.slice xh nh ch) (flowsI r ((f.hnds.take k).filterMap (hndTo q s))) fi wr ∧ TStep X S H L K W1 wr)) (fun i _ => nh - (intOf i).toNat)
  case atStart => exact ⟨0, rfl, Nat.zero_le _, by have h := HT1.out; rw [HL.out.1] at h; exact ⟨h, TStep.refl _⟩⟩
  case round =>
    obtain ⟨k, rfl, hk, HR⟩ := hrel
    have hk0 : (0 : Int) ≤ (k : Int) := by omega
    by_cases hkn : k < nh
    · have hki : (k : Int) < (nh : Int) := by omega
      obtain ⟨b, o, rfl, hbz, hcell⟩ := HOH.out (by omega)
      obtain ⟨hd, hhd⟩ : ∃ q, f.hnds[k]? = some q := ⟨_, List.getElem?_eq_getElem (by have := HL.out.1; omega)⟩
      have bw := HR.out.2.low HB1.out HBW.out HR.out.1.lo
      have hbB : b < B := by omega
      have g0 : wr.cell? ⟨b, o + k * 3, none⟩ = some (.int .i64 hd.lo) := (bw.cell (p := ⟨b, o + k * 3, none⟩) hbB).trans (hcell k hd hhd 0 _ rfl)
      have g1' : wr.cell? ⟨b, o + k * 3 + 1, none⟩ = some (.int .i64 hd.hi) := (bw.cell (p := ⟨b, o + k * 3 + 1, none⟩) hbB).trans (hcell k hd hhd 1 _ rfl)
      have g2 : wr.cell? ⟨b, o + k * 3 + 2, none⟩ = some (.int .i64 hd.target) := (bw.cell (p := ⟨b, o + k * 3 + 2, none⟩) hbB).trans (hcell k hd hhd 2 _ rfl)
      obtain ⟨hlo, hhi, ht0, ht1⟩ := hndOk_le (HLE.out hd (List.mem_of_getElem? hhd))
      obtain ⟨TG, eT⟩ : ∃ t : Nat, hd.target = (t : Int) := ⟨hd.target.toNat, by omega⟩
      obtain ⟨LO, eL⟩ : ∃ t, hd.lo = t := ⟨_, rfl⟩
      obtain ⟨HI, eH⟩ : ∃ t, hd.hi = t := ⟨_, rfl⟩
      have HM := hnd_more (hndTo q s) hhd r
      have ehn : hndTo q s hd = if LO ≤ (q : Int) ∧ (q : Int) < HI then some (TG, ⟨1, s.regs⟩) else none := by
        unfold hndTo
        rw [eL, eH, eT, Int.toNat_natCast]
      rw [ehn] at HM
      have HMH : Hid _ := HM
      rw [eL] at g0
      rw [eH] at g1'
      rw [eT] at g2
      have hTG : TG ≤ 300 := by omega
      have b2 : Below wr.heap.size wr (wr.alloc (.cells #[.int .i64 LO, .int .i64 HI, .int .i64 TG] 130)) := (Below.refl _ _).alloc (Nat.le_refl _) _
      have q2 : (wr.alloc (.cells #[.int .i64 LO, .int .i64 HI, .int .i64 TG] 130)).heap[wr.heap.size]? = some (.cells #[.int .i64 LO, .int .i64 HI, .int .i64 TG] 130 (0, 0)) := heap_alloc_new wr _
      obtain ⟨W2, hW2⟩ : ∃ W, wr.alloc (.cells #[.int .i64 LO, .int .i64 HI, .int .i64 TG] 130) = W := ⟨_, rfl⟩
      simp only [hW2] at b2 q2
      have HW2 : Hid (_ = W2) := hW2
      obtain ⟨i0, i1, i2⟩ := three_cells q2
      have gG : W2.heap[G]? = some (.cells #[.int .i64 1, .slice xo R co] 98 (0, 0)) := by
        have hGl := lt16 g1
        rw [b2.block G (Nat.lt_of_lt_of_le hGl HR.out.2.size), HR.out.2.block G hGl hGn]
        exact g1
      obtain ⟨s0, s1⟩ := two_cells_of gG
      have T2 := HR.out.1.below b2
      have S2 : TStep X S H L K W1 W2 := HR.out.2.trans (TStep.of_below b2)
      have hO2 : OwnI W2 B (.slice xo R co) s.regs := HT1.out.row S2 HO.out
      have cA := iArrive T2 (flowsI_ok HOK.out _ (hnds_len (f := f) HSR.out)) hn hR TG (by omega) ⟨1, s.regs⟩ HSR.out (.slice xo R co) hO2 (Nat.le_trans HBW.out S2.size) xk ck hqk
      have HT2 : Hid _ := And.intro T2 S2
      clear hcell hhd bw eT eL eH HM ehn T2 S2 hO2 gG hW2 HR hlo hhi ht0 ht1
      by_cases c1 : LO ≤ (q : Int)
      case neg =>
        have eM : flowsI r ((f.hnds.take (k + 1)).filterMap (hndTo q s)) = flowsI r ((f.hnds.take k).filterMap (hndTo q s)) := by rw [HMH.out, if_neg (fun h => c1 h.1)]
        have HE : Hid (TAt X S H L K n B fv cv PA RE qc qk (.slice (some ⟨b, o, none⟩) nh ch) (flowsI r ((f.hnds.take (k + 1)).filterMap (hndTo q s))) fi W2 ∧ TStep X S H L K W1 W2) := by rw [eM]; exact HT2.out
        clear eM cA HT2 HMH
        go_upto_region 4 with fail
        rw [HW2.out]
        clear HW2
        go_wp2
        go_roundw
        case rel => exact ⟨k + 1, by go_num, by omega, HE⟩
        case measure => simp [intOf]; omega
      by_cases c2 : (q : Int) < HI
      case neg =>
        have eM : flowsI r ((f.hnds.take (k + 1)).filterMap (hndTo q s)) = flowsI r ((f.hnds.take k).filterMap (hndTo q s)) := by rw [HMH.out, if_neg (fun h => c2 h.2)]
        have HE : Hid (TAt X S H L K n B fv cv PA RE qc qk (.slice (some ⟨b, o, none⟩) nh ch) (flowsI r ((f.hnds.take (k + 1)).filterMap (hndTo q s))) fi W2 ∧ TStep X S H L K W1 W2) := by rw [eM]; exact HT2.out
        clear eM cA HT2 HMH
        go_upto_region 4 with fail
        rw [HW2.out]
        clear HW2
        go_wp2
        go_roundw
        case rel => exact ⟨k + 1, by go_num, by omega, HE⟩
        case measure => simp [intOf]; omega
      have eM : flowsI r ((f.hnds.take (k + 1)).filterMap (hndTo q s)) = flowI (flowsI r ((f.hnds.take k).filterMap (hndTo q s))) TG ⟨1, s.regs⟩ := by rw [HMH.out, if_pos ⟨c1, c2⟩]
      rw [← eM] at cA
      have HS2 : Hid (TStep X S H L K W1 W2) := HT2.out.2
      clear eM HT2 HMH
      go_upto_region 4 with fail
      rw [HW2.out]
      clear HW2
      go_wp2_with (go_at_call 115; (with_reducible refine cA.mono ?_); rintro e w5 ⟨rfl, h5, s5⟩; have HH5 : Hid _ := And.intro h5 (HS2.out.trans s5); clear h5 s5)
      go_roundw
      case rel => exact ⟨k + 1, by go_num, by omega, HH5⟩
      case measure => simp [intOf]; omega
    · have e : k = nh := by omega
      subst e
      have hki : ¬ (k : Int) < (k : Int) := by omega
      have HE : Hid (TAt X S H L K n B fv cv PA RE qc qk (.slice xh k ch) (flowsI r (hndsP f q s)) fi wr ∧ TStep X S H L K w wr) := by
        have h := HR.out
        rw [List.take_of_length_le (by rw [HL.out.1]; exact Nat.le_refl _)] at h
        exact ⟨h.1, HS1.out.trans h.2⟩
      clear HR
      go_wp2
      go_returns
      rw [HL.out.1]
      exact ⟨rfl, by have h := HE.out.1; rw [hqk] at h; exact h, HE.out.2⟩
def firstP (R k : Nat) : List Int := List.replicate k 1 ++ List.replicate (R - k) 0
theorem firstP_set {R k : Nat} (h : k < R) : (firstP R k).set k 1 = firstP R (k + 1) := by
  unfold firstP
  rw [List.set_append_right (h := by simp), List.length_replicate, Nat.sub_self, show R - k = (R - (k + 1)) + 1 by omega, List.replicate_succ, List.set_cons_zero, List.replicate_succ', List.append_assoc]
  rfl
theorem firstP_end (f : PFun) (h0 : 0 ≤ f.params) (h1 : f.params ≤ f.regs) : firstP f.regs.toNat f.params.toNat = (firstS f).regs := by
  unfold firstP firstS
  apply List.ext_getElem?
  intro j
  simp only [List.getElem?_map]
  rcases Nat.lt_or_ge j f.params.toNat with h | h
  · rw [List.getElem?_append_left (by simpa using h), List.getElem?_replicate, if_pos h, List.getElem?_range (by omega)]
    simp only [Option.map_some]
    rw [if_pos (by omega)]
  · rw [List.getElem?_append_right (by simpa using h), List.length_replicate, List.getElem?_replicate]
    by_cases h2 : j < f.regs.toNat
    · rw [if_pos (by omega), List.getElem?_range h2]
      simp only [Option.map_some]
      rw [if_neg (by omega)]
    · rw [if_neg (by omega), List.getElem?_eq_none (by simpa using Nat.le_of_not_lt h2)]
      rfl
set_option maxHeartbeats 2000000 in
set_option maxRecDepth 100000 in
theorem iBegin (C : TCtx p f w0 n R fv cv qc qk qh) (hB0 : w0.heap.size = B) (h : TAt X S H L K n B fv cv f.params f.regs qc qk qh r fi w) (hb : Below B w0 w) (hok : RunOk n R r) :
    Calls Try.prog 81 #[.pointer (some ⟨X, 0, none⟩)] w fun e w' => e = .returned (.tuple #[]) ∧ TAt X S H L K n B fv cv f.params f.regs qc qk qh (flowI r 0 (firstS f)) fi w' ∧ TStep X S H L K w w' := by
  obtain ⟨le, hn, hn1, hR⟩ := C.le
  have hBw : B ≤ w.heap.size := by rw [← hB0]; have := hb.size; omega
  have hpr : f.params ≤ f.regs := by
    have h := C.fok
    unfold funOk at h
    simp only [Bool.and_eq_true] at h
    have h2 := h.2.1
    unfold inB at h2
    simp only [Bool.and_eq_true, decide_eq_true_eq] at h2
    exact h2.1
  have hp0 := le.params
  have hr0 := le.regs
  have eEnd := firstP_end f hp0.1 hpr
  have hFl : (firstS f).regs.length = R := by rw [firstS_len]; exact C.rr
  have hFa : (firstS f).acc = 0 := rfl
  obtain ⟨xk, ck, hqk, mk, _⟩ := C.fn.code.opened insC_len
  rw [C.nn] at hqk
  obtain ⟨PN, ePN⟩ : ∃ k : Nat, f.params = (k : Int) := ⟨f.params.toNat, by omega⟩
  have eRR : f.regs = (R : Int) := by have := C.rr; omega
  rw [C.rr, ePN, Int.toNat_natCast] at eEnd
  have hPR : PN ≤ R := by omega
  have HH : Hid _ := h
  simp only [ePN, eRR] at HH h ⊢
  have bc := boxC h.box
  have x3 := bc.c3
  have hmI : ∀ W, (Instr.makeSlice 35 (.int .i64 (R : Int)) (.int .i64 (R : Int))).run Try.prog W = .ok (.slice (some ⟨W.heap.size, 0, none⟩) R R) (W.alloc (.cells (madeCells #[.int .i64 0] (R * 1)) 3)) := fun W => made16m (P := Try.prog) Try.underlying35 Try.info13I (by decide) R (by omega) W
  have hbS : ∀ (a : Option Addr) (m d : Nat) (W : World), (Instr.build 98 #[(1, .slice a m d)]).run Try.prog W = .ok (.agg #[.int .i64 0, .slice a m d]) W := fun a m d W => run_build W 98 _ _ (by kernel_rfl)
  obtain ⟨CI, hCI⟩ : ∃ a, madeCells #[.int .i64 0] (R * 1) = a := ⟨_, rfl⟩
  simp only [hCI] at hmI
  obtain ⟨G, hG⟩ : ∃ g, w.heap.size = g := ⟨_, rfl⟩
  have b2 : Below w.heap.size w ((w.alloc (.cells CI 3)).alloc (.cells #[.int .i64 0, .slice (some ⟨G, 0, none⟩) R R] 98)) := ((Below.refl _ _).alloc (Nat.le_refl _) _).alloc (by simp) _
  have q1 : ((w.alloc (.cells CI 3)).alloc (.cells #[.int .i64 0, .slice (some ⟨G, 0, none⟩) R R] 98)).heap[G]? = some (.cells CI 3 (0, 0)) := by
    rw [heap_alloc_old (r := G) _ _ (by simp; omega), ← hG]
    exact heap_alloc_new w _
  have q2 : ((w.alloc (.cells CI 3)).alloc (.cells #[.int .i64 0, .slice (some ⟨G, 0, none⟩) R R] 98)).heap[G + 1]? = some (.cells #[.int .i64 0, .slice (some ⟨G, 0, none⟩) R R] 98 (0, 0)) := by
    have h := heap_alloc_new (w.alloc (.cells CI 3)) (.cells #[.int .i64 0, .slice (some ⟨G, 0, none⟩) R R] 98)
    rw [show (w.alloc (.cells CI 3)).heap.size = G + 1 by simp; omega] at h
    exact h
  obtain ⟨W2, hW2⟩ : ∃ W, (w.alloc (.cells CI 3)).alloc (.cells #[.int .i64 0, .slice (some ⟨G, 0, none⟩) R R] 98) = W := ⟨_, rfl⟩
  simp only [hW2] at b2 q1 q2
  have HW2 : Hid (_ = W2) := hW2
  have hO2 : OwnI W2 B (.slice (some ⟨G, 0, none⟩) R R) (firstP R 0) := by
    have h := made_own W2 B R G (by rw [hCI]; exact q1) (by omega) (by omega)
    unfold firstP
    simpa using h
  have HO2 : Hid _ := hO2
  have T2 := h.below b2
  have y2 := (boxC T2.box).c2
  have HQ2 : Hid _ := q2
  have HB2 : Hid (Below w.heap.size w W2) := b2
  have HG : Hid (w.heap.size = G ∧ B ≤ G ∧ X < G ∧ S < G ∧ H < G ∧ L < G ∧ K < G) := ⟨hG, by omega, by have := h.in_; omega⟩
  have HEE : Hid (firstP R PN = (firstS f).regs ∧ (firstS f).regs.length = R) := ⟨eEnd, hFl⟩
  have HOK : Hid (RunOk n R r) := hok
  have HBw : Hid (B ≤ w.heap.size) := hBw
  clear hW2 bc T2 h b2 q1 q2 hO2 hok C le hCI eEnd hFl hG hB0 hb hBw hpr hp0 hr0 ePN eRR
  go_enter Try.func81, Try.ntmps81
  go_upto_region 1 with fail
  simp only [HG.out.1]
  rw [HW2.out]
  clear HW2 x3
  go_wp2
  clear y2
  go_loopw [16] (fun i wr => ∃ k : Nat, i = .int .i64 k ∧ k ≤ PN ∧ Hid (OwnI wr B (.slice (some ⟨G, 0, none⟩) R R) (firstP R k) ∧ wr.heap[G + 1]? = some (.cells #[.int .i64 0, .slice (some ⟨G, 0, none⟩) R R] 98 (0, 0)) ∧ Below w.heap.size w wr)) (fun i _ => PN - (intOf i).toNat)
  case atStart => exact ⟨0, rfl, Nat.zero_le _, HO2.out, HQ2.out, HB2.out⟩
  case round =>
    obtain ⟨k, rfl, hk, HR⟩ := hrel
    have hk0 : (0 : Int) ≤ (k : Int) := by omega
    obtain ⟨r1, r2, r3⟩ := HR.out
    obtain ⟨s0, s1⟩ := two_cells_of r2
    by_cases hkn : k < PN
    · have hki : (k : Int) < (PN : Int) := by omega
      have hkr : (k : Int) < (R : Int) := by omega
      have hlf : (firstP R k).length = R := by unfold firstP; rw [List.length_append, List.length_replicate, List.length_replicate]; omega
      have hOw : wr.ownsRow B 3 1 (.slice (some ⟨G, 0, none⟩) R R) R ((firstP R k).flatMap intC) := by
        have h := r1
        unfold OwnI at h
        rw [hlf] at h
        exact h
      obtain ⟨⟨u, hu⟩, hfz⟩ := row_cell hOw k (by omega)
      have hp := r1.put k 1
      rw [firstP_set (by omega)] at hp
      have HE : Hid (OwnI (wr.setCell ⟨G, k, none⟩ (.int .i64 1)) B (.slice (some ⟨G, 0, none⟩) R R) (firstP R (k + 1)) ∧ (wr.setCell ⟨G, k, none⟩ (.int .i64 1)).heap[G + 1]? = some (.cells #[.int .i64 0, .slice (some ⟨G, 0, none⟩) R R] 98 (0, 0)) ∧ Below w.heap.size w (wr.setCell ⟨G, k, none⟩ (.int .i64 1))) := ⟨hp, by rw [heap_setCell_other _ ⟨G, k, none⟩ (G + 1) _ (by show G + 1 ≠ G; omega)]; exact r2, r3.setCell (p := ⟨G, k, none⟩) (by have := HG.out; show w.heap.size ≤ G; omega) _⟩
      clear hlf hOw hp r1 r2 r3 HR
      go_wp2
      go_roundw
      case rel => exact ⟨k + 1, by go_num, by omega, HE⟩
      case measure => simp [intOf]; omega
    · have e : k = PN := by omega
      subst e
      have hki : ¬ (k : Int) < (k : Int) := by omega
      rw [HEE.out.1] at r1
      have T3 := HH.out.below r3
      have cA := iArrive T3 HOK.out hn hR 0 (by omega) (firstS f) HEE.out.2 (.slice (some ⟨G, 0, none⟩) R R) r1 (Nat.le_trans HBw.out r3.size) xk ck hqk
      rw [hFa, show ((0 : Nat) : Int) = 0 from rfl] at cA
      have HS3 : Hid (TStep X S H L K w wr) := TStep.of_below r3
      clear T3 r1 r2 r3 HR
      go_wp2_with (go_at_call 115; (with_reducible refine cA.mono ?_); rintro e w5 ⟨rfl, h5, s5⟩)
      go_returns
      exact ⟨rfl, h5, HS3.out.trans s5⟩
end Go.Proofs.Ytbgdapdenbldmaa
namespace Go.Proofs.Ytbgdapdenbldmaa
open Go.RowKit Go.Sort
set_option linter.unusedVariables false
set_option maxHeartbeats 2000000 in
set_option maxRecDepth 100000 in
theorem iStepped (i : PIns) (s : PSta) (v : Value) (w : World) (h : ArgI w v s.regs) (hr : s.regs.length ≤ 1000) (hin : i.op = 3 ∨ i.op = 4 → regIn s i.a = true) :
    Calls Try.prog 118 #[.agg #[.int .i64 i.op, .int .i64 i.a, .int .i64 i.b], .agg #[.int .i64 s.acc, v]] w fun e w' => ∃ v', e = .returned (.agg #[.int .i64 (aftS i s).acc, v']) ∧ OwnI w' w.heap.size v' (aftS i s).regs ∧ Below w.heap.size w w' := by
  obtain ⟨x, c, rfl, hm, _⟩ := h.opened
  obtain ⟨n, hn⟩ : ∃ n, s.regs.length = n := ⟨_, rfl⟩
  have HA : Hid (∀ W, Below w.heap.size w W → ArgFlat W (.slice x n c) 1 n (s.regs.flatMap intC)) := fun W hW => by
    have := h.below hW
    unfold ArgI at this
    rw [hn] at this
    exact this
  have HN : Hid (s.regs.length = n) := hn
  rw [hn] at hr hm ⊢
  obtain ⟨OP, eO⟩ : ∃ n, i.op = n := ⟨_, rfl⟩
  obtain ⟨IA, eA⟩ : ∃ n, i.a = n := ⟨_, rfl⟩
  obtain ⟨IB, eB⟩ : ∃ n, i.b = n := ⟨_, rfl⟩
  obtain ⟨AC, eC⟩ : ∃ n, s.acc = n := ⟨_, rfl⟩
  rw [eO, eA] at hin
  have HE : Hid (aftS i s = if givesB OP then ⟨1, s.regs⟩ else if OP = 3 then ⟨AC, s.regs.set IA.toNat 1⟩ else if OP = 4 then ⟨AC, s.regs.set IA.toNat 2⟩ else ⟨AC, s.regs⟩) := by
    show aftS i s = _
    unfold aftS
    rw [eO, eA, eC]
    repeat' split
    all_goals first | rfl | (rw [← eC])
  obtain ⟨R, eR⟩ : ∃ R, aftS i s = R := ⟨_, rfl⟩
  rw [eR] at HE
  simp only [eO, eA, eB, eC, eR]
  obtain ⟨RA, eRA⟩ : ∃ x, R.acc = x := ⟨_, rfl⟩
  obtain ⟨RR, eRR⟩ : ∃ x, R.regs = x := ⟨_, rfl⟩
  have HR : Hid (R.acc = RA ∧ R.regs = RR) := ⟨eRA, eRR⟩
  simp only [eRA, eRR]
  clear eO eA eB eC eR h hn eRA eRR
  have T := made_three w (Obj.cells #[.int .i64 OP, .int .i64 IA, .int .i64 IB] 72) (Obj.cells #[.int .i64 AC, .slice x n c] 98) (Obj.cells #[.int .i64 0, .slice none 0 0] 98)
  obtain ⟨W3, hW3⟩ : ∃ W, (((w.alloc (Obj.cells #[.int .i64 OP, .int .i64 IA, .int .i64 IB] 72)).alloc (Obj.cells #[.int .i64 AC, .slice x n c] 98)).alloc (Obj.cells #[.int .i64 0, .slice none 0 0] 98)) = W := ⟨_, rfl⟩
  rw [hW3] at T
  have HW3 : Hid (_ = W3) := hW3
  clear hW3
  obtain ⟨t0, t1, t2, tz, tb⟩ := T
  obtain ⟨G, hG⟩ : ∃ G, w.heap.size = G := ⟨_, rfl⟩
  rw [hG] at t0 t1 t2 tz
  obtain ⟨Z, hZ⟩ : ∃ Z, W3.heap.size = Z := ⟨_, rfl⟩
  have hZ3 : Z = G + 3 := by rw [← hZ, tz]
  have HZ : Hid (W3.heap.size = Z ∧ Z = G + 3) := ⟨hZ, hZ3⟩
  have HG : Hid (w.heap.size = G) := hG
  have HB3 : Hid (Below w.heap.size w W3) := tb
  have HT : Hid (W3.heap[G]? = some (.cells #[.int .i64 OP, .int .i64 IA, .int .i64 IB] 72 (0, 0)) ∧ W3.heap[G + 1]? = some (.cells #[.int .i64 AC, .slice x n c] 98 (0, 0)) ∧ W3.heap[G + 1 + 1]? = some (.cells #[.int .i64 0, .slice none 0 0] 98 (0, 0))) := ⟨t0, t1, t2⟩
  have HK : Hid (∀ W, Below W3.heap.size W3 W → W.cell? ⟨G + 1, 0, none⟩ = some (.int .i64 AC) ∧ W.cell? ⟨G + 1, 1, none⟩ = some (.slice x n c)) := fun W hW => by
    have q := (hW.block (G + 1) (by have := HZ.out; omega)).trans HT.out.2.1
    exact two_cells_of q
  clear tz hG hZ3 t0 t1 t2 tb
  go_enter Try.func118, Try.ntmps118
  go_upto_region 1 with fail
  rw [HW3.out]
  clear HW3
  simp only [HG.out]
  go_cut [5] (fun p wr => ∃ (C : Nat) (x' : Option Addr) (c' : Nat), p = .pointer (some ⟨C, 0, none⟩) ∧ Hid (AftAt w G C #[.int .i64 OP, .int .i64 IA, .int .i64 IB] #[.int .i64 AC, .slice x n c] AC (.slice x' n c') s.regs wr))
  case first =>
    have bS : ∀ {W : World} (o : Obj), Below W3.heap.size W3 W → Below W3.heap.size W3 (W.alloc o) := fun o h => h.alloc h.size o
    have bP : ∀ (X j : Nat) (u : Value) {W : World}, Below W3.heap.size W3 W → Z ≤ X → Below W3.heap.size W3 (W.setCell ⟨X, j, none⟩ u) := fun X j u W h hX => h.setCell (p := ⟨X, j, none⟩) (by show W3.heap.size ≤ X; omega) u
    have hbS : ∀ (k : Int) (a : Option Addr) (m d : Nat) (W : World), (Instr.build 98 #[(0, .int .i64 k), (1, .slice a m d)]).run Try.prog W = .ok (.agg #[.int .i64 k, .slice a m d]) W := fun k a m d W => run_build W 98 _ _ (by kernel_rfl)
    have hEnd : ∀ (C : Nat) (W : World) (y : Option Addr) (d : Nat), Below W3.heap.size W3 W → W.heap[C]? = some (.cells #[.int .i64 AC, .slice y n d] 98 (0, 0)) → OwnI W w.heap.size (.slice y n d) s.regs → Z ≤ C → Hid (AftAt w G C #[.int .i64 OP, .int .i64 IA, .int .i64 IB] #[.int .i64 AC, .slice x n c] AC (.slice y n d) s.regs W) := fun C W y d hB hC hO hZC => by
      have z := HZ.out
      have t := HT.out
      exact ⟨(hB.block _ (by omega)).trans t.1, (hB.block _ (by omega)).trans t.2.1, (hB.block _ (by omega)).trans t.2.2, hC, hO, chain HB3.out hB, by have := HG.out; omega, by omega⟩
    have hEndA : ∀ (W : World) (y : Option Addr) (d : Nat), Hid (Below W3.heap.size W3 W) → Hid (OwnI W w.heap.size (.slice y n d) s.regs) → Hid (AftAt w G W.heap.size #[.int .i64 OP, .int .i64 IA, .int .i64 IB] #[.int .i64 AC, .slice x n c] AC (.slice y n d) s.regs (W.alloc (.cells #[.int .i64 AC, .slice y n d] 98))) := fun W y d hB hO =>
      hEnd _ _ y d (bS _ hB.out) (heap_alloc_new W _) (hO.out.alloc _) (by have := hB.out.size; omega)
    have hEndB : ∀ (X : Nat) (W : World) (y : Option Addr) (d : Nat), Hid (Below W3.heap.size W3 W) → Hid (OwnI W w.heap.size (.slice y n d) s.regs) → Hid (W.heap[X]? = some (.cells #[.int .i64 0, .slice none 0 0] 98 (0, 0))) → Z ≤ X → Hid (AftAt w G X #[.int .i64 OP, .int .i64 IA, .int .i64 IB] #[.int .i64 AC, .slice x n c] AC (.slice y n d) s.regs ((W.setCell ⟨X, 0, none⟩ (.int .i64 AC)).setCell ⟨X, 1, none⟩ (.slice y n d))) := fun X W y d hB hO hX hZX => by
      have k0 := heap_setCell_same W X 0 _ _ (.int .i64 AC) hX.out
      have k1 := heap_setCell_same _ X 1 _ _ (.slice y n d) k0
      have ne := apart16 hO.out hX.out (by decide)
      exact hEnd X _ y d (bP _ _ _ (bP _ _ _ hB.out hZX) hZX) k1 (far16 (far16 hO.out ne) ne) hZX
    have cC : ∀ W, Below W3.heap.size W3 W → Calls Try.prog 136 #[.slice x n c] W fun e w' => ∃ y d, e = .returned (.slice y n d) ∧ Hid (OwnI w' w.heap.size (.slice y n d) s.regs) ∧ Hid (Below W3.heap.size W3 w') ∧ Hid (Below W.heap.size W w') := fun W hW => by
      have hA2 : ArgI W (.slice x n c) s.regs := by
        have h := HA.out W (chain HB3.out hW)
        unfold ArgI
        rw [HN.out]
        exact h
      refine (iClone s.regs (.slice x n c) W hA2 (by have := HN.out; omega)).mono ?_
      rintro e w' ⟨v', rfl, ho, hb⟩
      have ho2 : OwnI w' w.heap.size v' s.regs := row_low ho (Nat.le_trans HB3.out.size hW.size)
      obtain ⟨y, d, e2⟩ := row_slice ho2
      rw [HN.out] at e2
      subst e2
      exact ⟨y, d, rfl, ho2, chain hW hb, hb⟩
    have hU : ∀ (o : Obj) (W V : World), Hid (Below W.heap.size W V) → W.heap[Z]? = some o → Hid (V.heap[Z]? = some o) := fun o W V h k => (h.out.block Z (lt16 k)).trans k
    have q7 : ∀ (o : Obj), (W3.alloc o).heap[Z]? = some o := fun o => by
      have h := heap_alloc_new W3 o
      rw [hZ] at h
      exact h
    have q8 : ∀ (o : Obj), (W3.alloc o).drew.heap[Z]? = some o := q7
    go_region_held_law (fun W => W.cell? ⟨G + 1, 0, none⟩ = some (.int .i64 AC) ∧ W.cell? ⟨G + 1, 1, none⟩ = some (.slice x n c))
      (exact HK.out _ (by repeat (first | with_reducible exact Below.refl _ _ | with_reducible exact HB5.out | (with_reducible refine RowKit.Below.drew ?_) | (with_reducible refine bS _ ?_) | (with_reducible refine bP _ _ _ ?_ (Nat.le_refl _)))))
      (first
        | (go_at_call 136; (with_reducible refine (cC _ (by first | with_reducible exact Below.refl _ _ | with_reducible exact (Below.refl _ _).drew)).mono ?_); rintro e w5 ⟨y5, d5, rfl, HO5, HB5, HC5⟩)
        | (go_at_call 136; (with_reducible refine (cC _ (by first | with_reducible exact bS _ (Below.refl _ _) | with_reducible exact (bS _ (Below.refl _ _)).drew)).mono ?_); rintro e w5 ⟨y5, d5, rfl, HO5, HB5, HC5⟩; have U5 := hU _ _ _ HC5 (by first | with_reducible exact q7 _ | with_reducible exact q8 _); have p5 := two_cells_of U5.out; have p6 := p5.1; have p7 := p5.2; have z5 := fun j => frozen_of_row w5 Z j _ _ U5.out; clear p5))
    · have HE := hEndA _ _ _ HB5 HO5
      clear HK HA HT HZ hEnd hEndA hEndB bP bS hU q7 q8 cC HB5 HO5 HC5
      go_wp2
      go_meet
      case rel => exact ⟨_, _, _, rfl, HE⟩
    · have HE := hEndB _ _ _ _ HB5 HO5 U5 (Nat.le_refl _)
      clear HK HA HT HZ hEnd hEndA hEndB bP bS hU q7 q8 cC HB5 HO5 HC5 U5 p6 p7 z5
      go_wp2
      go_meet
      case rel => exact ⟨_, _, _, rfl, HE⟩
  case rest =>
    obtain ⟨C, x', c', rfl, HD⟩ := hcut
    have D := HD.out
    clear HK HA HT HZ HB3 hZ HD
    obtain ⟨i1, i2, i3⟩ := three_cells D.b0
    obtain ⟨r1, r2⟩ := two_cells_of D.b2
    obtain ⟨s1, s2⟩ := two_cells_of D.c
    have fR := fun j => frozen_of_row wc (G + 1 + 1) j _ _ D.b2
    have fC := fun j => frozen_of_row wc C j _ _ D.c
    have hlo := D.lo
    have hCR : C ≠ G + 1 + 1 := by omega
    have hOut : ∀ (W : World) (ac : Int) (l : List Int), Below w.heap.size w W → W.heap[G + 1 + 1]? = some (.cells #[.int .i64 0, .slice none 0 0] 98 (0, 0)) → OwnI W w.heap.size (.slice x' n c') l → Hid (((W.setCell ⟨G + 1 + 1, 0, none⟩ (.int .i64 ac)).setCell ⟨G + 1 + 1, 1, none⟩ (.slice x' n c')).heap[G + 1 + 1]? = some (.cells #[.int .i64 ac, .slice x' n c'] 98 (0, 0)) ∧ OwnI ((W.setCell ⟨G + 1 + 1, 0, none⟩ (.int .i64 ac)).setCell ⟨G + 1 + 1, 1, none⟩ (.slice x' n c')) w.heap.size (.slice x' n c') l ∧ Below w.heap.size w ((W.setCell ⟨G + 1 + 1, 0, none⟩ (.int .i64 ac)).setCell ⟨G + 1 + 1, 1, none⟩ (.slice x' n c'))) := fun W ac l hB hR hO => by
      have k0 := heap_setCell_same W (G + 1 + 1) 0 _ _ (.int .i64 ac) hR
      have k1 := heap_setCell_same _ (G + 1 + 1) 1 _ _ (.slice x' n c') k0
      have ne := apart16 hO hR (by decide)
      have q : ∀ (W : World) (j : Nat) (u : Value), Below w.heap.size w W → Below w.heap.size w (W.setCell ⟨G + 1 + 1, j, none⟩ u) := fun W j u h => h.setCell (p := ⟨G + 1 + 1, j, none⟩) (by show _ ≤ G + 1 + 1; omega) u
      exact ⟨k1, far16 (far16 hO ne) ne, q _ _ _ (q _ _ _ hB)⟩
    by_cases hg : givesB OP = true
    · have eR : R = ⟨1, s.regs⟩ := by rw [HE.out, if_pos hg]
      have hRA : RA = 1 := by rw [← HR.out.1, eR]
      have hRR : RR = s.regs := by rw [← HR.out.2, eR]
      subst hRA hRR
      have d1 := heap_setCell_same wc C 0 _ _ (.int .i64 1) D.c
      have d2 : (wc.setCell ⟨C, 0, none⟩ (.int .i64 1)).heap[G + 1 + 1]? = some (.cells #[.int .i64 0, .slice none 0 0] 98 (0, 0)) := by
        rw [heap_setCell_other _ _ _ _ (by show G + 1 + 1 ≠ C; omega)]
        exact D.b2
      have d3 : OwnI (wc.setCell ⟨C, 0, none⟩ (.int .i64 1)) w.heap.size (.slice x' n c') s.regs := far16 D.own (apart16 D.own D.c (by decide))
      have d4 : Below w.heap.size w (wc.setCell ⟨C, 0, none⟩ (.int .i64 1)) := D.bel.setCell (p := ⟨C, 0, none⟩) (by show _ ≤ C; omega) _
      have HO := hOut _ 1 s.regs d4 d2 d3
      obtain ⟨y1, y2⟩ := two_cells_of d1
      obtain ⟨z1, z2⟩ := two_cells_of HO.out.1
      have fR2 := fun j => frozen_of_row _ (G + 1 + 1) j _ _ d2
      obtain ⟨p1, p2⟩ := two_cells_of d2
      obtain ⟨WC, hWC⟩ : ∃ W, wc.setCell ⟨C, 0, none⟩ (.int .i64 1) = W := ⟨_, rfl⟩
      rw [hWC] at y1 y2 z1 z2 fR2 HO p1 p2
      have hop : OP = 1 ∨ OP = 2 ∨ OP = 5 ∨ OP = 7 ∨ OP = 9 ∨ OP = 10 ∨ OP = 11 ∨ OP = 15 ∨ OP = 16 := by unfold givesB at hg; exact of_decide_eq_true hg
      clear d1 d2 d3 d4 D hOut hg HE HR eR hin
      rcases hop with rfl | rfl | rfl | rfl | rfl | rfl | rfl | rfl | rfl
      all_goals
        go_upto_region 17 with fail
        try simp only [hWC]
        clear hWC
        go_wp2
        refine bodyPost_ret (by simp [results, Try.results118, go_sem, z1, z2]; try rfl) rfl ?_
        exact ⟨_, rfl, HO.out.2.1, HO.out.2.2⟩
    by_cases h3 : OP = 3
    · subst h3
      have hin' := hin (by decide)
      unfold regIn inB at hin'
      rw [HN.out] at hin'
      simp only [Bool.and_eq_true, decide_eq_true_eq] at hin'
      obtain ⟨K, rfl⟩ : ∃ K : Nat, IA = (K : Int) := ⟨IA.toNat, by omega⟩
      have eR : R = ⟨AC, s.regs.set K 1⟩ := by rw [HE.out, if_neg (by decide), if_pos rfl, Int.toNat_natCast]
      have hRA : RA = AC := by rw [← HR.out.1, eR]
      have hRR : RR = s.regs.set K 1 := by rw [← HR.out.2, eR]
      subst hRA hRR
      obtain ⟨_, _, e3, _, hg3⟩ := D.own.opened
      obtain ⟨g, hx'⟩ := hg3 (by rw [HN.out]; omega)
      injection e3 with e3 e4 e5
      subst e3 hx'
      try clear e4
      try clear e5
      have hK : (K : Int) < (n : Int) := by omega
      have hK0 : (0 : Int) ≤ (K : Int) := by omega
      have hgC : g ≠ C := fun e => apart16 D.own D.c (by decide) (by show some g = some C; rw [e])
      have hgR : g ≠ G + 1 + 1 := fun e => apart16 D.own D.b2 (by decide) (by show some g = some (G + 1 + 1); rw [e])
      obtain ⟨⟨u, hu⟩, hfz⟩ := row_cell (by have h := D.own; unfold OwnI at h; rw [HN.out] at h; exact h) K (by omega)
      have hgl : w.heap.size ≤ g := by
        obtain ⟨_, ⟨h0, _⟩ | ⟨g2, _, _, h0, h1, _⟩⟩ := D.own
        · cases h0
        · injection h0 with h0 _ _
          injection h0 with h0
          injection h0 with h0
          omega
      have d1 : (wc.setCell ⟨g, K, none⟩ (.int .i64 1)).heap[C]? = some (.cells #[.int .i64 RA, .slice (some ⟨g, 0, none⟩) n c'] 98 (0, 0)) := by
        rw [heap_setCell_other _ _ _ _ (by show C ≠ g; exact hgC.symm)]
        exact D.c
      have d2 : (wc.setCell ⟨g, K, none⟩ (.int .i64 1)).heap[G + 1 + 1]? = some (.cells #[.int .i64 0, .slice none 0 0] 98 (0, 0)) := by
        rw [heap_setCell_other _ _ _ _ (by show G + 1 + 1 ≠ g; exact hgR.symm)]
        exact D.b2
      have d3 := D.own.put K 1
      have d4 : Below w.heap.size w (wc.setCell ⟨g, K, none⟩ (.int .i64 1)) := D.bel.setCell (p := ⟨g, K, none⟩) hgl _
      have HO := hOut _ RA (s.regs.set K 1) d4 d2 d3
      obtain ⟨y1, y2⟩ := two_cells_of d1
      obtain ⟨z1, z2⟩ := two_cells_of HO.out.1
      have fR2 := fun j => frozen_of_row _ (G + 1 + 1) j _ _ d2
      obtain ⟨p1, p2⟩ := two_cells_of d2
      obtain ⟨WC, hWC⟩ : ∃ W, wc.setCell ⟨g, K, none⟩ (.int .i64 1) = W := ⟨_, rfl⟩
      rw [hWC] at y1 y2 z1 z2 fR2 HO p1 p2
      obtain ⟨_, q2⟩ := three_cells (by have h := D.b0; exact h)
      clear d1 d2 d3 d4 D hOut hg HE HR eR hin hin' q2
      go_upto_region 17 with fail
      try simp only [hWC]
      clear hWC
      go_wp2
      refine bodyPost_ret (by simp [results, Try.results118, go_sem, z1, z2]; try rfl) rfl ?_
      exact ⟨_, rfl, HO.out.2.1, HO.out.2.2⟩
    by_cases h4 : OP = 4
    · subst h4
      have hin' := hin (by decide)
      unfold regIn inB at hin'
      rw [HN.out] at hin'
      simp only [Bool.and_eq_true, decide_eq_true_eq] at hin'
      obtain ⟨K, rfl⟩ : ∃ K : Nat, IA = (K : Int) := ⟨IA.toNat, by omega⟩
      have eR : R = ⟨AC, s.regs.set K 2⟩ := by rw [HE.out, if_neg (by decide), if_neg (by decide), if_pos rfl, Int.toNat_natCast]
      have hRA : RA = AC := by rw [← HR.out.1, eR]
      have hRR : RR = s.regs.set K 2 := by rw [← HR.out.2, eR]
      subst hRA hRR
      obtain ⟨_, _, e3, _, hg3⟩ := D.own.opened
      obtain ⟨g, hx'⟩ := hg3 (by rw [HN.out]; omega)
      injection e3 with e3 e4 e5
      subst e3 hx'
      try clear e4
      try clear e5
      have hK : (K : Int) < (n : Int) := by omega
      have hK0 : (0 : Int) ≤ (K : Int) := by omega
      have hgC : g ≠ C := fun e => apart16 D.own D.c (by decide) (by show some g = some C; rw [e])
      have hgR : g ≠ G + 1 + 1 := fun e => apart16 D.own D.b2 (by decide) (by show some g = some (G + 1 + 1); rw [e])
      obtain ⟨⟨u, hu⟩, hfz⟩ := row_cell (by have h := D.own; unfold OwnI at h; rw [HN.out] at h; exact h) K (by omega)
      have hgl : w.heap.size ≤ g := by
        obtain ⟨_, ⟨h0, _⟩ | ⟨g2, _, _, h0, h1, _⟩⟩ := D.own
        · cases h0
        · injection h0 with h0 _ _
          injection h0 with h0
          injection h0 with h0
          omega
      have d1 : (wc.setCell ⟨g, K, none⟩ (.int .i64 2)).heap[C]? = some (.cells #[.int .i64 RA, .slice (some ⟨g, 0, none⟩) n c'] 98 (0, 0)) := by
        rw [heap_setCell_other _ _ _ _ (by show C ≠ g; exact hgC.symm)]
        exact D.c
      have d2 : (wc.setCell ⟨g, K, none⟩ (.int .i64 2)).heap[G + 1 + 1]? = some (.cells #[.int .i64 0, .slice none 0 0] 98 (0, 0)) := by
        rw [heap_setCell_other _ _ _ _ (by show G + 1 + 1 ≠ g; exact hgR.symm)]
        exact D.b2
      have d3 := D.own.put K 2
      have d4 : Below w.heap.size w (wc.setCell ⟨g, K, none⟩ (.int .i64 2)) := D.bel.setCell (p := ⟨g, K, none⟩) hgl _
      have HO := hOut _ RA (s.regs.set K 2) d4 d2 d3
      obtain ⟨y1, y2⟩ := two_cells_of d1
      obtain ⟨z1, z2⟩ := two_cells_of HO.out.1
      have fR2 := fun j => frozen_of_row _ (G + 1 + 1) j _ _ d2
      obtain ⟨p1, p2⟩ := two_cells_of d2
      obtain ⟨WC, hWC⟩ : ∃ W, wc.setCell ⟨g, K, none⟩ (.int .i64 2) = W := ⟨_, rfl⟩
      rw [hWC] at y1 y2 z1 z2 fR2 HO p1 p2
      obtain ⟨_, q2⟩ := three_cells (by have h := D.b0; exact h)
      clear d1 d2 d3 d4 D hOut hg HE HR eR hin hin' q2
      go_upto_region 17 with fail
      try simp only [hWC]
      clear hWC
      go_wp2
      refine bodyPost_ret (by simp [results, Try.results118, go_sem, z1, z2]; try rfl) rfl ?_
      exact ⟨_, rfl, HO.out.2.1, HO.out.2.2⟩
    have eR : R = ⟨AC, s.regs⟩ := by rw [HE.out, if_neg hg, if_neg h3, if_neg h4]
    have hRA : RA = AC := by rw [← HR.out.1, eR]
    have hRR : RR = s.regs := by rw [← HR.out.2, eR]
    subst hRA hRR
    have HO := hOut _ RA s.regs D.bel D.b2 D.own
    obtain ⟨z1, z2⟩ := two_cells_of HO.out.1
    have hng : ¬ (OP = 1 ∨ OP = 2 ∨ OP = 5 ∨ OP = 7 ∨ OP = 9 ∨ OP = 10 ∨ OP = 11 ∨ OP = 15 ∨ OP = 16) := fun h => hg (by unfold givesB; exact decide_eq_true h)
    have w1 : (OP == 1) = false := by rw [beq_eq_false_iff_ne]; omega
    have w2 : (OP == 2) = false := by rw [beq_eq_false_iff_ne]; omega
    have w3 : (OP == 3) = false := by rw [beq_eq_false_iff_ne]; omega
    have w4 : (OP == 4) = false := by rw [beq_eq_false_iff_ne]; omega
    have w5 : (OP == 5) = false := by rw [beq_eq_false_iff_ne]; omega
    have w7 : (OP == 7) = false := by rw [beq_eq_false_iff_ne]; omega
    have w9 : (OP == 9) = false := by rw [beq_eq_false_iff_ne]; omega
    have w10 : (OP == 10) = false := by rw [beq_eq_false_iff_ne]; omega
    have w11 : (OP == 11) = false := by rw [beq_eq_false_iff_ne]; omega
    have w15 : (OP == 15) = false := by rw [beq_eq_false_iff_ne]; omega
    have w16 : (OP == 16) = false := by rw [beq_eq_false_iff_ne]; omega
    clear D hOut hg HE HR eR hin hng h3 h4
    go_wp2
    refine bodyPost_ret (by simp [results, Try.results118, go_sem, z1, z2]; try rfl) rfl ?_
    exact ⟨_, rfl, HO.out.2.1, HO.out.2.2⟩
end Go.Proofs.Ytbgdapdenbldmaa
namespace Go.Proofs.Ytbgdapdenbldmaa
open Go.RowKit Go.Sort
set_option linter.unusedVariables false
theorem img_ins {p : PImg} (h : imgOk p = true) {k a : Nat} {f : PFun} {i : PIns} (hf : p.funcs[k]? = some f) (hi : f.code[a]? = some i) : insOk i = true ∧ funOk f = true := by
  unfold imgOk at h
  simp only [Bool.and_eq_true] at h
  have h1 := h.2.2.2.1
  rw [List.all_eq_true] at h1
  have h2 := h1 f (List.mem_iff_getElem?.2 ⟨k, hf⟩)
  have h3 := h2
  unfold funOk at h3
  simp only [Bool.and_eq_true] at h3
  have h4 := h3.2.2.2.2.2.2.1
  rw [List.all_eq_true] at h4
  exact ⟨h4 i (List.mem_iff_getElem?.2 ⟨a, hi⟩), h2⟩
end Go.Proofs.Ytbgdapdenbldmaa
