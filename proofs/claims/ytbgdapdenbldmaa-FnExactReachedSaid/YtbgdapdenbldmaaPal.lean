/-
  Part 12 of what is proved of drawn right trees.
-/
import Derived.Test.YtbgdapdenbldmaaPak
import Derived.Test.YtbgdapdenbldmaaPah

namespace Go.Proofs.Ytbgdapdenbldmaa
open Go.RowKit Go.Sort
set_option linter.unusedVariables false
structure FunV (w : World) (f : PFun) (qc qk qh : Value) : Prop where
  caps : ArgFlat w qc 2 f.caps.length (f.caps.flatMap capC)
  code : ArgFlat w qk 3 f.code.length (f.code.flatMap insC)
  hnds : ArgFlat w qh 3 f.hnds.length (f.hnds.flatMap hndC)
theorem FunV.below {w w' : World} {f : PFun} {qc qk qh : Value} (h : FunV w f qc qk qh) (hb : Below w.heap.size w w') : FunV w' f qc qk qh := ⟨h.caps.below hb, h.code.below hb, h.hnds.below hb⟩
theorem FunAt.v {w : World} {b o : Nat} {f : PFun} {qc qk qh : Value} (h : FunAt w b o f qc qk qh) : FunV w f qc qk qh := ⟨h.caps, h.code, h.hnds⟩
set_option maxHeartbeats 1000000 in
set_option maxRecDepth 100000 in
theorem iMayMake1 (f : PFun) (s : PSta) (q : PCap) (x : Option Addr) (n c : Nat) (PA RE : Int) (xc : Option Addr) (cc : Nat) (qk qh : Value) (SB FB : Nat) (w : World) (hs : ArgI w (.slice x n c) s.regs) (hn : s.regs.length = n)
    (hS : w.heap[SB]? = some (.cells #[.int .i64 s.acc, .slice x n c] 98 (0, 0))) (hF : w.heap[FB]? = some (.cells #[.int .i64 PA, .int .i64 RE, .slice xc f.caps.length cc, qk, qh] 70 (0, 0))) (hq : 0 ≤ q.index) :
    Calls Try.prog 142 #[.agg #[.bool q.reg, .int .i64 q.index], .pointer (some ⟨SB, 0, none⟩), .pointer (some ⟨FB, 0, none⟩)] w fun e w' => e = .returned (.bool (capMay f s q)) ∧ Below w.heap.size w w' := by
  obtain ⟨reg, ix⟩ := q
  have b0 : Below w.heap.size w (w.alloc (.cells #[.bool reg, .int .i64 ix] 149)) := (Below.refl _ _).alloc (Nat.le_refl _) _
  have hlS : SB < w.heap.size := by
    rcases Nat.lt_or_ge SB w.heap.size with x | x
    · exact x
    · rw [Array.getElem?_eq_none x] at hS; cases hS
  have hlF : FB < w.heap.size := by
    rcases Nat.lt_or_ge FB w.heap.size with x | x
    · exact x
    · rw [Array.getElem?_eq_none x] at hF; cases hF
  have kS := (b0.block SB hlS).trans hS
  have kF := (b0.block FB hlF).trans hF
  obtain ⟨s0, s1⟩ := two_cells_of kS
  obtain ⟨f0, f1, f2, f3, f4⟩ := five_cells kF
  simp only at hq
  have cH := iHolds s (.slice x n c) ix 2 _ (hs.below b0) hq
  obtain ⟨nc, e4⟩ : ∃ n, f.caps.length = n := ⟨_, rfl⟩
  rw [e4] at f2
  obtain ⟨W0, hW0⟩ : ∃ W, w.alloc (.cells #[.bool reg, .int .i64 ix] 149) = W := ⟨_, rfl⟩
  have k2 : W0.heap[w.heap.size]? = some (.cells #[.bool reg, .int .i64 ix] 149 (0, 0)) := by rw [← hW0]; exact heap_alloc_new w _
  obtain ⟨p0, p1⟩ := two_cells_of k2
  rw [hW0] at b0 s0 s1 f0 f1 f2 f3 f4 cH
  have HW0 : Hid (_ = W0) := hW0
  obtain ⟨AC, eC⟩ : ∃ n, s.acc = n := ⟨_, rfl⟩
  simp only [eC] at cH s0
  clear hW0 kS kF k2 hS hF hs hlS hlF
  cases reg with
  | true =>
    obtain ⟨B, hB⟩ : ∃ b, regIs s ix 2 = b := ⟨_, rfl⟩
    have e : capMay f s ⟨true, ix⟩ = B := by unfold capMay; exact hB
    rw [e]
    rw [hB] at cH
    clear hB e eC e4 hn
    go_enter Try.func142, Try.ntmps142
    go_upto_region 1 with fail
    rw [HW0.out]
    clear HW0
    go_wp2_with (go_at_call 133; (with_reducible refine cH.mono ?_); rintro e w5 ⟨rfl, hb5⟩)
    go_ret
    exact ⟨rfl, chain b0 hb5⟩
  | false =>
    clear cH
    by_cases hlt : ix < (nc : Int)
    · have e : capMay f s ⟨false, ix⟩ = true := by unfold capMay; rw [e4]; exact decide_eq_true hlt
      rw [e]
      clear e eC e4 hn
      go_enter Try.func142, Try.ntmps142
      go_upto_region 1 with fail
      rw [HW0.out]
      clear HW0
      go_wp2
      go_ret
      exact ⟨rfl, b0⟩
    · have e : capMay f s ⟨false, ix⟩ = false := by unfold capMay; rw [e4]; exact decide_eq_false hlt
      rw [e]
      clear e eC e4 hn
      go_enter Try.func142, Try.ntmps142
      go_upto_region 1 with fail
      rw [HW0.out]
      clear HW0
      go_wp2
      go_ret
      exact ⟨rfl, b0⟩
set_option maxHeartbeats 1000000 in
set_option maxRecDepth 100000 in
theorem iAllCapMay (l : List PCap) (v : Value) (P : PCap → Bool) (SB FB : Nat) (w : World) (h : ArgFlat w v 2 l.length (l.flatMap capC))
    (hP : ∀ q W, q ∈ l → Below w.heap.size w W → Calls Try.prog 142 #[.agg #[.bool q.reg, .int .i64 q.index], .pointer (some ⟨SB, 0, none⟩), .pointer (some ⟨FB, 0, none⟩)] W fun e w' => e = .returned (.bool (P q)) ∧ Below W.heap.size W w') :
    Calls Try.prog 109 #[v, .func (.func 142) #[] #[.pointer (some ⟨SB, 0, none⟩), .pointer (some ⟨FB, 0, none⟩)]] w fun e w' => e = .returned (.bool (l.all P)) ∧ Below w.heap.size w w' := by
  obtain ⟨x, c, rfl, m, o⟩ := h.opened capC_len
  unfold maxLen at m
  clear h
  obtain ⟨n, e1⟩ : ∃ n, l.length = n := ⟨_, rfl⟩
  rw [e1] at m o ⊢
  obtain ⟨F, hF⟩ : ∃ F, l.all P = F := ⟨_, rfl⟩
  rw [hF]
  have HF : Hid (l.all P = F) := hF
  have H1 : Hid (0 < n → ∃ b o, x = some ⟨b, o, none⟩ ∧ b < w.heap.size ∧ ∀ j q, l[j]? = some q → ∀ c u, (capC q)[c]? = some u → w.cell? ⟨b, o + j * 2 + c, none⟩ = some u) := o
  have E1 : Hid (l.length = n) := e1
  have HP : Hid _ := hP
  clear o e1 hF hP
  go_enter Try.func109, Try.ntmps109
  go_wp2
  go_loopw [9] (fun i wr => ∃ k : Nat, k ≤ n ∧ i = .int .i64 k ∧ Hid (∀ j q, j < k → l[j]? = some q → P q = true) ∧ Below w.heap.size w wr) (fun i _ => n - (intOf i).toNat)
  case atStart => exact ⟨0, Nat.zero_le _, rfl, fun j q hj => absurd hj (Nat.not_lt_zero _), Below.refl _ _⟩
  case round =>
    obtain ⟨k, hk, rfl, HA, hb⟩ := hrel
    by_cases hkn : k < n
    · obtain ⟨b, o, rfl, hbz, hcell⟩ := H1.out (by omega)
      obtain ⟨q, hq⟩ : ∃ q, l[k]? = some q := ⟨_, List.getElem?_eq_getElem (by have := E1.out; omega)⟩
      have g0 : wr.cell? ⟨b, o + k * 2, none⟩ = some (.bool q.reg) := (hb.cell hbz).trans (hcell k q hq 0 _ rfl)
      have g1 : wr.cell? ⟨b, o + k * 2 + 1, none⟩ = some (.int .i64 q.index) := (hb.cell hbz).trans (hcell k q hq 1 _ rfl)
      have hki : (k : Int) < (n : Int) := by omega
      have hk0 : (0 : Int) ≤ (k : Int) := by omega
      have hz : w.heap.size ≤ wr.heap.size := hb.size
      have cI := fun W hW => HP.out q W (List.mem_of_getElem? hq) hW
      obtain ⟨bI, eI⟩ : ∃ b, P q = b := ⟨_, rfl⟩
      simp only [eI] at cI
      have HI : Hid (P q = bI) := eI
      have HQ : Hid (l[k]? = some q) := hq
      clear hcell eI hq HP
      cases bI with
      | false =>
        have hF : F = false := by rw [← HF.out, all_no HQ.out HI.out]
        subst hF
        clear H1
        go_wp2_with (go_at_call 142; (refine (cI _ (by repeat (first | exact hb | refine Below.setCell ?_ (by show w.heap.size ≤ wr.heap.size; exact hz) _ | refine Below.alloc ?_ hz _))).mono ?_); rintro e w' ⟨rfl, hb1⟩)
        go_ret
        exact ⟨rfl, chain (by repeat (first | exact hb | refine Below.setCell ?_ (by show w.heap.size ≤ wr.heap.size; exact hz) _ | refine Below.alloc ?_ hz _)) hb1⟩
      | true =>
        go_wp2_with (go_at_call 142; (refine (cI _ (by repeat (first | exact hb | refine Below.setCell ?_ (by show w.heap.size ≤ wr.heap.size; exact hz) _ | refine Below.alloc ?_ hz _))).mono ?_); rintro e w' ⟨rfl, hb1⟩)
        go_roundw
        case rel => exact ⟨k + 1, by omega, by go_num, all_more HA.out HQ.out HI.out, chain (by repeat (first | exact hb | refine Below.setCell ?_ (by show w.heap.size ≤ wr.heap.size; exact hz) _ | refine Below.alloc ?_ hz _)) hb1⟩
        case measure => simp [intOf]; omega
    · have hall : l.all P = true := all_yes (n := k) (by have := E1.out; omega) HA.out
      have hF : F = true := by rw [← HF.out, hall]
      subst hF
      have hd : decide ((k : Int) < (n : Int)) = false := decide_eq_false (by omega)
      clear HA H1 hall HP
      go_wp2
      go_ret
      exact ⟨rfl, hb⟩
def CapsUp (p : PImg) : Prop := ∀ g ∈ p.funcs, ∀ c ∈ g.caps, 0 ≤ c.index
set_option maxHeartbeats 1000000 in
set_option maxRecDepth 100000 in
theorem iMayMake (p : PImg) (f : PFun) (s : PSta) (A : Nat) (fv cv qc qk qh v : Value) (w : World) (h : ArgImg w fv cv p) (hu : CapsUp p) (hf : FunV w f qc qk qh) (hs : ArgI w v s.regs) :
    Calls Try.prog 134 #[.agg #[fv, cv], .agg #[.int .i64 f.params, .int .i64 f.regs, qc, qk, qh], .int .i64 A, .agg #[.int .i64 s.acc, v]] w fun e w' => e = .returned (.bool (inB A 1 ((p.funcs.length : Int) - 1) && capsMay p f s A)) ∧ Below w.heap.size w w' := by
  have HI : Hid (ArgImg w fv cv p) := h
  obtain ⟨hF, hC⟩ := h
  obtain ⟨x1, c1, rfl, m1, o1⟩ := hF
  obtain ⟨x2, c2, rfl, m2, _⟩ := hC.opened conC_len
  obtain ⟨xs, cs, rfl, ms, _⟩ := hs.opened
  obtain ⟨xc, cc, rfl, mc, _⟩ := hf.caps.opened capC_len
  unfold maxLen at m1 m2 ms mc
  have T := made_three w (Obj.cells #[.slice x1 p.funcs.length c1, .slice x2 p.consts.length c2] 31) (Obj.cells #[.int .i64 f.params, .int .i64 f.regs, .slice xc f.caps.length cc, qk, qh] 70) (Obj.cells #[.int .i64 s.acc, .slice xs s.regs.length cs] 98)
  obtain ⟨t0, t1, t2, tz, tb⟩ := T
  have cM := fun (q : PCap) (W : World) (hq : 0 ≤ q.index) (hW : Below w.heap.size w W) (k1 : W.heap[w.heap.size + 1]? = some (.cells #[.int .i64 f.params, .int .i64 f.regs, .slice xc f.caps.length cc, qk, qh] 70 (0, 0))) (k2 : W.heap[w.heap.size + 1 + 1]? = some (.cells #[.int .i64 s.acc, .slice xs s.regs.length cs] 98 (0, 0))) => iMayMake1 f s q xs s.regs.length cs f.params f.regs xc cc qk qh (w.heap.size + 1 + 1) (w.heap.size + 1) W (hs.below hW) rfl k2 k1 hq
  obtain ⟨n1, e1⟩ : ∃ n, p.funcs.length = n := ⟨_, rfl⟩
  obtain ⟨n2, e2⟩ : ∃ n, p.consts.length = n := ⟨_, rfl⟩
  obtain ⟨nr, e3⟩ : ∃ n, s.regs.length = n := ⟨_, rfl⟩
  obtain ⟨nc, e4⟩ : ∃ n, f.caps.length = n := ⟨_, rfl⟩
  obtain ⟨PA, e7⟩ : ∃ n, f.params = n := ⟨_, rfl⟩
  obtain ⟨RE, e8⟩ : ∃ n, f.regs = n := ⟨_, rfl⟩
  obtain ⟨AC, eC⟩ : ∃ n, s.acc = n := ⟨_, rfl⟩
  simp only [e1, e2, e3, e4, e7, e8, eC] at t0 t1 t2 tb tz cM m1 m2 ms mc HI o1 ⊢
  have HL : Hid (p.funcs.length = n1) := e1
  obtain ⟨F, eF⟩ : ∃ F, (inB (A : Int) 1 ((n1 : Int) - 1) && capsMay p f s (A : Int)) = F := ⟨_, rfl⟩
  rw [eF]
  have HF : Hid ((inB (A : Int) 1 ((n1 : Int) - 1) && capsMay p f s (A : Int)) = F) := eF
  obtain ⟨W3, hW3⟩ : ∃ W, (((w.alloc (Obj.cells #[.slice x1 n1 c1, .slice x2 n2 c2] 31)).alloc (Obj.cells #[.int .i64 PA, .int .i64 RE, .slice xc nc cc, qk, qh] 70)).alloc (Obj.cells #[.int .i64 AC, .slice xs nr cs] 98)) = W := ⟨_, rfl⟩
  simp only [hW3] at t0 t1 t2 tz tb
  have HW3 : Hid (_ = W3) := hW3
  obtain ⟨i0, i1⟩ := two_cells_of t0
  have hmf : ∀ (fn : Fn) (first cap : Array Value) (w : World), (Instr.makeFunc fn first cap).run Try.prog w = .ok (.func fn first cap) w := fun _ _ _ _ => rfl
  clear hW3 eF e1 e2 e3 e4 e7 e8 eC hC hs hf
  by_cases hA1 : A < 1
  · have hF : F = false := by
      rw [← HF.out]
      unfold inB
      rw [decide_eq_false (p := (1 : Int) ≤ (A : Int)) (by omega)]
      rfl
    subst hF
    have hlt : (A : Int) < 1 := by omega
    clear cM o1 HF
    go_enter Try.func134, Try.ntmps134
    go_upto_region 1 with fail
    rw [HW3.out]
    clear HW3
    go_wp2
    go_ret
    exact ⟨rfl, tb⟩
  by_cases hA2 : A < n1
  case neg =>
    have hF : F = false := by
      rw [← HF.out]
      unfold inB
      rw [decide_eq_false (p := (A : Int) ≤ (n1 : Int) - 1) (by omega), Bool.and_false]
      rfl
    subst hF
    have hlt : ¬ (A : Int) < 1 := by omega
    have hge : (n1 : Int) ≤ (A : Int) := by omega
    clear cM o1 HF
    go_enter Try.func134, Try.ntmps134
    go_upto_region 1 with fail
    rw [HW3.out]
    clear HW3
    go_wp2
    go_ret
    exact ⟨rfl, tb⟩
  case pos =>
    have hlt : ¬ (A : Int) < 1 := by omega
    have hge : ¬ (n1 : Int) ≤ (A : Int) := by omega
    have hlt2 : (A : Int) < (n1 : Int) := by omega
    have hge0 : (0 : Int) ≤ (A : Int) := by omega
    obtain ⟨b, o, rfl, hb, hcell⟩ := o1 (by omega)
    obtain ⟨g, hg⟩ : ∃ g, p.funcs[A]? = some g := ⟨_, List.getElem?_eq_getElem (by have := HL.out; omega)⟩
    obtain ⟨yc, yk, yh, hY⟩ := hcell A g hg
    have hY3 := hY.below tb
    have y2 := hY3.c2
    have hup := hu g (List.mem_of_getElem? hg)
    have cA := iAllCapMay g.caps yc (capMay f s) (w.heap.size + 1 + 1) (w.heap.size + 1) W3 hY3.caps (fun q W hq hW => cM q W (hup q hq) (chain tb hW) ((hW.block _ (by omega)).trans t1) ((hW.block _ (by omega)).trans t2))
    have hF : F = g.caps.all (capMay f s) := by
      rw [← HF.out]
      unfold inB capsMay
      rw [decide_eq_true (p := (1 : Int) ≤ (A : Int)) (by omega), decide_eq_true (p := (A : Int) ≤ (n1 : Int) - 1) (by omega), Int.toNat_natCast, hg]
      rfl
    subst hF
    obtain ⟨F, eF⟩ : ∃ F, g.caps.all (capMay f s) = F := ⟨_, rfl⟩
    rw [eF] at cA ⊢
    clear cM hcell hg hY hY3 hup HF eF hu
    go_enter Try.func134, Try.ntmps134
    go_upto_region 1 with fail
    rw [HW3.out]
    clear HW3
    go_wp2_with (go_at_call 109; (with_reducible refine cA.mono ?_); rintro e w5 ⟨rfl, hb5⟩)
    go_ret
    exact ⟨rfl, chain tb hb5⟩
theorem four_boxes (w : World) (o1 o2 o3 o4 : Obj) : ((((w.alloc o1).alloc o2).alloc o3).alloc o4).heap[w.heap.size]? = some o1 ∧ ((((w.alloc o1).alloc o2).alloc o3).alloc o4).heap[w.heap.size + 1]? = some o2 ∧ ((((w.alloc o1).alloc o2).alloc o3).alloc o4).heap[w.heap.size + 1 + 1]? = some o3 ∧ ((((w.alloc o1).alloc o2).alloc o3).alloc o4).heap[w.heap.size + 1 + 1 + 1]? = some o4 ∧ ((((w.alloc o1).alloc o2).alloc o3).alloc o4).heap.size = w.heap.size + 4 ∧ Below w.heap.size w ((((w.alloc o1).alloc o2).alloc o3).alloc o4) := by
  obtain ⟨a, b, c, d, e⟩ := made_three w o1 o2 o3
  have old : ∀ r, r < w.heap.size + 3 → ((((w.alloc o1).alloc o2).alloc o3).alloc o4).heap[r]? = (((w.alloc o1).alloc o2).alloc o3).heap[r]? := fun r hr => heap_alloc_old (r := r) _ _ (by omega)
  refine ⟨(old _ (by omega)).trans a, (old _ (by omega)).trans b, (old _ (by omega)).trans c, ?_, by simp, e.alloc (by omega) _⟩
  rw [show w.heap.size + 1 + 1 + 1 = (((w.alloc o1).alloc o2).alloc o3).heap.size by omega]
  exact heap_alloc_new _ _
set_option maxHeartbeats 2000000 in
set_option maxRecDepth 100000 in
theorem iMay_1 (p : PImg) (f : PFun) (i : PIns) (s : PSta) (fv cv qc qk qh v : Value) (w : World) (h : ArgImg w fv cv p) (hu : CapsUp p) (hf : FunV w f qc qk qh) (hi : insOk i = true) (hs : ArgI w v s.regs) (hop : i.op = 1) :
    Calls Try.prog 117 #[.agg #[fv, cv], .agg #[.int .i64 f.params, .int .i64 f.regs, qc, qk, qh], .agg #[.int .i64 i.op, .int .i64 i.a, .int .i64 i.b], .agg #[.int .i64 s.acc, v]] w fun e w' => e = .returned (.bool (mayB p f i s)) ∧ Below w.heap.size w w' := by
  have hio := hi
  unfold insOk inB at hio
  simp only [Bool.and_eq_true, decide_eq_true_eq] at hio
  obtain ⟨⟨ho1, ho2⟩, ⟨ha1, ha2⟩, hb1', hb2⟩ := hio
  obtain ⟨IA, eA⟩ : ∃ n : Nat, i.a = (n : Int) := ⟨i.a.toNat, by omega⟩
  obtain ⟨IB, eB⟩ : ∃ n : Nat, i.b = (n : Int) := ⟨i.b.toNat, by omega⟩
  have hia : IA ≤ 300 := by omega
  have hib : IB ≤ 300 := by omega
  have cR0 := fun (r want : Int) (W : World) (h0 : 0 ≤ r) (hW : Below w.heap.size w W) => iHolds s v r want W (hs.below hW) h0
  have cV0 := fun (W : World) (hW : Below w.heap.size w W) => iHoldValues s v IA IB W (hs.below hW) (by omega) (by omega) (by omega) (by omega)
  have cM0 := fun (W : World) (hW : Below w.heap.size w W) => iMayMake p f s IA fv cv qc qk qh v W (h.below hW) hu (hf.below hW) (hs.below hW)
  obtain ⟨hF, hC⟩ := h
  obtain ⟨x1, c1, rfl, m1, o1⟩ := hF
  obtain ⟨x2, c2, rfl, m2, _⟩ := hC.opened conC_len
  obtain ⟨xs, cs, rfl, ms, os⟩ := hs.opened
  obtain ⟨xc, cc, rfl, mc, _⟩ := hf.caps.opened capC_len
  obtain ⟨xk, ck, rfl, mk, _⟩ := hf.code.opened insC_len
  unfold maxLen at m1 m2 ms mc mk
  have eO : i.op = 1 := hop
  obtain ⟨AC, eC⟩ : ∃ n, s.acc = n := ⟨_, rfl⟩
  obtain ⟨F, eF⟩ : ∃ F, mayB p f i s = F := ⟨_, rfl⟩
  simp only [eF]
  obtain ⟨n1, e1⟩ : ∃ n, p.funcs.length = n := ⟨_, rfl⟩
  obtain ⟨n2, e2⟩ : ∃ n, p.consts.length = n := ⟨_, rfl⟩
  obtain ⟨nr, e3⟩ : ∃ n, s.regs.length = n := ⟨_, rfl⟩
  obtain ⟨nc, e4⟩ : ∃ n, f.caps.length = n := ⟨_, rfl⟩
  obtain ⟨nk, e5⟩ : ∃ n, f.code.length = n := ⟨_, rfl⟩
  obtain ⟨PA, e7⟩ : ∃ n, f.params = n := ⟨_, rfl⟩
  obtain ⟨RE, e8⟩ : ∃ n, f.regs = n := ⟨_, rfl⟩
  have eF0 : F = decide ((IA : Int) < (n2 : Int)) := by rw [← eF, may_1 hop, eA, e2]
  simp only [eO, eA, eB, eC, e1, e2, e3, e4, e5, e7, e8] at m1 m2 ms mc mk cR0 cV0 cM0 ⊢
  obtain ⟨q0, q1, q2, q3, qz, qb⟩ := four_boxes w (Obj.cells #[.slice x1 n1 c1, .slice x2 n2 c2] 31) (Obj.cells #[.int .i64 PA, .int .i64 RE, .slice xc nc cc, .slice xk nk ck, qh] 70) (Obj.cells #[.int .i64 1, .int .i64 IA, .int .i64 IB] 72) (Obj.cells #[.int .i64 AC, .slice xs nr cs] 98)
  obtain ⟨W4, hW4⟩ : ∃ W, ((((w.alloc (Obj.cells #[.slice x1 n1 c1, .slice x2 n2 c2] 31)).alloc (Obj.cells #[.int .i64 PA, .int .i64 RE, .slice xc nc cc, .slice xk nk ck, qh] 70)).alloc (Obj.cells #[.int .i64 1, .int .i64 IA, .int .i64 IB] 72)).alloc (Obj.cells #[.int .i64 AC, .slice xs nr cs] 98)) = W := ⟨_, rfl⟩
  simp only [hW4] at q0 q1 q2 q3 qz qb
  have HW4 : Hid (_ = W4) := hW4
  have cR := fun (r want : Int) (h0 : 0 ≤ r) => cR0 r want W4 h0 qb
  have cV := cV0 W4 qb
  have cM := cM0 W4 qb
  obtain ⟨i0, i1⟩ := two_cells_of q0
  obtain ⟨f0, f1, f2, f3, f4⟩ := five_cells q1
  obtain ⟨j0, j1, j2⟩ := three_cells q2
  obtain ⟨s0, s1⟩ := two_cells_of q3
  have hwr : IntKind.i64.wrap ((IA : Int) + (IB : Int)) = (IA : Int) + (IB : Int) := wrap_small (by omega) (by omega)
  have h0A : (0 : Int) ≤ (IA : Int) := by omega
  have h0B : (0 : Int) ≤ (IB : Int) := by omega
  clear cR0 cV0 cM0 hW4 hC hs os hf e1 e2 e3 e4 e5 e7 e8 eA eB eC eF hi o1 ho1 ho2 ha1 ha2 hb1' hb2 qz q0 q1 q2 q3
  clear cR cV cM
  by_cases hlt : (IA : Int) < (n2 : Int)
  · have hF : F = true := by rw [eF0]; exact decide_eq_true hlt
    subst hF
    clear eF0
    go_enter Try.func117, Try.ntmps117
    go_upto_region 1 with fail
    rw [HW4.out]
    clear HW4
    go_wp2
    go_ret
    exact ⟨rfl, qb⟩
  · have hF : F = false := by rw [eF0]; exact decide_eq_false hlt
    subst hF
    clear eF0
    go_enter Try.func117, Try.ntmps117
    go_upto_region 1 with fail
    rw [HW4.out]
    clear HW4
    go_wp2
    go_ret
    exact ⟨rfl, qb⟩
set_option maxHeartbeats 2000000 in
set_option maxRecDepth 100000 in
theorem iMay_7 (p : PImg) (f : PFun) (i : PIns) (s : PSta) (fv cv qc qk qh v : Value) (w : World) (h : ArgImg w fv cv p) (hu : CapsUp p) (hf : FunV w f qc qk qh) (hi : insOk i = true) (hs : ArgI w v s.regs) (hop : i.op = 7) :
    Calls Try.prog 117 #[.agg #[fv, cv], .agg #[.int .i64 f.params, .int .i64 f.regs, qc, qk, qh], .agg #[.int .i64 i.op, .int .i64 i.a, .int .i64 i.b], .agg #[.int .i64 s.acc, v]] w fun e w' => e = .returned (.bool (mayB p f i s)) ∧ Below w.heap.size w w' := by
  have hio := hi
  unfold insOk inB at hio
  simp only [Bool.and_eq_true, decide_eq_true_eq] at hio
  obtain ⟨⟨ho1, ho2⟩, ⟨ha1, ha2⟩, hb1', hb2⟩ := hio
  obtain ⟨IA, eA⟩ : ∃ n : Nat, i.a = (n : Int) := ⟨i.a.toNat, by omega⟩
  obtain ⟨IB, eB⟩ : ∃ n : Nat, i.b = (n : Int) := ⟨i.b.toNat, by omega⟩
  have hia : IA ≤ 300 := by omega
  have hib : IB ≤ 300 := by omega
  have cR0 := fun (r want : Int) (W : World) (h0 : 0 ≤ r) (hW : Below w.heap.size w W) => iHolds s v r want W (hs.below hW) h0
  have cV0 := fun (W : World) (hW : Below w.heap.size w W) => iHoldValues s v IA IB W (hs.below hW) (by omega) (by omega) (by omega) (by omega)
  have cM0 := fun (W : World) (hW : Below w.heap.size w W) => iMayMake p f s IA fv cv qc qk qh v W (h.below hW) hu (hf.below hW) (hs.below hW)
  obtain ⟨hF, hC⟩ := h
  obtain ⟨x1, c1, rfl, m1, o1⟩ := hF
  obtain ⟨x2, c2, rfl, m2, _⟩ := hC.opened conC_len
  obtain ⟨xs, cs, rfl, ms, os⟩ := hs.opened
  obtain ⟨xc, cc, rfl, mc, _⟩ := hf.caps.opened capC_len
  obtain ⟨xk, ck, rfl, mk, _⟩ := hf.code.opened insC_len
  unfold maxLen at m1 m2 ms mc mk
  have eO : i.op = 7 := hop
  obtain ⟨AC, eC⟩ : ∃ n, s.acc = n := ⟨_, rfl⟩
  obtain ⟨F, eF⟩ : ∃ F, mayB p f i s = F := ⟨_, rfl⟩
  simp only [eF]
  obtain ⟨n1, e1⟩ : ∃ n, p.funcs.length = n := ⟨_, rfl⟩
  obtain ⟨n2, e2⟩ : ∃ n, p.consts.length = n := ⟨_, rfl⟩
  obtain ⟨nr, e3⟩ : ∃ n, s.regs.length = n := ⟨_, rfl⟩
  obtain ⟨nc, e4⟩ : ∃ n, f.caps.length = n := ⟨_, rfl⟩
  obtain ⟨nk, e5⟩ : ∃ n, f.code.length = n := ⟨_, rfl⟩
  obtain ⟨PA, e7⟩ : ∃ n, f.params = n := ⟨_, rfl⟩
  obtain ⟨RE, e8⟩ : ∃ n, f.regs = n := ⟨_, rfl⟩
  have eF0 : F = decide ((IA : Int) < (nc : Int)) := by rw [← eF, may_7 hop, eA, e4]
  simp only [eO, eA, eB, eC, e1, e2, e3, e4, e5, e7, e8] at m1 m2 ms mc mk cR0 cV0 cM0 ⊢
  obtain ⟨q0, q1, q2, q3, qz, qb⟩ := four_boxes w (Obj.cells #[.slice x1 n1 c1, .slice x2 n2 c2] 31) (Obj.cells #[.int .i64 PA, .int .i64 RE, .slice xc nc cc, .slice xk nk ck, qh] 70) (Obj.cells #[.int .i64 7, .int .i64 IA, .int .i64 IB] 72) (Obj.cells #[.int .i64 AC, .slice xs nr cs] 98)
  obtain ⟨W4, hW4⟩ : ∃ W, ((((w.alloc (Obj.cells #[.slice x1 n1 c1, .slice x2 n2 c2] 31)).alloc (Obj.cells #[.int .i64 PA, .int .i64 RE, .slice xc nc cc, .slice xk nk ck, qh] 70)).alloc (Obj.cells #[.int .i64 7, .int .i64 IA, .int .i64 IB] 72)).alloc (Obj.cells #[.int .i64 AC, .slice xs nr cs] 98)) = W := ⟨_, rfl⟩
  simp only [hW4] at q0 q1 q2 q3 qz qb
  have HW4 : Hid (_ = W4) := hW4
  have cR := fun (r want : Int) (h0 : 0 ≤ r) => cR0 r want W4 h0 qb
  have cV := cV0 W4 qb
  have cM := cM0 W4 qb
  obtain ⟨i0, i1⟩ := two_cells_of q0
  obtain ⟨f0, f1, f2, f3, f4⟩ := five_cells q1
  obtain ⟨j0, j1, j2⟩ := three_cells q2
  obtain ⟨s0, s1⟩ := two_cells_of q3
  have hwr : IntKind.i64.wrap ((IA : Int) + (IB : Int)) = (IA : Int) + (IB : Int) := wrap_small (by omega) (by omega)
  have h0A : (0 : Int) ≤ (IA : Int) := by omega
  have h0B : (0 : Int) ≤ (IB : Int) := by omega
  clear cR0 cV0 cM0 hW4 hC hs os hf e1 e2 e3 e4 e5 e7 e8 eA eB eC eF hi o1 ho1 ho2 ha1 ha2 hb1' hb2 qz q0 q1 q2 q3
  clear cR cV cM
  by_cases hlt : (IA : Int) < (nc : Int)
  · have hF : F = true := by rw [eF0]; exact decide_eq_true hlt
    subst hF
    clear eF0
    go_enter Try.func117, Try.ntmps117
    go_upto_region 1 with fail
    rw [HW4.out]
    clear HW4
    go_wp2
    go_ret
    exact ⟨rfl, qb⟩
  · have hF : F = false := by rw [eF0]; exact decide_eq_false hlt
    subst hF
    clear eF0
    go_enter Try.func117, Try.ntmps117
    go_upto_region 1 with fail
    rw [HW4.out]
    clear HW4
    go_wp2
    go_ret
    exact ⟨rfl, qb⟩
set_option maxHeartbeats 2000000 in
set_option maxRecDepth 100000 in
theorem iMay_12 (p : PImg) (f : PFun) (i : PIns) (s : PSta) (fv cv qc qk qh v : Value) (w : World) (h : ArgImg w fv cv p) (hu : CapsUp p) (hf : FunV w f qc qk qh) (hi : insOk i = true) (hs : ArgI w v s.regs) (hop : i.op = 12) :
    Calls Try.prog 117 #[.agg #[fv, cv], .agg #[.int .i64 f.params, .int .i64 f.regs, qc, qk, qh], .agg #[.int .i64 i.op, .int .i64 i.a, .int .i64 i.b], .agg #[.int .i64 s.acc, v]] w fun e w' => e = .returned (.bool (mayB p f i s)) ∧ Below w.heap.size w w' := by
  have hio := hi
  unfold insOk inB at hio
  simp only [Bool.and_eq_true, decide_eq_true_eq] at hio
  obtain ⟨⟨ho1, ho2⟩, ⟨ha1, ha2⟩, hb1', hb2⟩ := hio
  obtain ⟨IA, eA⟩ : ∃ n : Nat, i.a = (n : Int) := ⟨i.a.toNat, by omega⟩
  obtain ⟨IB, eB⟩ : ∃ n : Nat, i.b = (n : Int) := ⟨i.b.toNat, by omega⟩
  have hia : IA ≤ 300 := by omega
  have hib : IB ≤ 300 := by omega
  have cR0 := fun (r want : Int) (W : World) (h0 : 0 ≤ r) (hW : Below w.heap.size w W) => iHolds s v r want W (hs.below hW) h0
  have cV0 := fun (W : World) (hW : Below w.heap.size w W) => iHoldValues s v IA IB W (hs.below hW) (by omega) (by omega) (by omega) (by omega)
  have cM0 := fun (W : World) (hW : Below w.heap.size w W) => iMayMake p f s IA fv cv qc qk qh v W (h.below hW) hu (hf.below hW) (hs.below hW)
  obtain ⟨hF, hC⟩ := h
  obtain ⟨x1, c1, rfl, m1, o1⟩ := hF
  obtain ⟨x2, c2, rfl, m2, _⟩ := hC.opened conC_len
  obtain ⟨xs, cs, rfl, ms, os⟩ := hs.opened
  obtain ⟨xc, cc, rfl, mc, _⟩ := hf.caps.opened capC_len
  obtain ⟨xk, ck, rfl, mk, _⟩ := hf.code.opened insC_len
  unfold maxLen at m1 m2 ms mc mk
  have eO : i.op = 12 := hop
  obtain ⟨AC, eC⟩ : ∃ n, s.acc = n := ⟨_, rfl⟩
  obtain ⟨F, eF⟩ : ∃ F, mayB p f i s = F := ⟨_, rfl⟩
  simp only [eF]
  obtain ⟨n1, e1⟩ : ∃ n, p.funcs.length = n := ⟨_, rfl⟩
  obtain ⟨n2, e2⟩ : ∃ n, p.consts.length = n := ⟨_, rfl⟩
  obtain ⟨nr, e3⟩ : ∃ n, s.regs.length = n := ⟨_, rfl⟩
  obtain ⟨nc, e4⟩ : ∃ n, f.caps.length = n := ⟨_, rfl⟩
  obtain ⟨nk, e5⟩ : ∃ n, f.code.length = n := ⟨_, rfl⟩
  obtain ⟨PA, e7⟩ : ∃ n, f.params = n := ⟨_, rfl⟩
  obtain ⟨RE, e8⟩ : ∃ n, f.regs = n := ⟨_, rfl⟩
  have eF0 : F = decide ((IA : Int) < (nk : Int)) := by rw [← eF, may_12 hop, eA, e5]
  simp only [eO, eA, eB, eC, e1, e2, e3, e4, e5, e7, e8] at m1 m2 ms mc mk cR0 cV0 cM0 ⊢
  obtain ⟨q0, q1, q2, q3, qz, qb⟩ := four_boxes w (Obj.cells #[.slice x1 n1 c1, .slice x2 n2 c2] 31) (Obj.cells #[.int .i64 PA, .int .i64 RE, .slice xc nc cc, .slice xk nk ck, qh] 70) (Obj.cells #[.int .i64 12, .int .i64 IA, .int .i64 IB] 72) (Obj.cells #[.int .i64 AC, .slice xs nr cs] 98)
  obtain ⟨W4, hW4⟩ : ∃ W, ((((w.alloc (Obj.cells #[.slice x1 n1 c1, .slice x2 n2 c2] 31)).alloc (Obj.cells #[.int .i64 PA, .int .i64 RE, .slice xc nc cc, .slice xk nk ck, qh] 70)).alloc (Obj.cells #[.int .i64 12, .int .i64 IA, .int .i64 IB] 72)).alloc (Obj.cells #[.int .i64 AC, .slice xs nr cs] 98)) = W := ⟨_, rfl⟩
  simp only [hW4] at q0 q1 q2 q3 qz qb
  have HW4 : Hid (_ = W4) := hW4
  have cR := fun (r want : Int) (h0 : 0 ≤ r) => cR0 r want W4 h0 qb
  have cV := cV0 W4 qb
  have cM := cM0 W4 qb
  obtain ⟨i0, i1⟩ := two_cells_of q0
  obtain ⟨f0, f1, f2, f3, f4⟩ := five_cells q1
  obtain ⟨j0, j1, j2⟩ := three_cells q2
  obtain ⟨s0, s1⟩ := two_cells_of q3
  have hwr : IntKind.i64.wrap ((IA : Int) + (IB : Int)) = (IA : Int) + (IB : Int) := wrap_small (by omega) (by omega)
  have h0A : (0 : Int) ≤ (IA : Int) := by omega
  have h0B : (0 : Int) ≤ (IB : Int) := by omega
  clear cR0 cV0 cM0 hW4 hC hs os hf e1 e2 e3 e4 e5 e7 e8 eA eB eC eF hi o1 ho1 ho2 ha1 ha2 hb1' hb2 qz q0 q1 q2 q3
  clear cR cV cM
  by_cases hlt : (IA : Int) < (nk : Int)
  · have hF : F = true := by rw [eF0]; exact decide_eq_true hlt
    subst hF
    clear eF0
    go_enter Try.func117, Try.ntmps117
    go_upto_region 1 with fail
    rw [HW4.out]
    clear HW4
    go_wp2
    go_ret
    exact ⟨rfl, qb⟩
  · have hF : F = false := by rw [eF0]; exact decide_eq_false hlt
    subst hF
    clear eF0
    go_enter Try.func117, Try.ntmps117
    go_upto_region 1 with fail
    rw [HW4.out]
    clear HW4
    go_wp2
    go_ret
    exact ⟨rfl, qb⟩
set_option maxHeartbeats 2000000 in
set_option maxRecDepth 100000 in
theorem iMay_8 (p : PImg) (f : PFun) (i : PIns) (s : PSta) (fv cv qc qk qh v : Value) (w : World) (h : ArgImg w fv cv p) (hu : CapsUp p) (hf : FunV w f qc qk qh) (hi : insOk i = true) (hs : ArgI w v s.regs) (hop : i.op = 8) :
    Calls Try.prog 117 #[.agg #[fv, cv], .agg #[.int .i64 f.params, .int .i64 f.regs, qc, qk, qh], .agg #[.int .i64 i.op, .int .i64 i.a, .int .i64 i.b], .agg #[.int .i64 s.acc, v]] w fun e w' => e = .returned (.bool (mayB p f i s)) ∧ Below w.heap.size w w' := by
  have hio := hi
  unfold insOk inB at hio
  simp only [Bool.and_eq_true, decide_eq_true_eq] at hio
  obtain ⟨⟨ho1, ho2⟩, ⟨ha1, ha2⟩, hb1', hb2⟩ := hio
  obtain ⟨IA, eA⟩ : ∃ n : Nat, i.a = (n : Int) := ⟨i.a.toNat, by omega⟩
  obtain ⟨IB, eB⟩ : ∃ n : Nat, i.b = (n : Int) := ⟨i.b.toNat, by omega⟩
  have hia : IA ≤ 300 := by omega
  have hib : IB ≤ 300 := by omega
  have cR0 := fun (r want : Int) (W : World) (h0 : 0 ≤ r) (hW : Below w.heap.size w W) => iHolds s v r want W (hs.below hW) h0
  have cV0 := fun (W : World) (hW : Below w.heap.size w W) => iHoldValues s v IA IB W (hs.below hW) (by omega) (by omega) (by omega) (by omega)
  have cM0 := fun (W : World) (hW : Below w.heap.size w W) => iMayMake p f s IA fv cv qc qk qh v W (h.below hW) hu (hf.below hW) (hs.below hW)
  obtain ⟨hF, hC⟩ := h
  obtain ⟨x1, c1, rfl, m1, o1⟩ := hF
  obtain ⟨x2, c2, rfl, m2, _⟩ := hC.opened conC_len
  obtain ⟨xs, cs, rfl, ms, os⟩ := hs.opened
  obtain ⟨xc, cc, rfl, mc, _⟩ := hf.caps.opened capC_len
  obtain ⟨xk, ck, rfl, mk, _⟩ := hf.code.opened insC_len
  unfold maxLen at m1 m2 ms mc mk
  have eO : i.op = 8 := hop
  obtain ⟨AC, eC⟩ : ∃ n, s.acc = n := ⟨_, rfl⟩
  obtain ⟨F, eF⟩ : ∃ F, mayB p f i s = F := ⟨_, rfl⟩
  simp only [eF]
  obtain ⟨n1, e1⟩ : ∃ n, p.funcs.length = n := ⟨_, rfl⟩
  obtain ⟨n2, e2⟩ : ∃ n, p.consts.length = n := ⟨_, rfl⟩
  obtain ⟨nr, e3⟩ : ∃ n, s.regs.length = n := ⟨_, rfl⟩
  obtain ⟨nc, e4⟩ : ∃ n, f.caps.length = n := ⟨_, rfl⟩
  obtain ⟨nk, e5⟩ : ∃ n, f.code.length = n := ⟨_, rfl⟩
  obtain ⟨PA, e7⟩ : ∃ n, f.params = n := ⟨_, rfl⟩
  obtain ⟨RE, e8⟩ : ∃ n, f.regs = n := ⟨_, rfl⟩
  have eF0 : F = (decide ((IA : Int) < (nc : Int)) && decide (AC = 1)) := by rw [← eF, may_8 hop, eA, eC, e4]
  simp only [eO, eA, eB, eC, e1, e2, e3, e4, e5, e7, e8] at m1 m2 ms mc mk cR0 cV0 cM0 ⊢
  obtain ⟨q0, q1, q2, q3, qz, qb⟩ := four_boxes w (Obj.cells #[.slice x1 n1 c1, .slice x2 n2 c2] 31) (Obj.cells #[.int .i64 PA, .int .i64 RE, .slice xc nc cc, .slice xk nk ck, qh] 70) (Obj.cells #[.int .i64 8, .int .i64 IA, .int .i64 IB] 72) (Obj.cells #[.int .i64 AC, .slice xs nr cs] 98)
  obtain ⟨W4, hW4⟩ : ∃ W, ((((w.alloc (Obj.cells #[.slice x1 n1 c1, .slice x2 n2 c2] 31)).alloc (Obj.cells #[.int .i64 PA, .int .i64 RE, .slice xc nc cc, .slice xk nk ck, qh] 70)).alloc (Obj.cells #[.int .i64 8, .int .i64 IA, .int .i64 IB] 72)).alloc (Obj.cells #[.int .i64 AC, .slice xs nr cs] 98)) = W := ⟨_, rfl⟩
  simp only [hW4] at q0 q1 q2 q3 qz qb
  have HW4 : Hid (_ = W4) := hW4
  have cR := fun (r want : Int) (h0 : 0 ≤ r) => cR0 r want W4 h0 qb
  have cV := cV0 W4 qb
  have cM := cM0 W4 qb
  obtain ⟨i0, i1⟩ := two_cells_of q0
  obtain ⟨f0, f1, f2, f3, f4⟩ := five_cells q1
  obtain ⟨j0, j1, j2⟩ := three_cells q2
  obtain ⟨s0, s1⟩ := two_cells_of q3
  have hwr : IntKind.i64.wrap ((IA : Int) + (IB : Int)) = (IA : Int) + (IB : Int) := wrap_small (by omega) (by omega)
  have h0A : (0 : Int) ≤ (IA : Int) := by omega
  have h0B : (0 : Int) ≤ (IB : Int) := by omega
  clear cR0 cV0 cM0 hW4 hC hs os hf e1 e2 e3 e4 e5 e7 e8 eA eB eC eF hi o1 ho1 ho2 ha1 ha2 hb1' hb2 qz q0 q1 q2 q3
  obtain ⟨ac, hac⟩ : ∃ b, (AC == 1) = b := ⟨_, rfl⟩
  have hac' : decide (AC = 1) = ac := by rw [← hac]; rfl
  have hF : F = (decide ((IA : Int) < (nc : Int)) && ac) := by rw [eF0, hac']
  clear eF0 hac' cR cV cM
  by_cases hlt : (IA : Int) < (nc : Int)
  · have hF' : F = ac := by rw [hF, decide_eq_true hlt, Bool.true_and]
    subst hF'
    clear hF
    go_enter Try.func117, Try.ntmps117
    go_upto_region 1 with fail
    rw [HW4.out]
    clear HW4
    go_wp2
    go_ret
    exact ⟨rfl, qb⟩
  · have hF' : F = false := by rw [hF, decide_eq_false hlt, Bool.false_and]
    subst hF'
    clear hF
    cases ac
    all_goals
      go_enter Try.func117, Try.ntmps117
      go_upto_region 1 with fail
      rw [HW4.out]
      clear HW4
      go_wp2
      go_ret
      exact ⟨rfl, qb⟩
set_option maxHeartbeats 2000000 in
set_option maxRecDepth 100000 in
theorem iMay_13 (p : PImg) (f : PFun) (i : PIns) (s : PSta) (fv cv qc qk qh v : Value) (w : World) (h : ArgImg w fv cv p) (hu : CapsUp p) (hf : FunV w f qc qk qh) (hi : insOk i = true) (hs : ArgI w v s.regs) (hop : i.op = 13) :
    Calls Try.prog 117 #[.agg #[fv, cv], .agg #[.int .i64 f.params, .int .i64 f.regs, qc, qk, qh], .agg #[.int .i64 i.op, .int .i64 i.a, .int .i64 i.b], .agg #[.int .i64 s.acc, v]] w fun e w' => e = .returned (.bool (mayB p f i s)) ∧ Below w.heap.size w w' := by
  have hio := hi
  unfold insOk inB at hio
  simp only [Bool.and_eq_true, decide_eq_true_eq] at hio
  obtain ⟨⟨ho1, ho2⟩, ⟨ha1, ha2⟩, hb1', hb2⟩ := hio
  obtain ⟨IA, eA⟩ : ∃ n : Nat, i.a = (n : Int) := ⟨i.a.toNat, by omega⟩
  obtain ⟨IB, eB⟩ : ∃ n : Nat, i.b = (n : Int) := ⟨i.b.toNat, by omega⟩
  have hia : IA ≤ 300 := by omega
  have hib : IB ≤ 300 := by omega
  have cR0 := fun (r want : Int) (W : World) (h0 : 0 ≤ r) (hW : Below w.heap.size w W) => iHolds s v r want W (hs.below hW) h0
  have cV0 := fun (W : World) (hW : Below w.heap.size w W) => iHoldValues s v IA IB W (hs.below hW) (by omega) (by omega) (by omega) (by omega)
  have cM0 := fun (W : World) (hW : Below w.heap.size w W) => iMayMake p f s IA fv cv qc qk qh v W (h.below hW) hu (hf.below hW) (hs.below hW)
  obtain ⟨hF, hC⟩ := h
  obtain ⟨x1, c1, rfl, m1, o1⟩ := hF
  obtain ⟨x2, c2, rfl, m2, _⟩ := hC.opened conC_len
  obtain ⟨xs, cs, rfl, ms, os⟩ := hs.opened
  obtain ⟨xc, cc, rfl, mc, _⟩ := hf.caps.opened capC_len
  obtain ⟨xk, ck, rfl, mk, _⟩ := hf.code.opened insC_len
  unfold maxLen at m1 m2 ms mc mk
  have eO : i.op = 13 := hop
  obtain ⟨AC, eC⟩ : ∃ n, s.acc = n := ⟨_, rfl⟩
  obtain ⟨F, eF⟩ : ∃ F, mayB p f i s = F := ⟨_, rfl⟩
  simp only [eF]
  obtain ⟨n1, e1⟩ : ∃ n, p.funcs.length = n := ⟨_, rfl⟩
  obtain ⟨n2, e2⟩ : ∃ n, p.consts.length = n := ⟨_, rfl⟩
  obtain ⟨nr, e3⟩ : ∃ n, s.regs.length = n := ⟨_, rfl⟩
  obtain ⟨nc, e4⟩ : ∃ n, f.caps.length = n := ⟨_, rfl⟩
  obtain ⟨nk, e5⟩ : ∃ n, f.code.length = n := ⟨_, rfl⟩
  obtain ⟨PA, e7⟩ : ∃ n, f.params = n := ⟨_, rfl⟩
  obtain ⟨RE, e8⟩ : ∃ n, f.regs = n := ⟨_, rfl⟩
  have eF0 : F = (decide ((IA : Int) < (nk : Int)) && decide (AC = 1)) := by rw [← eF, may_13 hop, eA, eC, e5]
  simp only [eO, eA, eB, eC, e1, e2, e3, e4, e5, e7, e8] at m1 m2 ms mc mk cR0 cV0 cM0 ⊢
  obtain ⟨q0, q1, q2, q3, qz, qb⟩ := four_boxes w (Obj.cells #[.slice x1 n1 c1, .slice x2 n2 c2] 31) (Obj.cells #[.int .i64 PA, .int .i64 RE, .slice xc nc cc, .slice xk nk ck, qh] 70) (Obj.cells #[.int .i64 13, .int .i64 IA, .int .i64 IB] 72) (Obj.cells #[.int .i64 AC, .slice xs nr cs] 98)
  obtain ⟨W4, hW4⟩ : ∃ W, ((((w.alloc (Obj.cells #[.slice x1 n1 c1, .slice x2 n2 c2] 31)).alloc (Obj.cells #[.int .i64 PA, .int .i64 RE, .slice xc nc cc, .slice xk nk ck, qh] 70)).alloc (Obj.cells #[.int .i64 13, .int .i64 IA, .int .i64 IB] 72)).alloc (Obj.cells #[.int .i64 AC, .slice xs nr cs] 98)) = W := ⟨_, rfl⟩
  simp only [hW4] at q0 q1 q2 q3 qz qb
  have HW4 : Hid (_ = W4) := hW4
  have cR := fun (r want : Int) (h0 : 0 ≤ r) => cR0 r want W4 h0 qb
  have cV := cV0 W4 qb
  have cM := cM0 W4 qb
  obtain ⟨i0, i1⟩ := two_cells_of q0
  obtain ⟨f0, f1, f2, f3, f4⟩ := five_cells q1
  obtain ⟨j0, j1, j2⟩ := three_cells q2
  obtain ⟨s0, s1⟩ := two_cells_of q3
  have hwr : IntKind.i64.wrap ((IA : Int) + (IB : Int)) = (IA : Int) + (IB : Int) := wrap_small (by omega) (by omega)
  have h0A : (0 : Int) ≤ (IA : Int) := by omega
  have h0B : (0 : Int) ≤ (IB : Int) := by omega
  clear cR0 cV0 cM0 hW4 hC hs os hf e1 e2 e3 e4 e5 e7 e8 eA eB eC eF hi o1 ho1 ho2 ha1 ha2 hb1' hb2 qz q0 q1 q2 q3
  obtain ⟨ac, hac⟩ : ∃ b, (AC == 1) = b := ⟨_, rfl⟩
  have hac' : decide (AC = 1) = ac := by rw [← hac]; rfl
  have hF : F = (decide ((IA : Int) < (nk : Int)) && ac) := by rw [eF0, hac']
  clear eF0 hac' cR cV cM
  by_cases hlt : (IA : Int) < (nk : Int)
  · have hF' : F = ac := by rw [hF, decide_eq_true hlt, Bool.true_and]
    subst hF'
    clear hF
    go_enter Try.func117, Try.ntmps117
    go_upto_region 1 with fail
    rw [HW4.out]
    clear HW4
    go_wp2
    go_ret
    exact ⟨rfl, qb⟩
  · have hF' : F = false := by rw [hF, decide_eq_false hlt, Bool.false_and]
    subst hF'
    clear hF
    cases ac
    all_goals
      go_enter Try.func117, Try.ntmps117
      go_upto_region 1 with fail
      rw [HW4.out]
      clear HW4
      go_wp2
      go_ret
      exact ⟨rfl, qb⟩
set_option maxHeartbeats 2000000 in
set_option maxRecDepth 100000 in
theorem iMay_14 (p : PImg) (f : PFun) (i : PIns) (s : PSta) (fv cv qc qk qh v : Value) (w : World) (h : ArgImg w fv cv p) (hu : CapsUp p) (hf : FunV w f qc qk qh) (hi : insOk i = true) (hs : ArgI w v s.regs) (hop : i.op = 14) :
    Calls Try.prog 117 #[.agg #[fv, cv], .agg #[.int .i64 f.params, .int .i64 f.regs, qc, qk, qh], .agg #[.int .i64 i.op, .int .i64 i.a, .int .i64 i.b], .agg #[.int .i64 s.acc, v]] w fun e w' => e = .returned (.bool (mayB p f i s)) ∧ Below w.heap.size w w' := by
  have hio := hi
  unfold insOk inB at hio
  simp only [Bool.and_eq_true, decide_eq_true_eq] at hio
  obtain ⟨⟨ho1, ho2⟩, ⟨ha1, ha2⟩, hb1', hb2⟩ := hio
  obtain ⟨IA, eA⟩ : ∃ n : Nat, i.a = (n : Int) := ⟨i.a.toNat, by omega⟩
  obtain ⟨IB, eB⟩ : ∃ n : Nat, i.b = (n : Int) := ⟨i.b.toNat, by omega⟩
  have hia : IA ≤ 300 := by omega
  have hib : IB ≤ 300 := by omega
  have cR0 := fun (r want : Int) (W : World) (h0 : 0 ≤ r) (hW : Below w.heap.size w W) => iHolds s v r want W (hs.below hW) h0
  have cV0 := fun (W : World) (hW : Below w.heap.size w W) => iHoldValues s v IA IB W (hs.below hW) (by omega) (by omega) (by omega) (by omega)
  have cM0 := fun (W : World) (hW : Below w.heap.size w W) => iMayMake p f s IA fv cv qc qk qh v W (h.below hW) hu (hf.below hW) (hs.below hW)
  obtain ⟨hF, hC⟩ := h
  obtain ⟨x1, c1, rfl, m1, o1⟩ := hF
  obtain ⟨x2, c2, rfl, m2, _⟩ := hC.opened conC_len
  obtain ⟨xs, cs, rfl, ms, os⟩ := hs.opened
  obtain ⟨xc, cc, rfl, mc, _⟩ := hf.caps.opened capC_len
  obtain ⟨xk, ck, rfl, mk, _⟩ := hf.code.opened insC_len
  unfold maxLen at m1 m2 ms mc mk
  have eO : i.op = 14 := hop
  obtain ⟨AC, eC⟩ : ∃ n, s.acc = n := ⟨_, rfl⟩
  obtain ⟨F, eF⟩ : ∃ F, mayB p f i s = F := ⟨_, rfl⟩
  simp only [eF]
  obtain ⟨n1, e1⟩ : ∃ n, p.funcs.length = n := ⟨_, rfl⟩
  obtain ⟨n2, e2⟩ : ∃ n, p.consts.length = n := ⟨_, rfl⟩
  obtain ⟨nr, e3⟩ : ∃ n, s.regs.length = n := ⟨_, rfl⟩
  obtain ⟨nc, e4⟩ : ∃ n, f.caps.length = n := ⟨_, rfl⟩
  obtain ⟨nk, e5⟩ : ∃ n, f.code.length = n := ⟨_, rfl⟩
  obtain ⟨PA, e7⟩ : ∃ n, f.params = n := ⟨_, rfl⟩
  obtain ⟨RE, e8⟩ : ∃ n, f.regs = n := ⟨_, rfl⟩
  have eF0 : F = (decide ((IA : Int) < (nk : Int)) && decide (AC = 1)) := by rw [← eF, may_14 hop, eA, eC, e5]
  simp only [eO, eA, eB, eC, e1, e2, e3, e4, e5, e7, e8] at m1 m2 ms mc mk cR0 cV0 cM0 ⊢
  obtain ⟨q0, q1, q2, q3, qz, qb⟩ := four_boxes w (Obj.cells #[.slice x1 n1 c1, .slice x2 n2 c2] 31) (Obj.cells #[.int .i64 PA, .int .i64 RE, .slice xc nc cc, .slice xk nk ck, qh] 70) (Obj.cells #[.int .i64 14, .int .i64 IA, .int .i64 IB] 72) (Obj.cells #[.int .i64 AC, .slice xs nr cs] 98)
  obtain ⟨W4, hW4⟩ : ∃ W, ((((w.alloc (Obj.cells #[.slice x1 n1 c1, .slice x2 n2 c2] 31)).alloc (Obj.cells #[.int .i64 PA, .int .i64 RE, .slice xc nc cc, .slice xk nk ck, qh] 70)).alloc (Obj.cells #[.int .i64 14, .int .i64 IA, .int .i64 IB] 72)).alloc (Obj.cells #[.int .i64 AC, .slice xs nr cs] 98)) = W := ⟨_, rfl⟩
  simp only [hW4] at q0 q1 q2 q3 qz qb
  have HW4 : Hid (_ = W4) := hW4
  have cR := fun (r want : Int) (h0 : 0 ≤ r) => cR0 r want W4 h0 qb
  have cV := cV0 W4 qb
  have cM := cM0 W4 qb
  obtain ⟨i0, i1⟩ := two_cells_of q0
  obtain ⟨f0, f1, f2, f3, f4⟩ := five_cells q1
  obtain ⟨j0, j1, j2⟩ := three_cells q2
  obtain ⟨s0, s1⟩ := two_cells_of q3
  have hwr : IntKind.i64.wrap ((IA : Int) + (IB : Int)) = (IA : Int) + (IB : Int) := wrap_small (by omega) (by omega)
  have h0A : (0 : Int) ≤ (IA : Int) := by omega
  have h0B : (0 : Int) ≤ (IB : Int) := by omega
  clear cR0 cV0 cM0 hW4 hC hs os hf e1 e2 e3 e4 e5 e7 e8 eA eB eC eF hi o1 ho1 ho2 ha1 ha2 hb1' hb2 qz q0 q1 q2 q3
  obtain ⟨ac, hac⟩ : ∃ b, (AC == 1) = b := ⟨_, rfl⟩
  have hac' : decide (AC = 1) = ac := by rw [← hac]; rfl
  have hF : F = (decide ((IA : Int) < (nk : Int)) && ac) := by rw [eF0, hac']
  clear eF0 hac' cR cV cM
  by_cases hlt : (IA : Int) < (nk : Int)
  · have hF' : F = ac := by rw [hF, decide_eq_true hlt, Bool.true_and]
    subst hF'
    clear hF
    go_enter Try.func117, Try.ntmps117
    go_upto_region 1 with fail
    rw [HW4.out]
    clear HW4
    go_wp2
    go_ret
    exact ⟨rfl, qb⟩
  · have hF' : F = false := by rw [hF, decide_eq_false hlt, Bool.false_and]
    subst hF'
    clear hF
    cases ac
    all_goals
      go_enter Try.func117, Try.ntmps117
      go_upto_region 1 with fail
      rw [HW4.out]
      clear HW4
      go_wp2
      go_ret
      exact ⟨rfl, qb⟩
set_option maxHeartbeats 2000000 in
set_option maxRecDepth 100000 in
theorem iMay_3 (p : PImg) (f : PFun) (i : PIns) (s : PSta) (fv cv qc qk qh v : Value) (w : World) (h : ArgImg w fv cv p) (hu : CapsUp p) (hf : FunV w f qc qk qh) (hi : insOk i = true) (hs : ArgI w v s.regs) (hop : i.op = 3) :
    Calls Try.prog 117 #[.agg #[fv, cv], .agg #[.int .i64 f.params, .int .i64 f.regs, qc, qk, qh], .agg #[.int .i64 i.op, .int .i64 i.a, .int .i64 i.b], .agg #[.int .i64 s.acc, v]] w fun e w' => e = .returned (.bool (mayB p f i s)) ∧ Below w.heap.size w w' := by
  have hio := hi
  unfold insOk inB at hio
  simp only [Bool.and_eq_true, decide_eq_true_eq] at hio
  obtain ⟨⟨ho1, ho2⟩, ⟨ha1, ha2⟩, hb1', hb2⟩ := hio
  obtain ⟨IA, eA⟩ : ∃ n : Nat, i.a = (n : Int) := ⟨i.a.toNat, by omega⟩
  obtain ⟨IB, eB⟩ : ∃ n : Nat, i.b = (n : Int) := ⟨i.b.toNat, by omega⟩
  have hia : IA ≤ 300 := by omega
  have hib : IB ≤ 300 := by omega
  have cR0 := fun (r want : Int) (W : World) (h0 : 0 ≤ r) (hW : Below w.heap.size w W) => iHolds s v r want W (hs.below hW) h0
  have cV0 := fun (W : World) (hW : Below w.heap.size w W) => iHoldValues s v IA IB W (hs.below hW) (by omega) (by omega) (by omega) (by omega)
  have cM0 := fun (W : World) (hW : Below w.heap.size w W) => iMayMake p f s IA fv cv qc qk qh v W (h.below hW) hu (hf.below hW) (hs.below hW)
  obtain ⟨hF, hC⟩ := h
  obtain ⟨x1, c1, rfl, m1, o1⟩ := hF
  obtain ⟨x2, c2, rfl, m2, _⟩ := hC.opened conC_len
  obtain ⟨xs, cs, rfl, ms, os⟩ := hs.opened
  obtain ⟨xc, cc, rfl, mc, _⟩ := hf.caps.opened capC_len
  obtain ⟨xk, ck, rfl, mk, _⟩ := hf.code.opened insC_len
  unfold maxLen at m1 m2 ms mc mk
  have eO : i.op = 3 := hop
  obtain ⟨AC, eC⟩ : ∃ n, s.acc = n := ⟨_, rfl⟩
  obtain ⟨F, eF⟩ : ∃ F, mayB p f i s = F := ⟨_, rfl⟩
  simp only [eF]
  obtain ⟨n1, e1⟩ : ∃ n, p.funcs.length = n := ⟨_, rfl⟩
  obtain ⟨n2, e2⟩ : ∃ n, p.consts.length = n := ⟨_, rfl⟩
  obtain ⟨nr, e3⟩ : ∃ n, s.regs.length = n := ⟨_, rfl⟩
  obtain ⟨nc, e4⟩ : ∃ n, f.caps.length = n := ⟨_, rfl⟩
  obtain ⟨nk, e5⟩ : ∃ n, f.code.length = n := ⟨_, rfl⟩
  obtain ⟨PA, e7⟩ : ∃ n, f.params = n := ⟨_, rfl⟩
  obtain ⟨RE, e8⟩ : ∃ n, f.regs = n := ⟨_, rfl⟩
  have eF0 : F = (decide ((IA : Int) < (nr : Int)) && decide (AC = 1)) := by
    rw [← eF, may_3 hop, eA, eC]
    unfold regIn inB
    rw [e3, decide_eq_true (p := (0 : Int) ≤ (IA : Int)) (by omega), Bool.true_and]
    congr 1
    exact decide_eq_decide.2 (by omega)
  simp only [eO, eA, eB, eC, e1, e2, e3, e4, e5, e7, e8] at m1 m2 ms mc mk cR0 cV0 cM0 ⊢
  obtain ⟨q0, q1, q2, q3, qz, qb⟩ := four_boxes w (Obj.cells #[.slice x1 n1 c1, .slice x2 n2 c2] 31) (Obj.cells #[.int .i64 PA, .int .i64 RE, .slice xc nc cc, .slice xk nk ck, qh] 70) (Obj.cells #[.int .i64 3, .int .i64 IA, .int .i64 IB] 72) (Obj.cells #[.int .i64 AC, .slice xs nr cs] 98)
  obtain ⟨W4, hW4⟩ : ∃ W, ((((w.alloc (Obj.cells #[.slice x1 n1 c1, .slice x2 n2 c2] 31)).alloc (Obj.cells #[.int .i64 PA, .int .i64 RE, .slice xc nc cc, .slice xk nk ck, qh] 70)).alloc (Obj.cells #[.int .i64 3, .int .i64 IA, .int .i64 IB] 72)).alloc (Obj.cells #[.int .i64 AC, .slice xs nr cs] 98)) = W := ⟨_, rfl⟩
  simp only [hW4] at q0 q1 q2 q3 qz qb
  have HW4 : Hid (_ = W4) := hW4
  have cR := fun (r want : Int) (h0 : 0 ≤ r) => cR0 r want W4 h0 qb
  have cV := cV0 W4 qb
  have cM := cM0 W4 qb
  obtain ⟨i0, i1⟩ := two_cells_of q0
  obtain ⟨f0, f1, f2, f3, f4⟩ := five_cells q1
  obtain ⟨j0, j1, j2⟩ := three_cells q2
  obtain ⟨s0, s1⟩ := two_cells_of q3
  have hwr : IntKind.i64.wrap ((IA : Int) + (IB : Int)) = (IA : Int) + (IB : Int) := wrap_small (by omega) (by omega)
  have h0A : (0 : Int) ≤ (IA : Int) := by omega
  have h0B : (0 : Int) ≤ (IB : Int) := by omega
  clear cR0 cV0 cM0 hW4 hC hs os hf e1 e2 e3 e4 e5 e7 e8 eA eB eC eF hi o1 ho1 ho2 ha1 ha2 hb1' hb2 qz q0 q1 q2 q3
  obtain ⟨ac, hac⟩ : ∃ b, (AC == 1) = b := ⟨_, rfl⟩
  have hac' : decide (AC = 1) = ac := by rw [← hac]; rfl
  have hF : F = (decide ((IA : Int) < (nr : Int)) && ac) := by rw [eF0, hac']
  clear eF0 hac' cR cV cM
  by_cases hlt : (IA : Int) < (nr : Int)
  · have hF' : F = ac := by rw [hF, decide_eq_true hlt, Bool.true_and]
    subst hF'
    clear hF
    go_enter Try.func117, Try.ntmps117
    go_upto_region 1 with fail
    rw [HW4.out]
    clear HW4
    go_wp2
    go_ret
    exact ⟨rfl, qb⟩
  · have hF' : F = false := by rw [hF, decide_eq_false hlt, Bool.false_and]
    subst hF'
    clear hF
    cases ac
    all_goals
      go_enter Try.func117, Try.ntmps117
      go_upto_region 1 with fail
      rw [HW4.out]
      clear HW4
      go_wp2
      go_ret
      exact ⟨rfl, qb⟩
set_option maxHeartbeats 2000000 in
set_option maxRecDepth 100000 in
theorem iMay_4 (p : PImg) (f : PFun) (i : PIns) (s : PSta) (fv cv qc qk qh v : Value) (w : World) (h : ArgImg w fv cv p) (hu : CapsUp p) (hf : FunV w f qc qk qh) (hi : insOk i = true) (hs : ArgI w v s.regs) (hop : i.op = 4) :
    Calls Try.prog 117 #[.agg #[fv, cv], .agg #[.int .i64 f.params, .int .i64 f.regs, qc, qk, qh], .agg #[.int .i64 i.op, .int .i64 i.a, .int .i64 i.b], .agg #[.int .i64 s.acc, v]] w fun e w' => e = .returned (.bool (mayB p f i s)) ∧ Below w.heap.size w w' := by
  have hio := hi
  unfold insOk inB at hio
  simp only [Bool.and_eq_true, decide_eq_true_eq] at hio
  obtain ⟨⟨ho1, ho2⟩, ⟨ha1, ha2⟩, hb1', hb2⟩ := hio
  obtain ⟨IA, eA⟩ : ∃ n : Nat, i.a = (n : Int) := ⟨i.a.toNat, by omega⟩
  obtain ⟨IB, eB⟩ : ∃ n : Nat, i.b = (n : Int) := ⟨i.b.toNat, by omega⟩
  have hia : IA ≤ 300 := by omega
  have hib : IB ≤ 300 := by omega
  have cR0 := fun (r want : Int) (W : World) (h0 : 0 ≤ r) (hW : Below w.heap.size w W) => iHolds s v r want W (hs.below hW) h0
  have cV0 := fun (W : World) (hW : Below w.heap.size w W) => iHoldValues s v IA IB W (hs.below hW) (by omega) (by omega) (by omega) (by omega)
  have cM0 := fun (W : World) (hW : Below w.heap.size w W) => iMayMake p f s IA fv cv qc qk qh v W (h.below hW) hu (hf.below hW) (hs.below hW)
  obtain ⟨hF, hC⟩ := h
  obtain ⟨x1, c1, rfl, m1, o1⟩ := hF
  obtain ⟨x2, c2, rfl, m2, _⟩ := hC.opened conC_len
  obtain ⟨xs, cs, rfl, ms, os⟩ := hs.opened
  obtain ⟨xc, cc, rfl, mc, _⟩ := hf.caps.opened capC_len
  obtain ⟨xk, ck, rfl, mk, _⟩ := hf.code.opened insC_len
  unfold maxLen at m1 m2 ms mc mk
  have eO : i.op = 4 := hop
  obtain ⟨AC, eC⟩ : ∃ n, s.acc = n := ⟨_, rfl⟩
  obtain ⟨F, eF⟩ : ∃ F, mayB p f i s = F := ⟨_, rfl⟩
  simp only [eF]
  obtain ⟨n1, e1⟩ : ∃ n, p.funcs.length = n := ⟨_, rfl⟩
  obtain ⟨n2, e2⟩ : ∃ n, p.consts.length = n := ⟨_, rfl⟩
  obtain ⟨nr, e3⟩ : ∃ n, s.regs.length = n := ⟨_, rfl⟩
  obtain ⟨nc, e4⟩ : ∃ n, f.caps.length = n := ⟨_, rfl⟩
  obtain ⟨nk, e5⟩ : ∃ n, f.code.length = n := ⟨_, rfl⟩
  obtain ⟨PA, e7⟩ : ∃ n, f.params = n := ⟨_, rfl⟩
  obtain ⟨RE, e8⟩ : ∃ n, f.regs = n := ⟨_, rfl⟩
  have eF0 : F = (decide ((IA : Int) < (nr : Int)) && decide (AC = 1)) := by
    rw [← eF, may_4 hop, eA, eC]
    unfold regIn inB
    rw [e3, decide_eq_true (p := (0 : Int) ≤ (IA : Int)) (by omega), Bool.true_and]
    congr 1
    exact decide_eq_decide.2 (by omega)
  simp only [eO, eA, eB, eC, e1, e2, e3, e4, e5, e7, e8] at m1 m2 ms mc mk cR0 cV0 cM0 ⊢
  obtain ⟨q0, q1, q2, q3, qz, qb⟩ := four_boxes w (Obj.cells #[.slice x1 n1 c1, .slice x2 n2 c2] 31) (Obj.cells #[.int .i64 PA, .int .i64 RE, .slice xc nc cc, .slice xk nk ck, qh] 70) (Obj.cells #[.int .i64 4, .int .i64 IA, .int .i64 IB] 72) (Obj.cells #[.int .i64 AC, .slice xs nr cs] 98)
  obtain ⟨W4, hW4⟩ : ∃ W, ((((w.alloc (Obj.cells #[.slice x1 n1 c1, .slice x2 n2 c2] 31)).alloc (Obj.cells #[.int .i64 PA, .int .i64 RE, .slice xc nc cc, .slice xk nk ck, qh] 70)).alloc (Obj.cells #[.int .i64 4, .int .i64 IA, .int .i64 IB] 72)).alloc (Obj.cells #[.int .i64 AC, .slice xs nr cs] 98)) = W := ⟨_, rfl⟩
  simp only [hW4] at q0 q1 q2 q3 qz qb
  have HW4 : Hid (_ = W4) := hW4
  have cR := fun (r want : Int) (h0 : 0 ≤ r) => cR0 r want W4 h0 qb
  have cV := cV0 W4 qb
  have cM := cM0 W4 qb
  obtain ⟨i0, i1⟩ := two_cells_of q0
  obtain ⟨f0, f1, f2, f3, f4⟩ := five_cells q1
  obtain ⟨j0, j1, j2⟩ := three_cells q2
  obtain ⟨s0, s1⟩ := two_cells_of q3
  have hwr : IntKind.i64.wrap ((IA : Int) + (IB : Int)) = (IA : Int) + (IB : Int) := wrap_small (by omega) (by omega)
  have h0A : (0 : Int) ≤ (IA : Int) := by omega
  have h0B : (0 : Int) ≤ (IB : Int) := by omega
  clear cR0 cV0 cM0 hW4 hC hs os hf e1 e2 e3 e4 e5 e7 e8 eA eB eC eF hi o1 ho1 ho2 ha1 ha2 hb1' hb2 qz q0 q1 q2 q3
  obtain ⟨ac, hac⟩ : ∃ b, (AC == 1) = b := ⟨_, rfl⟩
  have hac' : decide (AC = 1) = ac := by rw [← hac]; rfl
  have hF : F = (decide ((IA : Int) < (nr : Int)) && ac) := by rw [eF0, hac']
  clear eF0 hac' cR cV cM
  by_cases hlt : (IA : Int) < (nr : Int)
  · have hF' : F = ac := by rw [hF, decide_eq_true hlt, Bool.true_and]
    subst hF'
    clear hF
    go_enter Try.func117, Try.ntmps117
    go_upto_region 1 with fail
    rw [HW4.out]
    clear HW4
    go_wp2
    go_ret
    exact ⟨rfl, qb⟩
  · have hF' : F = false := by rw [hF, decide_eq_false hlt, Bool.false_and]
    subst hF'
    clear hF
    cases ac
    all_goals
      go_enter Try.func117, Try.ntmps117
      go_upto_region 1 with fail
      rw [HW4.out]
      clear HW4
      go_wp2
      go_ret
      exact ⟨rfl, qb⟩
set_option maxHeartbeats 2000000 in
set_option maxRecDepth 100000 in
theorem iMay_2 (p : PImg) (f : PFun) (i : PIns) (s : PSta) (fv cv qc qk qh v : Value) (w : World) (h : ArgImg w fv cv p) (hu : CapsUp p) (hf : FunV w f qc qk qh) (hi : insOk i = true) (hs : ArgI w v s.regs) (hop : i.op = 2) :
    Calls Try.prog 117 #[.agg #[fv, cv], .agg #[.int .i64 f.params, .int .i64 f.regs, qc, qk, qh], .agg #[.int .i64 i.op, .int .i64 i.a, .int .i64 i.b], .agg #[.int .i64 s.acc, v]] w fun e w' => e = .returned (.bool (mayB p f i s)) ∧ Below w.heap.size w w' := by
  have hio := hi
  unfold insOk inB at hio
  simp only [Bool.and_eq_true, decide_eq_true_eq] at hio
  obtain ⟨⟨ho1, ho2⟩, ⟨ha1, ha2⟩, hb1', hb2⟩ := hio
  obtain ⟨IA, eA⟩ : ∃ n : Nat, i.a = (n : Int) := ⟨i.a.toNat, by omega⟩
  obtain ⟨IB, eB⟩ : ∃ n : Nat, i.b = (n : Int) := ⟨i.b.toNat, by omega⟩
  have hia : IA ≤ 300 := by omega
  have hib : IB ≤ 300 := by omega
  have cR0 := fun (r want : Int) (W : World) (h0 : 0 ≤ r) (hW : Below w.heap.size w W) => iHolds s v r want W (hs.below hW) h0
  have cV0 := fun (W : World) (hW : Below w.heap.size w W) => iHoldValues s v IA IB W (hs.below hW) (by omega) (by omega) (by omega) (by omega)
  have cM0 := fun (W : World) (hW : Below w.heap.size w W) => iMayMake p f s IA fv cv qc qk qh v W (h.below hW) hu (hf.below hW) (hs.below hW)
  obtain ⟨hF, hC⟩ := h
  obtain ⟨x1, c1, rfl, m1, o1⟩ := hF
  obtain ⟨x2, c2, rfl, m2, _⟩ := hC.opened conC_len
  obtain ⟨xs, cs, rfl, ms, os⟩ := hs.opened
  obtain ⟨xc, cc, rfl, mc, _⟩ := hf.caps.opened capC_len
  obtain ⟨xk, ck, rfl, mk, _⟩ := hf.code.opened insC_len
  unfold maxLen at m1 m2 ms mc mk
  have eO : i.op = 2 := hop
  obtain ⟨AC, eC⟩ : ∃ n, s.acc = n := ⟨_, rfl⟩
  obtain ⟨F, eF⟩ : ∃ F, mayB p f i s = F := ⟨_, rfl⟩
  simp only [eF]
  obtain ⟨n1, e1⟩ : ∃ n, p.funcs.length = n := ⟨_, rfl⟩
  obtain ⟨n2, e2⟩ : ∃ n, p.consts.length = n := ⟨_, rfl⟩
  obtain ⟨nr, e3⟩ : ∃ n, s.regs.length = n := ⟨_, rfl⟩
  obtain ⟨nc, e4⟩ : ∃ n, f.caps.length = n := ⟨_, rfl⟩
  obtain ⟨nk, e5⟩ : ∃ n, f.code.length = n := ⟨_, rfl⟩
  obtain ⟨PA, e7⟩ : ∃ n, f.params = n := ⟨_, rfl⟩
  obtain ⟨RE, e8⟩ : ∃ n, f.regs = n := ⟨_, rfl⟩
  have eF0 : F = regIs s (IA : Int) 1 := by rw [← eF, may_2 hop, eA]
  simp only [eO, eA, eB, eC, e1, e2, e3, e4, e5, e7, e8] at m1 m2 ms mc mk cR0 cV0 cM0 ⊢
  obtain ⟨q0, q1, q2, q3, qz, qb⟩ := four_boxes w (Obj.cells #[.slice x1 n1 c1, .slice x2 n2 c2] 31) (Obj.cells #[.int .i64 PA, .int .i64 RE, .slice xc nc cc, .slice xk nk ck, qh] 70) (Obj.cells #[.int .i64 2, .int .i64 IA, .int .i64 IB] 72) (Obj.cells #[.int .i64 AC, .slice xs nr cs] 98)
  obtain ⟨W4, hW4⟩ : ∃ W, ((((w.alloc (Obj.cells #[.slice x1 n1 c1, .slice x2 n2 c2] 31)).alloc (Obj.cells #[.int .i64 PA, .int .i64 RE, .slice xc nc cc, .slice xk nk ck, qh] 70)).alloc (Obj.cells #[.int .i64 2, .int .i64 IA, .int .i64 IB] 72)).alloc (Obj.cells #[.int .i64 AC, .slice xs nr cs] 98)) = W := ⟨_, rfl⟩
  simp only [hW4] at q0 q1 q2 q3 qz qb
  have HW4 : Hid (_ = W4) := hW4
  have cR := fun (r want : Int) (h0 : 0 ≤ r) => cR0 r want W4 h0 qb
  have cV := cV0 W4 qb
  have cM := cM0 W4 qb
  obtain ⟨i0, i1⟩ := two_cells_of q0
  obtain ⟨f0, f1, f2, f3, f4⟩ := five_cells q1
  obtain ⟨j0, j1, j2⟩ := three_cells q2
  obtain ⟨s0, s1⟩ := two_cells_of q3
  have hwr : IntKind.i64.wrap ((IA : Int) + (IB : Int)) = (IA : Int) + (IB : Int) := wrap_small (by omega) (by omega)
  have h0A : (0 : Int) ≤ (IA : Int) := by omega
  have h0B : (0 : Int) ≤ (IB : Int) := by omega
  clear cR0 cV0 cM0 hW4 hC hs os hf e1 e2 e3 e4 e5 e7 e8 eA eB eC eF hi o1 ho1 ho2 ha1 ha2 hb1' hb2 qz q0 q1 q2 q3
  have cB := cR (IA : Int) 1 h0A
  obtain ⟨B, hB⟩ : ∃ b, regIs s (IA : Int) 1 = b := ⟨_, rfl⟩
  simp only [hB] at cB
  have hF : F = B := by rw [eF0, hB]
  subst hF
  clear cR cV cM hB eF0
  go_enter Try.func117, Try.ntmps117
  go_upto_region 1 with fail
  rw [HW4.out]
  clear HW4
  go_wp2_with (go_at_call 133; (with_reducible refine cB.mono ?_); rintro e w' ⟨rfl, hb1⟩)
  go_ret
  exact ⟨rfl, chain qb hb1⟩
set_option maxHeartbeats 2000000 in
set_option maxRecDepth 100000 in
theorem iMay_5 (p : PImg) (f : PFun) (i : PIns) (s : PSta) (fv cv qc qk qh v : Value) (w : World) (h : ArgImg w fv cv p) (hu : CapsUp p) (hf : FunV w f qc qk qh) (hi : insOk i = true) (hs : ArgI w v s.regs) (hop : i.op = 5) :
    Calls Try.prog 117 #[.agg #[fv, cv], .agg #[.int .i64 f.params, .int .i64 f.regs, qc, qk, qh], .agg #[.int .i64 i.op, .int .i64 i.a, .int .i64 i.b], .agg #[.int .i64 s.acc, v]] w fun e w' => e = .returned (.bool (mayB p f i s)) ∧ Below w.heap.size w w' := by
  have hio := hi
  unfold insOk inB at hio
  simp only [Bool.and_eq_true, decide_eq_true_eq] at hio
  obtain ⟨⟨ho1, ho2⟩, ⟨ha1, ha2⟩, hb1', hb2⟩ := hio
  obtain ⟨IA, eA⟩ : ∃ n : Nat, i.a = (n : Int) := ⟨i.a.toNat, by omega⟩
  obtain ⟨IB, eB⟩ : ∃ n : Nat, i.b = (n : Int) := ⟨i.b.toNat, by omega⟩
  have hia : IA ≤ 300 := by omega
  have hib : IB ≤ 300 := by omega
  have cR0 := fun (r want : Int) (W : World) (h0 : 0 ≤ r) (hW : Below w.heap.size w W) => iHolds s v r want W (hs.below hW) h0
  have cV0 := fun (W : World) (hW : Below w.heap.size w W) => iHoldValues s v IA IB W (hs.below hW) (by omega) (by omega) (by omega) (by omega)
  have cM0 := fun (W : World) (hW : Below w.heap.size w W) => iMayMake p f s IA fv cv qc qk qh v W (h.below hW) hu (hf.below hW) (hs.below hW)
  obtain ⟨hF, hC⟩ := h
  obtain ⟨x1, c1, rfl, m1, o1⟩ := hF
  obtain ⟨x2, c2, rfl, m2, _⟩ := hC.opened conC_len
  obtain ⟨xs, cs, rfl, ms, os⟩ := hs.opened
  obtain ⟨xc, cc, rfl, mc, _⟩ := hf.caps.opened capC_len
  obtain ⟨xk, ck, rfl, mk, _⟩ := hf.code.opened insC_len
  unfold maxLen at m1 m2 ms mc mk
  have eO : i.op = 5 := hop
  obtain ⟨AC, eC⟩ : ∃ n, s.acc = n := ⟨_, rfl⟩
  obtain ⟨F, eF⟩ : ∃ F, mayB p f i s = F := ⟨_, rfl⟩
  simp only [eF]
  obtain ⟨n1, e1⟩ : ∃ n, p.funcs.length = n := ⟨_, rfl⟩
  obtain ⟨n2, e2⟩ : ∃ n, p.consts.length = n := ⟨_, rfl⟩
  obtain ⟨nr, e3⟩ : ∃ n, s.regs.length = n := ⟨_, rfl⟩
  obtain ⟨nc, e4⟩ : ∃ n, f.caps.length = n := ⟨_, rfl⟩
  obtain ⟨nk, e5⟩ : ∃ n, f.code.length = n := ⟨_, rfl⟩
  obtain ⟨PA, e7⟩ : ∃ n, f.params = n := ⟨_, rfl⟩
  obtain ⟨RE, e8⟩ : ∃ n, f.regs = n := ⟨_, rfl⟩
  have eF0 : F = regIs s (IA : Int) 2 := by rw [← eF, may_5 hop, eA]
  simp only [eO, eA, eB, eC, e1, e2, e3, e4, e5, e7, e8] at m1 m2 ms mc mk cR0 cV0 cM0 ⊢
  obtain ⟨q0, q1, q2, q3, qz, qb⟩ := four_boxes w (Obj.cells #[.slice x1 n1 c1, .slice x2 n2 c2] 31) (Obj.cells #[.int .i64 PA, .int .i64 RE, .slice xc nc cc, .slice xk nk ck, qh] 70) (Obj.cells #[.int .i64 5, .int .i64 IA, .int .i64 IB] 72) (Obj.cells #[.int .i64 AC, .slice xs nr cs] 98)
  obtain ⟨W4, hW4⟩ : ∃ W, ((((w.alloc (Obj.cells #[.slice x1 n1 c1, .slice x2 n2 c2] 31)).alloc (Obj.cells #[.int .i64 PA, .int .i64 RE, .slice xc nc cc, .slice xk nk ck, qh] 70)).alloc (Obj.cells #[.int .i64 5, .int .i64 IA, .int .i64 IB] 72)).alloc (Obj.cells #[.int .i64 AC, .slice xs nr cs] 98)) = W := ⟨_, rfl⟩
  simp only [hW4] at q0 q1 q2 q3 qz qb
  have HW4 : Hid (_ = W4) := hW4
  have cR := fun (r want : Int) (h0 : 0 ≤ r) => cR0 r want W4 h0 qb
  have cV := cV0 W4 qb
  have cM := cM0 W4 qb
  obtain ⟨i0, i1⟩ := two_cells_of q0
  obtain ⟨f0, f1, f2, f3, f4⟩ := five_cells q1
  obtain ⟨j0, j1, j2⟩ := three_cells q2
  obtain ⟨s0, s1⟩ := two_cells_of q3
  have hwr : IntKind.i64.wrap ((IA : Int) + (IB : Int)) = (IA : Int) + (IB : Int) := wrap_small (by omega) (by omega)
  have h0A : (0 : Int) ≤ (IA : Int) := by omega
  have h0B : (0 : Int) ≤ (IB : Int) := by omega
  clear cR0 cV0 cM0 hW4 hC hs os hf e1 e2 e3 e4 e5 e7 e8 eA eB eC eF hi o1 ho1 ho2 ha1 ha2 hb1' hb2 qz q0 q1 q2 q3
  have cB := cR (IA : Int) 2 h0A
  obtain ⟨B, hB⟩ : ∃ b, regIs s (IA : Int) 2 = b := ⟨_, rfl⟩
  simp only [hB] at cB
  have hF : F = B := by rw [eF0, hB]
  subst hF
  clear cR cV cM hB eF0
  go_enter Try.func117, Try.ntmps117
  go_upto_region 1 with fail
  rw [HW4.out]
  clear HW4
  go_wp2_with (go_at_call 133; (with_reducible refine cB.mono ?_); rintro e w' ⟨rfl, hb1⟩)
  go_ret
  exact ⟨rfl, chain qb hb1⟩
set_option maxHeartbeats 2000000 in
set_option maxRecDepth 100000 in
theorem iMay_6 (p : PImg) (f : PFun) (i : PIns) (s : PSta) (fv cv qc qk qh v : Value) (w : World) (h : ArgImg w fv cv p) (hu : CapsUp p) (hf : FunV w f qc qk qh) (hi : insOk i = true) (hs : ArgI w v s.regs) (hop : i.op = 6) :
    Calls Try.prog 117 #[.agg #[fv, cv], .agg #[.int .i64 f.params, .int .i64 f.regs, qc, qk, qh], .agg #[.int .i64 i.op, .int .i64 i.a, .int .i64 i.b], .agg #[.int .i64 s.acc, v]] w fun e w' => e = .returned (.bool (mayB p f i s)) ∧ Below w.heap.size w w' := by
  have hio := hi
  unfold insOk inB at hio
  simp only [Bool.and_eq_true, decide_eq_true_eq] at hio
  obtain ⟨⟨ho1, ho2⟩, ⟨ha1, ha2⟩, hb1', hb2⟩ := hio
  obtain ⟨IA, eA⟩ : ∃ n : Nat, i.a = (n : Int) := ⟨i.a.toNat, by omega⟩
  obtain ⟨IB, eB⟩ : ∃ n : Nat, i.b = (n : Int) := ⟨i.b.toNat, by omega⟩
  have hia : IA ≤ 300 := by omega
  have hib : IB ≤ 300 := by omega
  have cR0 := fun (r want : Int) (W : World) (h0 : 0 ≤ r) (hW : Below w.heap.size w W) => iHolds s v r want W (hs.below hW) h0
  have cV0 := fun (W : World) (hW : Below w.heap.size w W) => iHoldValues s v IA IB W (hs.below hW) (by omega) (by omega) (by omega) (by omega)
  have cM0 := fun (W : World) (hW : Below w.heap.size w W) => iMayMake p f s IA fv cv qc qk qh v W (h.below hW) hu (hf.below hW) (hs.below hW)
  obtain ⟨hF, hC⟩ := h
  obtain ⟨x1, c1, rfl, m1, o1⟩ := hF
  obtain ⟨x2, c2, rfl, m2, _⟩ := hC.opened conC_len
  obtain ⟨xs, cs, rfl, ms, os⟩ := hs.opened
  obtain ⟨xc, cc, rfl, mc, _⟩ := hf.caps.opened capC_len
  obtain ⟨xk, ck, rfl, mk, _⟩ := hf.code.opened insC_len
  unfold maxLen at m1 m2 ms mc mk
  have eO : i.op = 6 := hop
  obtain ⟨AC, eC⟩ : ∃ n, s.acc = n := ⟨_, rfl⟩
  obtain ⟨F, eF⟩ : ∃ F, mayB p f i s = F := ⟨_, rfl⟩
  simp only [eF]
  obtain ⟨n1, e1⟩ : ∃ n, p.funcs.length = n := ⟨_, rfl⟩
  obtain ⟨n2, e2⟩ : ∃ n, p.consts.length = n := ⟨_, rfl⟩
  obtain ⟨nr, e3⟩ : ∃ n, s.regs.length = n := ⟨_, rfl⟩
  obtain ⟨nc, e4⟩ : ∃ n, f.caps.length = n := ⟨_, rfl⟩
  obtain ⟨nk, e5⟩ : ∃ n, f.code.length = n := ⟨_, rfl⟩
  obtain ⟨PA, e7⟩ : ∃ n, f.params = n := ⟨_, rfl⟩
  obtain ⟨RE, e8⟩ : ∃ n, f.regs = n := ⟨_, rfl⟩
  have eF0 : F = (regIs s (IA : Int) 2 && decide (AC = 1)) := by rw [← eF, may_6 hop, eA, eC]
  simp only [eO, eA, eB, eC, e1, e2, e3, e4, e5, e7, e8] at m1 m2 ms mc mk cR0 cV0 cM0 ⊢
  obtain ⟨q0, q1, q2, q3, qz, qb⟩ := four_boxes w (Obj.cells #[.slice x1 n1 c1, .slice x2 n2 c2] 31) (Obj.cells #[.int .i64 PA, .int .i64 RE, .slice xc nc cc, .slice xk nk ck, qh] 70) (Obj.cells #[.int .i64 6, .int .i64 IA, .int .i64 IB] 72) (Obj.cells #[.int .i64 AC, .slice xs nr cs] 98)
  obtain ⟨W4, hW4⟩ : ∃ W, ((((w.alloc (Obj.cells #[.slice x1 n1 c1, .slice x2 n2 c2] 31)).alloc (Obj.cells #[.int .i64 PA, .int .i64 RE, .slice xc nc cc, .slice xk nk ck, qh] 70)).alloc (Obj.cells #[.int .i64 6, .int .i64 IA, .int .i64 IB] 72)).alloc (Obj.cells #[.int .i64 AC, .slice xs nr cs] 98)) = W := ⟨_, rfl⟩
  simp only [hW4] at q0 q1 q2 q3 qz qb
  have HW4 : Hid (_ = W4) := hW4
  have cR := fun (r want : Int) (h0 : 0 ≤ r) => cR0 r want W4 h0 qb
  have cV := cV0 W4 qb
  have cM := cM0 W4 qb
  obtain ⟨i0, i1⟩ := two_cells_of q0
  obtain ⟨f0, f1, f2, f3, f4⟩ := five_cells q1
  obtain ⟨j0, j1, j2⟩ := three_cells q2
  obtain ⟨s0, s1⟩ := two_cells_of q3
  have hwr : IntKind.i64.wrap ((IA : Int) + (IB : Int)) = (IA : Int) + (IB : Int) := wrap_small (by omega) (by omega)
  have h0A : (0 : Int) ≤ (IA : Int) := by omega
  have h0B : (0 : Int) ≤ (IB : Int) := by omega
  clear cR0 cV0 cM0 hW4 hC hs os hf e1 e2 e3 e4 e5 e7 e8 eA eB eC eF hi o1 ho1 ho2 ha1 ha2 hb1' hb2 qz q0 q1 q2 q3
  have cB := cR (IA : Int) 2 h0A
  obtain ⟨B, hB⟩ : ∃ b, regIs s (IA : Int) 2 = b := ⟨_, rfl⟩
  simp only [hB] at cB
  obtain ⟨ac, hac⟩ : ∃ b, (AC == 1) = b := ⟨_, rfl⟩
  have hac' : decide (AC = 1) = ac := by rw [← hac]; rfl
  have hF : F = (B && ac) := by rw [eF0, hB, hac']
  subst hF
  clear cR cV cM hB hac' eF0
  cases B
  all_goals
    go_enter Try.func117, Try.ntmps117
    go_upto_region 1 with fail
    rw [HW4.out]
    clear HW4
    go_wp2_with (go_at_call 133; (with_reducible refine cB.mono ?_); rintro e w' ⟨rfl, hb1⟩)
    go_ret
    exact ⟨rfl, chain qb hb1⟩
set_option maxHeartbeats 2000000 in
set_option maxRecDepth 100000 in
theorem iMay_9 (p : PImg) (f : PFun) (i : PIns) (s : PSta) (fv cv qc qk qh v : Value) (w : World) (h : ArgImg w fv cv p) (hu : CapsUp p) (hf : FunV w f qc qk qh) (hi : insOk i = true) (hs : ArgI w v s.regs) (hop : i.op = 9) :
    Calls Try.prog 117 #[.agg #[fv, cv], .agg #[.int .i64 f.params, .int .i64 f.regs, qc, qk, qh], .agg #[.int .i64 i.op, .int .i64 i.a, .int .i64 i.b], .agg #[.int .i64 s.acc, v]] w fun e w' => e = .returned (.bool (mayB p f i s)) ∧ Below w.heap.size w w' := by
  have hio := hi
  unfold insOk inB at hio
  simp only [Bool.and_eq_true, decide_eq_true_eq] at hio
  obtain ⟨⟨ho1, ho2⟩, ⟨ha1, ha2⟩, hb1', hb2⟩ := hio
  obtain ⟨IA, eA⟩ : ∃ n : Nat, i.a = (n : Int) := ⟨i.a.toNat, by omega⟩
  obtain ⟨IB, eB⟩ : ∃ n : Nat, i.b = (n : Int) := ⟨i.b.toNat, by omega⟩
  have hia : IA ≤ 300 := by omega
  have hib : IB ≤ 300 := by omega
  have cR0 := fun (r want : Int) (W : World) (h0 : 0 ≤ r) (hW : Below w.heap.size w W) => iHolds s v r want W (hs.below hW) h0
  have cV0 := fun (W : World) (hW : Below w.heap.size w W) => iHoldValues s v IA IB W (hs.below hW) (by omega) (by omega) (by omega) (by omega)
  have cM0 := fun (W : World) (hW : Below w.heap.size w W) => iMayMake p f s IA fv cv qc qk qh v W (h.below hW) hu (hf.below hW) (hs.below hW)
  obtain ⟨hF, hC⟩ := h
  obtain ⟨x1, c1, rfl, m1, o1⟩ := hF
  obtain ⟨x2, c2, rfl, m2, _⟩ := hC.opened conC_len
  obtain ⟨xs, cs, rfl, ms, os⟩ := hs.opened
  obtain ⟨xc, cc, rfl, mc, _⟩ := hf.caps.opened capC_len
  obtain ⟨xk, ck, rfl, mk, _⟩ := hf.code.opened insC_len
  unfold maxLen at m1 m2 ms mc mk
  have eO : i.op = 9 := hop
  obtain ⟨AC, eC⟩ : ∃ n, s.acc = n := ⟨_, rfl⟩
  obtain ⟨F, eF⟩ : ∃ F, mayB p f i s = F := ⟨_, rfl⟩
  simp only [eF]
  obtain ⟨n1, e1⟩ : ∃ n, p.funcs.length = n := ⟨_, rfl⟩
  obtain ⟨n2, e2⟩ : ∃ n, p.consts.length = n := ⟨_, rfl⟩
  obtain ⟨nr, e3⟩ : ∃ n, s.regs.length = n := ⟨_, rfl⟩
  obtain ⟨nc, e4⟩ : ∃ n, f.caps.length = n := ⟨_, rfl⟩
  obtain ⟨nk, e5⟩ : ∃ n, f.code.length = n := ⟨_, rfl⟩
  obtain ⟨PA, e7⟩ : ∃ n, f.params = n := ⟨_, rfl⟩
  obtain ⟨RE, e8⟩ : ∃ n, f.regs = n := ⟨_, rfl⟩
  have eF0 : F = (inB (IA : Int) 1 11 && (regIs s (IB : Int) 1 && decide (AC = 1))) := by rw [← eF, may_9 hop, eA, eB, eC]
  simp only [eO, eA, eB, eC, e1, e2, e3, e4, e5, e7, e8] at m1 m2 ms mc mk cR0 cV0 cM0 ⊢
  obtain ⟨q0, q1, q2, q3, qz, qb⟩ := four_boxes w (Obj.cells #[.slice x1 n1 c1, .slice x2 n2 c2] 31) (Obj.cells #[.int .i64 PA, .int .i64 RE, .slice xc nc cc, .slice xk nk ck, qh] 70) (Obj.cells #[.int .i64 9, .int .i64 IA, .int .i64 IB] 72) (Obj.cells #[.int .i64 AC, .slice xs nr cs] 98)
  obtain ⟨W4, hW4⟩ : ∃ W, ((((w.alloc (Obj.cells #[.slice x1 n1 c1, .slice x2 n2 c2] 31)).alloc (Obj.cells #[.int .i64 PA, .int .i64 RE, .slice xc nc cc, .slice xk nk ck, qh] 70)).alloc (Obj.cells #[.int .i64 9, .int .i64 IA, .int .i64 IB] 72)).alloc (Obj.cells #[.int .i64 AC, .slice xs nr cs] 98)) = W := ⟨_, rfl⟩
  simp only [hW4] at q0 q1 q2 q3 qz qb
  have HW4 : Hid (_ = W4) := hW4
  have cR := fun (r want : Int) (h0 : 0 ≤ r) => cR0 r want W4 h0 qb
  have cV := cV0 W4 qb
  have cM := cM0 W4 qb
  obtain ⟨i0, i1⟩ := two_cells_of q0
  obtain ⟨f0, f1, f2, f3, f4⟩ := five_cells q1
  obtain ⟨j0, j1, j2⟩ := three_cells q2
  obtain ⟨s0, s1⟩ := two_cells_of q3
  have hwr : IntKind.i64.wrap ((IA : Int) + (IB : Int)) = (IA : Int) + (IB : Int) := wrap_small (by omega) (by omega)
  have h0A : (0 : Int) ≤ (IA : Int) := by omega
  have h0B : (0 : Int) ≤ (IB : Int) := by omega
  clear cR0 cV0 cM0 hW4 hC hs os hf e1 e2 e3 e4 e5 e7 e8 eA eB eC eF hi o1 ho1 ho2 ha1 ha2 hb1' hb2 qz q0 q1 q2 q3
  have cB := cR (IB : Int) 1 h0B
  obtain ⟨B, hB⟩ : ∃ b, regIs s (IB : Int) 1 = b := ⟨_, rfl⟩
  simp only [hB] at cB
  obtain ⟨ac, hac⟩ : ∃ b, (AC == 1) = b := ⟨_, rfl⟩
  have hac' : decide (AC = 1) = ac := by rw [← hac]; rfl
  have hF : F = (inB (IA : Int) 1 11 && (B && ac)) := by rw [eF0, hB, hac']
  clear cR cV cM hB hac' eF0
  by_cases g1 : (1 : Int) ≤ (IA : Int)
  case neg =>
    have hF' : F = false := by
      rw [hF]; unfold inB; rw [decide_eq_false g1]; rfl
    subst hF'
    clear hF
    go_enter Try.func117, Try.ntmps117
    go_upto_region 1 with fail
    rw [HW4.out]
    clear HW4
    go_wp2
    go_ret
    exact ⟨rfl, qb⟩
  by_cases g2 : (IA : Int) ≤ 11
  case neg =>
    have hF' : F = false := by
      rw [hF]; unfold inB; rw [decide_eq_false g2, Bool.and_false]; rfl
    subst hF'
    clear hF
    go_enter Try.func117, Try.ntmps117
    go_upto_region 1 with fail
    rw [HW4.out]
    clear HW4
    go_wp2
    go_ret
    exact ⟨rfl, qb⟩
  have hF' : F = (B && ac) := by
    rw [hF]; unfold inB; rw [decide_eq_true g1, decide_eq_true g2]; rfl
  subst hF'
  clear hF
  cases B
  all_goals
    go_enter Try.func117, Try.ntmps117
    go_upto_region 1 with fail
    rw [HW4.out]
    clear HW4
    go_wp2_with (go_at_call 133; (with_reducible refine cB.mono ?_); rintro e w' ⟨rfl, hb1⟩)
    go_ret
    exact ⟨rfl, chain qb hb1⟩
set_option maxHeartbeats 2000000 in
set_option maxRecDepth 100000 in
theorem iMay_16 (p : PImg) (f : PFun) (i : PIns) (s : PSta) (fv cv qc qk qh v : Value) (w : World) (h : ArgImg w fv cv p) (hu : CapsUp p) (hf : FunV w f qc qk qh) (hi : insOk i = true) (hs : ArgI w v s.regs) (hop : i.op = 16) :
    Calls Try.prog 117 #[.agg #[fv, cv], .agg #[.int .i64 f.params, .int .i64 f.regs, qc, qk, qh], .agg #[.int .i64 i.op, .int .i64 i.a, .int .i64 i.b], .agg #[.int .i64 s.acc, v]] w fun e w' => e = .returned (.bool (mayB p f i s)) ∧ Below w.heap.size w w' := by
  have hio := hi
  unfold insOk inB at hio
  simp only [Bool.and_eq_true, decide_eq_true_eq] at hio
  obtain ⟨⟨ho1, ho2⟩, ⟨ha1, ha2⟩, hb1', hb2⟩ := hio
  obtain ⟨IA, eA⟩ : ∃ n : Nat, i.a = (n : Int) := ⟨i.a.toNat, by omega⟩
  obtain ⟨IB, eB⟩ : ∃ n : Nat, i.b = (n : Int) := ⟨i.b.toNat, by omega⟩
  have hia : IA ≤ 300 := by omega
  have hib : IB ≤ 300 := by omega
  have cR0 := fun (r want : Int) (W : World) (h0 : 0 ≤ r) (hW : Below w.heap.size w W) => iHolds s v r want W (hs.below hW) h0
  have cV0 := fun (W : World) (hW : Below w.heap.size w W) => iHoldValues s v IA IB W (hs.below hW) (by omega) (by omega) (by omega) (by omega)
  have cM0 := fun (W : World) (hW : Below w.heap.size w W) => iMayMake p f s IA fv cv qc qk qh v W (h.below hW) hu (hf.below hW) (hs.below hW)
  obtain ⟨hF, hC⟩ := h
  obtain ⟨x1, c1, rfl, m1, o1⟩ := hF
  obtain ⟨x2, c2, rfl, m2, _⟩ := hC.opened conC_len
  obtain ⟨xs, cs, rfl, ms, os⟩ := hs.opened
  obtain ⟨xc, cc, rfl, mc, _⟩ := hf.caps.opened capC_len
  obtain ⟨xk, ck, rfl, mk, _⟩ := hf.code.opened insC_len
  unfold maxLen at m1 m2 ms mc mk
  have eO : i.op = 16 := hop
  obtain ⟨AC, eC⟩ : ∃ n, s.acc = n := ⟨_, rfl⟩
  obtain ⟨F, eF⟩ : ∃ F, mayB p f i s = F := ⟨_, rfl⟩
  simp only [eF]
  obtain ⟨n1, e1⟩ : ∃ n, p.funcs.length = n := ⟨_, rfl⟩
  obtain ⟨n2, e2⟩ : ∃ n, p.consts.length = n := ⟨_, rfl⟩
  obtain ⟨nr, e3⟩ : ∃ n, s.regs.length = n := ⟨_, rfl⟩
  obtain ⟨nc, e4⟩ : ∃ n, f.caps.length = n := ⟨_, rfl⟩
  obtain ⟨nk, e5⟩ : ∃ n, f.code.length = n := ⟨_, rfl⟩
  obtain ⟨PA, e7⟩ : ∃ n, f.params = n := ⟨_, rfl⟩
  obtain ⟨RE, e8⟩ : ∃ n, f.regs = n := ⟨_, rfl⟩
  have eF0 : F = (List.range ((IB : Int) + 1).toNat).all fun (k : Nat) => regIs s ((IA : Int) + (k : Int)) 1 := by rw [← eF, may_16 hop, eA, eB]
  simp only [eO, eA, eB, eC, e1, e2, e3, e4, e5, e7, e8] at m1 m2 ms mc mk cR0 cV0 cM0 ⊢
  obtain ⟨q0, q1, q2, q3, qz, qb⟩ := four_boxes w (Obj.cells #[.slice x1 n1 c1, .slice x2 n2 c2] 31) (Obj.cells #[.int .i64 PA, .int .i64 RE, .slice xc nc cc, .slice xk nk ck, qh] 70) (Obj.cells #[.int .i64 16, .int .i64 IA, .int .i64 IB] 72) (Obj.cells #[.int .i64 AC, .slice xs nr cs] 98)
  obtain ⟨W4, hW4⟩ : ∃ W, ((((w.alloc (Obj.cells #[.slice x1 n1 c1, .slice x2 n2 c2] 31)).alloc (Obj.cells #[.int .i64 PA, .int .i64 RE, .slice xc nc cc, .slice xk nk ck, qh] 70)).alloc (Obj.cells #[.int .i64 16, .int .i64 IA, .int .i64 IB] 72)).alloc (Obj.cells #[.int .i64 AC, .slice xs nr cs] 98)) = W := ⟨_, rfl⟩
  simp only [hW4] at q0 q1 q2 q3 qz qb
  have HW4 : Hid (_ = W4) := hW4
  have cR := fun (r want : Int) (h0 : 0 ≤ r) => cR0 r want W4 h0 qb
  have cV := cV0 W4 qb
  have cM := cM0 W4 qb
  obtain ⟨i0, i1⟩ := two_cells_of q0
  obtain ⟨f0, f1, f2, f3, f4⟩ := five_cells q1
  obtain ⟨j0, j1, j2⟩ := three_cells q2
  obtain ⟨s0, s1⟩ := two_cells_of q3
  have hwr : IntKind.i64.wrap ((IA : Int) + (IB : Int)) = (IA : Int) + (IB : Int) := wrap_small (by omega) (by omega)
  have h0A : (0 : Int) ≤ (IA : Int) := by omega
  have h0B : (0 : Int) ≤ (IB : Int) := by omega
  clear cR0 cV0 cM0 hW4 hC hs os hf e1 e2 e3 e4 e5 e7 e8 eA eB eC eF hi o1 ho1 ho2 ha1 ha2 hb1' hb2 qz q0 q1 q2 q3
  obtain ⟨B, hB⟩ : ∃ b, ((List.range ((IB : Int) + 1).toNat).all fun (k : Nat) => regIs s ((IA : Int) + (k : Int)) 1) = b := ⟨_, rfl⟩
  rw [hB] at cV
  have hF : F = B := by rw [eF0, hB]
  subst hF
  clear cR cM hB eF0
  go_enter Try.func117, Try.ntmps117
  go_upto_region 1 with fail
  rw [HW4.out]
  clear HW4
  go_wp2_with (go_at_call 135; (with_reducible refine cV.mono ?_); rintro e w' ⟨rfl, hb1⟩)
  go_ret
  exact ⟨rfl, chain qb hb1⟩
set_option maxHeartbeats 2000000 in
set_option maxRecDepth 100000 in
theorem iMay_15 (p : PImg) (f : PFun) (i : PIns) (s : PSta) (fv cv qc qk qh v : Value) (w : World) (h : ArgImg w fv cv p) (hu : CapsUp p) (hf : FunV w f qc qk qh) (hi : insOk i = true) (hs : ArgI w v s.regs) (hop : i.op = 15) :
    Calls Try.prog 117 #[.agg #[fv, cv], .agg #[.int .i64 f.params, .int .i64 f.regs, qc, qk, qh], .agg #[.int .i64 i.op, .int .i64 i.a, .int .i64 i.b], .agg #[.int .i64 s.acc, v]] w fun e w' => e = .returned (.bool (mayB p f i s)) ∧ Below w.heap.size w w' := by
  have hio := hi
  unfold insOk inB at hio
  simp only [Bool.and_eq_true, decide_eq_true_eq] at hio
  obtain ⟨⟨ho1, ho2⟩, ⟨ha1, ha2⟩, hb1', hb2⟩ := hio
  obtain ⟨IA, eA⟩ : ∃ n : Nat, i.a = (n : Int) := ⟨i.a.toNat, by omega⟩
  obtain ⟨IB, eB⟩ : ∃ n : Nat, i.b = (n : Int) := ⟨i.b.toNat, by omega⟩
  have hia : IA ≤ 300 := by omega
  have hib : IB ≤ 300 := by omega
  have cR0 := fun (r want : Int) (W : World) (h0 : 0 ≤ r) (hW : Below w.heap.size w W) => iHolds s v r want W (hs.below hW) h0
  have cV0 := fun (W : World) (hW : Below w.heap.size w W) => iHoldValues s v IA IB W (hs.below hW) (by omega) (by omega) (by omega) (by omega)
  have cM0 := fun (W : World) (hW : Below w.heap.size w W) => iMayMake p f s IA fv cv qc qk qh v W (h.below hW) hu (hf.below hW) (hs.below hW)
  obtain ⟨hF, hC⟩ := h
  obtain ⟨x1, c1, rfl, m1, o1⟩ := hF
  obtain ⟨x2, c2, rfl, m2, _⟩ := hC.opened conC_len
  obtain ⟨xs, cs, rfl, ms, os⟩ := hs.opened
  obtain ⟨xc, cc, rfl, mc, _⟩ := hf.caps.opened capC_len
  obtain ⟨xk, ck, rfl, mk, _⟩ := hf.code.opened insC_len
  unfold maxLen at m1 m2 ms mc mk
  have eO : i.op = 15 := hop
  obtain ⟨AC, eC⟩ : ∃ n, s.acc = n := ⟨_, rfl⟩
  obtain ⟨F, eF⟩ : ∃ F, mayB p f i s = F := ⟨_, rfl⟩
  simp only [eF]
  obtain ⟨n1, e1⟩ : ∃ n, p.funcs.length = n := ⟨_, rfl⟩
  obtain ⟨n2, e2⟩ : ∃ n, p.consts.length = n := ⟨_, rfl⟩
  obtain ⟨nr, e3⟩ : ∃ n, s.regs.length = n := ⟨_, rfl⟩
  obtain ⟨nc, e4⟩ : ∃ n, f.caps.length = n := ⟨_, rfl⟩
  obtain ⟨nk, e5⟩ : ∃ n, f.code.length = n := ⟨_, rfl⟩
  obtain ⟨PA, e7⟩ : ∃ n, f.params = n := ⟨_, rfl⟩
  obtain ⟨RE, e8⟩ : ∃ n, f.regs = n := ⟨_, rfl⟩
  have eF0 : F = (inB (IA : Int) 1 ((n1 : Int) - 1) && capsMay p f s (IA : Int)) := by rw [← eF, may_15 hop, eA, e1]
  simp only [eO, eA, eB, eC, e1, e2, e3, e4, e5, e7, e8] at m1 m2 ms mc mk cR0 cV0 cM0 ⊢
  obtain ⟨q0, q1, q2, q3, qz, qb⟩ := four_boxes w (Obj.cells #[.slice x1 n1 c1, .slice x2 n2 c2] 31) (Obj.cells #[.int .i64 PA, .int .i64 RE, .slice xc nc cc, .slice xk nk ck, qh] 70) (Obj.cells #[.int .i64 15, .int .i64 IA, .int .i64 IB] 72) (Obj.cells #[.int .i64 AC, .slice xs nr cs] 98)
  obtain ⟨W4, hW4⟩ : ∃ W, ((((w.alloc (Obj.cells #[.slice x1 n1 c1, .slice x2 n2 c2] 31)).alloc (Obj.cells #[.int .i64 PA, .int .i64 RE, .slice xc nc cc, .slice xk nk ck, qh] 70)).alloc (Obj.cells #[.int .i64 15, .int .i64 IA, .int .i64 IB] 72)).alloc (Obj.cells #[.int .i64 AC, .slice xs nr cs] 98)) = W := ⟨_, rfl⟩
  simp only [hW4] at q0 q1 q2 q3 qz qb
  have HW4 : Hid (_ = W4) := hW4
  have cR := fun (r want : Int) (h0 : 0 ≤ r) => cR0 r want W4 h0 qb
  have cV := cV0 W4 qb
  have cM := cM0 W4 qb
  obtain ⟨i0, i1⟩ := two_cells_of q0
  obtain ⟨f0, f1, f2, f3, f4⟩ := five_cells q1
  obtain ⟨j0, j1, j2⟩ := three_cells q2
  obtain ⟨s0, s1⟩ := two_cells_of q3
  have hwr : IntKind.i64.wrap ((IA : Int) + (IB : Int)) = (IA : Int) + (IB : Int) := wrap_small (by omega) (by omega)
  have h0A : (0 : Int) ≤ (IA : Int) := by omega
  have h0B : (0 : Int) ≤ (IB : Int) := by omega
  clear cR0 cV0 cM0 hW4 hC hs os hf e1 e2 e3 e4 e5 e7 e8 eA eB eC eF hi o1 ho1 ho2 ha1 ha2 hb1' hb2 qz q0 q1 q2 q3
  obtain ⟨B, hB⟩ : ∃ b, (inB (IA : Int) 1 ((n1 : Int) - 1) && capsMay p f s (IA : Int)) = b := ⟨_, rfl⟩
  rw [hB] at cM
  have hF : F = B := by rw [eF0, hB]
  subst hF
  clear cR cV hB eF0
  go_enter Try.func117, Try.ntmps117
  go_upto_region 1 with fail
  rw [HW4.out]
  clear HW4
  go_wp2_with (go_at_call 134; (with_reducible refine cM.mono ?_); rintro e w' ⟨rfl, hb1⟩)
  go_ret
  exact ⟨rfl, chain qb hb1⟩
set_option maxHeartbeats 2000000 in
set_option maxRecDepth 100000 in
theorem iMay_0 (p : PImg) (f : PFun) (i : PIns) (s : PSta) (fv cv qc qk qh v : Value) (w : World) (h : ArgImg w fv cv p) (hu : CapsUp p) (hf : FunV w f qc qk qh) (hi : insOk i = true) (hs : ArgI w v s.regs) (hop : ¬ (1 ≤ i.op ∧ i.op ≤ 9) ∧ ¬ (12 ≤ i.op ∧ i.op ≤ 16)) :
    Calls Try.prog 117 #[.agg #[fv, cv], .agg #[.int .i64 f.params, .int .i64 f.regs, qc, qk, qh], .agg #[.int .i64 i.op, .int .i64 i.a, .int .i64 i.b], .agg #[.int .i64 s.acc, v]] w fun e w' => e = .returned (.bool (mayB p f i s)) ∧ Below w.heap.size w w' := by
  have hio := hi
  unfold insOk inB at hio
  simp only [Bool.and_eq_true, decide_eq_true_eq] at hio
  obtain ⟨⟨ho1, ho2⟩, ⟨ha1, ha2⟩, hb1', hb2⟩ := hio
  obtain ⟨IA, eA⟩ : ∃ n : Nat, i.a = (n : Int) := ⟨i.a.toNat, by omega⟩
  obtain ⟨IB, eB⟩ : ∃ n : Nat, i.b = (n : Int) := ⟨i.b.toNat, by omega⟩
  have hia : IA ≤ 300 := by omega
  have hib : IB ≤ 300 := by omega
  have cR0 := fun (r want : Int) (W : World) (h0 : 0 ≤ r) (hW : Below w.heap.size w W) => iHolds s v r want W (hs.below hW) h0
  have cV0 := fun (W : World) (hW : Below w.heap.size w W) => iHoldValues s v IA IB W (hs.below hW) (by omega) (by omega) (by omega) (by omega)
  have cM0 := fun (W : World) (hW : Below w.heap.size w W) => iMayMake p f s IA fv cv qc qk qh v W (h.below hW) hu (hf.below hW) (hs.below hW)
  obtain ⟨hF, hC⟩ := h
  obtain ⟨x1, c1, rfl, m1, o1⟩ := hF
  obtain ⟨x2, c2, rfl, m2, _⟩ := hC.opened conC_len
  obtain ⟨xs, cs, rfl, ms, os⟩ := hs.opened
  obtain ⟨xc, cc, rfl, mc, _⟩ := hf.caps.opened capC_len
  obtain ⟨xk, ck, rfl, mk, _⟩ := hf.code.opened insC_len
  unfold maxLen at m1 m2 ms mc mk
  obtain ⟨OP, eO⟩ : ∃ n, i.op = n := ⟨_, rfl⟩
  have hop1 : ¬ (1 ≤ OP ∧ OP ≤ 9) ∧ ¬ (12 ≤ OP ∧ OP ≤ 16) := by rw [← eO]; exact hop
  have z1 : (OP == 1) = false := by rw [beq_eq_false_iff_ne]; omega
  have z2 : (OP == 2) = false := by rw [beq_eq_false_iff_ne]; omega
  have z3 : (OP == 3) = false := by rw [beq_eq_false_iff_ne]; omega
  have z4 : (OP == 4) = false := by rw [beq_eq_false_iff_ne]; omega
  have z5 : (OP == 5) = false := by rw [beq_eq_false_iff_ne]; omega
  have z6 : (OP == 6) = false := by rw [beq_eq_false_iff_ne]; omega
  have z7 : (OP == 7) = false := by rw [beq_eq_false_iff_ne]; omega
  have z8 : (OP == 8) = false := by rw [beq_eq_false_iff_ne]; omega
  have z9 : (OP == 9) = false := by rw [beq_eq_false_iff_ne]; omega
  have z12 : (OP == 12) = false := by rw [beq_eq_false_iff_ne]; omega
  have z13 : (OP == 13) = false := by rw [beq_eq_false_iff_ne]; omega
  have z14 : (OP == 14) = false := by rw [beq_eq_false_iff_ne]; omega
  have z15 : (OP == 15) = false := by rw [beq_eq_false_iff_ne]; omega
  have z16 : (OP == 16) = false := by rw [beq_eq_false_iff_ne]; omega
  obtain ⟨AC, eC⟩ : ∃ n, s.acc = n := ⟨_, rfl⟩
  obtain ⟨F, eF⟩ : ∃ F, mayB p f i s = F := ⟨_, rfl⟩
  simp only [eF]
  obtain ⟨n1, e1⟩ : ∃ n, p.funcs.length = n := ⟨_, rfl⟩
  obtain ⟨n2, e2⟩ : ∃ n, p.consts.length = n := ⟨_, rfl⟩
  obtain ⟨nr, e3⟩ : ∃ n, s.regs.length = n := ⟨_, rfl⟩
  obtain ⟨nc, e4⟩ : ∃ n, f.caps.length = n := ⟨_, rfl⟩
  obtain ⟨nk, e5⟩ : ∃ n, f.code.length = n := ⟨_, rfl⟩
  obtain ⟨PA, e7⟩ : ∃ n, f.params = n := ⟨_, rfl⟩
  obtain ⟨RE, e8⟩ : ∃ n, f.regs = n := ⟨_, rfl⟩
  have eF0 : F = decide (AC = 1) := by rw [← eF, may_0 hop, eC]
  simp only [eO, eA, eB, eC, e1, e2, e3, e4, e5, e7, e8] at m1 m2 ms mc mk cR0 cV0 cM0 ⊢
  obtain ⟨q0, q1, q2, q3, qz, qb⟩ := four_boxes w (Obj.cells #[.slice x1 n1 c1, .slice x2 n2 c2] 31) (Obj.cells #[.int .i64 PA, .int .i64 RE, .slice xc nc cc, .slice xk nk ck, qh] 70) (Obj.cells #[.int .i64 OP, .int .i64 IA, .int .i64 IB] 72) (Obj.cells #[.int .i64 AC, .slice xs nr cs] 98)
  obtain ⟨W4, hW4⟩ : ∃ W, ((((w.alloc (Obj.cells #[.slice x1 n1 c1, .slice x2 n2 c2] 31)).alloc (Obj.cells #[.int .i64 PA, .int .i64 RE, .slice xc nc cc, .slice xk nk ck, qh] 70)).alloc (Obj.cells #[.int .i64 OP, .int .i64 IA, .int .i64 IB] 72)).alloc (Obj.cells #[.int .i64 AC, .slice xs nr cs] 98)) = W := ⟨_, rfl⟩
  simp only [hW4] at q0 q1 q2 q3 qz qb
  have HW4 : Hid (_ = W4) := hW4
  have cR := fun (r want : Int) (h0 : 0 ≤ r) => cR0 r want W4 h0 qb
  have cV := cV0 W4 qb
  have cM := cM0 W4 qb
  obtain ⟨i0, i1⟩ := two_cells_of q0
  obtain ⟨f0, f1, f2, f3, f4⟩ := five_cells q1
  obtain ⟨j0, j1, j2⟩ := three_cells q2
  obtain ⟨s0, s1⟩ := two_cells_of q3
  have hwr : IntKind.i64.wrap ((IA : Int) + (IB : Int)) = (IA : Int) + (IB : Int) := wrap_small (by omega) (by omega)
  have h0A : (0 : Int) ≤ (IA : Int) := by omega
  have h0B : (0 : Int) ≤ (IB : Int) := by omega
  clear cR0 cV0 cM0 hW4 hC hs os hf e1 e2 e3 e4 e5 e7 e8 eA eB eC eF hi o1 ho1 ho2 ha1 ha2 hb1' hb2 qz q0 q1 q2 q3
  obtain ⟨ac, hac⟩ : ∃ b, (AC == 1) = b := ⟨_, rfl⟩
  have hac' : decide (AC = 1) = ac := by rw [← hac]; rfl
  have hF : F = ac := by rw [eF0, hac']
  subst hF
  clear cR cV cM hac' eF0 hop1
  go_enter Try.func117, Try.ntmps117
  go_upto_region 1 with fail
  rw [HW4.out]
  clear HW4
  go_wp2
  go_ret
  exact ⟨rfl, qb⟩
theorem iMayStep (p : PImg) (f : PFun) (i : PIns) (s : PSta) (fv cv qc qk qh v : Value) (w : World) (h : ArgImg w fv cv p) (hu : CapsUp p) (hf : FunV w f qc qk qh) (hi : insOk i = true) (hs : ArgI w v s.regs) :
    Calls Try.prog 117 #[.agg #[fv, cv], .agg #[.int .i64 f.params, .int .i64 f.regs, qc, qk, qh], .agg #[.int .i64 i.op, .int .i64 i.a, .int .i64 i.b], .agg #[.int .i64 s.acc, v]] w fun e w' => e = .returned (.bool (mayB p f i s)) ∧ Below w.heap.size w w' := by
  by_cases c1 : i.op = 1
  · exact iMay_1 p f i s fv cv qc qk qh v w h hu hf hi hs c1
  by_cases c2 : i.op = 2
  · exact iMay_2 p f i s fv cv qc qk qh v w h hu hf hi hs c2
  by_cases c3 : i.op = 3
  · exact iMay_3 p f i s fv cv qc qk qh v w h hu hf hi hs c3
  by_cases c4 : i.op = 4
  · exact iMay_4 p f i s fv cv qc qk qh v w h hu hf hi hs c4
  by_cases c5 : i.op = 5
  · exact iMay_5 p f i s fv cv qc qk qh v w h hu hf hi hs c5
  by_cases c6 : i.op = 6
  · exact iMay_6 p f i s fv cv qc qk qh v w h hu hf hi hs c6
  by_cases c7 : i.op = 7
  · exact iMay_7 p f i s fv cv qc qk qh v w h hu hf hi hs c7
  by_cases c8 : i.op = 8
  · exact iMay_8 p f i s fv cv qc qk qh v w h hu hf hi hs c8
  by_cases c9 : i.op = 9
  · exact iMay_9 p f i s fv cv qc qk qh v w h hu hf hi hs c9
  by_cases c12 : i.op = 12
  · exact iMay_12 p f i s fv cv qc qk qh v w h hu hf hi hs c12
  by_cases c13 : i.op = 13
  · exact iMay_13 p f i s fv cv qc qk qh v w h hu hf hi hs c13
  by_cases c14 : i.op = 14
  · exact iMay_14 p f i s fv cv qc qk qh v w h hu hf hi hs c14
  by_cases c15 : i.op = 15
  · exact iMay_15 p f i s fv cv qc qk qh v w h hu hf hi hs c15
  by_cases c16 : i.op = 16
  · exact iMay_16 p f i s fv cv qc qk qh v w h hu hf hi hs c16
  exact iMay_0 p f i s fv cv qc qk qh v w h hu hf hi hs (by omega)
end Go.Proofs.Ytbgdapdenbldmaa
