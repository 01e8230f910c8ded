/-
  Part 23 of what is proved of drawn right trees.
-/
import Derived.Test.YtheofdiaenlbgaaGreatPat
import Derived.Test.YtheofdiaenlbgaaGreatPav
import Derived.Test.YtheofdiaenlbgaaGreatPad

namespace Go.Proofs.YtheofdiaenlbgaaGreat
open Go.RowKit Go.Sort
set_option linter.unusedVariables false
def ArgStas (w : World) (v : Value) (l : List PSta) : Prop := ∃ x c, v = .slice x l.length c ∧ l.length ≤ maxLen ∧ (0 < l.length → ∃ b o, x = some ⟨b, o, none⟩ ∧ b < w.heap.size ∧ ∀ (j : Nat) (s : PSta), l[j]? = some s → ∃ rv, w.cell? ⟨b, o + j * 2, none⟩ = some (.int .i64 s.acc) ∧ w.cell? ⟨b, o + j * 2 + 1, none⟩ = some rv ∧ ArgI w rv s.regs)
theorem ArgStas.below {w w' : World} {v : Value} {l : List PSta} (h : ArgStas w v l) (hb : Below w.heap.size w w') : ArgStas w' v l := by
  obtain ⟨x, c, e, hm, hc⟩ := h
  refine ⟨x, c, e, hm, fun h0 => ?_⟩
  obtain ⟨b, o, e1, h1, h2⟩ := hc h0
  refine ⟨b, o, e1, Nat.lt_of_lt_of_le h1 hb.size, fun j s hj => ?_⟩
  obtain ⟨rv, a1, a2, a3⟩ := h2 j s hj
  exact ⟨rv, (hb.cell (p := ⟨b, _, none⟩) h1).trans a1, (hb.cell (p := ⟨b, _, none⟩) h1).trans a2, a3.below hb⟩
def stB (p : PImg) (k : Int) : Bool := imgOk p && (inB k 0 ((p.funcs.length : Int) - 1) && (match p.funcs[k.toNat]? with | some f => letB p f | none => false))
def StaRes (p : PImg) (k : Int) (bb : Bool) (lv hv : Value) (w w' : World) : Prop :=
  Below w.heap.size w w' ∧ (bb = false → ArgStas w' lv [] ∧ ArgBo w' hv []) ∧ (bb = true → ∃ (K : Nat) (f : PFun) (r : RunP), k = (K : Int) ∧ p.funcs[K]? = some f ∧ RunInv p f r ∧ r.todo = [] ∧ r.bad = false ∧ ArgStas w' lv r.list ∧ ArgBo w' hv r.hit)
theorem step_append16 {P : Program} {w : World} {ops : Array Oper} {o : Oper} {a : Act} {K : Act → World → Prop} {Q : Exit → Act → World → Prop} {E : Prop} (hgd : o.guard = none) (s x : Operand) (t : TypeId)
    (ho : o.op = .call { callee := .builtin .append, args := #[s, x], argTypes := #[t, t] })
    (base : Nat) (e : TypeId) (i : TypeInfo) (z : Value) (size bytes : Nat) (ht : P.underlying t = some (.slice e)) (hi : P.info? e = some i) (hz : i.zero = some z)
    (hsize : i.size = size) (hby : i.bytes = bytes) (hzs : z.cells.size = size) (hsz : 0 < size) (hb64 : bytes ≤ 128)
    (v : Value) (n : Nat) (xs : List Value) (hs : a.eval s = v) (hown : w.ownsRow base e size v n xs)
    (cs : Array Value) (hcs : cs.toList.length = size) (h1 : ∀ u ∈ cs.toList, u.oneCell' = true) (hx : a.eval x = .slice (some ⟨w.heap.size, 0, none⟩) 1 1) (d : Option Tmp) (hd : o.dst = d)
    (hn : n < 1000000000) (hbase : base ≤ w.heap.size)
    (h : ∀ v' w', w'.ownsRow base e size v' (n + 1) (xs ++ cs.toList) → (w.alloc (.cells cs e)).grownBy w' v.ownBlock → K (a.put d v') w') :
    if Region.wanted o (yielded ops a.tmps) = true then Oper.wp P o a (w.alloc (.cells cs e)) K Q else E := by
  subst hd
  have hw : Region.wanted o (yielded ops a.tmps) = true := by simp [Region.wanted, hgd]
  rw [if_pos hw]
  have hal : (w.alloc (.cells cs e)).heap.size = w.heap.size + 1 := by simp
  have hbn : (n + 1) * bytes ≤ 1000000000 * 128 := Nat.mul_le_mul (by omega) hb64
  obtain ⟨v', w', hr, h2, h3, _, _⟩ := run_append_own_at (P := P) (w.alloc (.cells cs e)) base t o.type e i z size bytes ht hi hz hsize hby hzs hsz v n xs (hown.alloc _) ⟨w.heap.size, 0, none⟩ 1 1 cs.toList (by rw [hcs, Nat.one_mul]) (fun j u hj => by
    have hadd : (⟨w.heap.size, 0, none⟩ : Addr).add j = ⟨w.heap.size, j, none⟩ := by unfold Addr.add; split <;> simp_all
    rw [hadd, cell_of_row _ _ j _ _ _ (heap_alloc_new w (.cells cs e))]
    simpa using hj) h1 (by unfold maxLen; omega) (by omega) (by rw [hal]; omega)
  unfold Oper.wp execOp
  simp only [ho, resolve, invoke, builtin, Sem.run_bind, Sem.run_pure, Result.andThen_ok, List.map_toArray, List.map_cons, List.map_nil, hs, hx, hr]
  exact h v' w' h2 h3
structure OutAt (w5 wr : World) (B k : Nat) (ov : Value) (xs : List Value) (r : RunP) : Prop where
  own : wr.ownsRow B 53 2 ov k xs
  sts : ∀ (q : Nat) (s : PSta), q < k → r.list[q]? = some s → ∃ rv, xs[q * 2]? = some (.int .i64 s.acc) ∧ xs[q * 2 + 1]? = some rv ∧ OwnI wr B rv s.regs
  bel : Below w5.heap.size w5 wr
theorem OutAt.arg {w5 wr : World} {B n : Nat} {ov : Value} {xs : List Value} {r : RunP} (h : OutAt w5 wr B n ov xs r) (hl : r.list.length = n) : ArgStas wr ov r.list := by
  obtain ⟨x, c, e⟩ := row_slice h.own
  have hm : n ≤ maxLen := by
    obtain ⟨_, ⟨_, h0⟩ | ⟨g, cap, cur, _, _, _, h1, h2, _⟩⟩ := h.own
    · omega
    · omega
  refine ⟨x, c, by rw [hl]; exact e, by rw [hl]; exact hm, fun h0 => ?_⟩
  obtain ⟨hlen, ⟨_, h1⟩ | ⟨g, cap, cur, e1, hB, hg, hnc, hcm, hsz, htk⟩⟩ := h.own
  · omega
  · rw [e1] at e
    injection e with e _ _
    refine ⟨g, 0, e.symm, lt16 hg, fun j s hj => ?_⟩
    have hjn : j < n := by have := (List.getElem?_eq_some_iff.1 hj).1; omega
    obtain ⟨rv, a1, a2, a3⟩ := h.sts j s hjn hj
    have hc : ∀ q u, xs[q]? = some u → wr.cell? ⟨g, 0 + q, none⟩ = some u := fun q u hq => by
      have := h.own.cells (g := g) (by rw [e1]; rfl) q u hq
      have hadd : (⟨g, 0, none⟩ : Addr).add q = ⟨g, 0 + q, none⟩ := by unfold Addr.add; split <;> simp_all
      rw [hadd] at this
      exact this
    exact ⟨rv, by rw [Nat.zero_add]; have := hc _ _ a1; rwa [Nat.zero_add] at this, by rw [Nat.zero_add]; have := hc _ _ a2; rwa [Nat.zero_add] at this, a3.arg⟩
theorem OutAt.more {w5 wr w6 w7 : World} {B k : Nat} {ov ov' rv : Value} {xs : List Value} {r : RunP} {s : PSta} (h : OutAt w5 wr B k ov xs r) (hs : r.list[k]? = some s) (hb6 : Below wr.heap.size wr w6) (ho6 : OwnI w6 wr.heap.size rv s.regs) (hw5 : w5.heap.size ≤ B) (hBr : B ≤ wr.heap.size)
    (hg : (w6.alloc (.cells #[.int .i64 s.acc, rv] 53)).grownBy w7 ov.ownBlock) (ho7 : w7.ownsRow B 53 2 ov' (k + 1) (xs ++ [.int .i64 s.acc, rv])) : OutAt w5 w7 B (k + 1) ov' (xs ++ [.int .i64 s.acc, rv]) r := by
  have bA : Below w6.heap.size w6 (w6.alloc (.cells #[.int .i64 s.acc, rv] 53)) := (Below.refl _ _).alloc (Nat.le_refl _) _
  have b67 := chain hb6 bA
  have hxl : xs.length = k * 2 := h.own.1
  have keep : ∀ (v : Value) (l : List Int), OwnI (w6.alloc (.cells #[.int .i64 s.acc, rv] 53)) B v l → OwnI w7 B v l := fun v l hv => by
    refine hv.kept hg ?_
    obtain ⟨_, ⟨h1, _⟩ | ⟨g, cap, cur, h1, _, hgg, _⟩⟩ := hv
    · left; rw [h1]; rfl
    · right
      rw [h1]
      intro e
      obtain ⟨_, ⟨h2, _⟩ | ⟨g2, cap2, cur2, h2, _, hg2, _⟩⟩ := row_keep h.own b67
      · rw [h2] at e; cases e
      · rw [h2] at e
        have e3 : g = g2 := Option.some.inj e
        rw [e3, hg2] at hgg
        injection hgg with hgg
        injection hgg with _ hgg
        exact absurd hgg (by decide)
  refine ⟨ho7, fun q t hq ht => ?_, ?_⟩
  · by_cases e : q = k
    · subst e
      rw [hs] at ht
      injection ht with ht
      subst ht
      refine ⟨rv, ?_, ?_, keep _ _ (row_low (ho6.below bA) hBr)⟩
      · rw [List.getElem?_append_right (by omega), show q * 2 - xs.length = 0 by omega]; rfl
      · rw [List.getElem?_append_right (by omega), show q * 2 + 1 - xs.length = 1 by omega]; rfl
    · obtain ⟨rv2, a1, a2, a3⟩ := h.sts q t (by omega) ht
      refine ⟨rv2, ?_, ?_, keep _ _ (a3.below b67)⟩
      · rw [List.getElem?_append_left (by omega)]; exact a1
      · rw [List.getElem?_append_left (by omega)]; exact a2
  · have h1 : Below w5.heap.size w5 (w6.alloc (.cells #[.int .i64 s.acc, rv] 53)) := chain h.bel b67
    refine ⟨hg.os.trans h1.os, hg.tape.trans h1.tape, hg.output.trans h1.output, Nat.le_trans h1.size hg.size, fun j hj => (hg.block j (Nat.lt_of_lt_of_le hj h1.size) (fun e => ?_)).trans (h1.block j hj)⟩
    obtain ⟨_, ⟨h2, _⟩ | ⟨g2, cap2, cur2, h2, hB2, _⟩⟩ := h.own
    · rw [h2] at e; cases e
    · rw [h2] at e
      have e3 : j = g2 := Option.some.inj e
      omega
end Go.Proofs.YtheofdiaenlbgaaGreat
namespace Go.Proofs.YtheofdiaenlbgaaGreat
open Go.RowKit Go.Sort
set_option linter.unusedVariables false
theorem argStas_nil (w : World) (x : Option Addr) : ArgStas w (.slice x 0 0) [] := ⟨x, 0, rfl, Nat.zero_le _, fun h => by simp at h⟩
theorem argBo_nil (w : World) (x : Option Addr) : ArgBo w (.slice x 0 0) [] := ⟨x, 0, rfl, Nat.zero_le _, rfl, fun h => by simp at h⟩
theorem VAt.hits {X L H tb n : Nat} {tv : Value} {r : RunP} {w : World} (h : VAt X L H tb n tv r w) (hn : n ≤ 300) (hl : r.hit.length = n) : ArgBo w (.slice (some ⟨H, 0, none⟩) n n) r.hit := by
  obtain ⟨cur, h1, h2, h3⟩ := h.rh
  refine ⟨_, n, by rw [hl], by rw [hl]; unfold maxLen; omega, by rw [hl]; have := flat_len boolC_len r.hit; omega, fun h0 => ⟨H, 0, rfl, lt16 h1, fun j u hj => ?_⟩⟩
  have hjl : j < r.hit.length := by
    have h4 := (List.getElem?_eq_some_iff.1 hj).1
    have := flat_len boolC_len r.hit
    omega
  obtain ⟨b, hb⟩ : ∃ b, r.hit[j]? = some b := ⟨_, List.getElem?_eq_getElem hjl⟩
  have e := bool_at hb
  rw [hj] at e
  injection e with e
  rw [e, Nat.zero_add, cell_of_row _ _ _ _ _ _ h1]
  exact h3 j b hb
set_option maxHeartbeats 2000000 in
set_option maxRecDepth 100000 in
theorem specStates_any (p : PImg) (k : Int) (fv cv : Value) (w : World) (h : ArgImg w fv cv p) (hw : imgW p) :
    Calls Tryz.prog 5 #[.agg #[fv, cv], .int .i64 k] w fun e w' => ∃ lv hv, e = .returned (.tuple #[lv, hv, .bool (stB p k)]) ∧ StaRes p k (stB p k) lv hv w w' := by
  have HI : Hid (ArgImg w fv cv p) := h
  obtain ⟨hF, hC⟩ := h
  obtain ⟨x1, c1, rfl, m1, _⟩ := hF
  obtain ⟨x2, c2, rfl, m2, _⟩ := hC.opened conC_len
  clear hC
  unfold maxLen at m1 m2
  obtain ⟨n1, e1⟩ : ∃ n, p.funcs.length = n := ⟨_, rfl⟩
  obtain ⟨n2, e2⟩ : ∃ n, p.consts.length = n := ⟨_, rfl⟩
  simp only [e1, e2] at m1 m2 HI ⊢
  have HL : Hid (p.funcs.length = n1) := e1
  clear e1 e2
  have b0 : Below w.heap.size w (w.alloc (.cells #[.slice x1 n1 c1, .slice x2 n2 c2] 34)) := (Below.refl _ _).alloc (Nat.le_refl _) _
  have hG : (w.alloc (.cells #[.slice x1 n1 c1, .slice x2 n2 c2] 34)).heap[w.heap.size]? = some (.cells #[.slice x1 n1 c1, .slice x2 n2 c2] 34 (0, 0)) := heap_alloc_new w _
  obtain ⟨W0, hW0⟩ : ∃ W, w.alloc (.cells #[.slice x1 n1 c1, .slice x2 n2 c2] 34) = W := ⟨_, rfl⟩
  rw [hW0] at b0 hG
  have HW0 : Hid (_ = W0) := hW0
  clear hW0
  obtain ⟨F, eF⟩ : ∃ x, stB p k = x := ⟨_, rfl⟩
  rw [eF]
  have HF : Hid (stB p k = F) := eF
  clear eF
  have cO := specImageOk_any p _ _ W0 (HI.out.below b0) hw
  obtain ⟨OK, hOK⟩ : ∃ b, imgOk p = b := ⟨_, rfl⟩
  simp only [hOK] at cO
  have HOK : Hid (imgOk p = OK) := hOK
  clear hOK
  obtain ⟨i0, i1⟩ := two_cells_of hG
  have hNo : ∀ (W : World) (x y : Option Addr), Below w.heap.size w W → Hid (StaRes p k false (.slice x 0 0) (.slice y 0 0) w W) := fun W x y hW => ⟨hW, fun _ => ⟨argStas_nil W x, argBo_nil W y⟩, fun h => by cases h⟩
  have bQ : ∀ {W0 W : World} (o : Obj), Below W0.heap.size W0 W → Below W0.heap.size W0 (W.alloc o) := fun o h => h.alloc h.size o
  cases OK with
  | false =>
    have hF : F = false := by
      rw [← HF.out]
      unfold stB
      rw [HOK.out]
      rfl
    subst hF
    go_enter Tryz.func5, Tryz.ntmps5
    go_upto_region 1 with fail
    rw [HW0.out]
    clear HW0
    go_wp2_with (go_at_call 18; (with_reducible refine cO.mono ?_); rintro e w4 ⟨rfl, hb4⟩)
    have HE := hNo _ (some ⟨w4.heap.size, 0, none⟩) (some ⟨w4.heap.size + 1, 0, none⟩) (bQ (.cells #[] 4) (bQ (.cells #[] 53) (chain b0 hb4)))
    go_returns
    exact ⟨_, _, rfl, HE.out⟩
  | true =>
  have hw1 : IntKind.i64.wrap ((n1 : Int) - 1) = (n1 : Int) - 1 := wrap_less n1 (by omega)
  have cL := fun W => l01In_b k 0 ((n1 : Int) - 1) W
  obtain ⟨PK, hPK⟩ : ∃ b, inB k 0 ((n1 : Int) - 1) = b := ⟨_, rfl⟩
  simp only [hPK] at cL
  have HPK : Hid (inB k 0 ((n1 : Int) - 1) = PK) := hPK
  clear hPK
  have hX4 : ∀ W, Below W0.heap.size W0 W → W.cell? ⟨w.heap.size, 0, none⟩ = some (.slice x1 n1 c1) ∧ W.cell? ⟨w.heap.size, 1, none⟩ = some (.slice x2 n2 c2) := fun W hW => two_cells_of ((hW.block _ (lt16 hG)).trans hG)
  cases PK with
  | false =>
    have hF : F = false := by
      rw [← HF.out]
      unfold stB
      rw [HOK.out, HL.out, HPK.out]
      rfl
    subst hF
    go_enter Tryz.func5, Tryz.ntmps5
    go_upto_region 1 with fail
    rw [HW0.out]
    clear HW0
    go_wp2_with (first | (go_at_call 18; (with_reducible refine cO.mono ?_); rintro e w4 ⟨rfl, hb4⟩; have y0 := (hX4 _ hb4).1; have y1 := (hX4 _ hb4).2; have HB4 : Hid (Below W0.heap.size W0 w4) := hb4; clear hb4) | (go_at_call 19; (with_reducible refine (cL _).mono ?_); rintro e w' ⟨rfl, rfl⟩))
    have HE := hNo _ (some ⟨w4.heap.size, 0, none⟩) (some ⟨w4.heap.size + 1, 0, none⟩) (bQ (.cells #[] 4) (bQ (.cells #[] 53) (chain b0 HB4.out)))
    go_returns
    exact ⟨_, _, rfl, HE.out⟩
  | true =>
  have hin := HPK.out
  unfold inB at hin
  simp only [Bool.and_eq_true, decide_eq_true_eq] at hin
  obtain ⟨K, rfl⟩ : ∃ K : Nat, k = (K : Int) := ⟨k.toNat, by omega⟩
  obtain ⟨f, hf⟩ : ∃ f, p.funcs[K]? = some f := ⟨_, List.getElem?_eq_getElem (by have := HL.out; omega)⟩
  have HFF : Hid (p.funcs[K]? = some f) := hf
  have hFl : F = letB p f := by
    rw [← HF.out]
    unfold stB
    rw [HOK.out, HL.out, HPK.out, Int.toNat_natCast, hf]
    rfl
  have cS := fun W (hW : Below W0.heap.size W0 W) => l16States_any p f K _ _ W (HI.out.below (chain b0 hW)) HOK.out hf
  have HFL : Hid (F = letB p f) := hFl
  clear hf hFl hin
  go_enter Tryz.func5, Tryz.ntmps5
  go_upto_region 1 with fail
  rw [HW0.out]
  clear HW0
  go_upto_region 3 with (first | (go_at_call 18; (with_reducible refine cO.mono ?_); rintro e w4 ⟨rfl, hb4⟩; have y0 := (hX4 _ hb4).1; have y1 := (hX4 _ hb4).2; have HB4 : Hid (Below W0.heap.size W0 w4) := hb4; clear hb4) | (go_at_call 19; (with_reducible refine (cL _).mono ?_); rintro e w' ⟨rfl, rfl⟩))
  go_upto_region 4 with (go_at_call 20; (with_reducible refine (cS _ HB4.out).mono ?_); rintro e w5 ⟨X, rfl, h5⟩)
  obtain ⟨L, H, tb, n, tv, r, V, en, hb5, hlo, hbad, hgood⟩ := h5
  have B5 : Below w.heap.size w w5 := chain (chain b0 HB4.out) hb5
  clear cS cL cO y0 y1 hX4 i0 i1
  obtain ⟨v0, v1, v2, v3⟩ := four_cells V.box
  obtain ⟨bd, hbd⟩ : ∃ x, r.bad = x := ⟨_, rfl⟩
  rw [hbd] at v3
  cases bd with
  | true =>
    have hF : F = false := by rw [HFL.out]; exact letB_no (hbad hbd)
    subst hF
    have HE := hNo _ (some ⟨w5.heap.size, 0, none⟩) (some ⟨w5.heap.size + 1, 0, none⟩) (bQ (.cells #[] 4) (bQ (.cells #[] 53) B5))
    clear V hbad hgood
    go_wp2
    go_returns
    exact ⟨_, _, rfl, HE.out⟩
  | false =>
    obtain ⟨I, htd⟩ := hgood hbd
    have hF : F = true := by rw [HFL.out]; exact letB_yes (end_best I hbd htd).sound
    subst hF
    have hfun : funOk f = true ∧ r.hit.length = n := by
      have h := HOK.out
      unfold imgOk at h
      simp only [Bool.and_eq_true] at h
      have h1 := h.2.2.2.1
      rw [List.all_eq_true] at h1
      exact ⟨h1 f (List.mem_iff_getElem?.2 ⟨K, HFF.out⟩), by rw [en]; exact I.ok.hlen⟩
    have hn3 : n ≤ 300 := by
      have h := hfun.1
      unfold funOk inB at h
      simp only [Bool.and_eq_true, decide_eq_true_eq] at h
      omega
    have hst : ∀ (q : Nat) (s : PSta), r.list[q]? = some s → s.regs.length ≤ 1000 := fun q s hs => by
      by_cases hh : r.hit[q]? = some true
      · have := I.ok.regs q s (fam_of hh hs)
        have h := hfun.1
        unfold funOk inB at h
        simp only [Bool.and_eq_true, decide_eq_true_eq] at h
        omega
      · have := I.ok.zero q s hs hh
        rw [this]
        simp
    have HR : Hid (RunInv p f r ∧ r.todo = [] ∧ r.bad = false ∧ r.hit.length = n) := ⟨I, htd, hbd, hfun.2⟩
    clear I htd hbd hfun hbad hgood en
    have bL : Below w5.heap.size w5 (w5.alloc (.cells #[] 53)) := (Below.refl _ _).alloc (Nat.le_refl _) _
    have S0 : OutAt w5 (w5.alloc (.cells #[] 53)) w5.heap.size 0 (.slice (some ⟨w5.heap.size, 0, none⟩) 0 0) [] r := ⟨own16 (heap_alloc_new w5 _) (Nat.le_refl _), fun q s hq => absurd hq (Nat.not_lt_zero _), bL⟩
    obtain ⟨WL, hWL⟩ : ∃ W, w5.alloc (.cells #[] 53) = W := ⟨_, rfl⟩
    rw [hWL] at S0
    have HWL : Hid (_ = WL) := hWL
    have HS0 : Hid _ := S0
    clear hWL S0 bL
    go_upto_region 7 with fail
    rw [HWL.out]
    clear HWL v0 v1 v2 v3
    go_wp2
    go_loopw [8, 9] (fun y x wr => ∃ (j : Nat) (xo : Option Addr) (co : Nat) (xs : List Value), x = .int .i64 j ∧ y = .slice xo j co ∧ j ≤ n ∧ Hid (OutAt w5 wr w5.heap.size j (.slice xo j co) xs r)) (fun _ x _ => n - (intOf x).toNat)
    case atStart => exact ⟨0, _, _, _, rfl, rfl, Nat.zero_le _, HS0⟩
    case round =>
      clear HS0
      obtain ⟨j, xo, co, xs, rfl, rfl, hj, HO⟩ := hrel
      have VR := V.below HO.out.bel
      obtain ⟨v0, v1, v2, v3⟩ := four_cells VR.box
      by_cases hlt : j < n
      · have hji : (j : Int) < (n : Int) := by omega
        have hj0 : (0 : Int) ≤ (j : Int) := by omega
        obtain ⟨st, hs⟩ : ∃ t, r.list[j]? = some t := ⟨_, List.getElem?_eq_getElem (by have := V.ll; omega)⟩
        obtain ⟨cl, l1, l2, l3⟩ := V.rl
        obtain ⟨vs, k1, k2, k3⟩ := l3 j st hs
        obtain ⟨xv, cv', rfl, mv, _⟩ := k3.1.opened
        obtain ⟨m, em⟩ : ∃ x, st.regs.length = x := ⟨_, rfl⟩
        obtain ⟨SC, eSC⟩ : ∃ x, st.acc = x := ⟨_, rfl⟩
        have hm9 : m ≤ 1000 := by rw [← em]; exact hst j st hs
        rw [em] at k2
        rw [eSC] at k1
        have q0 : w5.cell? ⟨L, j * 2, none⟩ = some (.int .i64 SC) := by rw [cell_of_row _ _ _ _ _ _ l1]; exact k1
        have q1 : w5.cell? ⟨L, j * 2 + 1, none⟩ = some (.slice xv m cv') := by rw [cell_of_row _ _ _ _ _ _ l1]; exact k2
        have HK : Hid (∀ W, Below w5.heap.size w5 W → W.cell? ⟨X, 0, none⟩ = some (.slice (some ⟨L, 0, none⟩) n n) ∧ W.cell? ⟨L, j * 2, none⟩ = some (.int .i64 SC) ∧ W.cell? ⟨L, j * 2 + 1, none⟩ = some (.slice xv m cv')) := fun W hW => ⟨(four_cells ((hW.block X (lt16 V.box)).trans V.box)).1, (hW.cell (p := ⟨L, j * 2, none⟩) (lt16 l1)).trans q0, (hW.cell (p := ⟨L, j * 2 + 1, none⟩) (lt16 l1)).trans q1⟩
        have hArg : ∀ W, Below w5.heap.size w5 W → ArgFlat W (.slice xv m cv') 1 m (st.regs.flatMap intC) := fun W hW => by
          have h := k3.1.below hW
          unfold ArgI at h
          rw [em] at h
          exact h
        have HMORE : Hid (∀ (w6 w7 : World) (y : Option Addr) (d : Nat) (v7 : Value), Below wr.heap.size wr w6 → w6.ownsRow wr.heap.size 3 1 (.slice y m d) m (st.regs.flatMap intC) → (w6.alloc (.cells #[.int .i64 SC, .slice y m d] 53)).grownBy w7 (Value.ownBlock (.slice xo j co)) → w7.ownsRow w5.heap.size 53 2 v7 (j + 1) (xs ++ [.int .i64 SC, .slice y m d]) → OutAt w5 w7 w5.heap.size (j + 1) v7 (xs ++ [.int .i64 SC, .slice y m d]) r) := fun w6 w7 y d v7 hb ho hg h7 => by
          have ho' : OwnI w6 wr.heap.size (.slice y m d) st.regs := by unfold OwnI; rw [em]; exact ho
          have h := HO.out.more (s := st) hs hb ho' (Nat.le_refl _) HO.out.bel.size (by rw [eSC]; exact hg) (by rw [eSC]; exact h7)
          rw [eSC] at h
          exact h
        have hOwn6 : ∀ w6, Below wr.heap.size wr w6 → w6.ownsRow w5.heap.size 53 2 (.slice xo j co) j xs := fun w6 hb => row_keep HO.out.own hb
        have hBel := HO.out.bel
        obtain ⟨i0, hi, hz0, hz1, hz2⟩ := info_in Tryz.info13I
        obtain ⟨i1, hi', hz0', hz1', hz2'⟩ := info_in Tryz.infoSta16
        have hbS : ∀ (a : Option Addr) (d : Nat) (W : World), (Instr.build 53 #[(0, .int .i64 SC), (1, .slice a m d)]).run Tryz.prog W = .ok (.agg #[.int .i64 SC, .slice a m d]) W := fun a d W => run_build W 53 _ _ (by kernel_rfl)
        obtain ⟨ZH, hZH⟩ : ∃ x, wr.heap.size = x := ⟨_, rfl⟩
        have e1 : (wr.alloc (.cells #[] 3)).drew.heap[ZH]? = some (.cells #[] 3 (0, 0)) := by rw [← hZH]; exact heap_alloc_new wr _
        have bE : Below wr.heap.size wr (wr.alloc (.cells #[] 3)).drew := ((Below.refl _ _).alloc (Nat.le_refl _) _).drew
        have hBW := hArg _ (chain hBel bE)
        have hGR : ∀ (W' : World), (wr.alloc (.cells #[] 3)).drew.grownBy W' (Value.ownBlock (.slice (some ⟨ZH, 0, none⟩) 0 0)) → Hid (Below wr.heap.size wr W') := fun W' h2 => Below.grown bE h2 bE.size (fun k e => by have e2 : ZH = k := Option.some.inj e; omega)
        have hHid : ∀ (W : World) (v : Value), W.ownsRow wr.heap.size 3 1 v m (st.regs.flatMap intC) → Hid (W.ownsRow wr.heap.size 3 1 v m (st.regs.flatMap intC)) := fun W v h => h
        have hone := one_int st.regs
        have hone2 : ∀ (y : Option Addr) (d : Nat), ∀ u ∈ (#[Value.int .i64 SC, .slice y m d] : Array Value).toList, u.oneCell' = true := fun y d u hu => by
          simp at hu
          rcases hu with rfl | rfl <;> rfl
        have hR9 : m ≤ 1000000000 := by omega
        have hj9 : j < 1000000000 := by omega
        have hle0 : wr.heap.size ≤ ZH := by omega
        have hBS : ∀ W, Below wr.heap.size wr W → w5.heap.size ≤ W.heap.size := fun W hW => Nat.le_trans hBel.size hW.size
        have bQ2 : ∀ {W : World} (o : Obj), Below wr.heap.size wr W → Below wr.heap.size wr (W.alloc o) := fun o h => h.alloc h.size o
        clear q0 q1 k1 k2 k3 l3 l1 l2 v1 v2 v3 VR HO hArg em eSC
        go_upto_region 10 with fail
        clear v0
        go_region_held_law (fun W => W.cell? ⟨X, 0, none⟩ = some (.slice (some ⟨L, 0, none⟩) n n) ∧ W.cell? ⟨L, j * 2, none⟩ = some (.int .i64 SC) ∧ W.cell? ⟨L, j * 2 + 1, none⟩ = some (.slice xv m cv'))
          (first | exact HK.out _ HM7.out.bel | exact HK.out _ (chain hBel (by first | with_reducible exact HB6.out | with_reducible exact RowKit.Below.drew HB6.out | with_reducible exact bQ2 _ HB6.out | with_reducible exact RowKit.Below.drew (bQ2 _ HB6.out) | with_reducible exact bE | with_reducible exact Below.refl _ _ | with_reducible exact (Below.refl _ _).drew)))
          (first
            | (refine step_copyI rfl _ _ 49 rfl wr.heap.size 3 i0 _ 1 8 Tryz.underlying49 hi hz0 hz1 hz2 rfl (by decide) (by decide) (.slice (some ⟨ZH, 0, none⟩) 0 0) rfl (own16 e1 hle0) (.slice xv m cv') rfl m _ hBW hone hR9 bE.size (some 61) rfl ?_; intro v6 w6 ho6 hg6; have HB6 := hGR _ hg6; obtain ⟨y6, d6, rfl⟩ := row_slice ho6; have HO6 := hHid _ _ ho6; clear ho6 hg6)
            | (refine step_append16 rfl _ _ 27 rfl w5.heap.size 53 i1 _ 2 32 Tryz.underlying27 hi' hz0' hz1' hz2' rfl (by decide) (by decide) (.slice xo j co) j xs rfl (hOwn6 _ HB6.out) #[.int .i64 SC, .slice y6 m d6] rfl (hone2 _ _) rfl (some 64) rfl hj9 (hBS _ HB6.out) ?_; intro v7 w7 ho7 hg7; have HM7 : Hid (OutAt w5 w7 w5.heap.size (j + 1) v7 (xs ++ [.int .i64 SC, .slice y6 m d6]) r) := HMORE.out _ _ _ _ _ HB6.out HO6.out hg7 ho7; obtain ⟨x7, c7, rfl⟩ := row_slice ho7; clear ho7 hg7))
        all_goals
          clear HMORE HK hOwn6 hBW hGR
          go_wp2
          go_roundw
          case rel => exact ⟨j + 1, _, _, _, by go_num, rfl, by omega, HM7⟩
          case measure => simp [intOf]; omega
      · have hji : ¬ (j : Int) < (n : Int) := by omega
        have ej : j = n := by omega
        subst ej
        have HE : Hid (∀ W, Below wr.heap.size wr W → StaRes p (K : Int) true (.slice xo j co) (.slice (some ⟨H, 0, none⟩) j j) w W) := fun W hW => by
          refine ⟨chain (chain B5 HO.out.bel) hW, (fun h => by cases h), fun _ => ⟨K, f, r, rfl, HFF.out, HR.out.1, HR.out.2.1, HR.out.2.2.1, (HO.out.arg V.ll).below hW, ((VR.hits hn3 HR.out.2.2.2)).below hW⟩⟩
        clear VR HO v2 v3
        go_wp2
        go_quiet (fail)
        go_wp2
        go_returns
        exact ⟨.slice xo j co, .slice (some ⟨H, 0, none⟩) j j, rfl, HE.out _ (below_drewN (Below.refl _ _) _)⟩
end Go.Proofs.YtheofdiaenlbgaaGreat
namespace Go.Proofs.YtheofdiaenlbgaaGreat
open Go.RowKit Go.Sort
set_option linter.unusedVariables false
set_option maxHeartbeats 1000000 in
set_option maxRecDepth 100000 in
theorem eqState_any (p q : PSta) (u v : Value) (w : World) (hu : ArgI w u p.regs) (hv : ArgI w v q.regs) :
    Calls Tryz.prog 26 #[.agg #[.int .i64 p.acc, u], .agg #[.int .i64 q.acc, v]] w fun e w' => e = .returned (.bool (decide (p.acc = q.acc) && decide (p.regs = q.regs))) ∧ Below w.heap.size w w' := by
  have b0 : Below w.heap.size w ((w.alloc (.cells #[.int .i64 p.acc, u] 53)).alloc (.cells #[.int .i64 q.acc, v] 53)) := ((Below.refl _ _).alloc (Nat.le_refl _) _).alloc (by simp) _
  have cE := eqIntS_f u v p.regs q.regs _ (hu.below b0) (hv.below b0)
  clear hu hv
  obtain ⟨E, hE⟩ : ∃ E, decide (p.regs = q.regs) = E := ⟨_, rfl⟩
  simp only [hE] at cE ⊢
  clear hE
  by_cases h : p.acc = q.acc
  · rw [h, decide_eq_true rfl, Bool.true_and]
    rw [h] at cE b0
    cases E
    all_goals
      go_enter Tryz.func26, Tryz.ntmps26
      go_wp2_with fail
      refine cE.mono ?_
      rintro e w' ⟨rfl, hb⟩
      go_wp2
      go_ret
      exact ⟨rfl, chain b0 hb⟩
  · rw [decide_eq_false h, Bool.false_and]
    have z : (p.acc == q.acc) = false := by rw [beq_eq_false_iff_ne]; exact h
    clear cE
    go_enter Tryz.func26, Tryz.ntmps26
    go_wp2
    go_ret
    exact ⟨rfl, b0⟩
end Go.Proofs.YtheofdiaenlbgaaGreat
namespace Go.Proofs.YtheofdiaenlbgaaGreat
open Go.RowKit Go.Sort
set_option linter.unusedVariables false
theorem hit_fam {p : PImg} {f : PFun} {r : RunP} (h : RunInv p f r) {q : Nat} (hq : q < f.code.length) : (r.hit[q]? = some true ↔ (fam r q).isSome = true) := by
  constructor
  · intro hh
    obtain ⟨t, ht⟩ : ∃ t, r.list[q]? = some t := ⟨_, List.getElem?_eq_getElem (by have := h.ok.len; omega)⟩
    rw [fam_of hh ht]
    rfl
  · intro hh
    obtain ⟨t, ht⟩ := Option.isSome_iff_exists.1 hh
    exact (fam_at ht).1
theorem run_same {p : PImg} {f : PFun} {r r' : RunP} (h : RunInv p f r) (ht : r.todo = []) (hb : r.bad = false) (h' : RunInv p f r') (ht' : r'.todo = []) (hb' : r'.bad = false) : r.list = r'.list ∧ r.hit = r'.hit := by
  have e : fam r = fam r' := (end_best h hb ht).unique (end_best h' hb' ht')
  have hH : ∀ q, q < f.code.length → (r.hit[q]? = some true ↔ r'.hit[q]? = some true) := fun q hq => by
    rw [hit_fam h hq, hit_fam h' hq, e]
  constructor
  · apply List.ext_getElem?
    intro q
    by_cases hq : q < f.code.length
    · obtain ⟨t, k1⟩ : ∃ t, r.list[q]? = some t := ⟨_, List.getElem?_eq_getElem (by have := h.ok.len; omega)⟩
      obtain ⟨t', k2⟩ : ∃ t, r'.list[q]? = some t := ⟨_, List.getElem?_eq_getElem (by have := h'.ok.len; omega)⟩
      by_cases hh : r.hit[q]? = some true
      · have f1 := fam_of hh k1
        have f2 := fam_of ((hH q hq).1 hh) k2
        rw [e, f2] at f1
        rw [k1, k2, f1]
      · rw [k1, k2, h.ok.zero q t k1 hh, h'.ok.zero q t' k2 (fun x => hh ((hH q hq).2 x))]
    · rw [List.getElem?_eq_none (by have := h.ok.len; omega), List.getElem?_eq_none (by have := h'.ok.len; omega)]
  · apply List.ext_getElem?
    intro q
    by_cases hq : q < f.code.length
    · obtain ⟨b, k1⟩ : ∃ t, r.hit[q]? = some t := ⟨_, List.getElem?_eq_getElem (by have := h.ok.hlen; omega)⟩
      obtain ⟨b', k2⟩ : ∃ t, r'.hit[q]? = some t := ⟨_, List.getElem?_eq_getElem (by have := h'.ok.hlen; omega)⟩
      have hx := hH q hq
      rw [k1, k2] at hx ⊢
      cases b <;> cases b' <;> simp_all
    · rw [List.getElem?_eq_none (by have := h.ok.hlen; omega), List.getElem?_eq_none (by have := h'.ok.hlen; omega)]
set_option maxHeartbeats 1000000 in
set_option maxRecDepth 100000 in
theorem eqStateS_same (a b : Value) (l : List PSta) (w : World) (ha : ArgStas w a l) (hb : ArgStas w b l) :
    Calls Tryz.prog 8 #[a, b] w fun e w' => e = .returned (.bool true) ∧ Below w.heap.size w w' := by
  obtain ⟨xa, ca, rfl, hm, oa⟩ := ha
  obtain ⟨xb, cb, rfl, _, ob⟩ := hb
  unfold maxLen at hm
  obtain ⟨n, hn⟩ : ∃ n, l.length = n := ⟨_, rfl⟩
  have HN : Hid (l.length = n) := hn
  rw [hn] at hm oa ob ⊢
  clear hn
  have HA : Hid (0 < n → ∃ b o, xa = some ⟨b, o, none⟩ ∧ b < w.heap.size ∧ ∀ (j : Nat) (s : PSta), l[j]? = some s → ∃ rv, w.cell? ⟨b, o + j * 2, none⟩ = some (.int .i64 s.acc) ∧ w.cell? ⟨b, o + j * 2 + 1, none⟩ = some rv ∧ ArgI w rv s.regs) := oa
  have HB : Hid (0 < n → ∃ b o, xb = some ⟨b, o, none⟩ ∧ b < w.heap.size ∧ ∀ (j : Nat) (s : PSta), l[j]? = some s → ∃ rv, w.cell? ⟨b, o + j * 2, none⟩ = some (.int .i64 s.acc) ∧ w.cell? ⟨b, o + j * 2 + 1, none⟩ = some rv ∧ ArgI w rv s.regs) := ob
  clear oa ob
  go_enter Tryz.func8, Tryz.ntmps8
  go_wp2
  go_loopw [5] (fun i wr => ∃ k : Nat, k ≤ n ∧ i = .int .i64 k ∧ Below w.heap.size w wr) (fun i _ => n - (intOf i).toNat)
  case atStart => exact ⟨0, Nat.zero_le _, rfl, Below.refl _ _⟩
  case round =>
    obtain ⟨k, hk, rfl, hbel⟩ := hrel
    by_cases hlt : k < n
    · obtain ⟨ga, sa, rfl, hga, hca⟩ := HA.out (by omega)
      obtain ⟨gb, sb, rfl, hgb, hcb⟩ := HB.out (by omega)
      obtain ⟨s, hs⟩ : ∃ s, l[k]? = some s := ⟨_, List.getElem?_eq_getElem (by have := HN.out; omega)⟩
      obtain ⟨ra, a1, a2, a3⟩ := hca k s hs
      obtain ⟨rb, b1, b2, b3⟩ := hcb k s hs
      obtain ⟨x3, c3, rfl, _, _⟩ := a3.opened
      obtain ⟨x4, c4, rfl, _, _⟩ := b3.opened
      have cQ := fun d os => Calls.regrown_of (w := wr) (d := d) (os := os) (eqState_any s s _ _ (grow (redrawn wr d) os) (a3.below (chain hbel (below_regrown wr d os))) (b3.below (chain hbel (below_regrown wr d os))))
      simp only [decide_true, Bool.and_self] at cQ
      have c0 := cell_regrown ((hbel.cell hga).trans a1)
      have c1 := cell_regrown ((hbel.cell hga).trans a2)
      have d0 := cell_regrown ((hbel.cell hgb).trans b1)
      have d1 := cell_regrown ((hbel.cell hgb).trans b2)
      have hki : (k : Int) < (n : Int) := by omega
      have hk0 : (0 : Int) ≤ (k : Int) := by omega
      clear hca hcb hs HA HB a1 a2 a3 b1 b2 b3
      go_wp2
      refine wp_region_quiet_below (by kernel_rfl) (by kernel_rfl) ?_
      repeat (first | go_big_quiet_step (exact cQ _ _) | quiet_step (exact cQ _ _))
      refine wpQuiet_nil ?_
      intro _ hw'
      obtain ⟨⟨dq, osq⟩, hw''⟩ := hw'
      subst hw''
      have HE : Hid (Below w.heap.size w (grow (redrawn wr dq) osq)) := chain hbel (below_regrown wr dq osq)
      clear cQ c0 c1 d0 d1
      go_wp2
      go_roundw
      case rel => exact ⟨k + 1, by omega, by go_num, HE.out⟩
      case measure => simp [intOf]; omega
    · have hki : ¬ (k : Int) < (n : Int) := by omega
      go_wp2
      go_ret
      exact ⟨rfl, hbel⟩
end Go.Proofs.YtheofdiaenlbgaaGreat
namespace Go.Proofs.YtheofdiaenlbgaaGreat
open Go.RowKit Go.Sort
set_option linter.unusedVariables false
def mkSt : Nat → List Nat → List PSta
  | _, [] => []
  | k, m :: l => ⟨(k : Int), upI (k + 1) m⟩ :: mkSt (k + 1 + m) l
def mkN : List Nat → Nat
  | [] => 0
  | m :: l => 1 + m + mkN l
theorem mkSt_len : ∀ (k : Nat) (ns : List Nat), (mkSt k ns).length = ns.length
  | _, [] => rfl
  | k, m :: l => by simp [mkSt, mkSt_len]
theorem mkSt_at : ∀ (ns : List Nat) (k j m : Nat), ns[j]? = some m → (mkSt k ns)[j]? = some ⟨((k + mkN (ns.take j) : Nat) : Int), upI (k + mkN (ns.take j) + 1) m⟩
  | [], k, j, m, h => by simp at h
  | a :: l, k, 0, m, h => by
    simp at h
    subst h
    simp [mkSt, mkN]
  | a :: l, k, j + 1, m, h => by
    rw [List.getElem?_cons_succ] at h
    have := mkSt_at l (k + 1 + a) j m h
    simp only [mkSt, List.getElem?_cons_succ, List.take_succ_cons, mkN]
    rw [this, show k + 1 + a + mkN (l.take j) = k + (1 + a + mkN (l.take j)) by omega]
theorem mkN_more {ns : List Nat} {j m : Nat} (h : ns[j]? = some m) : mkN (ns.take (j + 1)) = mkN (ns.take j) + 1 + m := by
  induction ns generalizing j with
  | nil => simp at h
  | cons a l ih =>
    cases j with
    | zero => simp at h; subst h; simp [mkN]
    | succ j =>
      rw [List.getElem?_cons_succ] at h
      simp only [List.take_succ_cons, mkN]
      rw [ih h]
      omega
set_option maxHeartbeats 1000000 in
set_option maxRecDepth 100000 in
theorem heldStateS_f (v : Value) (ns : List Nat) (k : Nat) (w : World) (hv : ArgStas w v (mkSt k ns)) (hl : ∀ m ∈ ns, m ≤ 2000000) (hk : k + mkN ns ≤ 1000000000) (hmono : ∀ j, mkN (ns.take j) ≤ mkN ns) :
    Calls Tryz.prog 14 #[v, .int .i64 k] w fun e w' => e = .returned (.int .i64 ((k + mkN ns : Nat) : Int)) ∧ w = w' := by
  obtain ⟨x, c, rfl, hm, hc⟩ := hv
  rw [mkSt_len] at hm hc ⊢
  unfold maxLen at hm
  obtain ⟨n, hn⟩ : ∃ n, ns.length = n := ⟨_, rfl⟩
  have HN : Hid (ns.length = n) := hn
  rw [hn] at hm hc ⊢
  clear hn
  have HC : Hid (0 < n → ∃ b o, x = some ⟨b, o, none⟩ ∧ b < w.heap.size ∧ ∀ (j : Nat) (s : PSta), (mkSt k ns)[j]? = some s → ∃ rv, w.cell? ⟨b, o + j * 2, none⟩ = some (.int .i64 s.acc) ∧ w.cell? ⟨b, o + j * 2 + 1, none⟩ = some rv ∧ ArgI w rv s.regs) := hc
  have HM : Hid (∀ j, mkN (ns.take j) ≤ mkN ns) := hmono
  have HLn : Hid (∀ m ∈ ns, m ≤ 2000000) := hl
  obtain ⟨T, hT⟩ : ∃ T, mkN ns = T := ⟨_, rfl⟩
  have HT : Hid (mkN ns = T) := hT
  rw [hT] at hk ⊢
  clear hc hmono hl hT
  go_enter Tryz.func14, Tryz.ntmps14
  go_wp2
  go_loop [1, 5] (fun y i => ∃ (j t : Nat), j ≤ n ∧ y = .int .i64 ((k + t : Nat) : Int) ∧ i = .int .i64 j ∧ t ≤ T ∧ Hid (t = mkN (ns.take j))) (fun _ i => n - (intOf i).toNat)
  case atStart => exact ⟨0, 0, Nat.zero_le _, rfl, rfl, Nat.zero_le _, rfl⟩
  case round =>
    obtain ⟨j, t, hj, rfl, rfl, htT, Ht⟩ := hrel
    by_cases hlt : j < n
    · obtain ⟨b, o, rfl, hb, hcell⟩ := HC.out (by omega)
      obtain ⟨m, hmj⟩ : ∃ m, ns[j]? = some m := ⟨_, List.getElem?_eq_getElem (by have := HN.out; omega)⟩
      have hat := mkSt_at ns k j m hmj
      rw [← Ht.out] at hat
      obtain ⟨rv, a1, a2, a3⟩ := hcell j _ hat
      have hmm := mkN_more hmj
      rw [← Ht.out] at hmm
      have hle := HM.out (j + 1)
      rw [hmm, HT.out] at hle
      have hm2 : m ≤ 2000000 := HLn.out m (List.mem_iff_getElem?.2 ⟨j, hmj⟩)
      have e0 : (((k + t : Nat) : Nat) : Int) = (k : Int) + (t : Int) := by omega
      have e1 : (((k + t + 1 : Nat) : Nat) : Int) = (k : Int) + (t : Int) + 1 := by omega
      have e2 : (((k + t + 1 + m : Nat) : Nat) : Int) = (k : Int) + (t : Int) + 1 + (m : Int) := by omega
      have cH := heldIntS_f rv m (k + t + 1) w a3 hm2 (by omega)
      rw [e1, e2] at cH
      obtain ⟨x3, c3, rfl, _, _⟩ := a3.opened
      rw [e0] at a1
      have hneg : ¬ ((k : Int) + (t : Int) + 1 + (m : Int)) < 0 := by omega
      have hji : (j : Int) < (n : Int) := by omega
      have hj0 : (0 : Int) ≤ (j : Int) := by omega
      have HT2 : Hid (t + 1 + m = mkN (ns.take (j + 1))) := hmm.symm
      rw [upI_len] at a2 cH
      clear hcell HC hat hmm a3 HM HLn Ht
      go_wp2_with (go_at_call 32; (with_reducible refine cH.mono ?_); rintro e w' ⟨rfl, rfl⟩)
      go_round
      case rel => exact ⟨j + 1, t + 1 + m, by omega, by go_num, by go_num, by omega, HT2⟩
      case measure => simp [intOf]; omega
    · have e : j = n := by omega
      have et : t = T := by
        have h := Ht.out
        rw [List.take_of_length_le (by have := HN.out; omega), HT.out] at h
        exact h
      subst et
      have hji : ¬ (j : Int) < (n : Int) := by omega
      go_wp2
      go_ret
      exact ⟨rfl, rfl⟩
end Go.Proofs.YtheofdiaenlbgaaGreat
