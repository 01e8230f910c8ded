/-
  Part 13 of what is proved of drawn right trees.
-/
import Derived.Test.YtkmmojpfcklocaaPal

namespace Go.Proofs.Ytkmmojpfcklocaa
open Go.RowKit
set_option linter.unusedVariables false
def FOk (w : World) (B : Nat) (xs : List Value) (q : Nat) (f : FSh) (r : PFun) : Prop := (∀ j u, (funC r f.cv f.kv f.hv)[j]? = some u → xs[q * 5 + j]? = some u) ∧ f.nc = r.caps.length ∧ f.nk = r.code.length ∧ f.nh = r.hnds.length ∧ w.ownsRow B 90 2 f.cv r.caps.length (r.caps.flatMap capC) ∧ w.ownsRow B 49 3 f.kv r.code.length (r.code.flatMap insC) ∧ w.ownsRow B 92 3 f.hv r.hnds.length (r.hnds.flatMap hndC)
def FsOk (w : World) (B : Nat) (xs : List Value) (l : List PFun) (k : Nat) (fs : List FSh) : Prop := fs.length = k ∧ FApart fs ∧ ∀ q f r, fs[q]? = some f → l[q]? = some r → FOk w B xs q f r
def FunsOwn (w : World) (B : Nat) (v : Value) (l : List PFun) : Prop := ∃ fs, fs.length = l.length ∧ FApart fs ∧ ∃ xs, w.ownsRow B 47 5 v l.length xs ∧ ∀ q f r, fs[q]? = some f → l[q]? = some r → FOk w B xs q f r
theorem apart_more {fs : List FSh} {f : FSh} {N : Nat} (h : FApart fs) (old : ∀ (q : Nat) (g : FSh), fs[q]? = some g → (∀ G, g.cv.ownBlock = some G → G < N) ∧ (∀ G, g.kv.ownBlock = some G → G < N) ∧ (∀ G, g.hv.ownBlock = some G → G < N)) (n1 : ∀ G, f.cv.ownBlock = some G → N ≤ G) (n2 : ∀ G, f.kv.ownBlock = some G → N ≤ G) (n3 : ∀ G, f.hv.ownBlock = some G → N ≤ G) : FApart (fs ++ [f]) := by
  have one : ∀ {a b : Option Nat}, (∀ G, a = some G → G < N) → (∀ G, b = some G → N ≤ G) → (a = none ∨ a ≠ b) ∧ (b = none ∨ b ≠ a) := fun {a b} ha hb => by
    cases a with
    | none => exact ⟨.inl rfl, by cases b with | none => exact .inl rfl | some G => exact .inr (fun e => by cases e)⟩
    | some G =>
      have := ha G rfl
      have ne : ∀ G', b = some G' → G ≠ G' := fun G' e => by have := hb G' e; omega
      exact ⟨.inr (fun e => ne G e.symm rfl), by cases b with | none => exact .inl rfl | some G' => exact .inr (fun e => ne G' rfl (Option.some.inj e).symm)⟩
  intro q1 q2 f1 f2 h1 h2 hne
  rcases Nat.lt_or_ge q1 fs.length with a1 | a1
  · rw [List.getElem?_append_left a1] at h1
    rcases Nat.lt_or_ge q2 fs.length with a2 | a2
    · rw [List.getElem?_append_left a2] at h2
      exact h q1 q2 f1 f2 h1 h2 hne
    · have e2 : f2 = f := by
        rw [List.getElem?_append_right a2] at h2
        have := List.mem_of_getElem? h2
        simpa using this
      subst e2
      obtain ⟨o1, o2, o3⟩ := old q1 f1 h1
      exact ⟨(one o1 n1).1, (one o2 n2).1, (one o3 n3).1⟩
  · have e1 : f1 = f := by
      rw [List.getElem?_append_right a1] at h1
      have := List.mem_of_getElem? h1
      simpa using this
    subst e1
    rcases Nat.lt_or_ge q2 fs.length with a2 | a2
    · rw [List.getElem?_append_left a2] at h2
      obtain ⟨o1, o2, o3⟩ := old q2 f2 h2
      exact ⟨(one o1 n1).2, (one o2 n2).2, (one o3 n3).2⟩
    · have l1 := (List.getElem?_eq_some_iff.1 h1).1
      have l2 := (List.getElem?_eq_some_iff.1 h2).1
      simp at l1 l2
      omega
theorem FOk.low {w : World} {B B' : Nat} {xs : List Value} {q : Nat} {f : FSh} {r : PFun} (h : FOk w B xs q f r) (hb : B' ≤ B) : FOk w B' xs q f r := by
  obtain ⟨h1, n1, n2, n3, h2, h3, h4⟩ := h
  exact ⟨h1, n1, n2, n3, row_low h2 hb, row_low h3 hb, row_low h4 hb⟩
theorem FunsOwn.low {w : World} {B B' : Nat} {v : Value} {l : List PFun} (h : FunsOwn w B v l) (hb : B' ≤ B) : FunsOwn w B' v l := by
  obtain ⟨fs, a1, a2, xs, a3, a4⟩ := h
  exact ⟨fs, a1, a2, xs, row_low a3 hb, fun q f r hf hr => (a4 q f r hf hr).low hb⟩
theorem FunsOwn.below {w w' : World} {B : Nat} {v : Value} {l : List PFun} (h : FunsOwn w B v l) (hb : Below w.heap.size w w') : FunsOwn w' B v l := by
  obtain ⟨fs, a1, a2, xs, a3, a4⟩ := h
  refine ⟨fs, a1, a2, xs, row_keep a3 hb, fun q f r hf hr => ?_⟩
  obtain ⟨h1, n1, n2, n3, h2, h3, h4⟩ := a4 q f r hf hr
  exact ⟨h1, n1, n2, n3, row_keep h2 hb, row_keep h3 hb, row_keep h4 hb⟩
theorem FunsOwn.set {w : World} {B : Nat} {v : Value} {l : List PFun} (h : FunsOwn w B v l) {a : Addr} (ha : a.block < B) (u : Value) : FunsOwn (w.setCell a u) B v l := by
  obtain ⟨fs, a1, a2, xs, a3, a4⟩ := h
  refine ⟨fs, a1, a2, xs, ownsRow_setCell_below a3 ha u, fun q f r hf hr => ?_⟩
  obtain ⟨h1, n1, n2, n3, h2, h3, h4⟩ := a4 q f r hf hr
  exact ⟨h1, n1, n2, n3, ownsRow_setCell_below h2 ha u, ownsRow_setCell_below h3 ha u, ownsRow_setCell_below h4 ha u⟩
theorem FunsOwn.slice {w : World} {B : Nat} {v : Value} {l : List PFun} (h : FunsOwn w B v l) : ∃ x c, v = .slice x l.length c := by
  obtain ⟨fs, a1, a2, xs, a3, a4⟩ := h
  exact row_slice a3
def ImgTwo (w : World) (B : Nat) (fv cv : Value) (p : PImg) : Prop := FunsOwn w B fv p.funcs ∧ w.ownsRow B 71 3 cv p.consts.length (p.consts.flatMap conC)
theorem FunsOwn.img {w : World} {B : Nat} {fv cv : Value} {p : PImg} (h : FunsOwn w B fv p.funcs) (hc : w.ownsRow B 71 3 cv p.consts.length (p.consts.flatMap conC)) : ∃ fs, ImgOwn w B fv cv p fs := by
  obtain ⟨fs, a1, a2, xs, a3, a4⟩ := h
  exact ⟨fs, a1, a2, hc, xs, a3, a4⟩
set_option maxHeartbeats 1000000 in
set_option maxRecDepth 100000 in
theorem toFuncS_own (v : Value) (l : List PFun) (w : World) (hv : ArgFuns w v l) (hfew : l.length ≤ 1048576) (hl : ∀ p ∈ l, p.caps.length ≤ 1048576 ∧ p.code.length ≤ 1048576 ∧ p.hnds.length ≤ 1048576) :
    Calls Try.prog 17 #[v] w fun e w' => ∃ v', e = .returned v' ∧ FunsOwn w' w.heap.size v' l ∧ Below w.heap.size w w' := by
  obtain ⟨x, c, rfl, hm, hc⟩ := hv
  obtain ⟨n, hn⟩ : ∃ n, l.length = n := ⟨_, rfl⟩
  have HN : Hid (l.length = n) := hn
  have HE : Hid (∀ (W : World) (v' : Value) (xs : List Value), W.ownsRow w.heap.size 47 5 v' n xs → (∃ fs, FsOk W w.heap.size xs l n fs) → FunsOwn W w.heap.size v' l) := fun W v' xs h1 h2 => by
    obtain ⟨fs, a1, a2, a3⟩ := h2
    exact ⟨fs, by rw [hn]; exact a1, a2, xs, by rw [hn]; exact h1, a3⟩
  rw [hn] at hm hc hfew ⊢
  clear hn
  unfold maxLen at hm
  obtain ⟨W1, hmk, ⟨xs0, hrow⟩, hbel⟩ := made_Func w n hfew
  have hW1 : w.heap.size + 1 ≤ W1.heap.size := by
    have := (hrow.lt w.heap.size rfl).2
    omega
  obtain ⟨g, hg⟩ : ∃ g, w.heap.size = g := ⟨_, rfl⟩
  have hge : w.heap.size ≤ g := by omega
  rw [hg] at hmk hW1
  have HR : Hid (W1.ownsRow w.heap.size 47 5 (.slice (some ⟨g, 0, none⟩) n n) n xs0) := by rw [hg]; rw [hg] at hrow; exact hrow
  have HG : Hid (w.heap.size = g) := hg
  have HC : Hid (0 < n → ∃ b o, x = some ⟨b, o, none⟩ ∧ b < w.heap.size ∧ ∀ j p, l[j]? = some p → ∃ cv kv hv, FunAt w b (o + j * 5) p cv kv hv) := hc
  have HL : Hid (∀ p ∈ l, p.caps.length ≤ 1048576 ∧ p.code.length ≤ 1048576 ∧ p.hnds.length ≤ 1048576) := hl
  clear hrow hg hc hl
  go_enter Try.func17, Try.ntmps17
  go_wp2
  clear hmk
  go_loopw [4] (fun i wr => ∃ (k : Nat) (xs : List Value), i = .int .i64 k ∧ k ≤ n ∧ Hid (wr.ownsRow w.heap.size 47 5 (.slice (some ⟨g, 0, none⟩) n n) n xs) ∧ Below w.heap.size w wr ∧ g + 1 ≤ wr.heap.size ∧ Hid (∃ fs, FsOk wr (g + 1) xs l k fs)) (fun i _ => n - (intOf i).toNat)
  case atStart => exact ⟨0, xs0, rfl, Nat.zero_le _, HR, hbel, hW1, ⟨[], rfl, fun q1 q2 f1 f2 h => (by simp at h), fun q f r h => (by simp at h)⟩⟩
  case round =>
    clear HR hbel hW1
    obtain ⟨k, xs, rfl, hk, HO, hbw, hgw, HQ⟩ := hrel
    by_cases hkn : k < n
    · obtain ⟨b, o, rfl, _, hcell⟩ := HC.out (by omega)
      obtain ⟨p, hp⟩ : ∃ p, l[k]? = some p := ⟨_, List.getElem?_eq_getElem (by have := HN.out; omega)⟩
      obtain ⟨cv, kv, hv, hA⟩ := hcell k p hp
      have hA' := hA.below hbw
      have c0 := hA'.c0
      have c1 := hA'.c1
      have c2 := hA'.c2
      have c3 := hA'.c3
      have c4 := hA'.c4
      have cN := toFunc_any p cv kv hv wr hA'.caps hA'.code hA'.hnds (HL.out p (List.mem_iff_getElem?.2 ⟨_, hp⟩))
      have HP : Hid (l[k]? = some p) := hp
      clear hA hA' hcell HC hp
      have hki : (k : Int) < (n : Int) := by omega
      have hk0 : (0 : Int) ≤ (k : Int) := by omega
      go_wp2_with fail
      refine cN.mono ?_
      rintro e w1 ⟨cv1, kv1, hv1, rfl, own1, own2, own3, b1⟩
      obtain ⟨xa, xc, rfl⟩ := row_slice own1
      obtain ⟨ya, yc, rfl⟩ := row_slice own2
      obtain ⟨za, zc, rfl⟩ := row_slice own3
      have HO1 : Hid (w1.ownsRow w.heap.size 47 5 (.slice (some ⟨g, 0, none⟩) n n) n xs) := row_keep HO.out b1
      obtain ⟨⟨u0, o0⟩, f0⟩ := row_cell HO1.out (k * 5) (by omega)
      obtain ⟨⟨u1, o1⟩, f1⟩ := row_cell HO1.out (k * 5 + 1) (by omega)
      obtain ⟨⟨u2, o2⟩, f2⟩ := row_cell HO1.out (k * 5 + 2) (by omega)
      obtain ⟨⟨u3, o3⟩, f3⟩ := row_cell HO1.out (k * 5 + 3) (by omega)
      obtain ⟨⟨u4, o4⟩, f4⟩ := row_cell HO1.out (k * 5 + 4) (by omega)
      have HW : Hid ((layW w1 g (k * 5) (funC p (.slice xa p.caps.length xc) (.slice ya p.code.length yc) (.slice za p.hnds.length zc))).ownsRow w.heap.size 47 5 (.slice (some ⟨g, 0, none⟩) n n) n (layL xs (k * 5) (funC p (.slice xa p.caps.length xc) (.slice ya p.code.length yc) (.slice za p.hnds.length zc)))
          ∧ Below w.heap.size w (layW w1 g (k * 5) (funC p (.slice xa p.caps.length xc) (.slice ya p.code.length yc) (.slice za p.hnds.length zc)))
          ∧ g + 1 ≤ (layW w1 g (k * 5) (funC p (.slice xa p.caps.length xc) (.slice ya p.code.length yc) (.slice za p.hnds.length zc))).heap.size
          ∧ ∃ fs, FsOk (layW w1 g (k * 5) (funC p (.slice xa p.caps.length xc) (.slice ya p.code.length yc) (.slice za p.hnds.length zc))) (g + 1) (layL xs (k * 5) (funC p (.slice xa p.caps.length xc) (.slice ya p.code.length yc) (.slice za p.hnds.length zc))) l (k + 1) fs) := by
        have hb1 := b1.size
        have hxl : xs.length = n * 5 := HO.out.1
        obtain ⟨fs, hfl, hfa, hfo⟩ := HQ.out
        refine ⟨layW_own _ _ _ _ HO1.out, layW_below hge _ _ _ (chain hbw b1), by rw [layW_size]; omega, fs ++ [⟨.slice xa p.caps.length xc, .slice ya p.code.length yc, .slice za p.hnds.length zc, p.caps.length, p.code.length, p.hnds.length⟩], by rw [List.length_append, hfl]; rfl, ?_, fun q f r hf hr => ?_⟩
        · have old : ∀ (q : Nat) (f : FSh), fs[q]? = some f → (∀ G, f.cv.ownBlock = some G → G < wr.heap.size) ∧ (∀ G, f.kv.ownBlock = some G → G < wr.heap.size) ∧ (∀ G, f.hv.ownBlock = some G → G < wr.heap.size) := fun q f hf => by
            have hql : q < fs.length := (List.getElem?_eq_some_iff.1 hf).1
            obtain ⟨r, hr⟩ : ∃ r, l[q]? = some r := ⟨_, List.getElem?_eq_getElem (by have := HN.out; omega)⟩
            obtain ⟨_, _, _, _, o1, o2, o3⟩ := hfo q f r hf hr
            exact ⟨fun G hG => (o1.lt G hG).2, fun G hG => (o2.lt G hG).2, fun G hG => (o3.lt G hG).2⟩
          exact apart_more hfa old (fun G hG => (own1.lt G hG).1) (fun G hG => (own2.lt G hG).1) (fun G hG => (own3.lt G hG).1)
        · rcases Nat.lt_or_ge q fs.length with h' | h'
          · rw [List.getElem?_append_left h'] at hf
            obtain ⟨h1, n1, n2, n3, h2, h3, h4⟩ := hfo q f r hf hr
            refine ⟨fun c u hu => ?_, n1, n2, n3, layW_row (Nat.lt_succ_self g) _ _ _ (row_keep h2 b1), layW_row (Nat.lt_succ_self g) _ _ _ (row_keep h3 b1), layW_row (Nat.lt_succ_self g) _ _ _ (row_keep h4 b1)⟩
            have hc8 : c < 5 := (List.getElem?_eq_some_iff.1 hu).1
            rw [layL_other _ _ _ _ (by left; omega)]
            exact h1 c u hu
          · have hq1 : q < (fs ++ [FSh.mk (.slice xa p.caps.length xc) (.slice ya p.code.length yc) (.slice za p.hnds.length zc) p.caps.length p.code.length p.hnds.length]).length := (List.getElem?_eq_some_iff.1 hf).1
            rw [List.length_append] at hq1
            have e : q = k := by simp at hq1; omega
            subst e
            rw [List.getElem?_append_right h', hfl, Nat.sub_self] at hf
            simp at hf
            subst hf
            have e2 := HP.out
            rw [hr] at e2
            injection e2 with e2
            subst e2
            exact ⟨fun c u hu => layL_here _ _ _ _ _ hu (by rw [hxl]; show q * 5 + 5 ≤ _; omega), rfl, rfl, rfl, layW_row (Nat.lt_succ_self g) _ _ _ (row_low own1 (by omega)), layW_row (Nat.lt_succ_self g) _ _ _ (row_low own2 (by omega)), layW_row (Nat.lt_succ_self g) _ _ _ (row_low own3 (by omega))⟩
      clear HO HQ HO1 own1 own2 own3 b1 cN HE HP
      go_wp2
      go_roundw
      case rel => exact ⟨k + 1, _, by go_num, by omega, HW.out.1, HW.out.2.1, HW.out.2.2.1, HW.out.2.2.2⟩
      case measure => simp [intOf]; omega
    · have hkn' : k = n := by omega
      subst hkn'
      have hE := HE.out wr _ xs HO.out (by
        obtain ⟨fs, a1, a2, a3⟩ := HQ.out
        refine ⟨fs, a1, a2, fun q f r hf hr => ?_⟩
        obtain ⟨h1, n1, n2, n3, h2, h3, h4⟩ := a3 q f r hf hr
        exact ⟨h1, n1, n2, n3, row_low h2 (by have := HG.out; omega), row_low h3 (by have := HG.out; omega), row_low h4 (by have := HG.out; omega)⟩)
      clear HE
      go_wp2
      go_ret
      exact ⟨_, rfl, hE, hbw⟩
set_option maxHeartbeats 1000000 in
set_option maxRecDepth 100000 in
theorem toImage_own (fv cv : Value) (p : PImg) (w : World) (h : ArgImg w fv cv p) (hf : imgFew p 1048576) :
    Calls Try.prog 6 #[.agg #[fv, cv]] w fun e w' => ∃ fv' cv', e = .returned (.agg #[fv', cv']) ∧ (∃ fs, ImgOwn w' w.heap.size fv' cv' p fs) ∧ Below w.heap.size w w' := by
  have cF := fun W (hb : Below w.heap.size w W) => toFuncS_own fv p.funcs W (h.1.below hb) (by have := hf.1; omega) (fun q hq => by have := hf.2.1 q hq; unfold funFew at this; omega)
  have cC := fun W (hb : Below w.heap.size w W) => toConstS_any cv p.consts W (h.2.below hb) (by have := hf.2.2.1; omega)
  clear h hf
  go_enter Try.func6, Try.ntmps6
  go_wp2_with fail
  have T := made_three w (Obj.cells #[fv, cv] 25) (Obj.cells #[Value.slice none 0 0, Value.slice none 0 0] 32) (Obj.cells #[Value.slice none 0 0, Value.slice none 0 0] 32)
  obtain ⟨W3, hW3⟩ : ∃ W, (((w.alloc (Obj.cells #[fv, cv] 25)).alloc (Obj.cells #[Value.slice none 0 0, Value.slice none 0 0] 32)).alloc (Obj.cells #[Value.slice none 0 0, Value.slice none 0 0] 32)) = W := ⟨_, rfl⟩
  rw [hW3] at T ⊢
  clear hW3
  obtain ⟨t0, t1, t2, tz, tb⟩ := T
  obtain ⟨G, hG⟩ : ∃ G, w.heap.size = G := ⟨_, rfl⟩
  obtain ⟨D, hD⟩ : ∃ D, G + 1 + 1 = D := ⟨_, rfl⟩
  rw [hG] at t0 t1 tz
  rw [show w.heap.size + 2 = D by omega] at t2
  have hsz : D + 1 ≤ W3.heap.size := by omega
  have hB : w.heap.size ≤ G := by omega
  clear tz
  refine (cF W3 tb).mono ?_
  rintro e w1 ⟨v1, rfl, own1, b1⟩
  obtain ⟨x1, y1, rfl⟩ := own1.slice
  obtain ⟨u0, u1, u2, ub, us⟩ := kept_three hD t0 t1 t2 tb hB hsz b1
  have own1' := own1.low (B' := D + 1) hsz
  obtain ⟨d0, d1⟩ := cells_pair u0
  obtain ⟨e0, e1⟩ := cells_pair u2
  have fD := fun j => frozen_of_row w1 D j _ _ u2
  obtain ⟨s0, s1, s2, sb, ss⟩ := put_field (k := 0) (v := .slice x1 p.funcs.length y1) (m' := #[.slice x1 p.funcs.length y1, .slice none 0 0]) hD u0 u1 u2 ub hB us rfl
  have own1'' := own1'.set (a := ⟨D, 0, none⟩) (by show D < D + 1; omega) (.slice x1 p.funcs.length y1)
  clear t0 t1 t2 tb hsz b1 own1 u0 u1 u2 ub us own1'
  try simp only [hG, hD]
  go_upto_region 3 with fail
  obtain ⟨V1, hV⟩ : ∃ W, w1.setCell ⟨D, 0, none⟩ (.slice x1 p.funcs.length y1) = W := ⟨_, rfl⟩
  simp only [hV] at s0 s1 s2 sb ss own1'' ⊢
  clear hV d0 d1 e0 e1 fD
  obtain ⟨d0, d1⟩ := cells_pair s0
  go_wp2_with fail
  refine (cC V1 sb).mono ?_
  rintro e w2 ⟨v2, rfl, own2, b2⟩
  clear d0 d1
  obtain ⟨x2, y2, rfl⟩ := row_slice own2
  obtain ⟨u0, u1, u2, ub, us⟩ := kept_three hD s0 s1 s2 sb hB ss b2
  have own1' := own1''.below b2
  have own2' := row_low own2 ss
  obtain ⟨d0, d1⟩ := cells_pair u0
  obtain ⟨e0, e1⟩ := cells_pair u2
  have fD := fun j => frozen_of_row w2 D j _ _ u2
  obtain ⟨t0, t1, t2, tb, ts⟩ := put_field (k := 1) (v := .slice x2 p.consts.length y2) (m' := #[.slice x1 p.funcs.length y1, .slice x2 p.consts.length y2]) hD u0 u1 u2 ub hB us rfl
  have o1 := own1'.set (a := ⟨D, 1, none⟩) (by show D < D + 1; omega) (.slice x2 p.consts.length y2)
  have o2 := ownsRow_setCell_below own2' (a := ⟨D, 1, none⟩) (by show D < D + 1; omega) (.slice x2 p.consts.length y2)
  clear s0 s1 s2 sb ss b2 own2 own2' own1' own1'' u0 u1 u2 ub us
  go_upto_region 4 with fail
  obtain ⟨V2, hV⟩ : ∃ W, w2.setCell ⟨D, 1, none⟩ (.slice x2 p.consts.length y2) = W := ⟨_, rfl⟩
  simp only [hV] at t0 t1 t2 tb ts o1 o2 ⊢
  clear hV d0 d1 e0 e1 fD
  obtain ⟨e0, e1⟩ := cells_pair t2
  obtain ⟨i0, i1⟩ := cells_pair t1
  have fG := fun j => frozen_of_row V2 (G + 1) j _ _ t1
  have z0 : (V2.setCell ⟨G + 1, 0, none⟩ (.slice x1 p.funcs.length y1)).heap[G + 1]? = some (.cells #[.slice x1 p.funcs.length y1, .slice none 0 0] 32) := heap_setCell_same _ _ _ _ _ _ t1
  have z1 : ((V2.setCell ⟨G + 1, 0, none⟩ (.slice x1 p.funcs.length y1)).setCell ⟨G + 1, 1, none⟩ (.slice x2 p.consts.length y2)).heap[G + 1]? = some (.cells #[.slice x1 p.funcs.length y1, .slice x2 p.consts.length y2] 32) := heap_setCell_same _ _ 1 _ _ _ z0
  obtain ⟨g0, g1⟩ := cells_pair z1
  have HT : Hid (Below w.heap.size w ((V2.setCell ⟨G + 1, 0, none⟩ (.slice x1 p.funcs.length y1)).setCell ⟨G + 1, 1, none⟩ (.slice x2 p.consts.length y2)) ∧ ImgTwo ((V2.setCell ⟨G + 1, 0, none⟩ (.slice x1 p.funcs.length y1)).setCell ⟨G + 1, 1, none⟩ (.slice x2 p.consts.length y2)) w.heap.size (.slice x1 p.funcs.length y1) (.slice x2 p.consts.length y2) p) := by
    have q : ∀ (W : World) (j : Nat) (u : Value), Below w.heap.size w W → Below w.heap.size w (W.setCell ⟨G + 1, j, none⟩ u) := fun W j u h => h.setCell (p := ⟨G + 1, j, none⟩) (by show _ ≤ G + 1; omega) u
    refine ⟨q _ _ _ (q _ _ _ tb), ((o1.set (a := ⟨G + 1, 0, none⟩) (by show G + 1 < D + 1; omega) _).set (a := ⟨G + 1, 1, none⟩) (by show G + 1 < D + 1; omega) _).low (by omega), row_low (ownsRow_setCell_below (ownsRow_setCell_below o2 (a := ⟨G + 1, 0, none⟩) (by show G + 1 < D + 1; omega) _) (a := ⟨G + 1, 1, none⟩) (by show G + 1 < D + 1; omega) _) (by omega)⟩
  clear t0 t1 t2 z0 z1 tb o1 o2 cF cC
  go_wp2
  refine bodyPost_ret (by simp [results, Try.results6, go_sem, g0, g1]; try rfl) rfl ?_
  exact ⟨_, _, rfl, FunsOwn.img HT.out.2.1 HT.out.2.2, HT.out.1⟩
theorem few_img {w : World} {B : Nat} {fv cv : Value} {p : PImg} {fs : List FSh} (h : ImgOwn w B fv cv p fs) (hn : (p.funcs.length : Int) + (funsTot p.funcs p.funcs.length : Int) ≤ 1048576) : Few fs 1 := by
  obtain ⟨h1, _, _, xs, _, h5⟩ := h
  have k : ∀ q, q ≤ fs.length → offK fs 1 q ≤ 1 + 2 * q + 3 * funsTot p.funcs q := fun q => by
    induction q with
    | zero => intro _; rw [offK_0]; omega
    | succ q ih =>
      intro hq
      obtain ⟨f, hf⟩ : ∃ f, fs[q]? = some f := ⟨_, List.getElem?_eq_getElem (by omega)⟩
      obtain ⟨r, hr⟩ : ∃ r, p.funcs[q]? = some r := ⟨_, List.getElem?_eq_getElem (by omega)⟩
      have i1 := ih (by omega)
      rw [offK_more hf, funsTot_more hr]
      obtain ⟨_, e1, e2, e3, _⟩ := h5 q f r hf hr
      unfold FSh.wid funTot
      rw [e1, e2, e3]
      omega
  have k1 := k fs.length (Nat.le_refl _)
  rw [h1] at k1
  exact ⟨by omega, by rw [h1]; omega⟩
end Go.Proofs.Ytkmmojpfcklocaa
