/-
  Part 3 of what is proved of drawn right trees.
-/
import Derived.Test.YtbgdapdenbldmaaPab
import Derived.Test.YtbgdapdenbldmaaPaa
import Derived.Deep.QuietTactic
import Derived.BigQuiet
import Derived.Lib.QuietBelow

namespace Go.Proofs.Ytbgdapdenbldmaa
open Go.RowKit
set_option linter.unusedVariables false
theorem Try.infoFunc13 : (Try.prog.info? 70).map (fun i => (i.zero, i.size, i.bytes)) = some (some (.agg #[.int .i64 0, .int .i64 0, .slice none 0 0, .slice none 0 0, .slice none 0 0]), 5, 88) := by kernel_rfl
theorem made_Func (w : World) (n : Nat) (hn : n ≤ 1048576) : ∃ W1 : World, (Instr.makeSlice 28 (.int .i64 (n : Int)) (.int .i64 (n : Int))).run Try.prog w = .ok (.slice (some ⟨w.heap.size, 0, none⟩) n n) W1 ∧
    (∃ xs, W1.ownsRow w.heap.size 70 5 (.slice (some ⟨w.heap.size, 0, none⟩) n n) n xs) ∧ Below w.heap.size w W1 := by
  obtain ⟨i0, hi, hz0, hz1, hz2⟩ := info_in Try.infoFunc13
  obtain ⟨W, h1, h2, h3⟩ := run_make_full (P := Try.prog) w w.heap.size 28 70 i0 _ 5 Try.underlying28 hi hz0 hz1 .i64 .i64 n (by rw [hz2]; omega) (by unfold maxLen; omega) (Nat.le_refl _)
  exact ⟨W, h1, ⟨_, h2⟩, ⟨h3.os, h3.tape, h3.output, h3.size, fun k hk => h3.block k hk (by simp)⟩⟩
def FunIn (w : World) (B : Nat) (xs : List Value) (q : Nat) (p : PFun) : Prop := ∃ cv kv hv, (∀ c u, (funC p cv kv hv)[c]? = some u → xs[q * 5 + c]? = some u) ∧ w.ownsRow B 149 2 cv p.caps.length (p.caps.flatMap capC) ∧ w.ownsRow B 72 3 kv p.code.length (p.code.flatMap insC) ∧ w.ownsRow B 130 3 hv p.hnds.length (p.hnds.flatMap hndC)
def FunsIn (w : World) (B : Nat) (v : Value) (l : List PFun) : Prop := ∃ xs, w.ownsRow B 70 5 v l.length xs ∧ ∀ q p, l[q]? = some p → FunIn w B xs q p
theorem FunIn.below {w w' : World} {B : Nat} {xs : List Value} {q : Nat} {p : PFun} (h : FunIn w B xs q p) (hb : Below w.heap.size w w') : FunIn w' B xs q p := by
  obtain ⟨cv, kv, hv, h1, h2, h3, h4⟩ := h
  exact ⟨cv, kv, hv, h1, row_keep h2 hb, row_keep h3 hb, row_keep h4 hb⟩
theorem FunsIn.below {w w' : World} {B : Nat} {v : Value} {l : List PFun} (h : FunsIn w B v l) (hb : Below w.heap.size w w') : FunsIn w' B v l := by
  obtain ⟨xs, h1, h2⟩ := h
  exact ⟨xs, row_keep h1 hb, fun q p hq => (h2 q p hq).below hb⟩
theorem FunsIn.arg {w : World} {B : Nat} {v : Value} {l : List PFun} (h : FunsIn w B v l) : ArgFuns w v l := by
  obtain ⟨xs, h1, h2⟩ := h
  obtain ⟨x, c, e, hm, hl, hc⟩ := ArgFlat.of_own h1
  refine ⟨x, c, e, hm, fun h0 => ?_⟩
  obtain ⟨b, o, e1, hb, hcell⟩ := hc h0
  refine ⟨b, o, e1, hb, fun j p hj => ?_⟩
  obtain ⟨cv, kv, hv, k1, k2, k3, k4⟩ := h2 j p hj
  have k : ∀ c u, (funC p cv kv hv)[c]? = some u → w.cell? ⟨b, o + j * 5 + c, none⟩ = some u := fun c u hu => by
    rw [Nat.add_assoc]
    exact hcell _ _ (k1 c u hu)
  exact ⟨cv, kv, hv, ArgFlat.of_own k2, ArgFlat.of_own k3, ArgFlat.of_own k4, k 0 _ rfl, k 1 _ rfl, k 2 _ rfl, k 3 _ rfl, k 4 _ rfl⟩
set_option maxHeartbeats 1000000 in
set_option maxRecDepth 100000 in
theorem toFuncS_any (v : Value) (l : List PFun) (w : World) (hv : ArgFuns w v l) (hfew : l.length ≤ 1048576) (hl : ∀ p ∈ l, p.caps.length ≤ 1048576 ∧ p.code.length ≤ 1048576 ∧ p.hnds.length ≤ 1048576) :
    Calls Try.prog 25 #[v] w fun e w' => ∃ v', e = .returned v' ∧ FunsIn w' w.heap.size v' l ∧ Below w.heap.size w w' := by
  obtain ⟨x, c, rfl, hm, hc⟩ := hv
  obtain ⟨n, hn⟩ : ∃ n, l.length = n := ⟨_, rfl⟩
  have HN : Hid (l.length = n) := hn
  have HE : Hid (∀ (W : World) (v' : Value) (xs : List Value), W.ownsRow w.heap.size 70 5 v' n xs → (∀ q p, q < n → l[q]? = some p → FunIn W w.heap.size xs q p) → FunsIn W w.heap.size v' l) := fun W v' xs h1 h2 => by
    refine ⟨xs, by rw [hn]; exact h1, fun q p hq => h2 q p ?_ hq⟩
    rw [← hn]
    exact (List.getElem?_eq_some_iff.1 hq).1
  rw [hn] at hm hc hfew ⊢
  clear hn
  unfold maxLen at hm
  obtain ⟨W1, hmk, ⟨xs0, hrow⟩, hbel⟩ := made_Func w n hfew
  have hW1 : w.heap.size + 1 ≤ W1.heap.size := by
    have := (hrow.lt w.heap.size rfl).2
    omega
  obtain ⟨g, hg⟩ : ∃ g, w.heap.size = g := ⟨_, rfl⟩
  have hge : w.heap.size ≤ g := by omega
  rw [hg] at hmk hW1
  have HR : Hid (W1.ownsRow w.heap.size 70 5 (.slice (some ⟨g, 0, none⟩) n n) n xs0) := by rw [hg]; rw [hg] at hrow; exact hrow
  have HG : Hid (w.heap.size = g) := hg
  have HC : Hid (0 < n → ∃ b o, x = some ⟨b, o, none⟩ ∧ b < w.heap.size ∧ ∀ j p, l[j]? = some p → ∃ cv kv hv, FunAt w b (o + j * 5) p cv kv hv) := hc
  have HL : Hid (∀ p ∈ l, p.caps.length ≤ 1048576 ∧ p.code.length ≤ 1048576 ∧ p.hnds.length ≤ 1048576) := hl
  clear hrow hg hc hl
  go_enter Try.func25, Try.ntmps25
  go_wp2
  clear hmk
  go_loopw [4] (fun i wr => ∃ (k : Nat) (xs : List Value), i = .int .i64 k ∧ k ≤ n ∧ Hid (wr.ownsRow w.heap.size 70 5 (.slice (some ⟨g, 0, none⟩) n n) n xs) ∧ Below w.heap.size w wr ∧ g + 1 ≤ wr.heap.size ∧ Hid (∀ q p, q < k → l[q]? = some p → FunIn wr (g + 1) xs q p)) (fun i _ => n - (intOf i).toNat)
  case atStart => exact ⟨0, xs0, rfl, Nat.zero_le _, HR, hbel, hW1, fun q p hq => absurd hq (Nat.not_lt_zero _)⟩
  case round =>
    clear HR hbel hW1
    obtain ⟨k, xs, rfl, hk, HO, hbw, hgw, HQ⟩ := hrel
    by_cases hkn : k < n
    · obtain ⟨b, o, rfl, _, hcell⟩ := HC.out (by omega)
      obtain ⟨p, hp⟩ : ∃ p, l[k]? = some p := ⟨_, List.getElem?_eq_getElem (by have := HN.out; omega)⟩
      obtain ⟨cv, kv, hv, hA⟩ := hcell k p hp
      have hA' := hA.below hbw
      have c0 := hA'.c0
      have c1 := hA'.c1
      have c2 := hA'.c2
      have c3 := hA'.c3
      have c4 := hA'.c4
      have cN := toFunc_any p cv kv hv wr hA'.caps hA'.code hA'.hnds (HL.out p (List.mem_iff_getElem?.2 ⟨_, hp⟩))
      have HP : Hid (l[k]? = some p) := hp
      clear hA hA' hcell HC hp
      have hki : (k : Int) < (n : Int) := by omega
      have hk0 : (0 : Int) ≤ (k : Int) := by omega
      go_wp2_with fail
      refine cN.mono ?_
      rintro e w1 ⟨cv1, kv1, hv1, rfl, own1, own2, own3, b1⟩
      obtain ⟨xa, xc, rfl⟩ := row_slice own1
      obtain ⟨ya, yc, rfl⟩ := row_slice own2
      obtain ⟨za, zc, rfl⟩ := row_slice own3
      have HO1 : Hid (w1.ownsRow w.heap.size 70 5 (.slice (some ⟨g, 0, none⟩) n n) n xs) := row_keep HO.out b1
      obtain ⟨⟨u0, o0⟩, f0⟩ := row_cell HO1.out (k * 5) (by omega)
      obtain ⟨⟨u1, o1⟩, f1⟩ := row_cell HO1.out (k * 5 + 1) (by omega)
      obtain ⟨⟨u2, o2⟩, f2⟩ := row_cell HO1.out (k * 5 + 2) (by omega)
      obtain ⟨⟨u3, o3⟩, f3⟩ := row_cell HO1.out (k * 5 + 3) (by omega)
      obtain ⟨⟨u4, o4⟩, f4⟩ := row_cell HO1.out (k * 5 + 4) (by omega)
      have HW : Hid ((layW w1 g (k * 5) (funC p (.slice xa p.caps.length xc) (.slice ya p.code.length yc) (.slice za p.hnds.length zc))).ownsRow w.heap.size 70 5 (.slice (some ⟨g, 0, none⟩) n n) n (layL xs (k * 5) (funC p (.slice xa p.caps.length xc) (.slice ya p.code.length yc) (.slice za p.hnds.length zc)))
          ∧ Below w.heap.size w (layW w1 g (k * 5) (funC p (.slice xa p.caps.length xc) (.slice ya p.code.length yc) (.slice za p.hnds.length zc)))
          ∧ g + 1 ≤ (layW w1 g (k * 5) (funC p (.slice xa p.caps.length xc) (.slice ya p.code.length yc) (.slice za p.hnds.length zc))).heap.size
          ∧ ∀ q p', q < k + 1 → l[q]? = some p' → FunIn (layW w1 g (k * 5) (funC p (.slice xa p.caps.length xc) (.slice ya p.code.length yc) (.slice za p.hnds.length zc))) (g + 1) (layL xs (k * 5) (funC p (.slice xa p.caps.length xc) (.slice ya p.code.length yc) (.slice za p.hnds.length zc))) q p') := by
        have hb1 := b1.size
        have hxl : xs.length = n * 5 := HO.out.1
        refine ⟨layW_own _ _ _ _ HO1.out, layW_below hge _ _ _ (chain hbw b1), by rw [layW_size]; omega, fun q p' hq hp' => ?_⟩
        rcases Nat.lt_or_ge q k with h' | h'
        · obtain ⟨cv2, kv2, hv2, h1, h2, h3, h4⟩ := (HQ.out q p' h' hp').below b1
          refine ⟨cv2, kv2, hv2, fun c u hu => ?_, layW_row (Nat.lt_succ_self g) _ _ _ h2, layW_row (Nat.lt_succ_self g) _ _ _ h3, layW_row (Nat.lt_succ_self g) _ _ _ h4⟩
          have hc8 : c < 5 := (List.getElem?_eq_some_iff.1 hu).1
          rw [layL_other _ _ _ _ (by left; omega)]
          exact h1 c u hu
        · have e : q = k := by omega
          subst e
          have e2 := HP.out
          rw [hp'] at e2
          injection e2 with e2
          subst e2
          exact ⟨_, _, _, fun c u hu => layL_here _ _ _ _ _ hu (by rw [hxl]; show q * 5 + 5 ≤ _; omega), layW_row (Nat.lt_succ_self g) _ _ _ (row_low own1 (by omega)), layW_row (Nat.lt_succ_self g) _ _ _ (row_low own2 (by omega)), layW_row (Nat.lt_succ_self g) _ _ _ (row_low own3 (by omega))⟩
      clear HO HQ HO1 own1 own2 own3 b1 cN HE HP
      go_wp2
      go_roundw
      case rel => exact ⟨k + 1, _, by go_num, by omega, HW.out.1, HW.out.2.1, HW.out.2.2.1, HW.out.2.2.2⟩
      case measure => simp [intOf]; omega
    · have hkn' : k = n := by omega
      subst hkn'
      have hE := HE.out wr _ xs HO.out (fun q p hq hp => by
        obtain ⟨cv, kv, hv, h1, h2, h3, h4⟩ := HQ.out q p hq hp
        exact ⟨cv, kv, hv, h1, row_low h2 (by have := HG.out; omega), row_low h3 (by have := HG.out; omega), row_low h4 (by have := HG.out; omega)⟩)
      clear HE
      go_wp2
      go_ret
      exact ⟨_, rfl, hE, hbw⟩
end Go.Proofs.Ytbgdapdenbldmaa
namespace Go.Proofs.Ytbgdapdenbldmaa
open Go.RowKit
set_option linter.unusedVariables false
theorem FunsIn.set {w : World} {B : Nat} {v : Value} {l : List PFun} (h : FunsIn w B v l) {a : Addr} (ha : a.block < B) (u : Value) : FunsIn (w.setCell a u) B v l := by
  obtain ⟨xs, h1, h2⟩ := h
  refine ⟨xs, ownsRow_setCell_below h1 ha u, fun q p hq => ?_⟩
  obtain ⟨cv, kv, hv, k1, k2, k3, k4⟩ := h2 q p hq
  exact ⟨cv, kv, hv, k1, ownsRow_setCell_below k2 ha u, ownsRow_setCell_below k3 ha u, ownsRow_setCell_below k4 ha u⟩
theorem FunsIn.low {w : World} {B B' : Nat} {v : Value} {l : List PFun} (h : FunsIn w B v l) (hb : B' ≤ B) : FunsIn w B' v l := by
  obtain ⟨xs, h1, h2⟩ := h
  refine ⟨xs, row_low h1 hb, fun q p hq => ?_⟩
  obtain ⟨cv, kv, hv, k1, k2, k3, k4⟩ := h2 q p hq
  exact ⟨cv, kv, hv, k1, row_low k2 hb, row_low k3 hb, row_low k4 hb⟩
theorem FunsIn.slice {w : World} {B : Nat} {v : Value} {l : List PFun} (h : FunsIn w B v l) : ∃ x c, v = .slice x l.length c := by
  obtain ⟨xs, h1, _⟩ := h
  exact row_slice h1
def ImgIn (w : World) (B : Nat) (fv cv : Value) (p : PImg) : Prop := FunsIn w B fv p.funcs ∧ w.ownsRow B 100 3 cv p.consts.length (p.consts.flatMap conC)
theorem ImgIn.arg {w : World} {B : Nat} {fv cv : Value} {p : PImg} (h : ImgIn w B fv cv p) : ArgImg w fv cv p := ⟨h.1.arg, ArgFlat.of_own h.2⟩
theorem cells_pair {w : World} {g : Nat} {a b : Value} {t : TypeId} {r : Nat × Nat} (h : w.heap[g]? = some (.cells #[a, b] t r)) : w.cell? ⟨g, 0, none⟩ = some a ∧ w.cell? ⟨g, 1, none⟩ = some b := by
  refine ⟨?_, ?_⟩ <;> (rw [cell_of_row _ _ _ _ _ _ h]; rfl)
set_option maxHeartbeats 1000000 in
set_option maxRecDepth 100000 in
theorem toImage_any (fv cv : Value) (p : PImg) (w : World) (h : ArgImg w fv cv p) (hf : imgFew p 1048576) :
    Calls Try.prog 8 #[.agg #[fv, cv]] w fun e w' => ∃ fv' cv', e = .returned (.agg #[fv', cv']) ∧ ImgIn w' w.heap.size fv' cv' p ∧ Below w.heap.size w w' := by
  have cF := fun W (hb : Below w.heap.size w W) => toFuncS_any fv p.funcs W (h.1.below hb) (by have := hf.1; omega) (fun q hq => by have := hf.2.1 q hq; unfold funFew at this; omega)
  have cC := fun W (hb : Below w.heap.size w W) => toConstS_any cv p.consts W (h.2.below hb) (by have := hf.2.2.1; omega)
  clear h hf
  go_enter Try.func8, Try.ntmps8
  go_wp2_with fail
  have T := made_three w (Obj.cells #[fv, cv] 25) (Obj.cells #[Value.slice none 0 0, Value.slice none 0 0] 31) (Obj.cells #[Value.slice none 0 0, Value.slice none 0 0] 31)
  obtain ⟨W3, hW3⟩ : ∃ W, (((w.alloc (Obj.cells #[fv, cv] 25)).alloc (Obj.cells #[Value.slice none 0 0, Value.slice none 0 0] 31)).alloc (Obj.cells #[Value.slice none 0 0, Value.slice none 0 0] 31)) = W := ⟨_, rfl⟩
  rw [hW3] at T ⊢
  clear hW3
  obtain ⟨t0, t1, t2, tz, tb⟩ := T
  obtain ⟨G, hG⟩ : ∃ G, w.heap.size = G := ⟨_, rfl⟩
  obtain ⟨D, hD⟩ : ∃ D, G + 1 + 1 = D := ⟨_, rfl⟩
  rw [hG] at t0 t1 tz
  rw [show w.heap.size + 2 = D by omega] at t2
  have hsz : D + 1 ≤ W3.heap.size := by omega
  have hB : w.heap.size ≤ G := by omega
  clear tz
  refine (cF W3 tb).mono ?_
  rintro e w1 ⟨v1, rfl, own1, b1⟩
  obtain ⟨x1, y1, rfl⟩ := own1.slice
  obtain ⟨u0, u1, u2, ub, us⟩ := kept_three hD t0 t1 t2 tb hB hsz b1
  have own1' := own1.low (B' := D + 1) hsz
  obtain ⟨d0, d1⟩ := cells_pair u0
  obtain ⟨e0, e1⟩ := cells_pair u2
  have fD := fun j => frozen_of_row w1 D j _ _ u2
  obtain ⟨s0, s1, s2, sb, ss⟩ := put_field (k := 0) (v := .slice x1 p.funcs.length y1) (m' := #[.slice x1 p.funcs.length y1, .slice none 0 0]) hD u0 u1 u2 ub hB us rfl
  have own1'' := own1'.set (a := ⟨D, 0, none⟩) (by show D < D + 1; omega) (.slice x1 p.funcs.length y1)
  clear t0 t1 t2 tb hsz b1 own1 u0 u1 u2 ub us own1'
  try simp only [hG, hD]
  go_upto_region 3 with fail
  obtain ⟨V1, hV⟩ : ∃ W, w1.setCell ⟨D, 0, none⟩ (.slice x1 p.funcs.length y1) = W := ⟨_, rfl⟩
  simp only [hV] at s0 s1 s2 sb ss own1'' ⊢
  clear hV d0 d1 e0 e1 fD
  obtain ⟨d0, d1⟩ := cells_pair s0
  go_wp2_with fail
  refine (cC V1 sb).mono ?_
  rintro e w2 ⟨v2, rfl, own2, b2⟩
  clear d0 d1
  obtain ⟨x2, y2, rfl⟩ := row_slice own2
  obtain ⟨u0, u1, u2, ub, us⟩ := kept_three hD s0 s1 s2 sb hB ss b2
  have own1' := own1''.below b2
  have own2' := row_low own2 ss
  obtain ⟨d0, d1⟩ := cells_pair u0
  obtain ⟨e0, e1⟩ := cells_pair u2
  have fD := fun j => frozen_of_row w2 D j _ _ u2
  obtain ⟨t0, t1, t2, tb, ts⟩ := put_field (k := 1) (v := .slice x2 p.consts.length y2) (m' := #[.slice x1 p.funcs.length y1, .slice x2 p.consts.length y2]) hD u0 u1 u2 ub hB us rfl
  have o1 := own1'.set (a := ⟨D, 1, none⟩) (by show D < D + 1; omega) (.slice x2 p.consts.length y2)
  have o2 := ownsRow_setCell_below own2' (a := ⟨D, 1, none⟩) (by show D < D + 1; omega) (.slice x2 p.consts.length y2)
  clear s0 s1 s2 sb ss b2 own2 own2' own1' own1'' u0 u1 u2 ub us
  go_upto_region 4 with fail
  obtain ⟨V2, hV⟩ : ∃ W, w2.setCell ⟨D, 1, none⟩ (.slice x2 p.consts.length y2) = W := ⟨_, rfl⟩
  simp only [hV] at t0 t1 t2 tb ts o1 o2 ⊢
  clear hV d0 d1 e0 e1 fD
  obtain ⟨e0, e1⟩ := cells_pair t2
  obtain ⟨i0, i1⟩ := cells_pair t1
  have fG := fun j => frozen_of_row V2 (G + 1) j _ _ t1
  have z0 : (V2.setCell ⟨G + 1, 0, none⟩ (.slice x1 p.funcs.length y1)).heap[G + 1]? = some (.cells #[.slice x1 p.funcs.length y1, .slice none 0 0] 31) := heap_setCell_same _ _ _ _ _ _ t1
  have z1 : ((V2.setCell ⟨G + 1, 0, none⟩ (.slice x1 p.funcs.length y1)).setCell ⟨G + 1, 1, none⟩ (.slice x2 p.consts.length y2)).heap[G + 1]? = some (.cells #[.slice x1 p.funcs.length y1, .slice x2 p.consts.length y2] 31) := heap_setCell_same _ _ 1 _ _ _ z0
  obtain ⟨g0, g1⟩ := cells_pair z1
  have HT : Hid (Below w.heap.size w ((V2.setCell ⟨G + 1, 0, none⟩ (.slice x1 p.funcs.length y1)).setCell ⟨G + 1, 1, none⟩ (.slice x2 p.consts.length y2)) ∧ ImgIn ((V2.setCell ⟨G + 1, 0, none⟩ (.slice x1 p.funcs.length y1)).setCell ⟨G + 1, 1, none⟩ (.slice x2 p.consts.length y2)) w.heap.size (.slice x1 p.funcs.length y1) (.slice x2 p.consts.length y2) p) := by
    have q : ∀ (W : World) (j : Nat) (u : Value), Below w.heap.size w W → Below w.heap.size w (W.setCell ⟨G + 1, j, none⟩ u) := fun W j u h => h.setCell (p := ⟨G + 1, j, none⟩) (by show _ ≤ G + 1; omega) u
    refine ⟨q _ _ _ (q _ _ _ tb), ((o1.set (a := ⟨G + 1, 0, none⟩) (by show G + 1 < D + 1; omega) _).set (a := ⟨G + 1, 1, none⟩) (by show G + 1 < D + 1; omega) _).low (by omega), row_low (ownsRow_setCell_below (ownsRow_setCell_below o2 (a := ⟨G + 1, 0, none⟩) (by show G + 1 < D + 1; omega) _) (a := ⟨G + 1, 1, none⟩) (by show G + 1 < D + 1; omega) _) (by omega)⟩
  clear t0 t1 t2 z0 z1 tb o1 o2 cF cC
  go_wp2
  refine bodyPost_ret (by simp [results, Try.results8, go_sem, g0, g1]; try rfl) rfl ?_
  exact ⟨_, _, rfl, HT.out.2, HT.out.1⟩
end Go.Proofs.Ytbgdapdenbldmaa
namespace Go.Proofs.Ytbgdapdenbldmaa
open Go.RowKit Go.Sort
set_option linter.unusedVariables false
theorem made_two (w : World) (o1 o2 : Obj) : ((w.alloc o1).alloc o2).heap[w.heap.size]? = some o1 ∧ ((w.alloc o1).alloc o2).heap[w.heap.size + 1]? = some o2 ∧ ((w.alloc o1).alloc o2).heap.size = w.heap.size + 2 ∧ Below w.heap.size w ((w.alloc o1).alloc o2) := by
  have z1 : (w.alloc o1).heap.size = w.heap.size + 1 := by simp
  refine ⟨?_, ?_, by simp, ((Below.refl _ _).alloc (Nat.le_refl _) _).alloc (by simp) _⟩
  · rw [heap_alloc_old (r := w.heap.size) _ _ (by omega)]
    exact heap_alloc_new _ _
  · rw [← z1]
    exact heap_alloc_new _ _
set_option maxHeartbeats 400000 in
set_option maxRecDepth 100000 in
theorem eqIns_same (p : PIns) (w : World) :
    Calls Try.prog 120 #[.agg #[.int .i64 p.op, .int .i64 p.a, .int .i64 p.b], .agg #[.int .i64 p.op, .int .i64 p.a, .int .i64 p.b]] w fun e w' => e = .returned (.bool true) ∧ Below w.heap.size w w' := by
  go_enter Try.func120, Try.ntmps120
  go_wp2
  go_ret
  exact ⟨rfl, by go_grown⟩
set_option maxHeartbeats 4000000 in
set_option maxRecDepth 100000 in
theorem eqInsS_same (a b : Value) (l : List PIns) (w : World) (ha : ArgFlat w a 3 l.length (l.flatMap insC)) (hb : ArgFlat w b 3 l.length (l.flatMap insC)) :
    Calls Try.prog 86 #[a, b] w fun e w' => e = .returned (.bool true) ∧ Below w.heap.size w w' := by
  obtain ⟨xa, ca, rfl, hm, oa⟩ := ha.opened insC_len
  obtain ⟨xb, cb, rfl, _, ob⟩ := hb.opened insC_len
  clear ha hb
  unfold maxLen at hm
  obtain ⟨n, hn⟩ : ∃ n, l.length = n := ⟨_, rfl⟩
  have HN : Hid (l.length = n) := hn
  rw [hn] at hm oa ob ⊢
  clear hn
  have HA : Hid (0 < n → ∃ b o, xa = some ⟨b, o, none⟩ ∧ b < w.heap.size ∧ ∀ j p, l[j]? = some p → ∀ c u, (insC p)[c]? = some u → w.cell? ⟨b, o + j * 3 + c, none⟩ = some u) := oa
  have HB : Hid (0 < n → ∃ b o, xb = some ⟨b, o, none⟩ ∧ b < w.heap.size ∧ ∀ j p, l[j]? = some p → ∀ c u, (insC p)[c]? = some u → w.cell? ⟨b, o + j * 3 + c, none⟩ = some u) := ob
  clear oa ob
  go_enter Try.func86, Try.ntmps86
  go_wp2
  go_loopw [5] (fun i wr => ∃ k : Nat, k ≤ n ∧ i = .int .i64 k ∧ Below w.heap.size w wr) (fun i _ => n - (intOf i).toNat)
  case atStart => exact ⟨0, Nat.zero_le _, rfl, Below.refl _ _⟩
  case round =>
    obtain ⟨k, hk, rfl, hbel⟩ := hrel
    by_cases hlt : k < n
    · obtain ⟨ga, sa, rfl, hga, hca⟩ := HA.out (by omega)
      obtain ⟨gb, sb, rfl, hgb, hcb⟩ := HB.out (by omega)
      obtain ⟨p, hp⟩ : ∃ p, l[k]? = some p := ⟨_, List.getElem?_eq_getElem (by have := HN.out; omega)⟩
      have cQ := fun d os => Calls.regrown_of (w := wr) (d := d) (os := os) (eqIns_same p (grow (redrawn wr d) os))
      have c0' : wr.cell? ⟨ga, sa + k * 3, none⟩ = some (.int .i64 p.op) := (hbel.cell hga).trans (hca k p hp 0 _ rfl)
      have c1' : wr.cell? ⟨ga, sa + k * 3 + 1, none⟩ = some (.int .i64 p.a) := (hbel.cell hga).trans (hca k p hp 1 _ rfl)
      have c2' : wr.cell? ⟨ga, sa + k * 3 + 2, none⟩ = some (.int .i64 p.b) := (hbel.cell hga).trans (hca k p hp 2 _ rfl)
      have d0' : wr.cell? ⟨gb, sb + k * 3, none⟩ = some (.int .i64 p.op) := (hbel.cell hgb).trans (hcb k p hp 0 _ rfl)
      have d1' : wr.cell? ⟨gb, sb + k * 3 + 1, none⟩ = some (.int .i64 p.a) := (hbel.cell hgb).trans (hcb k p hp 1 _ rfl)
      have d2' : wr.cell? ⟨gb, sb + k * 3 + 2, none⟩ = some (.int .i64 p.b) := (hbel.cell hgb).trans (hcb k p hp 2 _ rfl)
      have c0 := cell_regrown c0'
      have c1 := cell_regrown c1'
      have c2 := cell_regrown c2'
      have d0 := cell_regrown d0'
      have d1 := cell_regrown d1'
      have d2 := cell_regrown d2'
      have hki : (k : Int) < (n : Int) := by omega
      have hk0 : (0 : Int) ≤ (k : Int) := by omega
      clear hca hcb hp HA HB c0' c1' c2' d0' d1' d2'
      go_wp2
      refine wp_region_quiet_below (by kernel_rfl) (by kernel_rfl) ?_
      repeat (first | go_big_quiet_step (exact cQ _ _) | quiet_step (exact cQ _ _))
      refine wpQuiet_nil ?_
      intro _ hw'
      obtain ⟨⟨dq, osq⟩, hw''⟩ := hw'
      subst hw''
      go_wp2
      go_roundw
      case rel => exact ⟨k + 1, by omega, by go_num, chain hbel (below_regrown wr dq osq)⟩
      case measure => simp [intOf]; omega
    · go_wp2
      go_ret
      exact ⟨rfl, hbel⟩
set_option maxHeartbeats 400000 in
set_option maxRecDepth 100000 in
theorem eqCap_same (p : PCap) (w : World) :
    Calls Try.prog 119 #[.agg #[.bool p.reg, .int .i64 p.index], .agg #[.bool p.reg, .int .i64 p.index]] w fun e w' => e = .returned (.bool true) ∧ Below w.heap.size w w' := by
  go_enter Try.func119, Try.ntmps119
  go_wp2
  go_ret
  exact ⟨rfl, by go_grown⟩
set_option maxHeartbeats 4000000 in
set_option maxRecDepth 100000 in
theorem eqCapS_same (a b : Value) (l : List PCap) (w : World) (ha : ArgFlat w a 2 l.length (l.flatMap capC)) (hb : ArgFlat w b 2 l.length (l.flatMap capC)) :
    Calls Try.prog 85 #[a, b] w fun e w' => e = .returned (.bool true) ∧ Below w.heap.size w w' := by
  obtain ⟨xa, ca, rfl, hm, oa⟩ := ha.opened capC_len
  obtain ⟨xb, cb, rfl, _, ob⟩ := hb.opened capC_len
  clear ha hb
  unfold maxLen at hm
  obtain ⟨n, hn⟩ : ∃ n, l.length = n := ⟨_, rfl⟩
  have HN : Hid (l.length = n) := hn
  rw [hn] at hm oa ob ⊢
  clear hn
  have HA : Hid (0 < n → ∃ b o, xa = some ⟨b, o, none⟩ ∧ b < w.heap.size ∧ ∀ j p, l[j]? = some p → ∀ c u, (capC p)[c]? = some u → w.cell? ⟨b, o + j * 2 + c, none⟩ = some u) := oa
  have HB : Hid (0 < n → ∃ b o, xb = some ⟨b, o, none⟩ ∧ b < w.heap.size ∧ ∀ j p, l[j]? = some p → ∀ c u, (capC p)[c]? = some u → w.cell? ⟨b, o + j * 2 + c, none⟩ = some u) := ob
  clear oa ob
  go_enter Try.func85, Try.ntmps85
  go_wp2
  go_loopw [5] (fun i wr => ∃ k : Nat, k ≤ n ∧ i = .int .i64 k ∧ Below w.heap.size w wr) (fun i _ => n - (intOf i).toNat)
  case atStart => exact ⟨0, Nat.zero_le _, rfl, Below.refl _ _⟩
  case round =>
    obtain ⟨k, hk, rfl, hbel⟩ := hrel
    by_cases hlt : k < n
    · obtain ⟨ga, sa, rfl, hga, hca⟩ := HA.out (by omega)
      obtain ⟨gb, sb, rfl, hgb, hcb⟩ := HB.out (by omega)
      obtain ⟨p, hp⟩ : ∃ p, l[k]? = some p := ⟨_, List.getElem?_eq_getElem (by have := HN.out; omega)⟩
      have cQ := fun d os => Calls.regrown_of (w := wr) (d := d) (os := os) (eqCap_same p (grow (redrawn wr d) os))
      have c0' : wr.cell? ⟨ga, sa + k * 2, none⟩ = some (.bool p.reg) := (hbel.cell hga).trans (hca k p hp 0 _ rfl)
      have c1' : wr.cell? ⟨ga, sa + k * 2 + 1, none⟩ = some (.int .i64 p.index) := (hbel.cell hga).trans (hca k p hp 1 _ rfl)
      have d0' : wr.cell? ⟨gb, sb + k * 2, none⟩ = some (.bool p.reg) := (hbel.cell hgb).trans (hcb k p hp 0 _ rfl)
      have d1' : wr.cell? ⟨gb, sb + k * 2 + 1, none⟩ = some (.int .i64 p.index) := (hbel.cell hgb).trans (hcb k p hp 1 _ rfl)
      have c0 := cell_regrown c0'
      have c1 := cell_regrown c1'
      have d0 := cell_regrown d0'
      have d1 := cell_regrown d1'
      have hki : (k : Int) < (n : Int) := by omega
      have hk0 : (0 : Int) ≤ (k : Int) := by omega
      clear hca hcb hp HA HB c0' c1' d0' d1'
      go_wp2
      refine wp_region_quiet_below (by kernel_rfl) (by kernel_rfl) ?_
      repeat (first | go_big_quiet_step (exact cQ _ _) | quiet_step (exact cQ _ _))
      refine wpQuiet_nil ?_
      intro _ hw'
      obtain ⟨⟨dq, osq⟩, hw''⟩ := hw'
      subst hw''
      go_wp2
      go_roundw
      case rel => exact ⟨k + 1, by omega, by go_num, chain hbel (below_regrown wr dq osq)⟩
      case measure => simp [intOf]; omega
    · go_wp2
      go_ret
      exact ⟨rfl, hbel⟩
set_option maxHeartbeats 400000 in
set_option maxRecDepth 100000 in
theorem eqHandler_same (p : PHnd) (w : World) :
    Calls Try.prog 121 #[.agg #[.int .i64 p.lo, .int .i64 p.hi, .int .i64 p.target], .agg #[.int .i64 p.lo, .int .i64 p.hi, .int .i64 p.target]] w fun e w' => e = .returned (.bool true) ∧ Below w.heap.size w w' := by
  go_enter Try.func121, Try.ntmps121
  go_wp2
  go_ret
  exact ⟨rfl, by go_grown⟩
set_option maxHeartbeats 4000000 in
set_option maxRecDepth 100000 in
theorem eqHandlerS_same (a b : Value) (l : List PHnd) (w : World) (ha : ArgFlat w a 3 l.length (l.flatMap hndC)) (hb : ArgFlat w b 3 l.length (l.flatMap hndC)) :
    Calls Try.prog 87 #[a, b] w fun e w' => e = .returned (.bool true) ∧ Below w.heap.size w w' := by
  obtain ⟨xa, ca, rfl, hm, oa⟩ := ha.opened hndC_len
  obtain ⟨xb, cb, rfl, _, ob⟩ := hb.opened hndC_len
  clear ha hb
  unfold maxLen at hm
  obtain ⟨n, hn⟩ : ∃ n, l.length = n := ⟨_, rfl⟩
  have HN : Hid (l.length = n) := hn
  rw [hn] at hm oa ob ⊢
  clear hn
  have HA : Hid (0 < n → ∃ b o, xa = some ⟨b, o, none⟩ ∧ b < w.heap.size ∧ ∀ j p, l[j]? = some p → ∀ c u, (hndC p)[c]? = some u → w.cell? ⟨b, o + j * 3 + c, none⟩ = some u) := oa
  have HB : Hid (0 < n → ∃ b o, xb = some ⟨b, o, none⟩ ∧ b < w.heap.size ∧ ∀ j p, l[j]? = some p → ∀ c u, (hndC p)[c]? = some u → w.cell? ⟨b, o + j * 3 + c, none⟩ = some u) := ob
  clear oa ob
  go_enter Try.func87, Try.ntmps87
  go_wp2
  go_loopw [5] (fun i wr => ∃ k : Nat, k ≤ n ∧ i = .int .i64 k ∧ Below w.heap.size w wr) (fun i _ => n - (intOf i).toNat)
  case atStart => exact ⟨0, Nat.zero_le _, rfl, Below.refl _ _⟩
  case round =>
    obtain ⟨k, hk, rfl, hbel⟩ := hrel
    by_cases hlt : k < n
    · obtain ⟨ga, sa, rfl, hga, hca⟩ := HA.out (by omega)
      obtain ⟨gb, sb, rfl, hgb, hcb⟩ := HB.out (by omega)
      obtain ⟨p, hp⟩ : ∃ p, l[k]? = some p := ⟨_, List.getElem?_eq_getElem (by have := HN.out; omega)⟩
      have cQ := fun d os => Calls.regrown_of (w := wr) (d := d) (os := os) (eqHandler_same p (grow (redrawn wr d) os))
      have c0' : wr.cell? ⟨ga, sa + k * 3, none⟩ = some (.int .i64 p.lo) := (hbel.cell hga).trans (hca k p hp 0 _ rfl)
      have c1' : wr.cell? ⟨ga, sa + k * 3 + 1, none⟩ = some (.int .i64 p.hi) := (hbel.cell hga).trans (hca k p hp 1 _ rfl)
      have c2' : wr.cell? ⟨ga, sa + k * 3 + 2, none⟩ = some (.int .i64 p.target) := (hbel.cell hga).trans (hca k p hp 2 _ rfl)
      have d0' : wr.cell? ⟨gb, sb + k * 3, none⟩ = some (.int .i64 p.lo) := (hbel.cell hgb).trans (hcb k p hp 0 _ rfl)
      have d1' : wr.cell? ⟨gb, sb + k * 3 + 1, none⟩ = some (.int .i64 p.hi) := (hbel.cell hgb).trans (hcb k p hp 1 _ rfl)
      have d2' : wr.cell? ⟨gb, sb + k * 3 + 2, none⟩ = some (.int .i64 p.target) := (hbel.cell hgb).trans (hcb k p hp 2 _ rfl)
      have c0 := cell_regrown c0'
      have c1 := cell_regrown c1'
      have c2 := cell_regrown c2'
      have d0 := cell_regrown d0'
      have d1 := cell_regrown d1'
      have d2 := cell_regrown d2'
      have hki : (k : Int) < (n : Int) := by omega
      have hk0 : (0 : Int) ≤ (k : Int) := by omega
      clear hca hcb hp HA HB c0' c1' c2' d0' d1' d2'
      go_wp2
      refine wp_region_quiet_below (by kernel_rfl) (by kernel_rfl) ?_
      repeat (first | go_big_quiet_step (exact cQ _ _) | quiet_step (exact cQ _ _))
      refine wpQuiet_nil ?_
      intro _ hw'
      obtain ⟨⟨dq, osq⟩, hw''⟩ := hw'
      subst hw''
      go_wp2
      go_roundw
      case rel => exact ⟨k + 1, by omega, by go_num, chain hbel (below_regrown wr dq osq)⟩
      case measure => simp [intOf]; omega
    · go_wp2
      go_ret
      exact ⟨rfl, hbel⟩
set_option maxHeartbeats 400000 in
set_option maxRecDepth 100000 in
theorem eqConst_same (p : PCon) (w : World) :
    Calls Try.prog 56 #[.agg #[.int .i64 p.kind, .int .u64 (p.num : Int), .string p.text], .agg #[.int .i64 p.kind, .int .u64 (p.num : Int), .string p.text]] w fun e w' => e = .returned (.bool true) ∧ Below w.heap.size w w' := by
  go_enter Try.func56, Try.ntmps56
  go_wp2
  go_ret
  exact ⟨rfl, by go_grown⟩
set_option maxHeartbeats 4000000 in
set_option maxRecDepth 100000 in
theorem eqConstS_same (a b : Value) (l : List PCon) (w : World) (ha : ArgFlat w a 3 l.length (l.flatMap conC)) (hb : ArgFlat w b 3 l.length (l.flatMap conC)) :
    Calls Try.prog 31 #[a, b] w fun e w' => e = .returned (.bool true) ∧ Below w.heap.size w w' := by
  obtain ⟨xa, ca, rfl, hm, oa⟩ := ha.opened conC_len
  obtain ⟨xb, cb, rfl, _, ob⟩ := hb.opened conC_len
  clear ha hb
  unfold maxLen at hm
  obtain ⟨n, hn⟩ : ∃ n, l.length = n := ⟨_, rfl⟩
  have HN : Hid (l.length = n) := hn
  rw [hn] at hm oa ob ⊢
  clear hn
  have HA : Hid (0 < n → ∃ b o, xa = some ⟨b, o, none⟩ ∧ b < w.heap.size ∧ ∀ j p, l[j]? = some p → ∀ c u, (conC p)[c]? = some u → w.cell? ⟨b, o + j * 3 + c, none⟩ = some u) := oa
  have HB : Hid (0 < n → ∃ b o, xb = some ⟨b, o, none⟩ ∧ b < w.heap.size ∧ ∀ j p, l[j]? = some p → ∀ c u, (conC p)[c]? = some u → w.cell? ⟨b, o + j * 3 + c, none⟩ = some u) := ob
  clear oa ob
  go_enter Try.func31, Try.ntmps31
  go_wp2
  go_loopw [5] (fun i wr => ∃ k : Nat, k ≤ n ∧ i = .int .i64 k ∧ Below w.heap.size w wr) (fun i _ => n - (intOf i).toNat)
  case atStart => exact ⟨0, Nat.zero_le _, rfl, Below.refl _ _⟩
  case round =>
    obtain ⟨k, hk, rfl, hbel⟩ := hrel
    by_cases hlt : k < n
    · obtain ⟨ga, sa, rfl, hga, hca⟩ := HA.out (by omega)
      obtain ⟨gb, sb, rfl, hgb, hcb⟩ := HB.out (by omega)
      obtain ⟨p, hp⟩ : ∃ p, l[k]? = some p := ⟨_, List.getElem?_eq_getElem (by have := HN.out; omega)⟩
      have cQ := fun d os => Calls.regrown_of (w := wr) (d := d) (os := os) (eqConst_same p (grow (redrawn wr d) os))
      have c0' : wr.cell? ⟨ga, sa + k * 3, none⟩ = some (.int .i64 p.kind) := (hbel.cell hga).trans (hca k p hp 0 _ rfl)
      have c1' : wr.cell? ⟨ga, sa + k * 3 + 1, none⟩ = some (.int .u64 (p.num : Int)) := (hbel.cell hga).trans (hca k p hp 1 _ rfl)
      have c2' : wr.cell? ⟨ga, sa + k * 3 + 2, none⟩ = some (.string p.text) := (hbel.cell hga).trans (hca k p hp 2 _ rfl)
      have d0' : wr.cell? ⟨gb, sb + k * 3, none⟩ = some (.int .i64 p.kind) := (hbel.cell hgb).trans (hcb k p hp 0 _ rfl)
      have d1' : wr.cell? ⟨gb, sb + k * 3 + 1, none⟩ = some (.int .u64 (p.num : Int)) := (hbel.cell hgb).trans (hcb k p hp 1 _ rfl)
      have d2' : wr.cell? ⟨gb, sb + k * 3 + 2, none⟩ = some (.string p.text) := (hbel.cell hgb).trans (hcb k p hp 2 _ rfl)
      have c0 := cell_regrown c0'
      have c1 := cell_regrown c1'
      have c2 := cell_regrown c2'
      have d0 := cell_regrown d0'
      have d1 := cell_regrown d1'
      have d2 := cell_regrown d2'
      have hki : (k : Int) < (n : Int) := by omega
      have hk0 : (0 : Int) ≤ (k : Int) := by omega
      clear hca hcb hp HA HB c0' c1' c2' d0' d1' d2'
      go_wp2
      refine wp_region_quiet_below (by kernel_rfl) (by kernel_rfl) ?_
      repeat (first | go_big_quiet_step (exact cQ _ _) | quiet_step (exact cQ _ _))
      refine wpQuiet_nil ?_
      intro _ hw'
      obtain ⟨⟨dq, osq⟩, hw''⟩ := hw'
      subst hw''
      go_wp2
      go_roundw
      case rel => exact ⟨k + 1, by omega, by go_num, chain hbel (below_regrown wr dq osq)⟩
      case measure => simp [intOf]; omega
    · go_wp2
      go_ret
      exact ⟨rfl, hbel⟩
set_option maxHeartbeats 1000000 in
set_option maxRecDepth 100000 in
theorem eqFunc_same (p : PFun) (c1 k1 h1 c2 k2 h2 : Value) (w : World) (a1 : ArgFlat w c1 2 p.caps.length (p.caps.flatMap capC)) (a2 : ArgFlat w k1 3 p.code.length (p.code.flatMap insC)) (a3 : ArgFlat w h1 3 p.hnds.length (p.hnds.flatMap hndC))
    (b1 : ArgFlat w c2 2 p.caps.length (p.caps.flatMap capC)) (b2 : ArgFlat w k2 3 p.code.length (p.code.flatMap insC)) (b3 : ArgFlat w h2 3 p.hnds.length (p.hnds.flatMap hndC)) :
    Calls Try.prog 55 #[.agg #[.int .i64 p.params, .int .i64 p.regs, c1, k1, h1], .agg #[.int .i64 p.params, .int .i64 p.regs, c2, k2, h2]] w fun e w' => e = .returned (.bool true) ∧ Below w.heap.size w w' := by
  have T := made_two w (.cells #[.int .i64 p.params, .int .i64 p.regs, c1, k1, h1] 70) (.cells #[.int .i64 p.params, .int .i64 p.regs, c2, k2, h2] 70)
  obtain ⟨W2, hW2⟩ : ∃ W, ((w.alloc (.cells #[.int .i64 p.params, .int .i64 p.regs, c1, k1, h1] 70)).alloc (.cells #[.int .i64 p.params, .int .i64 p.regs, c2, k2, h2] 70)) = W := ⟨_, rfl⟩
  rw [hW2] at T
  obtain ⟨t0, t1, tz, tb⟩ := T
  have cC := fun W (hb : Below w.heap.size w W) => eqCapS_same c1 c2 p.caps W (a1.below hb) (b1.below hb)
  have cK := fun W (hb : Below w.heap.size w W) => eqInsS_same k1 k2 p.code W (a2.below hb) (b2.below hb)
  have cH := fun W (hb : Below w.heap.size w W) => eqHandlerS_same h1 h2 p.hnds W (a3.below hb) (b3.below hb)
  clear a1 a2 a3 b1 b2 b3
  obtain ⟨G, hG⟩ : ∃ G, w.heap.size = G := ⟨_, rfl⟩
  rw [hG] at t0 t1 tz
  obtain ⟨e0, e1, e2, e3, e4⟩ := cells_five t0
  obtain ⟨f0, f1, f2, f3, f4⟩ := cells_five t1
  go_enter Try.func55, Try.ntmps55
  go_upto_region 1 with fail
  try simp only [hW2, hG]
  clear hW2
  go_wp2_with fail
  refine (cC W2 tb).mono ?_
  rintro e w3 ⟨rfl, b3⟩
  have x0 := (b3.block G (by omega)).trans t0
  have x1 := (b3.block (G + 1) (by omega)).trans t1
  have tb3 := tb.trans (b3.mono (by omega))
  have s3 := b3.size
  clear e0 e1 e2 e3 e4 f0 f1 f2 f3 f4 t0 t1 cC b3
  obtain ⟨e0, e1, e2, e3, e4⟩ := cells_five x0
  obtain ⟨f0, f1, f2, f3, f4⟩ := cells_five x1
  go_wp2_with fail
  refine (cK w3 tb3).mono ?_
  rintro e w4 ⟨rfl, b4⟩
  have y0 := (b4.block G (by omega)).trans x0
  have y1 := (b4.block (G + 1) (by omega)).trans x1
  have tb4 := tb3.trans (b4.mono (by omega))
  have s4 := b4.size
  clear e0 e1 e2 e3 e4 f0 f1 f2 f3 f4 x0 x1 cK b4 tb3
  obtain ⟨e0, e1, e2, e3, e4⟩ := cells_five y0
  obtain ⟨f0, f1, f2, f3, f4⟩ := cells_five y1
  go_wp2_with fail
  refine (cH w4 tb4).mono ?_
  rintro e w5 ⟨rfl, b5⟩
  have tb5 := tb4.trans (b5.mono (by omega))
  clear e0 e1 e2 e3 e4 f0 f1 f2 f3 f4 y0 y1 cH b5 tb4
  go_wp2
  go_ret
  exact ⟨rfl, tb5⟩
set_option maxHeartbeats 4000000 in
set_option maxRecDepth 100000 in
theorem eqFuncS_same (a b : Value) (l : List PFun) (w : World) (ha : ArgFuns w a l) (hb : ArgFuns w b l) :
    Calls Try.prog 30 #[a, b] w fun e w' => e = .returned (.bool true) ∧ Below w.heap.size w w' := by
  obtain ⟨xa, ca, rfl, hm, oa⟩ := ha
  obtain ⟨xb, cb, rfl, _, ob⟩ := hb
  unfold maxLen at hm
  obtain ⟨n, hn⟩ : ∃ n, l.length = n := ⟨_, rfl⟩
  have HN : Hid (l.length = n) := hn
  rw [hn] at hm oa ob ⊢
  clear hn
  have HA : Hid (0 < n → ∃ b o, xa = some ⟨b, o, none⟩ ∧ b < w.heap.size ∧ ∀ j p, l[j]? = some p → ∃ cv kv hv, FunAt w b (o + j * 5) p cv kv hv) := oa
  have HB : Hid (0 < n → ∃ b o, xb = some ⟨b, o, none⟩ ∧ b < w.heap.size ∧ ∀ j p, l[j]? = some p → ∃ cv kv hv, FunAt w b (o + j * 5) p cv kv hv) := ob
  clear oa ob
  go_enter Try.func30, Try.ntmps30
  go_wp2
  go_loopw [5] (fun i wr => ∃ k : Nat, k ≤ n ∧ i = .int .i64 k ∧ Below w.heap.size w wr) (fun i _ => n - (intOf i).toNat)
  case atStart => exact ⟨0, Nat.zero_le _, rfl, Below.refl _ _⟩
  case round =>
    obtain ⟨k, hk, rfl, hbel⟩ := hrel
    by_cases hlt : k < n
    · obtain ⟨ga, sa, rfl, _, hca⟩ := HA.out (by omega)
      obtain ⟨gb, sb, rfl, _, hcb⟩ := HB.out (by omega)
      obtain ⟨p, hp⟩ : ∃ p, l[k]? = some p := ⟨_, List.getElem?_eq_getElem (by have := HN.out; omega)⟩
      obtain ⟨c1, k1, h1, hA⟩ := hca k p hp
      obtain ⟨c2, k2, h2, hB⟩ := hcb k p hp
      have hA' := hA.below hbel
      have hB' := hB.below hbel
      have cQ := fun d os => Calls.regrown_of (w := wr) (d := d) (os := os) (eqFunc_same p c1 k1 h1 c2 k2 h2 (grow (redrawn wr d) os) (hA'.below (below_regrown wr d os)).caps (hA'.below (below_regrown wr d os)).code (hA'.below (below_regrown wr d os)).hnds (hB'.below (below_regrown wr d os)).caps (hB'.below (below_regrown wr d os)).code (hB'.below (below_regrown wr d os)).hnds)
      have c0 := cell_regrown hA'.c0
      have c1' := cell_regrown hA'.c1
      have c2' := cell_regrown hA'.c2
      have c3 := cell_regrown hA'.c3
      have c4 := cell_regrown hA'.c4
      have d0 := cell_regrown hB'.c0
      have d1 := cell_regrown hB'.c1
      have d2 := cell_regrown hB'.c2
      have d3 := cell_regrown hB'.c3
      have d4 := cell_regrown hB'.c4
      have hki : (k : Int) < (n : Int) := by omega
      have hk0 : (0 : Int) ≤ (k : Int) := by omega
      clear hca hcb hp hA hB hA' hB' HA HB
      go_wp2
      refine wp_region_quiet_below (by kernel_rfl) (by kernel_rfl) ?_
      repeat (first | go_big_quiet_step (exact cQ _ _) | quiet_step (exact cQ _ _))
      refine wpQuiet_nil ?_
      intro _ hw'
      obtain ⟨⟨dq, osq⟩, hw''⟩ := hw'
      subst hw''
      go_wp2
      go_roundw
      case rel => exact ⟨k + 1, by omega, by go_num, chain hbel (below_regrown wr dq osq)⟩
      case measure => simp [intOf]; omega
    · go_wp2
      go_ret
      exact ⟨rfl, hbel⟩
set_option maxHeartbeats 1000000 in
set_option maxRecDepth 100000 in
theorem eqImage_same (p : PImg) (f1 c1 f2 c2 : Value) (w : World) (ha : ArgImg w f1 c1 p) (hb : ArgImg w f2 c2 p) :
    Calls Try.prog 10 #[.agg #[f1, c1], .agg #[f2, c2]] w fun e w' => e = .returned (.bool true) ∧ Below w.heap.size w w' := by
  have T := made_two w (.cells #[f1, c1] 31) (.cells #[f2, c2] 31)
  obtain ⟨W2, hW2⟩ : ∃ W, ((w.alloc (.cells #[f1, c1] 31)).alloc (.cells #[f2, c2] 31)) = W := ⟨_, rfl⟩
  rw [hW2] at T
  obtain ⟨t0, t1, tz, tb⟩ := T
  have cF := fun W (hb' : Below w.heap.size w W) => eqFuncS_same f1 f2 p.funcs W (ha.1.below hb') (hb.1.below hb')
  have cC := fun W (hb' : Below w.heap.size w W) => eqConstS_same c1 c2 p.consts W (ha.2.below hb') (hb.2.below hb')
  clear ha hb
  obtain ⟨G, hG⟩ : ∃ G, w.heap.size = G := ⟨_, rfl⟩
  rw [hG] at t0 t1 tz
  obtain ⟨e0, e1⟩ := cells_pair t0
  obtain ⟨d0, d1⟩ := cells_pair t1
  go_enter Try.func10, Try.ntmps10
  go_upto_region 1 with fail
  try simp only [hW2, hG]
  clear hW2
  go_wp2_with fail
  refine (cF W2 tb).mono ?_
  rintro e w3 ⟨rfl, b3⟩
  have x0 := (b3.block G (by omega)).trans t0
  have x1 := (b3.block (G + 1) (by omega)).trans t1
  have tb3 := tb.trans (b3.mono (by omega))
  clear e0 e1 d0 d1 t0 t1 cF b3
  obtain ⟨e0, e1⟩ := cells_pair x0
  obtain ⟨d0, d1⟩ := cells_pair x1
  go_wp2_with fail
  refine (cC w3 tb3).mono ?_
  rintro e w4 ⟨rfl, b4⟩
  have tb4 := tb3.trans (b4.mono (by have := tb3.size; omega))
  clear e0 e1 d0 d1 x0 x1 cC
  go_wp2
  go_ret
  exact ⟨rfl, tb4⟩
end Go.Proofs.Ytbgdapdenbldmaa
namespace Go.Proofs.Ytbgdapdenbldmaa
open Go.RowKit Go.Sort
set_option linter.unusedVariables false
def intC (x : Int) : List Value := [.int .i64 x]
theorem intC_len (x : Int) : (intC x).length = 1 := rfl
def ArgI (w : World) (v : Value) (l : List Int) : Prop := ArgFlat w v 1 l.length (l.flatMap intC)
theorem ArgI.below {w w' : World} {v : Value} {l : List Int} (h : ArgI w v l) (hb : Below w.heap.size w w') : ArgI w' v l := ArgFlat.below h hb
def OwnI (w : World) (B : Nat) (v : Value) (l : List Int) : Prop := w.ownsRow B 3 1 v l.length (l.flatMap intC)
theorem OwnI.below {w w' : World} {B : Nat} {v : Value} {l : List Int} (h : OwnI w B v l) (hb : Below w.heap.size w w') : OwnI w' B v l := row_keep h hb
theorem OwnI.arg {w : World} {B : Nat} {v : Value} {l : List Int} (h : OwnI w B v l) : ArgI w v l := ArgFlat.of_own h
theorem Try.info13I : (Try.prog.info? 3).map (fun i => (i.zero, i.size, i.bytes)) = some (some (.int .i64 0), 1, 8) := by kernel_rfl
theorem int_at {l : List Int} {j : Nat} {z : Int} (h : l[j]? = some z) : (l.flatMap intC)[j]? = some (.int .i64 z) := by
  have := flat_at intC_len l j 0 z _ h rfl
  rwa [Nat.mul_one, Nat.add_zero] at this
theorem ints_is {l : List Int} {xs : List Value} (hl : xs.length = l.length) (h : ∀ (j : Nat) (z : Int), l[j]? = some z → xs[j]? = some (.int .i64 z)) : xs = l.flatMap intC :=
  flat_ext intC_len (by decide) l xs (by omega) (fun j p c u hp hu => by
    have hc : c < 1 := (List.getElem?_eq_some_iff.1 hu).1
    have e : c = 0 := by omega
    subst e
    simp [intC] at hu
    subst hu
    rw [Nat.mul_one, Nat.add_zero]
    exact h j p hp)
theorem ArgI.opened {w : World} {v : Value} {l : List Int} (h : ArgI w v l) : ∃ x c, v = .slice x l.length c ∧ l.length ≤ maxLen ∧ (0 < l.length → ∃ b o, x = some ⟨b, o, none⟩ ∧ b < w.heap.size ∧ ∀ (j : Nat) (z : Int), l[j]? = some z → w.cell? ⟨b, o + j, none⟩ = some (.int .i64 z)) := by
  obtain ⟨x, c, e, hm, hl, hc⟩ := h
  refine ⟨x, c, e, hm, fun h0 => ?_⟩
  obtain ⟨b, o, e1, h1, h2⟩ := hc h0
  exact ⟨b, o, e1, h1, fun j z hz => h2 j _ (int_at hz)⟩
theorem OwnI.opened {w : World} {B : Nat} {v : Value} {l : List Int} (h : OwnI w B v l) : ∃ x c, v = .slice x l.length c ∧ l.length ≤ maxLen ∧ (0 < l.length → ∃ g, x = some ⟨g, 0, none⟩) := by
  obtain ⟨_, ⟨rfl, h0⟩ | ⟨g, cap, cur, rfl, _, _, hnc, hc, _⟩⟩ := h
  · exact ⟨none, 0, by rw [h0], by rw [h0]; exact Nat.zero_le _, fun h => by omega⟩
  · exact ⟨_, _, rfl, Nat.le_trans hnc hc, fun _ => ⟨g, rfl⟩⟩
end Go.Proofs.Ytbgdapdenbldmaa
namespace Go.Proofs.Ytbgdapdenbldmaa
open Go.RowKit Go.ChangeShapes Go.WideShapes
set_option linter.unusedVariables false
structure PSta where
  acc : Int
  regs : List Int
theorem two_cells_of {w : World} {g : Nat} {a b : Value} {t : TypeId} {r : Nat × Nat} (h : w.heap[g]? = some (.cells #[a, b] t r)) : w.cell? ⟨g, 0, none⟩ = some a ∧ w.cell? ⟨g, 1, none⟩ = some b := by
  refine ⟨?_, ?_⟩ <;> (rw [cell_of_row _ _ _ _ _ _ h]; rfl)
def joinAt (l m : List Int) (i : Nat) : Int := match l[i]?, m[i]? with
  | some x, some y => if x = y then x else 0
  | _, _ => 0
def joinL (l m : List Int) : List Int := (List.range (max l.length m.length)).map (joinAt l m)
def joinS (a b : PSta) : PSta := ⟨if a.acc = b.acc then a.acc else 0, joinL a.regs b.regs⟩
end Go.Proofs.Ytbgdapdenbldmaa
