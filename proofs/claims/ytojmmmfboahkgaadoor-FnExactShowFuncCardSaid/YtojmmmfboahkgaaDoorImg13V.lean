/-
  The law's own helpers that copy the functions of an image, and an image.
-/
import Derived.Test.YtojmmmfboahkgaaDoorImg13U
namespace Go.Proofs.YtojmmmfboahkgaaDoor
open Go.RowKit
set_option linter.unusedVariables false

theorem Tryd.infoFunc13 : (Tryd.prog.info? 54).map (fun i => (i.zero, i.size, i.bytes)) = some (some (.agg #[.int .i64 0, .int .i64 0, .slice none 0 0, .slice none 0 0, .slice none 0 0]), 5, 88) := by kernel_rfl
theorem made_Func (w : World) (n : Nat) (hn : n ≤ 1048576) : ∃ W1 : World, (Instr.makeSlice 34 (.int .i64 (n : Int)) (.int .i64 (n : Int))).run Tryd.prog w = .ok (.slice (some ⟨w.heap.size, 0, none⟩) n n) W1 ∧
    (∃ xs, W1.ownsRow w.heap.size 54 5 (.slice (some ⟨w.heap.size, 0, none⟩) n n) n xs) ∧ Below w.heap.size w W1 := by
  obtain ⟨i0, hi, hz0, hz1, hz2⟩ := info_in Tryd.infoFunc13
  obtain ⟨W, h1, h2, h3⟩ := run_make_full (P := Tryd.prog) w w.heap.size 34 54 i0 _ 5 Tryd.underlying34 hi hz0 hz1 .i64 .i64 n (by rw [hz2]; omega) (by unfold maxLen; omega) (Nat.le_refl _)
  exact ⟨W, h1, ⟨_, h2⟩, ⟨h3.os, h3.tape, h3.output, h3.size, fun k hk => h3.block k hk (by simp)⟩⟩

/-- a function's cells stand in a row of cells, its rows are of one's own -/
def FunIn (w : World) (B : Nat) (xs : List Value) (q : Nat) (p : PFun) : Prop := ∃ cv kv hv, (∀ c u, (funC p cv kv hv)[c]? = some u → xs[q * 5 + c]? = some u) ∧ w.ownsRow B 94 2 cv p.caps.length (p.caps.flatMap capC) ∧ w.ownsRow B 25 3 kv p.code.length (p.code.flatMap insC) ∧ w.ownsRow B 96 3 hv p.hnds.length (p.hnds.flatMap hndC)
def FunsIn (w : World) (B : Nat) (v : Value) (l : List PFun) : Prop := ∃ xs, w.ownsRow B 54 5 v l.length xs ∧ ∀ q p, l[q]? = some p → FunIn w B xs q p
theorem FunIn.below {w w' : World} {B : Nat} {xs : List Value} {q : Nat} {p : PFun} (h : FunIn w B xs q p) (hb : Below w.heap.size w w') : FunIn w' B xs q p := by
  obtain ⟨cv, kv, hv, h1, h2, h3, h4⟩ := h
  exact ⟨cv, kv, hv, h1, row_keep h2 hb, row_keep h3 hb, row_keep h4 hb⟩
theorem FunsIn.below {w w' : World} {B : Nat} {v : Value} {l : List PFun} (h : FunsIn w B v l) (hb : Below w.heap.size w w') : FunsIn w' B v l := by
  obtain ⟨xs, h1, h2⟩ := h
  exact ⟨xs, row_keep h1 hb, fun q p hq => (h2 q p hq).below hb⟩
theorem FunsIn.arg {w : World} {B : Nat} {v : Value} {l : List PFun} (h : FunsIn w B v l) : ArgFuns w v l := by
  obtain ⟨xs, h1, h2⟩ := h
  obtain ⟨x, c, e, hm, hl, hc⟩ := ArgFlat.of_own h1
  refine ⟨x, c, e, hm, fun h0 => ?_⟩
  obtain ⟨b, o, e1, hb, hcell⟩ := hc h0
  refine ⟨b, o, e1, hb, fun j p hj => ?_⟩
  obtain ⟨cv, kv, hv, k1, k2, k3, k4⟩ := h2 j p hj
  have k : ∀ c u, (funC p cv kv hv)[c]? = some u → w.cell? ⟨b, o + j * 5 + c, none⟩ = some u := fun c u hu => by
    rw [Nat.add_assoc]
    exact hcell _ _ (k1 c u hu)
  exact ⟨cv, kv, hv, ArgFlat.of_own k2, ArgFlat.of_own k3, ArgFlat.of_own k4, k 0 _ rfl, k 1 _ rfl, k 2 _ rfl, k 3 _ rfl, k 4 _ rfl⟩

set_option maxHeartbeats 1000000 in
set_option maxRecDepth 100000 in
theorem toFuncS_any (v : Value) (l : List PFun) (w : World) (hv : ArgFuns w v l) (hfew : l.length ≤ 1048576) (hl : ∀ p ∈ l, p.caps.length ≤ 1048576 ∧ p.code.length ≤ 1048576 ∧ p.hnds.length ≤ 1048576) :
    Calls Tryd.prog 20 #[v] w fun e w' => ∃ v', e = .returned v' ∧ FunsIn w' w.heap.size v' l ∧ Below w.heap.size w w' := by
  obtain ⟨x, c, rfl, hm, hc⟩ := hv
  obtain ⟨n, hn⟩ : ∃ n, l.length = n := ⟨_, rfl⟩
  have HN : Hid (l.length = n) := hn
  have HE : Hid (∀ (W : World) (v' : Value) (xs : List Value), W.ownsRow w.heap.size 54 5 v' n xs → (∀ q p, q < n → l[q]? = some p → FunIn W w.heap.size xs q p) → FunsIn W w.heap.size v' l) := fun W v' xs h1 h2 => by
    refine ⟨xs, by rw [hn]; exact h1, fun q p hq => h2 q p ?_ hq⟩
    rw [← hn]
    exact (List.getElem?_eq_some_iff.1 hq).1
  rw [hn] at hm hc hfew ⊢
  clear hn
  unfold maxLen at hm
  obtain ⟨W1, hmk, ⟨xs0, hrow⟩, hbel⟩ := made_Func w n hfew
  have hW1 : w.heap.size + 1 ≤ W1.heap.size := by
    have := (hrow.lt w.heap.size rfl).2
    omega
  obtain ⟨g, hg⟩ : ∃ g, w.heap.size = g := ⟨_, rfl⟩
  have hge : w.heap.size ≤ g := by omega
  rw [hg] at hmk hW1
  have HR : Hid (W1.ownsRow w.heap.size 54 5 (.slice (some ⟨g, 0, none⟩) n n) n xs0) := by rw [hg]; rw [hg] at hrow; exact hrow
  have HG : Hid (w.heap.size = g) := hg
  have HC : Hid (0 < n → ∃ b o, x = some ⟨b, o, none⟩ ∧ b < w.heap.size ∧ ∀ j p, l[j]? = some p → ∃ cv kv hv, FunAt w b (o + j * 5) p cv kv hv) := hc
  have HL : Hid (∀ p ∈ l, p.caps.length ≤ 1048576 ∧ p.code.length ≤ 1048576 ∧ p.hnds.length ≤ 1048576) := hl
  clear hrow hg hc hl
  go_enter Tryd.func20, Tryd.ntmps20
  go_wp2
  clear hmk
  go_loopw [4] (fun i wr => ∃ (k : Nat) (xs : List Value), i = .int .i64 k ∧ k ≤ n ∧ Hid (wr.ownsRow w.heap.size 54 5 (.slice (some ⟨g, 0, none⟩) n n) n xs) ∧ Below w.heap.size w wr ∧ g + 1 ≤ wr.heap.size ∧ Hid (∀ q p, q < k → l[q]? = some p → FunIn wr (g + 1) xs q p)) (fun i _ => n - (intOf i).toNat)
  case atStart => exact ⟨0, xs0, rfl, Nat.zero_le _, HR, hbel, hW1, fun q p hq => absurd hq (Nat.not_lt_zero _)⟩
  case round =>
    clear HR hbel hW1
    obtain ⟨k, xs, rfl, hk, HO, hbw, hgw, HQ⟩ := hrel
    by_cases hkn : k < n
    · obtain ⟨b, o, rfl, _, hcell⟩ := HC.out (by omega)
      obtain ⟨p, hp⟩ : ∃ p, l[k]? = some p := ⟨_, List.getElem?_eq_getElem (by have := HN.out; omega)⟩
      obtain ⟨cv, kv, hv, hA⟩ := hcell k p hp
      have hA' := hA.below hbw
      have c0 := hA'.c0
      have c1 := hA'.c1
      have c2 := hA'.c2
      have c3 := hA'.c3
      have c4 := hA'.c4
      have cN := toFunc_any p cv kv hv wr hA'.caps hA'.code hA'.hnds (HL.out p (List.mem_iff_getElem?.2 ⟨_, hp⟩))
      have HP : Hid (l[k]? = some p) := hp
      clear hA hA' hcell HC hp
      have hki : (k : Int) < (n : Int) := by omega
      have hk0 : (0 : Int) ≤ (k : Int) := by omega
      go_wp2_with fail
      refine cN.mono ?_
      rintro e w1 ⟨cv1, kv1, hv1, rfl, own1, own2, own3, b1⟩
      obtain ⟨xa, xc, rfl⟩ := row_slice own1
      obtain ⟨ya, yc, rfl⟩ := row_slice own2
      obtain ⟨za, zc, rfl⟩ := row_slice own3
      have HO1 : Hid (w1.ownsRow w.heap.size 54 5 (.slice (some ⟨g, 0, none⟩) n n) n xs) := row_keep HO.out b1
      obtain ⟨⟨u0, o0⟩, f0⟩ := row_cell HO1.out (k * 5) (by omega)
      obtain ⟨⟨u1, o1⟩, f1⟩ := row_cell HO1.out (k * 5 + 1) (by omega)
      obtain ⟨⟨u2, o2⟩, f2⟩ := row_cell HO1.out (k * 5 + 2) (by omega)
      obtain ⟨⟨u3, o3⟩, f3⟩ := row_cell HO1.out (k * 5 + 3) (by omega)
      obtain ⟨⟨u4, o4⟩, f4⟩ := row_cell HO1.out (k * 5 + 4) (by omega)
      have HW : Hid ((layW w1 g (k * 5) (funC p (.slice xa p.caps.length xc) (.slice ya p.code.length yc) (.slice za p.hnds.length zc))).ownsRow w.heap.size 54 5 (.slice (some ⟨g, 0, none⟩) n n) n (layL xs (k * 5) (funC p (.slice xa p.caps.length xc) (.slice ya p.code.length yc) (.slice za p.hnds.length zc)))
          ∧ Below w.heap.size w (layW w1 g (k * 5) (funC p (.slice xa p.caps.length xc) (.slice ya p.code.length yc) (.slice za p.hnds.length zc)))
          ∧ g + 1 ≤ (layW w1 g (k * 5) (funC p (.slice xa p.caps.length xc) (.slice ya p.code.length yc) (.slice za p.hnds.length zc))).heap.size
          ∧ ∀ q p', q < k + 1 → l[q]? = some p' → FunIn (layW w1 g (k * 5) (funC p (.slice xa p.caps.length xc) (.slice ya p.code.length yc) (.slice za p.hnds.length zc))) (g + 1) (layL xs (k * 5) (funC p (.slice xa p.caps.length xc) (.slice ya p.code.length yc) (.slice za p.hnds.length zc))) q p') := by
        have hb1 := b1.size
        have hxl : xs.length = n * 5 := HO.out.1
        refine ⟨layW_own _ _ _ _ HO1.out, layW_below hge _ _ _ (chain hbw b1), by rw [layW_size]; omega, fun q p' hq hp' => ?_⟩
        rcases Nat.lt_or_ge q k with h' | h'
        · obtain ⟨cv2, kv2, hv2, h1, h2, h3, h4⟩ := (HQ.out q p' h' hp').below b1
          refine ⟨cv2, kv2, hv2, fun c u hu => ?_, layW_row (Nat.lt_succ_self g) _ _ _ h2, layW_row (Nat.lt_succ_self g) _ _ _ h3, layW_row (Nat.lt_succ_self g) _ _ _ h4⟩
          have hc8 : c < 5 := (List.getElem?_eq_some_iff.1 hu).1
          rw [layL_other _ _ _ _ (by left; omega)]
          exact h1 c u hu
        · have e : q = k := by omega
          subst e
          have e2 := HP.out
          rw [hp'] at e2
          injection e2 with e2
          subst e2
          exact ⟨_, _, _, fun c u hu => layL_here _ _ _ _ _ hu (by rw [hxl]; show q * 5 + 5 ≤ _; omega), layW_row (Nat.lt_succ_self g) _ _ _ (row_low own1 (by omega)), layW_row (Nat.lt_succ_self g) _ _ _ (row_low own2 (by omega)), layW_row (Nat.lt_succ_self g) _ _ _ (row_low own3 (by omega))⟩
      clear HO HQ HO1 own1 own2 own3 b1 cN HE HP
      go_wp2
      go_roundw
      case rel => exact ⟨k + 1, _, by go_num, by omega, HW.out.1, HW.out.2.1, HW.out.2.2.1, HW.out.2.2.2⟩
      case measure => simp [intOf]; omega
    · have hkn' : k = n := by omega
      subst hkn'
      have hE := HE.out wr _ xs HO.out (fun q p hq hp => by
        obtain ⟨cv, kv, hv, h1, h2, h3, h4⟩ := HQ.out q p hq hp
        exact ⟨cv, kv, hv, h1, row_low h2 (by have := HG.out; omega), row_low h3 (by have := HG.out; omega), row_low h4 (by have := HG.out; omega)⟩)
      clear HE
      go_wp2
      go_ret
      exact ⟨_, rfl, hE, hbw⟩

end Go.Proofs.YtojmmmfboahkgaaDoor
