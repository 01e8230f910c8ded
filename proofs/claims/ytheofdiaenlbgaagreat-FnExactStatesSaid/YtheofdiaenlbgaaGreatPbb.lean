/-
  Part 28 of what is proved of drawn right trees.
-/
import Derived.Test.YtheofdiaenlbgaaGreatPax
import Derived.Test.YtheofdiaenlbgaaGreatPba

namespace Go.Proofs.YtheofdiaenlbgaaGreat
open Go.RowKit Go.Sort
set_option linter.unusedVariables false
set_option linter.unusedSimpArgs false
theorem OwnSt.frame {w w' : World} {B : Nat} {v : Value} {l : List PSta} (h : OwnSt w B v l) (hf : ∀ (X : Nat) (cs : Array Value) (T : TypeId) (fr : Nat × Nat), T ≠ 61 → T ≠ 117 → T ≠ 89 → T ≠ 92 → T ≠ 85 → w.heap[X]? = some (.cells cs T fr) → w'.heap[X]? = some (.cells cs T fr)) : OwnSt w' B v l := by
  rcases h with h | ⟨g, rv, st, e, hB, hS, hl, hs⟩
  · exact .inl h
  · obtain ⟨cur, h1, h2, h3⟩ := hS.row
    refine .inr ⟨g, rv, st, e, hB, ⟨⟨cur, hf g cur _ _ (by decide) (by decide) (by decide) (by decide) (by decide) h1, h2, h3⟩, fun q hq => ?_, hS.apart⟩, hl, hs⟩
    obtain ⟨k1, k2⟩ := hS.regs q hq
    refine ⟨k1, ?_⟩
    rcases k2 with k2 | ⟨g2, cap, cur2, e2, hb2, hg2, rest⟩
    · exact .inl k2
    · exact .inr ⟨g2, cap, cur2, e2, hb2, hf g2 cur2 _ _ (by decide) (by decide) (by decide) (by decide) (by decide) hg2, rest⟩
theorem OwnBo.frame {w w' : World} {B : Nat} {v : Value} {l : List Bool} (h : OwnBo w B v l) (hf : ∀ (X : Nat) (cs : Array Value) (T : TypeId) (fr : Nat × Nat), T ≠ 61 → T ≠ 117 → T ≠ 89 → T ≠ 92 → T ≠ 85 → w.heap[X]? = some (.cells cs T fr) → w'.heap[X]? = some (.cells cs T fr)) : OwnBo w' B v l := by
  obtain ⟨k1, k2⟩ := h
  refine ⟨k1, ?_⟩
  rcases k2 with k2 | ⟨g2, cap, cur2, e2, hb2, hg2, rest⟩
  · exact .inl k2
  · exact .inr ⟨g2, cap, cur2, e2, hb2, hf g2 cur2 _ _ (by decide) (by decide) (by decide) (by decide) (by decide) hg2, rest⟩
theorem OwnSt.bools {w w' : World} {B B' : Nat} {u v : Value} {l : List PSta} {b : List Bool} (h : OwnSt w B v l) (hu : OwnBo w B' u b) (hg : w.grownBy w' u.ownBlock) : OwnSt w' B v l := by
  rcases h with h | ⟨g, rv, st, e, hB, hS, hl, hs⟩
  · exact .inl h
  · obtain ⟨cur, h1, h2, h3⟩ := hS.row
    have hn : ∀ (X : Nat) (cs : Array Value) (T : TypeId), T ≠ 4 → w.heap[X]? = some (.cells cs T (0, 0)) → w'.heap[X]? = some (.cells cs T (0, 0)) := fun X cs T hT hX => (hg.block X (lt16 hX) (fun e => row_ne_type hu hX hT e.symm)).trans hX
    refine .inr ⟨g, rv, st, e, hB, ⟨⟨cur, hn g _ _ (by decide) h1, h2, h3⟩, fun q hq => ?_, hS.apart⟩, hl, hs⟩
    obtain ⟨k1, k2⟩ := hS.regs q hq
    refine ⟨k1, ?_⟩
    rcases k2 with k2 | ⟨g2, cap, cur2, e2, hb2, hg2, rest⟩
    · exact .inl k2
    · exact .inr ⟨g2, cap, cur2, e2, hb2, hn g2 _ _ (by decide) hg2, rest⟩
set_option maxHeartbeats 8000000 in
set_option maxRecDepth 100000 in
theorem fnExactStates_walk (fv cv : Value) (p : PImg) (fk : Int) (w : World) (hi : ArgImg w fv cv p) (hiw : imgW p) :
    Calls Tryz.prog 3 #[.agg #[fv, cv], .int .i64 fk] w fun e w' => e = .returned (.bool true) ∧ Below w.heap.size w w' := by
  have HI : Hid (∀ W, Below w.heap.size w W → ArgImg W fv cv p) := fun W hW => hi.below hW
  have HIW : Hid (imgW p) := hiw
  clear hi hiw
  have bX : Below w.heap.size w (w.alloc (.cells #[fv, cv] 25)) := (Below.refl _ _).alloc (Nat.le_refl _) _
  have z0 := heap_alloc_new w (.cells #[fv, cv] 25)
  obtain ⟨W0, hW0⟩ : ∃ W, w.alloc (.cells #[fv, cv] 25) = W := ⟨_, rfl⟩
  rw [hW0] at bX z0
  have HW0 : Hid (_ = W0) := hW0
  clear hW0
  obtain ⟨G, hG⟩ : ∃ G, w.heap.size = G := ⟨_, rfl⟩
  rw [hG] at z0
  have HK : Hid (∀ W, Below W0.heap.size W0 W → W.cell? ⟨G, 0, none⟩ = some fv ∧ W.cell? ⟨G, 1, none⟩ = some cv) := fun W hW => two_cells_of ((hW.block G (lt16 z0)).trans z0)
  have cZA := szImage_tot fv cv p 1048576 W0 (HI.out W0 bX) HIW.out (by omega) (by omega)
  go_enter Tryz.func3, Tryz.ntmps3
  go_upto_region 1 with fail
  rw [HW0.out]
  clear HW0
  try simp only [hG]
  obtain ⟨p0, p1⟩ := HK.out W0 (Below.refl _ _)
  go_wp2_with fail
  refine cZA.mono ?_
  rintro e w1 ⟨r, rfl, hr, b1⟩
  rcases hr with rfl | ⟨r0, r1, r2, r3⟩
  · clear cZA
    go_wp2
    go_ret
    exact ⟨rfl, chain bX b1⟩
  have hneg : ¬ r < 0 := by omega
  have HF : Hid (imgFew p 1048576 ∧ (p.funcs.length : Int) + (funsTot p.funcs p.funcs.length : Int) ≤ 1048576) := ⟨r2, r3⟩
  clear p0 p1 r2 r3 cZA
  obtain ⟨NF, eNF⟩ : ∃ k, p.funcs.length = k := ⟨_, rfl⟩
  obtain ⟨NC, eNC⟩ : ∃ k, p.consts.length = k := ⟨_, rfl⟩
  have HN : Hid (p.funcs.length = NF ∧ p.consts.length = NC) := ⟨eNF, eNC⟩
  clear eNF eNC
  obtain ⟨SB, eSB⟩ : ∃ x, stB p fk = x := ⟨_, rfl⟩
  have HSB : Hid (stB p fk = SB) := eSB
  clear eSB
  have hsn : (SB != SB) = false := by simp
  have hss : (!(SB == SB)) = false := by simp
  have B1 : Below w.heap.size w w1 := chain bX b1
  have cTI := fun W (hW : Below w1.heap.size w1 W) => (toImage_own fv cv p W (HI.out W (chain B1 hW)) HF.out.1).mono (fun e w' (hh : ∃ f d, e = .returned (.agg #[f, d]) ∧ (∃ fs, ImgOwn w' W.heap.size f d p fs) ∧ Below W.heap.size W w') => show ∃ (fx : Option Addr) (fc : Nat) (cx : Option Addr) (cc : Nat) (fs : List FSh), e = .returned (.agg #[.slice fx NF fc, .slice cx NC cc]) ∧ ImgOwn w' W.heap.size (.slice fx NF fc) (.slice cx NC cc) p fs ∧ Below W.heap.size W w' by
    obtain ⟨f, d, e1, ⟨fs, e2⟩, e3⟩ := hh
    obtain ⟨cx, cc, rfl⟩ := row_slice e2.2.2.1
    have e4 := e2
    obtain ⟨_, _, _, xs, h4, _⟩ := e4
    obtain ⟨fx, fc, rfl⟩ := row_slice h4
    rw [HN.out.1, HN.out.2] at e1 e2
    exact ⟨fx, fc, cx, cc, fs, e1, e2, e3⟩)
  have cS := fun (f d : Value) W (ha : ArgImg W f d p) => (specStates_any p fk f d W ha HIW.out).mono (fun e w' (hh : ∃ lv hv, e = .returned (.tuple #[lv, hv, .bool (stB p fk)]) ∧ StaRes p fk (stB p fk) lv hv W w') => show ∃ (lv hv : Value) (L : List PSta) (Hh : List Bool), e = .returned (.tuple #[lv, hv, .bool SB]) ∧ Hid (IsRes p fk L Hh) ∧ Hid (ArgStas w' lv L) ∧ Hid (ArgBo w' hv Hh) ∧ Below W.heap.size W w' by
    obtain ⟨lv, hv, e1, e2⟩ := hh
    obtain ⟨L, Hh, a, b, c⟩ := e2.lists
    rw [HSB.out] at e1
    exact ⟨lv, hv, L, Hh, e1, a, b, c, e2.1⟩)
  have cJ := fun (f d : Value) W (ha : ArgImg W f d p) (L : List PSta) (Hh : List Bool) (hr : IsRes p fk L Hh) => (iStates_any p fk f d W ha HIW.out).mono (fun e w' (hh : ∃ lv hv, e = .returned (.tuple #[lv, hv, .bool (stB p fk)]) ∧ ISta p fk (stB p fk) lv hv W w') => show ∃ (lv hv : Value), e = .returned (.tuple #[lv, hv, .bool SB]) ∧ Hid (OwnSt w' W.heap.size lv L) ∧ Hid (OwnBo w' W.heap.size hv Hh) ∧ Below W.heap.size W w' by
    obtain ⟨lv, hv, e1, e2⟩ := hh
    obtain ⟨a, b⟩ := e2.lists hr
    rw [HSB.out] at e1
    exact ⟨lv, hv, e1, a, b, e2.1⟩)
  have HK1 : Hid (∀ W, Below w1.heap.size w1 W → W.cell? ⟨G, 0, none⟩ = some fv ∧ W.cell? ⟨G, 1, none⟩ = some cv) := fun W hW => HK.out W (chain b1 hW)
  have HB1 : Hid (Below w.heap.size w w1) := B1
  clear HK b1 bX z0 B1
  obtain ⟨p0, p1⟩ := HK1.out w1 (Below.refl _ _)
  have cTI0 := cTI w1 (Below.refl _ _)
  go_upto_region 6 with (first | (go_at_call 6; (with_reducible refine cTI0.mono ?_); rintro e wt ⟨fx0, fc0, cx0, cc0, fs0, rfl, ot, bt⟩) | (go_at_call 5; (with_reducible refine (cS _ _ _ ot.isIn.arg).mono ?_); rintro e w2 ⟨lv, hv, L, Hh, rfl, HR, HLa, HHa, b2⟩))
  have B2 : Below w1.heap.size w1 w2 := chain bt b2
  clear p0 p1 cTI0 cS ot bt b2
  obtain ⟨p0, p1⟩ := HK1.out w2 B2
  have cA0 := cTI w2 B2
  go_upto_region 7 with (go_at_call 6; (with_reducible refine cA0.mono ?_); rintro e w3 ⟨fx, fc, cx, cc, fs, rfl, o7, b3⟩)
  clear cA0 p0 p1
  have g7 : (w3.alloc (.cells #[.slice fx NF fc, .slice cx NC cc] 34)).heap[w3.heap.size]? = some (.cells #[.slice fx NF fc, .slice cx NC cc] 34 (0, 0)) := heap_alloc_new w3 _
  have bA3 : Below w3.heap.size w3 (w3.alloc (.cells #[.slice fx NF fc, .slice cx NC cc] 34)) := (Below.refl _ _).alloc (Nat.le_refl _) _
  have o7' : ImgOwn (w3.alloc (.cells #[.slice fx NF fc, .slice cx NC cc] 34)) w2.heap.size (.slice fx NF fc) (.slice cx NC cc) p fs := o7.below bA3
  have B3 : Below w2.heap.size w2 (w3.alloc (.cells #[.slice fx NF fc, .slice cx NC cc] 34)) := chain b3 bA3
  obtain ⟨X7, hX7⟩ : ∃ k, w3.heap.size = k := ⟨_, rfl⟩
  obtain ⟨W3, hW3⟩ : ∃ W, w3.alloc (.cells #[.slice fx NF fc, .slice cx NC cc] 34) = W := ⟨_, rfl⟩
  simp only [hX7, hW3] at g7 o7' B3 ⊢
  clear hW3 hX7 bA3 o7 b3
  obtain ⟨p0, p1⟩ := two_cells_of g7
  have cJ0 := cJ _ _ W3 o7'.isIn.arg L Hh HR.out
  go_upto_region 8 with (go_at_call 7; (with_reducible refine cJ0.mono ?_); rintro e w5 ⟨gv, bv, rfl, HO, HB, b5⟩)
  clear cJ0 p0 p1
  have B5 : Below w2.heap.size w2 w5 := chain B3 b5
  have HW3 : Hid (w2.heap.size ≤ W3.heap.size ∧ W3.heap.size ≤ w5.heap.size) := ⟨B3.size, b5.size⟩
  have g75 := (b5.block X7 (lt16 g7)).trans g7
  have o75 := o7'.below b5
  clear g7 o7' B3 b5
  have cQ := fun (u : Value) W (hW : Below w2.heap.size w2 W) (hu : ArgStas W u L) => eqStateS_same u lv L W hu (HLa.out.below hW)
  have cQ2 := fun (u : Value) W (hW : Below w2.heap.size w2 W) (hu : ArgBo W u Hh) => eqBoolS_f u hv Hh Hh W hu (HHa.out.below hW)
  simp only [decide_true] at cQ2
  have cQ50 := cQ gv w5 B5 HO.out.arg
  have cQ51 := fun W (hW : Below w5.heap.size w5 W) => cQ2 bv W (chain B5 hW) (HB.out.arg.below hW)
  go_upto_region 10 with (first | (go_at_call 8; (with_reducible refine cQ50.mono ?_); rintro e w6 ⟨rfl, b6⟩) | (go_at_call 9; (with_reducible refine (cQ51 _ b6).mono ?_); rintro e w7 ⟨rfl, b7⟩))
  clear cQ50 cQ51
  have B7 : Below w5.heap.size w5 w7 := chain b6 b7
  have HB7 : Hid (Below w5.heap.size w5 w7) := B7
  have HB5 : Hid (Below w2.heap.size w2 w5) := B5
  have HB2 : Hid (Below w1.heap.size w1 w2) := B2
  have HG7 : Hid (w5.heap[X7]? = some (.cells #[.slice fx NF fc, .slice cx NC cc] 34 (0, 0))) := g75
  have HO75 : Hid (ImgOwn w5 w2.heap.size (.slice fx NF fc) (.slice cx NC cc) p fs) := o75
  clear b6 b7 B7 B5 B2 g75 o75
  have HK6 : Hid (∀ V, Below w5.heap.size w5 V → ((V.cell? ⟨X7, 0, none⟩ = some (.slice fx NF fc) ∧ V.cell? ⟨X7, 1, none⟩ = some (.slice cx NC cc)) ∧ (V.cell? ⟨G, 0, none⟩ = some fv ∧ V.cell? ⟨G, 1, none⟩ = some cv))) := fun V hV => ⟨two_cells_of ((hV.block X7 (lt16 HG7.out)).trans HG7.out), HK1.out V (chain (chain HB2.out HB5.out) hV)⟩
  have cT6 := fun W (hW : Below w5.heap.size w5 W) => (cTI W (chain (chain HB2.out HB5.out) hW)).mono (fun e w' (hh : ∃ (fx : Option Addr) (fc : Nat) (cx : Option Addr) (cc : Nat) (fs : List FSh), e = .returned (.agg #[.slice fx NF fc, .slice cx NC cc]) ∧ ImgOwn w' W.heap.size (.slice fx NF fc) (.slice cx NC cc) p fs ∧ Below W.heap.size W w') => show ∃ (f d : Value), e = .returned (.agg #[f, d]) ∧ Hid (ArgImg w' f d p) ∧ Hid (Below w5.heap.size w5 w') by
    obtain ⟨fx, fc, cx, cc, fs, e1, e2, e3⟩ := hh
    exact ⟨_, _, e1, e2.isIn.arg, chain hW e3⟩)
  have cE6 := fun (ft dt : Value) W (hW : Below w5.heap.size w5 W) (ht : ArgImg W ft dt p) => eqImage_same p (.slice fx NF fc) (.slice cx NC cc) ft dt W (HO75.out.isIn.arg.below hW) ht
  have hA2 : ∀ {W V : World}, Below w5.heap.size w5 W → Below W.heap.size W V → Hid (Below w5.heap.size w5 V) := fun h k => chain h k
  go_region_held_law (fun V => (V.cell? ⟨X7, 0, none⟩ = some (.slice fx NF fc) ∧ V.cell? ⟨X7, 1, none⟩ = some (.slice cx NC cc)) ∧ (V.cell? ⟨G, 0, none⟩ = some fv ∧ V.cell? ⟨G, 1, none⟩ = some cv))
    (exact HK6.out _ (by first | with_reducible exact HBE.out | with_reducible exact RowKit.Below.drew HBE.out | with_reducible exact HBT.out | with_reducible exact RowKit.Below.drew HBT.out | with_reducible exact HB7.out | with_reducible exact RowKit.Below.drew HB7.out))
    (first
      | (go_at_call 6; (with_reducible refine (cT6 _ (by first | with_reducible exact HB7.out | with_reducible exact RowKit.Below.drew HB7.out)).mono ?_); rintro e wT ⟨yT, dT, rfl, HOT, HBT⟩)
      | (go_at_call 10; (with_reducible refine (cE6 _ _ _ HBT.out HOT.out).mono ?_); rintro e wE ⟨rfl, bE⟩; have HBE := hA2 HBT.out bE))
  clear HOT HBT HB7 cT6 cE6 bE HK6
  go_upto_region 13 with fail
  have BE := HBE.out
  have g7 := (BE.block X7 (lt16 HG7.out)).trans HG7.out
  have o7 := HO75.out.below BE
  have HO8 : Hid (OwnSt wE W3.heap.size gv L) := HO.out.below BE
  have HB8 : Hid (OwnBo wE W3.heap.size bv Hh) := HB.out.below BE
  have BW : Below w2.heap.size w2 wE := chain HB5.out BE
  have hsE := BE.size
  have hw3 := HW3.out
  clear HBE HG7 HO75 HO HB BE HB5
  have hfew := few_img o7 HF.out.2
  have cM := markImage_f w2.heap.size (.slice fx NF fc) (.slice cx NC cc) p fs 1 wE o7 (by omega) hfew (by omega) (by have := HF.out.1.2.2.1; omega)
  have hKb : offK fs 1 fs.length + p.consts.length * 3 ≤ 20000000 := by have := hfew.2; have := HF.out.1.2.2.1; omega
  obtain ⟨KA, hKA⟩ : ∃ k, offK fs 1 fs.length + p.consts.length * 3 = k := ⟨_, rfl⟩
  rw [hKA, show ((1 : Nat) : Int) = 1 from rfl] at cM
  rw [hKA] at hKb
  have hKneg : ¬ (KA : Int) < 0 := by omega
  obtain ⟨p0, p1⟩ := two_cells_of g7
  go_upto_region 14 with (go_at_call 11; (with_reducible refine cM.mono ?_); rintro e wG ⟨rfl, _, bG, frG⟩)
  clear cM p0 p1 hfew hKA g7 o7
  have HO9 : Hid (OwnSt wG W3.heap.size gv L) := HO8.out.frame frG
  have HB9 : Hid (OwnBo wG W3.heap.size bv Hh) := HB8.out.frame frG
  have BG : Below w2.heap.size w2 wG := BW.trans bG
  have hsG := bG.size
  clear frG bG BW HO8 HB8
  have cQ50 := cQ gv wG BG HO9.out.arg
  have cQ51 := fun W (hW : Below wG.heap.size wG W) => cQ2 bv W (chain BG hW) (HB9.out.arg.below hW)
  go_upto_region 16 with (first | (go_at_call 8; (with_reducible refine cQ50.mono ?_); rintro e w6 ⟨rfl, b6⟩) | (go_at_call 9; (with_reducible refine (cQ51 _ b6).mono ?_); rintro e w8 ⟨rfl, b7⟩))
  clear cQ50 cQ51
  have B8 : Below wG.heap.size wG w8 := chain b6 b7
  have HOa : Hid (OwnSt w8 W3.heap.size gv L) := HO9.out.below B8
  have HBa : Hid (OwnBo w8 W3.heap.size bv Hh) := HB9.out.below B8
  have BH : Below w2.heap.size w2 w8 := chain BG B8
  have hs8 := B8.size
  clear b6 b7 B8 BG HO9 HB9
  have few := HR.out.few
  obtain ⟨NS, hNS⟩ : ∃ k, mkN (lensOf L) = k := ⟨_, rfl⟩
  obtain ⟨NH, hNH⟩ : ∃ k, Hh.length = k := ⟨_, rfl⟩
  have hNSb : NS ≤ 400000 := by
    rw [← hNS]
    have h1 : ∀ x ∈ lensOf L, x ≤ 1000 := fun x hx => by
      unfold lensOf at hx
      obtain ⟨s, hs1, rfl⟩ := List.mem_map.1 hx
      exact few.2.2 s hs1
    have h2 := mkN_le h1
    have h3 : (lensOf L).length ≤ 300 := by simp [lensOf]; exact few.1
    have h4 : (1 + 1000) * (lensOf L).length ≤ 1001 * 300 := Nat.mul_le_mul (by omega) h3
    omega
  have hNHb : NH ≤ 300 := by rw [← hNH]; exact few.2.1
  have cM := markStates_own W3.heap.size gv L 1 w8 HOa.out (by omega) few.2.2 (by omega)
  rw [hNS, show ((1 : Nat) : Int) = 1 from rfl] at cM
  have HNS : Hid (mkN (lensOf L) = NS ∧ ∀ m ∈ lensOf L, m ≤ 2000000) := ⟨hNS, fun x hx => by
    unfold lensOf at hx
    obtain ⟨s, hs1, rfl⟩ := List.mem_map.1 hx
    have := few.2.2 s hs1
    omega⟩
  obtain ⟨M1, hM1⟩ : ∃ k, 1 + NS = k := ⟨_, rfl⟩
  rw [hM1] at cM
  clear few hNS
  go_upto_region 18 with (go_at_call 12; (with_reducible refine cM.mono ?_); rintro e wI ⟨rfl, HOb0, hk⟩)
  have HOb : Hid (OwnSt wI W3.heap.size gv (mkSt 1 (lensOf L))) := HOb0
  have HBb : Hid (OwnBo wI W3.heap.size bv Hh) := hk.bools _ _ _ HBa.out
  have BI : Below w2.heap.size w2 wI := BH.trans ⟨hk.bel.os, hk.bel.tape, hk.bel.output, hk.size, fun b hb => hk.bel.block b (by omega)⟩
  have hsI := hk.size
  clear hk HOb0 cM HOa HBa BH
  have cM := markBoolS_f W3.heap.size bv Hh M1 wI HBb.out (by omega) (by omega)
  rw [hNH] at cM
  obtain ⟨M2, hM2⟩ : ∃ k, M1 + NH = k := ⟨_, rfl⟩
  rw [hM2] at cM
  go_upto_region 19 with (go_at_call 13; (with_reducible refine cM.mono ?_); rintro e wJ ⟨rfl, HBc0, gJ⟩)
  have HOc : Hid (OwnSt wJ W3.heap.size gv (mkSt 1 (lensOf L))) := HOb.out.bools HBb.out gJ
  have HBc : Hid (OwnBo wJ W3.heap.size bv (upB M1 NH)) := HBc0
  have BJ : Below w2.heap.size w2 wJ := ⟨gJ.os.trans BI.os, gJ.tape.trans BI.tape, gJ.output.trans BI.output, Nat.le_trans BI.size gJ.size, fun b hb => (gJ.block b (by omega) (fun e => by have := (HBb.out.lt b e.symm).1; omega)).trans (BI.block b hb)⟩
  have hsJ := gJ.size
  clear cM HOb HBb HBc0 BI gJ
  have cH := fun W (hW : Below wJ.heap.size wJ W) => heldStateS_f gv (lensOf L) 1 W (HOc.out.arg.below hW) HNS.out.2 (by have := HNS.out.1; omega) (fun j => mkN_take_le _ j)
  simp only [HNS.out.1, hM1, show ((1 : Nat) : Int) = 1 from rfl] at cH
  have cH2 := fun W (hW : Below wJ.heap.size wJ W) => heldBoolS_f bv NH M1 W (HBc.out.arg.below hW) (by omega) (by omega)
  simp only [hM2] at cH2
  have hM1n : ¬ (M1 : Int) < 0 := by omega
  have hM2n : ¬ (M2 : Int) < 0 := by omega
  have cH0 := cH wJ (Below.refl _ _)
  have cH20 := cH2 wJ (Below.refl _ _)
  go_upto_region 28 with (first | (go_at_call 14; (with_reducible refine cH0.mono ?_); rintro e wK ⟨rfl, rfl⟩) | (go_at_call 15; (with_reducible refine cH20.mono ?_); rintro e wL ⟨rfl, bL⟩))
  clear cH0 cH20
  have BL : Below w2.heap.size w2 wL := chain BJ bL
  have HBL : Hid (Below wJ.heap.size wJ wL) := bL
  have HBL2 : Hid (Below w2.heap.size w2 wL) := BL
  obtain ⟨p0, p1⟩ := HK1.out wL (chain HB2.out BL)
  have cTL := cTI wL (chain HB2.out BL)
  have cJL := fun (f d : Value) W (ha : ArgImg W f d p) => cJ f d W ha L Hh HR.out
  clear BJ bL BL cTI cJ
  go_upto_region 29 with (first | (go_at_call 6; (with_reducible refine cTL.mono ?_); rintro e wM ⟨fx1, fc1, cx1, cc1, fs1, rfl, om, bM⟩) | (go_at_call 7; (with_reducible refine (cJL _ _ _ om.isIn.arg).mono ?_); rintro e wN ⟨gv2, bv2, rfl, HOn, HBn, bN⟩))
  have BN : Below wL.heap.size wL wN := chain bM bN
  have cQ50 := cQ gv2 wN (chain HBL2.out BN) HOn.out.arg
  have cQ51 := fun W (hW : Below wN.heap.size wN W) => cQ2 bv2 W (chain (chain HBL2.out BN) hW) (HBn.out.arg.below hW)
  clear cTL cJL p0 p1 om bM bN
  go_upto_region 31 with (first | (go_at_call 8; (with_reducible refine cQ50.mono ?_); rintro e w6 ⟨rfl, b6⟩) | (go_at_call 9; (with_reducible refine (cQ51 _ b6).mono ?_); rintro e wP ⟨rfl, b7⟩))
  have BP : Below wL.heap.size wL wP := chain BN (chain b6 b7)
  have cH0 := cH wP (chain HBL.out BP)
  have cH20 := cH2 wP (chain HBL.out BP)
  have HEND : Hid (Below w.heap.size w wP) := chain HB1.out (chain HB2.out (chain HBL2.out BP))
  clear cQ50 cQ51 cQ cQ2 cH cH2 BP BN b6 b7
  go_wp2_with (first | (go_at_call 14; (with_reducible refine cH0.mono ?_); rintro e wK ⟨rfl, rfl⟩) | (go_at_call 15; (with_reducible refine cH20.mono ?_); rintro e wX ⟨rfl, bX9⟩))
  go_ret
  exact ⟨rfl, chain HEND.out bX9⟩
end Go.Proofs.YtheofdiaenlbgaaGreat
