/-
  Part 14 of what is proved of drawn right trees.
-/
import Derived.Test.YtkmmojpfcklocaaPae
import Derived.Test.YtkmmojpfcklocaaPaj
import Derived.Test.YtkmmojpfcklocaaPam
import Derived.Test.YtkmmojpfcklocaaPah
import Derived.Deep.RegionHeldLaw

namespace Go.Proofs.Ytkmmojpfcklocaa
open Go.RowKit Go.Sort
set_option linter.unusedVariables false
set_option linter.unusedSimpArgs false
theorem lt20 {w : World} {X : Nat} {o : Obj} (h : w.heap[X]? = some o) : X < w.heap.size := by
  rcases Nat.lt_or_ge X w.heap.size with x | x
  · exact x
  · rw [Array.getElem?_eq_none x] at h
    cases h
theorem OwnI.frame20 {w w' : World} {B : Nat} {v : Value} {l : List Int} (h : OwnI w B v l) (hf : ∀ (X : Nat) (cs : Array Value) (T : TypeId) (fr : Nat × Nat), T ≠ 47 → T ≠ 90 → T ≠ 49 → T ≠ 92 → T ≠ 71 → w.heap[X]? = some (.cells cs T fr) → w'.heap[X]? = some (.cells cs T fr)) : OwnI w' B v l := by
  obtain ⟨k1, k2⟩ := h
  refine ⟨k1, ?_⟩
  rcases k2 with k2 | ⟨g2, cap, cur2, e2, hb2, hg2, rest⟩
  · exact .inl k2
  · exact .inr ⟨g2, cap, cur2, e2, hb2, hf g2 cur2 _ _ (by decide) (by decide) (by decide) (by decide) (by decide) hg2, rest⟩
theorem own_at20 {w : World} {B g : Nat} {v : Value} {l : List Int} (h : OwnI w B v l) (e : some g = v.ownBlock) : B ≤ g := by
  rcases h.2 with ⟨rfl, _⟩ | ⟨g2, cap, cur, rfl, hb, _⟩
  · simp [Value.ownBlock] at e
  · simp [Value.ownBlock] at e
    omega
set_option maxHeartbeats 8000000 in
set_option maxRecDepth 100000 in
theorem fnExactJumpsOf_walk (fv cv : Value) (p : PImg) (fk : Int) (w : World) (hi : ArgImg w fv cv p) (hiw : imgW p) :
    Calls Try.prog 3 #[.agg #[fv, cv], .int .i64 fk] w fun e w' => e = .returned (.bool true) ∧ Below w.heap.size w w' := by
  have HI : Hid (∀ W, Below w.heap.size w W → ArgImg W fv cv p) := fun W hW => hi.below hW
  have HIW : Hid (imgW p) := hiw
  clear hi hiw
  have bX : Below w.heap.size w (w.alloc (.cells #[fv, cv] 25)) := (Below.refl _ _).alloc (Nat.le_refl _) _
  have z0 := heap_alloc_new w (.cells #[fv, cv] 25)
  obtain ⟨W0, hW0⟩ : ∃ W, w.alloc (.cells #[fv, cv] 25) = W := ⟨_, rfl⟩
  rw [hW0] at bX z0
  have HW0 : Hid (_ = W0) := hW0
  clear hW0
  obtain ⟨G, hG⟩ : ∃ G, w.heap.size = G := ⟨_, rfl⟩
  rw [hG] at z0
  have HK : Hid (∀ W, Below W0.heap.size W0 W → W.cell? ⟨G, 0, none⟩ = some fv ∧ W.cell? ⟨G, 1, none⟩ = some cv) := fun W hW => two_cells20 ((hW.block G (lt20 z0)).trans z0)
  have cZA := szImage_tot fv cv p 1048576 W0 (HI.out W0 bX) HIW.out (by omega) (by omega)
  go_enter Try.func3, Try.ntmps3
  go_upto_region 1 with fail
  rw [HW0.out]
  clear HW0
  try simp only [hG]
  obtain ⟨p0, p1⟩ := HK.out W0 (Below.refl _ _)
  go_wp2_with fail
  refine cZA.mono ?_
  rintro e w1 ⟨r, rfl, hr, b1⟩
  rcases hr with rfl | ⟨r0, r1, r2, r3⟩
  · clear cZA
    go_wp2
    go_ret
    exact ⟨rfl, chain bX b1⟩
  have hneg : ¬ r < 0 := by omega
  have HF : Hid (imgFew p 1048576 ∧ (p.funcs.length : Int) + (funsTot p.funcs p.funcs.length : Int) ≤ 1048576) := ⟨r2, r3⟩
  clear p0 p1 r2 r3 cZA
  obtain ⟨NF, eNF⟩ : ∃ k, p.funcs.length = k := ⟨_, rfl⟩
  obtain ⟨NC, eNC⟩ : ∃ k, p.consts.length = k := ⟨_, rfl⟩
  have HN : Hid (p.funcs.length = NF ∧ p.consts.length = NC) := ⟨eNF, eNC⟩
  clear eNF eNC
  have few := jumpsL_len p fk
  obtain ⟨L, hL⟩ : ∃ l, jumpsL p fk = l := ⟨_, rfl⟩
  have HL : Hid (jumpsL p fk = L) := hL
  rw [hL] at few
  clear hL
  have B1 : Below w.heap.size w w1 := chain bX b1
  have cTI := fun W (hW : Below w1.heap.size w1 W) => (toImage_own fv cv p W (HI.out W (chain B1 hW)) HF.out.1).mono (fun e w' (hh : ∃ f d, e = .returned (.agg #[f, d]) ∧ (∃ fs, ImgOwn w' W.heap.size f d p fs) ∧ Below W.heap.size W w') => show ∃ (fx : Option Addr) (fc : Nat) (cx : Option Addr) (cc : Nat) (fs : List FSh), e = .returned (.agg #[.slice fx NF fc, .slice cx NC cc]) ∧ ImgOwn w' W.heap.size (.slice fx NF fc) (.slice cx NC cc) p fs ∧ Below W.heap.size W w' by
    obtain ⟨f, d, e1, ⟨fs, e2⟩, e3⟩ := hh
    obtain ⟨cx, cc, rfl⟩ := row_slice e2.2.2.1
    have e4 := e2
    obtain ⟨_, _, _, xs, h4, _⟩ := e4
    obtain ⟨fx, fc, rfl⟩ := row_slice h4
    rw [HN.out.1, HN.out.2] at e1 e2
    exact ⟨fx, fc, cx, cc, fs, e1, e2, e3⟩)
  have cS := fun (f d : Value) W (ha : ArgImg W f d p) => specJumpsOf_any p fk f d W ha HIW.out
  have cJ := fun (f d : Value) W (ha : ArgImg W f d p) => iJumpsOf_any p fk f d W ha HIW.out
  rw [HL.out] at cS cJ
  have HK1 : Hid (∀ W, Below w1.heap.size w1 W → W.cell? ⟨G, 0, none⟩ = some fv ∧ W.cell? ⟨G, 1, none⟩ = some cv) := fun W hW => HK.out W (chain b1 hW)
  have HB1 : Hid (Below w.heap.size w w1) := B1
  clear HK b1 bX z0 B1
  obtain ⟨p0, p1⟩ := HK1.out w1 (Below.refl _ _)
  have cTI0 := cTI w1 (Below.refl _ _)
  go_upto_region 6 with (first | (go_at_call 6; (with_reducible refine cTI0.mono ?_); rintro e wt ⟨fx0, fc0, cx0, cc0, fs0, rfl, ot, bt⟩) | (go_at_call 5; (with_reducible refine (cS _ _ _ ot.isIn.arg).mono ?_); rintro e w2 ⟨lv, rfl, oS, b2⟩))
  have B2 : Below w1.heap.size w1 w2 := chain bt b2
  have HS : Hid (ArgI w2 lv L) := oS.arg
  clear p0 p1 cTI0 cS ot bt b2 oS
  obtain ⟨p0, p1⟩ := HK1.out w2 B2
  have cA0 := cTI w2 B2
  go_upto_region 7 with (go_at_call 6; (with_reducible refine cA0.mono ?_); rintro e w3 ⟨fx, fc, cx, cc, fs, rfl, o7, b3⟩)
  clear cA0 p0 p1
  have g7 : (w3.alloc (.cells #[.slice fx NF fc, .slice cx NC cc] 32)).heap[w3.heap.size]? = some (.cells #[.slice fx NF fc, .slice cx NC cc] 32 (0, 0)) := heap_alloc_new w3 _
  have bA3 : Below w3.heap.size w3 (w3.alloc (.cells #[.slice fx NF fc, .slice cx NC cc] 32)) := (Below.refl _ _).alloc (Nat.le_refl _) _
  have o7' : ImgOwn (w3.alloc (.cells #[.slice fx NF fc, .slice cx NC cc] 32)) w2.heap.size (.slice fx NF fc) (.slice cx NC cc) p fs := o7.below bA3
  have B3 : Below w2.heap.size w2 (w3.alloc (.cells #[.slice fx NF fc, .slice cx NC cc] 32)) := chain b3 bA3
  obtain ⟨X7, hX7⟩ : ∃ k, w3.heap.size = k := ⟨_, rfl⟩
  obtain ⟨W3, hW3⟩ : ∃ W, w3.alloc (.cells #[.slice fx NF fc, .slice cx NC cc] 32) = W := ⟨_, rfl⟩
  simp only [hX7, hW3] at g7 o7' B3 ⊢
  clear hW3 hX7 bA3 o7 b3
  obtain ⟨p0, p1⟩ := two_cells20 g7
  have cJ0 := cJ _ _ W3 o7'.isIn.arg
  go_upto_region 8 with (go_at_call 7; (with_reducible refine cJ0.mono ?_); rintro e w5 ⟨gv, rfl, hO, b5⟩)
  have HO : Hid (OwnI w5 W3.heap.size gv L) := hO
  clear cJ0 p0 p1 hO
  have B5 : Below w2.heap.size w2 w5 := chain B3 b5
  have HW3 : Hid (w2.heap.size ≤ W3.heap.size ∧ W3.heap.size ≤ w5.heap.size) := ⟨B3.size, b5.size⟩
  have g75 := (b5.block X7 (lt20 g7)).trans g7
  have o75 := o7'.below b5
  clear g7 o7' B3 b5
  have cQ := fun (u : Value) W (hW : Below w2.heap.size w2 W) (hu : ArgI W u L) => eqIntS_f u lv L L W hu (HS.out.below hW)
  simp only [decide_true] at cQ
  have cQ50 := cQ gv w5 B5 HO.out.arg
  go_upto_region 10 with (go_at_call 8; (with_reducible refine cQ50.mono ?_); rintro e w7 ⟨rfl, b7⟩)
  clear cQ50
  have HB7 : Hid (Below w5.heap.size w5 w7) := b7
  have HB5 : Hid (Below w2.heap.size w2 w5) := B5
  have HB2 : Hid (Below w1.heap.size w1 w2) := B2
  have HG7 : Hid (w5.heap[X7]? = some (.cells #[.slice fx NF fc, .slice cx NC cc] 32 (0, 0))) := g75
  have HO75 : Hid (ImgOwn w5 w2.heap.size (.slice fx NF fc) (.slice cx NC cc) p fs) := o75
  clear b7 B5 B2 g75 o75
  have HK6 : Hid (∀ V, Below w5.heap.size w5 V → ((V.cell? ⟨X7, 0, none⟩ = some (.slice fx NF fc) ∧ V.cell? ⟨X7, 1, none⟩ = some (.slice cx NC cc)) ∧ (V.cell? ⟨G, 0, none⟩ = some fv ∧ V.cell? ⟨G, 1, none⟩ = some cv))) := fun V hV => ⟨two_cells20 ((hV.block X7 (lt20 HG7.out)).trans HG7.out), HK1.out V (chain (chain HB2.out HB5.out) hV)⟩
  have cT6 := fun W (hW : Below w5.heap.size w5 W) => (cTI W (chain (chain HB2.out HB5.out) hW)).mono (fun e w' (hh : ∃ (fx : Option Addr) (fc : Nat) (cx : Option Addr) (cc : Nat) (fs : List FSh), e = .returned (.agg #[.slice fx NF fc, .slice cx NC cc]) ∧ ImgOwn w' W.heap.size (.slice fx NF fc) (.slice cx NC cc) p fs ∧ Below W.heap.size W w') => show ∃ (f d : Value), e = .returned (.agg #[f, d]) ∧ Hid (ArgImg w' f d p) ∧ Hid (Below w5.heap.size w5 w') by
    obtain ⟨fx, fc, cx, cc, fs, e1, e2, e3⟩ := hh
    exact ⟨_, _, e1, e2.isIn.arg, chain hW e3⟩)
  have cE6 := fun (ft dt : Value) W (hW : Below w5.heap.size w5 W) (ht : ArgImg W ft dt p) => eqImage_same p (.slice fx NF fc) (.slice cx NC cc) ft dt W (HO75.out.isIn.arg.below hW) ht
  have hA2 : ∀ {W V : World}, Below w5.heap.size w5 W → Below W.heap.size W V → Hid (Below w5.heap.size w5 V) := fun h k => chain h k
  go_region_held_law (fun V => (V.cell? ⟨X7, 0, none⟩ = some (.slice fx NF fc) ∧ V.cell? ⟨X7, 1, none⟩ = some (.slice cx NC cc)) ∧ (V.cell? ⟨G, 0, none⟩ = some fv ∧ V.cell? ⟨G, 1, none⟩ = some cv))
    (exact HK6.out _ (by first | with_reducible exact HBE.out | with_reducible exact RowKit.Below.drew HBE.out | with_reducible exact HBT.out | with_reducible exact RowKit.Below.drew HBT.out | with_reducible exact HB7.out | with_reducible exact RowKit.Below.drew HB7.out))
    (first
      | (go_at_call 6; (with_reducible refine (cT6 _ (by first | with_reducible exact HB7.out | with_reducible exact RowKit.Below.drew HB7.out)).mono ?_); rintro e wT ⟨yT, dT, rfl, HOT, HBT⟩)
      | (go_at_call 9; (with_reducible refine (cE6 _ _ _ HBT.out HOT.out).mono ?_); rintro e wE ⟨rfl, bE⟩; have HBE := hA2 HBT.out bE))
  clear HOT HBT HB7 cT6 cE6 bE HK6
  go_upto_region 13 with fail
  have BE := HBE.out
  have g7 := (BE.block X7 (lt20 HG7.out)).trans HG7.out
  have o7 := HO75.out.below BE
  have HO8 : Hid (OwnI wE W3.heap.size gv L) := HO.out.below BE
  have BW : Below w2.heap.size w2 wE := chain HB5.out BE
  have hsE := BE.size
  have hw3 := HW3.out
  clear HBE HG7 HO75 HO BE HB5
  have hfew := few_img o7 HF.out.2
  have cM := markImage_f w2.heap.size (.slice fx NF fc) (.slice cx NC cc) p fs 1 wE o7 (by omega) hfew (by omega) (by have := HF.out.1.2.2.1; omega)
  have hKb : offK fs 1 fs.length + p.consts.length * 3 ≤ 20000000 := by have := hfew.2; have := HF.out.1.2.2.1; omega
  obtain ⟨KA, hKA⟩ : ∃ k, offK fs 1 fs.length + p.consts.length * 3 = k := ⟨_, rfl⟩
  rw [hKA, show ((1 : Nat) : Int) = 1 from rfl] at cM
  rw [hKA] at hKb
  have hKneg : ¬ (KA : Int) < 0 := by omega
  obtain ⟨p0, p1⟩ := two_cells20 g7
  go_upto_region 14 with (go_at_call 10; (with_reducible refine cM.mono ?_); rintro e wG ⟨rfl, _, bG, frG⟩)
  clear cM p0 p1 hfew hKA g7 o7
  have HO9 : Hid (OwnI wG W3.heap.size gv L) := HO8.out.frame20 frG
  have BG : Below w2.heap.size w2 wG := BW.trans bG
  have hsG := bG.size
  clear frG bG BW HO8
  have cQ50 := cQ gv wG BG HO9.out.arg
  go_upto_region 16 with (go_at_call 8; (with_reducible refine cQ50.mono ?_); rintro e w8 ⟨rfl, b8⟩)
  clear cQ50
  have HOa : Hid (OwnI w8 W3.heap.size gv L) := HO9.out.below b8
  have BH : Below w2.heap.size w2 w8 := chain BG b8
  have hs8 := b8.size
  clear b8 BG HO9
  have cM := markIntS_f W3.heap.size gv L 1 w8 HOa.out (by omega) (by omega)
  rw [show ((1 : Nat) : Int) = 1 from rfl] at cM
  obtain ⟨NL, hNL⟩ : ∃ k, L.length = k := ⟨_, rfl⟩
  rw [hNL] at cM few
  obtain ⟨M1, hM1⟩ : ∃ k, 1 + NL = k := ⟨_, rfl⟩
  rw [hM1] at cM
  go_upto_region 18 with (go_at_call 11; (with_reducible refine cM.mono ?_); rintro e wJ ⟨rfl, HOc0, gJ⟩)
  have HOc : Hid (OwnI wJ W3.heap.size gv (upI 1 NL)) := HOc0
  have BJ : Below w2.heap.size w2 wJ := ⟨gJ.os.trans BH.os, gJ.tape.trans BH.tape, gJ.output.trans BH.output, Nat.le_trans BH.size gJ.size, fun b hb => (gJ.block b (by omega) (fun e => by have := own_at20 HOa.out e; omega)).trans (BH.block b hb)⟩
  clear cM HOc0 BH gJ HOa
  have cH := fun W (hW : Below wJ.heap.size wJ W) => heldIntS_f gv NL 1 W (HOc.out.arg.below hW) (by omega) (by omega)
  simp only [hM1, show ((1 : Nat) : Int) = 1 from rfl] at cH
  have hM1n : ¬ (M1 : Int) < 0 := by omega
  have cH0 := cH wJ (Below.refl _ _)
  go_upto_region 24 with (go_at_call 12; (with_reducible refine cH0.mono ?_); rintro e wL ⟨rfl, rfl⟩)
  clear cH0
  have HBJ : Hid (Below w2.heap.size w2 wJ) := BJ
  obtain ⟨p0, p1⟩ := HK1.out wJ (chain HB2.out BJ)
  have cTL := cTI wJ (chain HB2.out BJ)
  clear BJ cTI
  go_upto_region 25 with (first | (go_at_call 6; (with_reducible refine cTL.mono ?_); rintro e wM ⟨fx1, fc1, cx1, cc1, fs1, rfl, om, bM⟩) | (go_at_call 7; (with_reducible refine (cJ _ _ _ om.isIn.arg).mono ?_); rintro e wN ⟨gv2, rfl, HOn, bN⟩))
  have BN : Below wJ.heap.size wJ wN := chain bM bN
  have cQ50 := cQ gv2 wN (chain HBJ.out BN) HOn.arg
  have HBN : Hid (Below wJ.heap.size wJ wN) := BN
  clear cTL cJ p0 p1 om bM bN BN HOn
  go_upto_region 27 with (go_at_call 8; (with_reducible refine cQ50.mono ?_); rintro e wP ⟨rfl, b7⟩)
  have BP : Below wJ.heap.size wJ wP := chain HBN.out b7
  have cH0 := cH wP BP
  have HEND : Hid (Below w.heap.size w wP) := chain HB1.out (chain HB2.out (chain HBJ.out BP))
  clear cQ50 cQ cH BP b7 HBN
  go_wp2_with (go_at_call 12; (with_reducible refine cH0.mono ?_); rintro e wK ⟨rfl, rfl⟩)
  go_ret
  exact ⟨rfl, HEND.out⟩
end Go.Proofs.Ytkmmojpfcklocaa
