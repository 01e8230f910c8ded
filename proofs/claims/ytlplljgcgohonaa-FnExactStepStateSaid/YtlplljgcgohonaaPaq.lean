/-
  Part 17 of what is proved of drawn right trees.
-/
import Derived.Test.YtlplljgcgohonaaPag
import Derived.Test.YtlplljgcgohonaaPaj
import Derived.Test.YtlplljgcgohonaaPak
import Derived.Test.YtlplljgcgohonaaPap

namespace Go.Proofs.Ytlplljgcgohonaa
open Go.RowKit Go.Sort
set_option linter.unusedVariables false
set_option linter.unusedSimpArgs false
theorem step_len (p : PImg) (k a : Int) (s : PSta) : (stepS p k a s).regs.length ≤ s.regs.length := by
  unfold stepS
  split
  · split
    · exact Nat.zero_le _
    · split
      · exact Nat.zero_le _
      · rw [aft_len]
        exact Nat.le_refl _
  · exact Nat.zero_le _
theorem OwnI.frame {w w' : World} {B : Nat} {v : Value} {l : List Int} (h : OwnI w B v l) (hf : ∀ (X : Nat) (cs : Array Value) (T : TypeId) (fr : Nat × Nat), T ≠ 77 → T ≠ 136 → T ≠ 104 → T ≠ 138 → T ≠ 71 → w.heap[X]? = some (.cells cs T fr) → w'.heap[X]? = some (.cells cs T fr)) : OwnI w' B v l := by
  obtain ⟨h1, h2⟩ := h
  refine ⟨h1, ?_⟩
  rcases h2 with h2 | ⟨g, cap, cur, e, hb, hg, rest⟩
  · exact .inl h2
  · exact .inr ⟨g, cap, cur, e, hb, hf g cur _ _ (by decide) (by decide) (by decide) (by decide) (by decide) hg, rest⟩
theorem two_madeS (w : World) (o1 o2 : Obj) : ((w.alloc o1).alloc o2).heap[w.heap.size]? = some o1 ∧ ((w.alloc o1).alloc o2).heap[w.heap.size + 1]? = some o2 ∧ ((w.alloc o1).alloc o2).heap.size = w.heap.size + 2 ∧ Below w.heap.size w ((w.alloc o1).alloc o2) := by
  have z1 : (w.alloc o1).heap.size = w.heap.size + 1 := by simp
  refine ⟨?_, ?_, by simp, ((Below.refl _ _).alloc (Nat.le_refl _) _).alloc (by simp) _⟩
  · rw [heap_alloc_old (r := w.heap.size) _ _ (by omega)]
    exact heap_alloc_new _ _
  · rw [← z1]
    exact heap_alloc_new _ _
set_option maxHeartbeats 8000000 in
set_option maxRecDepth 100000 in
theorem fnExactStepState_walk (fv cv : Value) (p : PImg) (fk fa : Int) (a : PSta) (u : Value) (w : World) (hi : ArgImg w fv cv p) (hiw : imgW p) (hu : ArgI w u a.regs) :
    Calls Try.prog 5 #[.agg #[fv, cv], .int .i64 fk, .int .i64 fa, .agg #[.int .i64 a.acc, u]] w fun e w' => e = .returned (.bool true) ∧ Below w.heap.size w w' := by
  obtain ⟨xu, cu, rfl, mu, _⟩ := hu.opened
  have HU : Hid (∀ W, Below w.heap.size w W → ArgI W (.slice xu a.regs.length cu) a.regs) := fun W hW => hu.below hW
  have HI : Hid (∀ W, Below w.heap.size w W → ArgImg W fv cv p) := fun W hW => hi.below hW
  have HIW : Hid (imgW p) := hiw
  obtain ⟨n, en⟩ : ∃ n, a.regs.length = n := ⟨_, rfl⟩
  obtain ⟨AC, eA⟩ : ∃ n, a.acc = n := ⟨_, rfl⟩
  simp only [en, eA] at HU mu ⊢
  have HL : Hid (a.regs.length = n ∧ a.acc = AC) := ⟨en, eA⟩
  clear hu hi hiw en eA
  have M := two_madeS w (.cells #[fv, cv] 43) (.cells #[.int .i64 AC, .slice xu n cu] 44)
  obtain ⟨W0, hW0⟩ : ∃ W, ((w.alloc (.cells #[fv, cv] 43)).alloc (.cells #[.int .i64 AC, .slice xu n cu] 44)) = W := ⟨_, rfl⟩
  rw [hW0] at M
  obtain ⟨z0, z1, _, bX⟩ := M
  have HW0 : Hid (_ = W0) := hW0
  clear hW0
  obtain ⟨G, hG⟩ : ∃ G, w.heap.size = G := ⟨_, rfl⟩
  rw [hG] at z0 z1
  have HK : Hid (∀ W, Below W0.heap.size W0 W → W.cell? ⟨G, 0, none⟩ = some fv ∧ W.cell? ⟨G, 1, none⟩ = some cv ∧ W.cell? ⟨G + 1, 0, none⟩ = some (.int .i64 AC) ∧ W.cell? ⟨G + 1, 1, none⟩ = some (.slice xu n cu)) := fun W hW => by
    obtain ⟨p0, p1⟩ := two_cells_of ((hW.block G (lt16 z0)).trans z0)
    obtain ⟨q0, q1⟩ := two_cells_of ((hW.block (G + 1) (lt16 z1)).trans z1)
    exact ⟨p0, p1, q0, q1⟩
  have cZA := szImage_tot fv cv p 1048576 W0 (HI.out W0 bX) HIW.out (by omega) (by omega)
  have cZB := fun W (hW : Below W0.heap.size W0 W) (left : Int) (h0 : 0 ≤ left) (h1 : left ≤ 1048576) => szState_any (.int .i64 AC) (.slice xu n cu) 1 n (a.regs.flatMap intC) left W (by have h := HU.out W (chain bX hW); unfold ArgI at h; rw [HL.out.1] at h; exact h) h0 h1
  go_enter Try.func5, Try.ntmps5
  go_upto_region 1 with fail
  rw [HW0.out]
  clear HW0
  try simp only [hG]
  obtain ⟨p0, p1, q0, q1⟩ := HK.out W0 (Below.refl _ _)
  go_wp2_with fail
  refine cZA.mono ?_
  rintro e w1 ⟨r, rfl, hr, b1⟩
  rcases hr with rfl | ⟨r0, r1, r2, r3⟩
  · clear cZA cZB
    go_wp2
    go_ret
    exact ⟨rfl, chain bX b1⟩
  have hneg : ¬ r < 0 := by omega
  have HF : Hid (imgFew p 1048576 ∧ (p.funcs.length : Int) + (funsTot p.funcs p.funcs.length : Int) ≤ 1048576) := ⟨r2, r3⟩
  clear p0 p1 q0 q1 r2 r3
  obtain ⟨p0, p1, q0, q1⟩ := HK.out w1 b1
  go_wp2_with fail
  refine (cZB w1 b1 r (by omega) (by omega)).mono ?_
  rintro e w2 ⟨r', rfl, hr', b2⟩
  rcases hr' with rfl | ⟨r0', r1', r2'⟩
  · clear cZA cZB
    go_wp2
    go_ret
    exact ⟨rfl, chain (chain bX b1) b2⟩
  have hneg' : ¬ r' < 0 := by omega
  clear p0 p1 q0 q1 cZA cZB
  have B2 : Below W0.heap.size W0 w2 := chain b1 b2
  have hnf : n ≤ 1048576 := by omega
  have HK2 : Hid (∀ W, Below w2.heap.size w2 W → W.cell? ⟨G, 0, none⟩ = some fv ∧ W.cell? ⟨G, 1, none⟩ = some cv ∧ W.cell? ⟨G + 1, 0, none⟩ = some (.int .i64 AC) ∧ W.cell? ⟨G + 1, 1, none⟩ = some (.slice xu n cu)) := fun W hW => HK.out W (chain B2 hW)
  have bS : ∀ {W0 W : World} (o : Obj), Below W0.heap.size W0 W → Below W0.heap.size W0 (W.alloc o) := fun o h => h.alloc h.size o
  clear HK
  obtain ⟨RR, eRR⟩ : ∃ x, (stepS p fk fa a).regs = x := ⟨_, rfl⟩
  obtain ⟨JA, eJA⟩ : ∃ x, (stepS p fk fa a).acc = x := ⟨_, rfl⟩
  obtain ⟨JN, eJN⟩ : ∃ x, RR.length = x := ⟨_, rfl⟩
  obtain ⟨SB, eSB⟩ : ∃ x, stepB p fk fa a = x := ⟨_, rfl⟩
  have HJ : Hid ((stepS p fk fa a).regs = RR ∧ (stepS p fk fa a).acc = JA ∧ RR.length = JN ∧ stepB p fk fa a = SB) := ⟨eRR, eJA, eJN, eSB⟩
  have cTI := fun W (hW : Below w2.heap.size w2 W) => toImage_own fv cv p W (HI.out W (chain bX (chain B2 hW))) HF.out.1
  have cTA2 := fun W (hW : Below w2.heap.size w2 W) => (cTI W hW).mono (fun e w' (hh : ∃ f d, e = .returned (.agg #[f, d]) ∧ (∃ fs, ImgOwn w' W.heap.size f d p fs) ∧ Below W.heap.size W w') => show ∃ (f d : Value), e = .returned (.agg #[f, d]) ∧ ArgImg w' f d p ∧ Below W.heap.size W w' by
    obtain ⟨f, d, e1, ⟨fs, e2⟩, e3⟩ := hh
    exact ⟨f, d, e1, e2.isIn.arg, e3⟩)
  have cTB := fun W (hW : Below w2.heap.size w2 W) => toState_any a _ W (HU.out W (chain bX (chain B2 hW))) (by have := HL.out.1; omega)
  simp only [HL.out.2] at cTB
  have cTB2 := fun W (hW : Below w2.heap.size w2 W) => (cTB W hW).mono (fun e w' (hh : ∃ v', e = .returned (.agg #[.int .i64 AC, v']) ∧ OwnI w' W.heap.size v' a.regs ∧ Below W.heap.size W w') => show ∃ (y : Option Addr) (d : Nat), e = .returned (.agg #[.int .i64 AC, .slice y n d]) ∧ OwnI w' W.heap.size (.slice y n d) a.regs ∧ Below W.heap.size W w' by
    obtain ⟨v, e1, e2, e3⟩ := hh
    obtain ⟨y, d, rfl⟩ := row_slice e2
    rw [HL.out.1] at e1 e2
    exact ⟨y, d, e1, e2, e3⟩)
  have cJ2 := fun (ya yd : Value) (yb : Option Addr) (db : Nat) W (ha : ArgImg W ya yd p) (hb : ArgI W (.slice yb n db) a.regs) => (specStepState_any p fk fa a _ _ _ W ha HIW.out hb).mono (fun e w' (hh : ∃ v', e = .returned (.tuple #[.agg #[.int .i64 (stepS p fk fa a).acc, v'], .bool (stepB p fk fa a)]) ∧ OwnI w' W.heap.size v' (stepS p fk fa a).regs ∧ Below W.heap.size W w') => show ∃ (y : Option Addr) (d : Nat), e = .returned (.tuple #[.agg #[.int .i64 JA, .slice y JN d], .bool SB]) ∧ OwnI w' W.heap.size (.slice y JN d) RR ∧ Below W.heap.size W w' by
    obtain ⟨v, e1, e2, e3⟩ := hh
    rw [HJ.out.1] at e2
    obtain ⟨y, d, rfl⟩ := row_slice e2
    rw [HJ.out.2.1, HJ.out.2.2.2, HJ.out.2.2.1] at e1
    rw [HJ.out.2.2.1] at e2
    exact ⟨y, d, e1, e2, e3⟩)
  simp only [HL.out.2] at cJ2
  clear cTB eRR eJA eJN eSB
  go_upto_region 8 with fail
  go_cut [10, 11] (fun pv pb wr => ∃ (C : Nat) (y : Option Addr) (d : Nat), pv = .pointer (some ⟨C, 0, none⟩) ∧ pb = .bool SB ∧ Hid (wr.heap[C]? = some (.cells #[.int .i64 JA, .slice y JN d] 26 (0, 0)) ∧ ArgI wr (.slice y JN d) RR ∧ Below w2.heap.size w2 wr ∧ w2.heap.size ≤ C))
  case first =>
    have bZ : ∀ (W : World), Below W.heap.size W (W.alloc (.cells #[.int .i64 0, .slice none 0 0] 26)).drew := fun W => ((Below.refl _ _).alloc (Nat.le_refl _) _).drew
    have bZ' : ∀ (W : World), Below W.heap.size W (W.alloc (.cells #[.int .i64 0, .slice none 0 0] 26)) := fun W => ((Below.refl _ _).alloc (Nat.le_refl _) _)
    have nZ : ∀ (W : World), (W.alloc (.cells #[.int .i64 0, .slice none 0 0] 26)).heap[W.heap.size]? = some (.cells #[.int .i64 0, .slice none 0 0] 26 (0, 0)) := fun W => heap_alloc_new W _
    have bD : ∀ (W : World), Below W.heap.size W W.drew := fun W => (Below.refl _ _).drew
    have hKeep : ∀ {C : Nat} {V W : World} {o : Obj}, V.heap[C]? = some o → Below V.heap.size V W → W.heap[C]? = some o := fun h hb => (hb.block _ (lt16 h)).trans h
    have hHid : ∀ {p : Prop}, p → Hid p := fun h => h
    have hA2 : ∀ (V W : World), Below w2.heap.size w2 V → Below V.heap.size V W → Hid (Below w2.heap.size w2 W) := fun V W h1 h2 => chain h1 h2
    have hAB : ∀ (U V W : World), Below U.heap.size U V → Below V.heap.size V W → Hid (Below U.heap.size U W) := fun U V W h1 h2 => chain h1 h2
    have nZd : ∀ (W : World), (W.alloc (.cells #[.int .i64 0, .slice none 0 0] 26)).drew.heap[W.heap.size]? = some (.cells #[.int .i64 0, .slice none 0 0] 26 (0, 0)) := fun W => heap_alloc_new W _
    have hK2 : ∀ (C : Nat) (V W : World), V.heap[C]? = some (.cells #[.int .i64 0, .slice none 0 0] 26 (0, 0)) → Below V.heap.size V W → Hid (W.heap[C]? = some (.cells #[.int .i64 0, .slice none 0 0] 26 (0, 0))) := fun C V W h hb => (hb.block _ (lt16 h)).trans h
    have bP : ∀ (C j : Nat) (u : Value) {W : World}, w2.heap.size ≤ C → Below w2.heap.size w2 W → Below w2.heap.size w2 (W.setCell ⟨C, j, none⟩ u) := fun C j u W hC h => h.setCell (p := ⟨C, j, none⟩) hC u
    have bO : ∀ (W : World) (o : Obj), Below W.heap.size W (W.alloc o) := fun W o => (Below.refl _ _).alloc (Nat.le_refl _) o
    have hEndA : ∀ (W : World) (y : Option Addr) (d B : Nat), Hid (Below w2.heap.size w2 W) → Hid (OwnI W B (.slice y JN d) RR) → Hid ((W.alloc (.cells #[.int .i64 JA, .slice y JN d] 26)).heap[W.heap.size]? = some (.cells #[.int .i64 JA, .slice y JN d] 26 (0, 0)) ∧ ArgI (W.alloc (.cells #[.int .i64 JA, .slice y JN d] 26)) (.slice y JN d) RR ∧ Below w2.heap.size w2 (W.alloc (.cells #[.int .i64 JA, .slice y JN d] 26)) ∧ w2.heap.size ≤ W.heap.size) := fun W y d B hB hO => ⟨heap_alloc_new W _, (OwnI.arg (hO.out.alloc _)), bS _ hB.out, hB.out.size⟩
    have hEndB : ∀ (W : World) (y : Option Addr) (d B C : Nat), Hid (Below w2.heap.size w2 W) → Hid (OwnI W B (.slice y JN d) RR) → Hid (W.heap[C]? = some (.cells #[.int .i64 0, .slice none 0 0] 26 (0, 0))) → Hid (w2.heap.size ≤ C) → Hid (((W.setCell ⟨C, 0, none⟩ (.int .i64 JA)).setCell ⟨C, 1, none⟩ (.slice y JN d)).heap[C]? = some (.cells #[.int .i64 JA, .slice y JN d] 26 (0, 0)) ∧ ArgI ((W.setCell ⟨C, 0, none⟩ (.int .i64 JA)).setCell ⟨C, 1, none⟩ (.slice y JN d)) (.slice y JN d) RR ∧ Below w2.heap.size w2 ((W.setCell ⟨C, 0, none⟩ (.int .i64 JA)).setCell ⟨C, 1, none⟩ (.slice y JN d)) ∧ w2.heap.size ≤ C) := fun W y d B C hB hO hC hL => by
      have k0 := heap_setCell_same W C 0 _ _ (.int .i64 JA) hC.out
      have k1 := heap_setCell_same _ C 1 _ _ (.slice y JN d) k0
      have ne := apart16 hO.out hC.out (by decide)
      have ho : OwnI ((W.setCell ⟨C, 0, none⟩ (.int .i64 JA)).setCell ⟨C, 1, none⟩ (.slice y JN d)) B (.slice y JN d) RR := far16 (far16 hO.out ne) ne
      exact ⟨k1, ho.arg, bP _ _ _ hL.out (bP _ _ _ hL.out hB.out), hL.out⟩
    go_region_held_law (fun W => W.cell? ⟨G, 0, none⟩ = some fv ∧ W.cell? ⟨G, 1, none⟩ = some cv ∧ W.cell? ⟨G + 1, 0, none⟩ = some (.int .i64 AC) ∧ W.cell? ⟨G + 1, 1, none⟩ = some (.slice xu n cu))
      (exact HK2.out _ (by first | with_reducible exact bP _ _ _ HLE.out (bP _ _ _ HLE.out HBJ.out) | with_reducible exact RowKit.Below.drew (bP _ _ _ HLE.out (bP _ _ _ HLE.out HBJ.out)) | with_reducible exact chain HBJ.out (bO _ _) | with_reducible exact chain HBJ.out (RowKit.Below.drew (bO _ _)) | with_reducible exact HBJ.out | with_reducible exact RowKit.Below.drew HBJ.out | with_reducible exact HBB.out | with_reducible exact RowKit.Below.drew HBB.out | with_reducible exact HBA.out | with_reducible exact RowKit.Below.drew HBA.out | with_reducible exact Below.refl _ _ | with_reducible exact (Below.refl _ _).drew | with_reducible exact bZ _ | with_reducible exact bZ' _ | with_reducible exact chain HBA.out (bZ _) | with_reducible exact chain HBA.out (bZ' _) | with_reducible exact chain HBB.out (bZ _) | with_reducible exact chain HBB.out (bZ' _)))
      (first
        | (go_at_call 19; (with_reducible refine (cTA2 _ (by first | with_reducible exact bZ _ | with_reducible exact bZ' _)).mono ?_); rintro e wA ⟨yA, dA, rfl, hoA, hbA⟩; have HBA := hA2 _ _ (by first | with_reducible exact bZ _ | with_reducible exact bZ' _) hbA; have HOA := hHid hoA; have HCA := hK2 w2.heap.size _ _ (by first | with_reducible exact nZd _ | with_reducible exact nZ _) hbA; clear hoA)
        | (go_at_call 19; (with_reducible refine (cTA2 _ (by first | with_reducible exact Below.refl _ _ | with_reducible exact bD _)).mono ?_); rintro e wA ⟨yA, dA, rfl, hoA, hbA⟩; have HBA := hA2 _ _ (by first | with_reducible exact Below.refl _ _ | with_reducible exact bD _) hbA; have HOA := hHid hoA; clear hoA)
        | (go_at_call 20; (with_reducible refine (cTB2 _ (chain HBA.out (by first | with_reducible exact bZ _ | with_reducible exact bZ' _))).mono ?_); rintro e wB ⟨yB, dB, rfl, hoB, hbB⟩; have HAB := hAB wA _ _ (by first | with_reducible exact bZ _ | with_reducible exact bZ' _) hbB; have HBB := hA2 _ _ HBA.out HAB.out; have HOB := hHid hoB.arg; have HCB := hK2 wA.heap.size _ _ (by first | with_reducible exact nZd _ | with_reducible exact nZ _) hbB; have HLE := hHid HBA.out.size; clear hoB)
        | (go_at_call 20; (with_reducible refine (cTB2 _ (chain HBA.out (by first | with_reducible exact Below.refl _ _ | with_reducible exact bD _))).mono ?_); rintro e wB ⟨yB, dB, rfl, hoB, hbB⟩; have HAB := hAB wA _ _ (by first | with_reducible exact Below.refl _ _ | with_reducible exact bD _) hbB; have HBB := hA2 _ _ HBA.out HAB.out; have HOB := hHid hoB.arg; have HCB := hK2 w2.heap.size _ _ HCA.out HAB.out; have HLE := hHid (Nat.le_refl w2.heap.size); clear hoB)
        | (go_at_call 20; (with_reducible refine (cTB2 _ (chain HBA.out (by first | with_reducible exact Below.refl _ _ | with_reducible exact bD _))).mono ?_); rintro e wB ⟨yB, dB, rfl, hoB, hbB⟩; have HAB := hAB wA _ _ (by first | with_reducible exact Below.refl _ _ | with_reducible exact bD _) hbB; have HBB := hA2 _ _ HBA.out HAB.out; have HOB := hHid hoB.arg; clear hoB)
        | (go_at_call 18; (with_reducible refine (cJ2 _ _ _ _ _ (HOA.out.below (chain (w := wA) HAB.out (by first | with_reducible exact bZ _ | with_reducible exact bZ' _))) (HOB.out.below (by first | with_reducible exact bZ _ | with_reducible exact bZ' _))).mono ?_); rintro e wJ ⟨yJ, dJ, rfl, hoJ, hbJ⟩; have HBJ0 := hAB wB _ _ (by first | with_reducible exact bZ _ | with_reducible exact bZ' _) hbJ; have HBJ := hA2 _ _ HBB.out HBJ0.out; have HOJ := hHid hoJ; have HCJ := hK2 wB.heap.size _ _ (by first | with_reducible exact nZd _ | with_reducible exact nZ _) hbJ; have HLE := hHid HBB.out.size; have pz := two_cells_of HCJ.out; have pz1 := pz.1; have pz2 := pz.2; have fzj := fun i => frozen_of_row wJ _ i _ _ HCJ.out; clear pz; clear hoJ)
        | (go_at_call 18; (with_reducible refine (cJ2 _ _ _ _ _ (HOA.out.below (chain (w := wA) HAB.out (by first | with_reducible exact Below.refl _ _ | with_reducible exact bD _))) (HOB.out.below (by first | with_reducible exact Below.refl _ _ | with_reducible exact bD _))).mono ?_); rintro e wJ ⟨yJ, dJ, rfl, hoJ, hbJ⟩; have HBJ0 := hAB wB _ _ (by first | with_reducible exact Below.refl _ _ | with_reducible exact bD _) hbJ; have HBJ := hA2 _ _ HBB.out HBJ0.out; have HOJ := hHid hoJ; have HCJ := hK2 _ _ _ HCB.out HBJ0.out; have pz := two_cells_of HCJ.out; have pz1 := pz.1; have pz2 := pz.2; have fzj := fun i => frozen_of_row wJ _ i _ _ HCJ.out; clear pz; clear hoJ)
        | (go_at_call 18; (with_reducible refine (cJ2 _ _ _ _ _ (HOA.out.below (chain (w := wA) HAB.out (by first | with_reducible exact Below.refl _ _ | with_reducible exact bD _))) (HOB.out.below (by first | with_reducible exact Below.refl _ _ | with_reducible exact bD _))).mono ?_); rintro e wJ ⟨yJ, dJ, rfl, hoJ, hbJ⟩; have HBJ0 := hAB wB _ _ (by first | with_reducible exact Below.refl _ _ | with_reducible exact bD _) hbJ; have HBJ := hA2 _ _ HBB.out HBJ0.out; have HOJ := hHid hoJ; clear hoJ))
    all_goals
      first
        | (have HE := hEndB _ _ _ _ _ HBJ HOJ HCJ HLE
           clear HK2 cTA2 cTB2 cJ2 hEndA hEndB bZ bZ' nZ bD hKeep hHid hA2 hAB nZd hK2 bP bO bS
           go_wp2
           go_meet
           case rel => exact ⟨_, _, _, rfl, rfl, HE⟩)
        | (have HE := hEndA _ _ _ _ HBJ HOJ
           clear HK2 cTA2 cTB2 cJ2 hEndA hEndB bZ bZ' nZ bD hKeep hHid hA2 hAB nZd hK2 bP bO bS
           go_wp2
           go_meet
           case rel => exact ⟨_, _, _, rfl, rfl, HE⟩)
  case rest =>
    obtain ⟨C, y, d, rfl, rfl, HD⟩ := hcut
    obtain ⟨WC, hWC⟩ : ∃ W, W = wc := ⟨_, rfl⟩
    subst hWC
    have HBC : Hid (Below w.heap.size w WC) := chain bX (chain B2 HD.out.2.2.1)
    have HKC : Hid (∀ V, Below WC.heap.size WC V → ((V.cell? ⟨G, 0, none⟩ = some fv ∧ V.cell? ⟨G, 1, none⟩ = some cv) ∧ (V.cell? ⟨G + 1, 0, none⟩ = some (.int .i64 AC) ∧ V.cell? ⟨G + 1, 1, none⟩ = some (.slice xu n cu))) ∧ (V.cell? ⟨C, 0, none⟩ = some (.int .i64 JA) ∧ V.cell? ⟨C, 1, none⟩ = some (.slice y JN d)) ∧ ArgI V (.slice y JN d) RR) := fun V hV => by
      obtain ⟨e1, e2, e3, e4⟩ := HK2.out V (chain HD.out.2.2.1 hV)
      exact ⟨⟨⟨e1, e2⟩, e3, e4⟩, two_cells_of ((hV.block C (lt16 HD.out.1)).trans HD.out.1), HD.out.2.1.below hV⟩
    have HRN : Hid (RR.length = JN ∧ JN ≤ 2000000) := by
      refine ⟨HJ.out.2.2.1, ?_⟩
      have h1 := step_len p fk fa a
      rw [HJ.out.1, HJ.out.2.2.1] at h1
      have := HL.out.1
      omega
    obtain ⟨NF, eNF⟩ : ∃ k, p.funcs.length = k := ⟨_, rfl⟩
    obtain ⟨NC, eNC⟩ : ∃ k, p.consts.length = k := ⟨_, rfl⟩
    have HN : Hid (p.funcs.length = NF ∧ p.consts.length = NC) := ⟨eNF, eNC⟩
    clear eNF eNC
    have cTi := fun W (hW : Below WC.heap.size WC W) => (cTI W (chain HD.out.2.2.1 hW)).mono (fun e w' (hh : ∃ f d, e = .returned (.agg #[f, d]) ∧ (∃ fs, ImgOwn w' W.heap.size f d p fs) ∧ Below W.heap.size W w') => show ∃ (fx : Option Addr) (fc : Nat) (cx : Option Addr) (cc : Nat) (fs : List FSh), e = .returned (.agg #[.slice fx NF fc, .slice cx NC cc]) ∧ ImgOwn w' W.heap.size (.slice fx NF fc) (.slice cx NC cc) p fs ∧ Below W.heap.size W w' by
      obtain ⟨f, d, e1, ⟨fs, e2⟩, e3⟩ := hh
      obtain ⟨cx, cc, rfl⟩ := row_slice e2.2.2.1
      have e4 := e2
      obtain ⟨_, _, _, xs, h4, _⟩ := e4
      obtain ⟨fx, fc, rfl⟩ := row_slice h4
      rw [HN.out.1, HN.out.2] at e1 e2
      exact ⟨fx, fc, cx, cc, fs, e1, e2, e3⟩)
    have cTb := fun W (hW : Below WC.heap.size WC W) => cTB2 W (chain HD.out.2.2.1 hW)
    have cTa := fun W (hW : Below WC.heap.size WC W) => cTA2 W (chain HD.out.2.2.1 hW)
    have cJi := fun (ya yd : Value) (yb : Option Addr) (db : Nat) W (ha : ArgImg W ya yd p) (hb : ArgI W (.slice yb n db) a.regs) => (iStepState_any p fk fa a _ _ _ W ha HIW.out hb).mono (fun e w' (hh : ∃ v', e = .returned (.tuple #[.agg #[.int .i64 (stepS p fk fa a).acc, v'], .bool (stepB p fk fa a)]) ∧ OwnI w' W.heap.size v' (stepS p fk fa a).regs ∧ Below W.heap.size W w') => show ∃ (y : Option Addr) (d : Nat), e = .returned (.tuple #[.agg #[.int .i64 JA, .slice y JN d], .bool SB]) ∧ OwnI w' W.heap.size (.slice y JN d) RR ∧ Below W.heap.size W w' by
      obtain ⟨v, e1, e2, e3⟩ := hh
      rw [HJ.out.1] at e2
      obtain ⟨y, d, rfl⟩ := row_slice e2
      rw [HJ.out.2.1, HJ.out.2.2.2, HJ.out.2.2.1] at e1
      rw [HJ.out.2.2.1] at e2
      exact ⟨y, d, e1, e2, e3⟩)
    simp only [HL.out.2] at cJi
    have cEJ := fun (u v : Value) (W : World) (hu : ArgI W u RR) (hv : ArgI W v RR) => (eqState_any ⟨JA, RR⟩ ⟨JA, RR⟩ u v W hu hv).mono (fun e w' (hh : e = .returned (.bool (decide (JA = JA) && decide (RR = RR))) ∧ Below W.heap.size W w') => show e = .returned (.bool true) ∧ Below W.heap.size W w' from ⟨by rw [hh.1]; simp, hh.2⟩)
    have cEA := fun (u v : Value) (W : World) (hu : ArgI W u a.regs) (hv : ArgI W v a.regs) => (eqState_any ⟨AC, a.regs⟩ ⟨AC, a.regs⟩ u v W hu hv).mono (fun e w' (hh : e = .returned (.bool (decide (AC = AC) && decide (a.regs = a.regs))) ∧ Below W.heap.size W w') => show e = .returned (.bool true) ∧ Below W.heap.size W w' from ⟨by rw [hh.1]; simp, hh.2⟩)
    simp only at cEJ cEA
    clear HD cTA2 cTB2 cJ2 HK2 HU B2 bX z0 z1 cTI
    obtain ⟨⟨⟨p0, p1⟩, p2, p3⟩, ⟨c0, c1⟩, _⟩ := HKC.out WC (Below.refl _ _)
    have cA0 := cTi WC (Below.refl _ _)
    go_upto_region 10 with (go_at_call 19; (with_reducible refine cA0.mono ?_); rintro e w3 ⟨fx, fc, cx, cc, fs, rfl, o7, b3⟩)
    clear cA0 p0 p1 p2 p3 c0 c1
    have g7 : (w3.alloc (.cells #[.slice fx NF fc, .slice cx NC cc] 34)).heap[w3.heap.size]? = some (.cells #[.slice fx NF fc, .slice cx NC cc] 34 (0, 0)) := heap_alloc_new w3 _
    have bA3 : Below w3.heap.size w3 (w3.alloc (.cells #[.slice fx NF fc, .slice cx NC cc] 34)) := (Below.refl _ _).alloc (Nat.le_refl _) _
    have o7' : ImgOwn (w3.alloc (.cells #[.slice fx NF fc, .slice cx NC cc] 34)) WC.heap.size (.slice fx NF fc) (.slice cx NC cc) p fs := o7.below bA3
    have B3 : Below WC.heap.size WC (w3.alloc (.cells #[.slice fx NF fc, .slice cx NC cc] 34)) := chain b3 bA3
    obtain ⟨X7, hX7⟩ : ∃ k, w3.heap.size = k := ⟨_, rfl⟩
    obtain ⟨W3, hW3⟩ : ∃ W, w3.alloc (.cells #[.slice fx NF fc, .slice cx NC cc] 34) = W := ⟨_, rfl⟩
    simp only [hX7, hW3] at g7 o7' B3 ⊢
    clear hW3 hX7 bA3 o7 b3
    obtain ⟨⟨⟨p0, p1⟩, p2, p3⟩, ⟨c0, c1⟩, _⟩ := HKC.out W3 B3
    have cB0 := cTb W3 B3
    go_upto_region 11 with (go_at_call 20; (with_reducible refine cB0.mono ?_); rintro e w4 ⟨y8, d8, rfl, o8, b4⟩)
    clear cB0 p0 p1 p2 p3 c0 c1
    have bA4 : Below w4.heap.size w4 (w4.alloc (.cells #[.int .i64 AC, .slice y8 n d8] 26)) := (Below.refl _ _).alloc (Nat.le_refl _) _
    have g8 : (w4.alloc (.cells #[.int .i64 AC, .slice y8 n d8] 26)).heap[w4.heap.size]? = some (.cells #[.int .i64 AC, .slice y8 n d8] 26 (0, 0)) := heap_alloc_new w4 _
    have o8' : OwnI (w4.alloc (.cells #[.int .i64 AC, .slice y8 n d8] 26)) W3.heap.size (.slice y8 n d8) a.regs := o8.below bA4
    have b34 := chain b4 bA4
    have g74 := (b34.block X7 (lt16 g7)).trans g7
    have o74 := o7'.below b34
    have B4 := chain B3 b34
    obtain ⟨X8, hX8⟩ : ∃ k, w4.heap.size = k := ⟨_, rfl⟩
    obtain ⟨W4, hW4⟩ : ∃ W, w4.alloc (.cells #[.int .i64 AC, .slice y8 n d8] 26) = W := ⟨_, rfl⟩
    simp only [hX8, hW4] at g8 g74 o74 o8' B4 b34 ⊢
    have HY8 : Hid (∀ g, (Value.slice y8 n d8).ownBlock = some g → g < W4.heap.size) := fun g hg => (own_in o8' hg).1
    have HX8 : Hid (W3.heap.size ≤ W4.heap.size ∧ WC.heap.size ≤ W3.heap.size) := ⟨b34.size, B3.size⟩
    clear hW4 hX8 bA4 o8 b4 g7 o7' b34
    obtain ⟨⟨_, _⟩, ⟨c0, c1⟩, ac⟩ := HKC.out W4 B4
    obtain ⟨p0, p1⟩ := two_cells_of g74
    obtain ⟨p2, p3⟩ := two_cells_of g8
    have cJ0 := cJi _ _ y8 d8 W4 o74.isIn.arg o8'.arg
    go_upto_region 12 with (go_at_call 21; (with_reducible refine cJ0.mono ?_); rintro e w5 ⟨y9, d9, rfl, o9, b5⟩)
    clear cJ0 p0 p1 p2 p3 c0 c1
    have bA5 : Below w5.heap.size w5 (w5.alloc (.cells #[.int .i64 JA, .slice y9 JN d9] 26)) := (Below.refl _ _).alloc (Nat.le_refl _) _
    have g9 : (w5.alloc (.cells #[.int .i64 JA, .slice y9 JN d9] 26)).heap[w5.heap.size]? = some (.cells #[.int .i64 JA, .slice y9 JN d9] 26 (0, 0)) := heap_alloc_new w5 _
    have o95 : OwnI (w5.alloc (.cells #[.int .i64 JA, .slice y9 JN d9] 26)) W4.heap.size (.slice y9 JN d9) RR := o9.below bA5
    have b45 := chain b5 bA5
    have g75 := (b45.block X7 (lt16 g74)).trans g74
    have g85 := (b45.block X8 (lt16 g8)).trans g8
    have o75 := o74.below b45
    have o85 := o8'.below b45
    have B5 := chain B4 b45
    obtain ⟨X9, hX9⟩ : ∃ k, w5.heap.size = k := ⟨_, rfl⟩
    obtain ⟨W5, hW5⟩ : ∃ W, w5.alloc (.cells #[.int .i64 JA, .slice y9 JN d9] 26) = W := ⟨_, rfl⟩
    simp only [hX9, hW5] at g9 g75 g85 o75 o85 o95 B5 b45 ⊢
    have HSZ : Hid (WC.heap.size ≤ W3.heap.size ∧ W3.heap.size ≤ W4.heap.size ∧ W4.heap.size ≤ W5.heap.size) := ⟨HX8.out.2, HX8.out.1, b45.size⟩
    clear hW5 hX9 bA5 o9 b5 g74 g8 o74 o8' ac
    have HR : Hid (∀ V, Below W5.heap.size W5 V → ((V.cell? ⟨X7, 0, none⟩ = some (.slice fx NF fc) ∧ V.cell? ⟨X7, 1, none⟩ = some (.slice cx NC cc)) ∧ (V.cell? ⟨X8, 0, none⟩ = some (.int .i64 AC) ∧ V.cell? ⟨X8, 1, none⟩ = some (.slice y8 n d8)) ∧ (V.cell? ⟨X9, 0, none⟩ = some (.int .i64 JA) ∧ V.cell? ⟨X9, 1, none⟩ = some (.slice y9 JN d9)))) := fun V hV => ⟨two_cells_of ((hV.block X7 (lt16 g75)).trans g75), two_cells_of ((hV.block X8 (lt16 g85)).trans g85), two_cells_of ((hV.block X9 (lt16 g9)).trans g9)⟩
    have HB5 : Hid (Below WC.heap.size WC W5) := B5
    obtain ⟨_, ⟨c0, c1⟩, ac⟩ := HKC.out W5 B5
    obtain ⟨_, _, ⟨p0, p1⟩⟩ := HR.out W5 (Below.refl _ _)
    have cE0 := cEJ _ _ W5 o95.arg ac
    go_upto_region 14 with (go_at_call 22; (with_reducible refine cE0.mono ?_); rintro e w6 ⟨rfl, b6⟩)
    clear cE0 p0 p1 c0 c1 ac
    have hA2 : ∀ {W V : World}, Below W5.heap.size W5 W → Below W.heap.size W V → Hid (Below W5.heap.size W5 V) := fun h k => chain h k
    have HB6 : Hid (Below W5.heap.size W5 w6) := b6
    have HK6 : Hid (∀ V, Below W5.heap.size W5 V → ((V.cell? ⟨X7, 0, none⟩ = some (.slice fx NF fc) ∧ V.cell? ⟨X7, 1, none⟩ = some (.slice cx NC cc)) ∧ (V.cell? ⟨G, 0, none⟩ = some fv ∧ V.cell? ⟨G, 1, none⟩ = some cv))) := fun V hV => ⟨(HR.out V hV).1, (HKC.out V (chain HB5.out hV)).1.1⟩
    have HK7 : Hid (∀ V, Below W5.heap.size W5 V → ((V.cell? ⟨X8, 0, none⟩ = some (.int .i64 AC) ∧ V.cell? ⟨X8, 1, none⟩ = some (.slice y8 n d8)) ∧ (V.cell? ⟨G + 1, 0, none⟩ = some (.int .i64 AC) ∧ V.cell? ⟨G + 1, 1, none⟩ = some (.slice xu n cu)))) := fun V hV => ⟨(HR.out V hV).2.1, (HKC.out V (chain HB5.out hV)).1.2⟩
    have cT6 := fun W (hW : Below W5.heap.size W5 W) => (cTa W (chain HB5.out hW)).mono (fun e w' (hh : ∃ (f d : Value), e = .returned (.agg #[f, d]) ∧ ArgImg w' f d p ∧ Below W.heap.size W w') => show ∃ (f d : Value), e = .returned (.agg #[f, d]) ∧ Hid (ArgImg w' f d p) ∧ Hid (Below W5.heap.size W5 w') by
      obtain ⟨f, d, e1, e2, e3⟩ := hh
      exact ⟨f, d, e1, e2, chain hW e3⟩)
    have cT7 := fun W (hW : Below W5.heap.size W5 W) => (cTb W (chain HB5.out hW)).mono (fun e w' (hh : ∃ (y : Option Addr) (d : Nat), e = .returned (.agg #[.int .i64 AC, .slice y n d]) ∧ OwnI w' W.heap.size (.slice y n d) a.regs ∧ Below W.heap.size W w') => show ∃ (y : Option Addr) (d : Nat), e = .returned (.agg #[.int .i64 AC, .slice y n d]) ∧ Hid (ArgI w' (.slice y n d) a.regs) ∧ Hid (Below W5.heap.size W5 w') by
      obtain ⟨y, d, e1, e2, e3⟩ := hh
      exact ⟨y, d, e1, e2.arg, chain hW e3⟩)
    have cE6 := fun (ft dt : Value) W (hW : Below W5.heap.size W5 W) (ht : ArgImg W ft dt p) => eqImage_same p (.slice fx NF fc) (.slice cx NC cc) ft dt W (o75.isIn.arg.below hW) ht
    have cE7 := fun (yt : Option Addr) (dt : Nat) W (hW : Below W5.heap.size W5 W) (ht : ArgI W (.slice yt n dt) a.regs) => cEA (.slice y8 n d8) (.slice yt n dt) W (o85.arg.below hW) ht
    go_region_held_law (fun V => (V.cell? ⟨X7, 0, none⟩ = some (.slice fx NF fc) ∧ V.cell? ⟨X7, 1, none⟩ = some (.slice cx NC cc)) ∧ (V.cell? ⟨G, 0, none⟩ = some fv ∧ V.cell? ⟨G, 1, none⟩ = some cv))
      (exact HK6.out _ (by first | with_reducible exact HBE.out | with_reducible exact RowKit.Below.drew HBE.out | with_reducible exact HBT.out | with_reducible exact RowKit.Below.drew HBT.out | with_reducible exact HB6.out | with_reducible exact RowKit.Below.drew HB6.out))
      (first
        | (go_at_call 19; (with_reducible refine (cT6 _ (by first | with_reducible exact HB6.out | with_reducible exact RowKit.Below.drew HB6.out)).mono ?_); rintro e wT ⟨yT, dT, rfl, HOT, HBT⟩)
        | (go_at_call 13; (with_reducible refine (cE6 _ _ _ HBT.out HOT.out).mono ?_); rintro e wE ⟨rfl, bE⟩; have HBE := hA2 HBT.out bE))
    clear HOT HBT b6 HB6 HK6 cT6 cE6 bE
    go_upto_region 16 with fail
    have HB7 : Hid (Below W5.heap.size W5 wE) := HBE.out
    clear HBE
    go_region_held_law (fun V => (V.cell? ⟨X8, 0, none⟩ = some (.int .i64 AC) ∧ V.cell? ⟨X8, 1, none⟩ = some (.slice y8 n d8)) ∧ (V.cell? ⟨G + 1, 0, none⟩ = some (.int .i64 AC) ∧ V.cell? ⟨G + 1, 1, none⟩ = some (.slice xu n cu)))
      (exact HK7.out _ (by first | with_reducible exact HBF.out | with_reducible exact RowKit.Below.drew HBF.out | with_reducible exact HBU.out | with_reducible exact RowKit.Below.drew HBU.out | with_reducible exact HB7.out | with_reducible exact RowKit.Below.drew HB7.out))
      (first
        | (go_at_call 20; (with_reducible refine (cT7 _ (by first | with_reducible exact HB7.out | with_reducible exact RowKit.Below.drew HB7.out)).mono ?_); rintro e wU ⟨yU, dU, rfl, HOU, HBU⟩)
        | (go_at_call 22; (with_reducible refine (cE7 _ _ _ HBU.out HOU.out).mono ?_); rintro e wF ⟨rfl, bF⟩; have HBF := hA2 HBU.out bF))
    clear HOU HBU HB7 HK7 cT7 cE7 bF hA2
    go_upto_region 19 with fail
    have B8 := HBF.out
    have q7 := (B8.block X7 (lt16 g75)).trans g75
    have q8 := (B8.block X8 (lt16 g85)).trans g85
    have q9 := (B8.block X9 (lt16 g9)).trans g9
    have o7 := o75.below B8
    have o8 := o85.below B8
    have o9 := o95.below B8
    have hsz := HSZ.out
    have hw8 := B8.size
    have BF := chain HB5.out B8
    clear HBF g75 g85 g9 o75 o85 o95 HR B8
    have hfew := few_img o7 HF.out.2
    have cM := markImage_f WC.heap.size (.slice fx NF fc) (.slice cx NC cc) p fs 1 wF o7 (by omega) hfew (by omega) (by have := HF.out.1.2.2.1; omega)
    have hKb : offK fs 1 fs.length + p.consts.length * 3 ≤ 20000000 := by have := hfew.2; have := HF.out.1.2.2.1; omega
    obtain ⟨KA, hKA⟩ : ∃ k, offK fs 1 fs.length + p.consts.length * 3 = k := ⟨_, rfl⟩
    rw [hKA, show ((1 : Nat) : Int) = 1 from rfl] at cM
    rw [hKA] at hKb
    obtain ⟨p0, p1⟩ := two_cells_of q7
    go_upto_region 20 with (go_at_call 14; (with_reducible refine cM.mono ?_); rintro e wG ⟨rfl, _, bG, frG⟩)
    clear cM p0 p1 hfew hKA
    have q8' := frG X8 _ _ _ (by decide) (by decide) (by decide) (by decide) (by decide) q8
    have q9' := frG X9 _ _ _ (by decide) (by decide) (by decide) (by decide) (by decide) q9
    have o8' := o8.frame frG
    have o9' := o9.frame frG
    have BG : Below WC.heap.size WC wG := BF.trans bG
    have hwG := bG.size
    clear frG q7 q8 q9 o7 o8 o9 BF bG
    have cM := markState_any W3.heap.size a (.slice y8 n d8) KA wG o8' (by have := HL.out.1; omega) (by omega)
    rw [HL.out.2, HL.out.1] at cM
    obtain ⟨KB, hKB⟩ : ∃ k, KA + n = k := ⟨_, rfl⟩
    rw [hKB] at cM
    obtain ⟨p0, p1⟩ := two_cells_of q8'
    go_upto_region 21 with (go_at_call 23; (with_reducible refine cM.mono ?_); rintro e wH ⟨rfl, _, grH⟩)
    clear cM p0 p1
    have MH := marked o8' (by omega) BG (by omega) grH
    have q9 := MH.boxes X9 _ q9'
    have o9 := MH.rows _ _ _ o9' (fun g hg hu => by have := HY8.out g hg; have := (own_in o9' hu).2; omega)
    have BH := MH.bel
    have hwH := MH.size
    clear MH grH q8' q9' o8' o9' BG
    have hKneg : ¬ (KB : Int) < 0 := by omega
    obtain ⟨_, ⟨c0, c1⟩, ac⟩ := HKC.out wH BH
    obtain ⟨p0, p1⟩ := two_cells_of q9
    have cE0 := cEJ _ _ wH o9.arg ac
    go_upto_region 24 with (go_at_call 22; (with_reducible refine cE0.mono ?_); rintro e wI ⟨rfl, bI⟩)
    clear cE0 p0 p1 c0 c1 ac
    have q9' := (bI.block X9 (lt16 q9)).trans q9
    have o9' := o9.below bI
    have BI := chain BH bI
    have hwI := bI.size
    clear q9 o9 BH bI
    have cM := markState_any W4.heap.size ⟨JA, RR⟩ (.slice y9 JN d9) 1 wI o9' (by have := HRN.out; show RR.length ≤ 2000000; omega) (by omega)
    simp only [HRN.out.1, show ((1 : Nat) : Int) = 1 from rfl] at cM
    have hJN : JN ≤ 2000000 := HRN.out.2
    obtain ⟨KM, hKM⟩ : ∃ k, 1 + JN = k := ⟨_, rfl⟩
    simp only [hKM] at cM
    obtain ⟨p0, p1⟩ := two_cells_of q9'
    go_upto_region 26 with (go_at_call 23; (with_reducible refine cM.mono ?_); rintro e wJ0 ⟨rfl, oJ, grJ⟩)
    clear cM p0 p1
    have MJ := marked o9' (by omega) BI (by omega) grJ
    have q9 := MJ.boxes X9 _ q9'
    have BJ := MJ.bel
    have hwJ := MJ.size
    clear MJ grJ q9' o9' BI
    have cH := fun (W : World) (hW : Below wJ0.heap.size wJ0 W) => heldState_any JA (.slice y9 JN d9) JN 1 W (oJ.arg.below hW) hJN (by omega)
    simp only [hKM, show ((1 : Nat) : Int) = 1 from rfl] at cH
    have cH0 := cH wJ0 (Below.refl _ _)
    have hMneg : ¬ (KM : Int) < 0 := by omega
    obtain ⟨p0, p1⟩ := two_cells_of q9
    go_upto_region 31 with (go_at_call 24; (with_reducible refine cH0.mono ?_); rintro e w2' ⟨rfl, bK⟩)
    clear cH0 p0 p1
    have q9' := (bK.block X9 (lt16 q9)).trans q9
    have HQ9 : Hid _ := q9'
    have HKJ : Hid (Below wJ0.heap.size wJ0 w2') := bK
    have HBK : Hid (Below WC.heap.size WC w2') := chain BJ bK
    have HK3 : Hid (∀ W, Below w2'.heap.size w2' W → W.cell? ⟨G, 0, none⟩ = some fv ∧ W.cell? ⟨G, 1, none⟩ = some cv ∧ W.cell? ⟨G + 1, 0, none⟩ = some (.int .i64 AC) ∧ W.cell? ⟨G + 1, 1, none⟩ = some (.slice xu n cu)) := fun W hW => by
      have h := (HKC.out W (chain HBK.out hW)).1
      exact ⟨h.1.1, h.1.2, h.2.1, h.2.2⟩
    have cTA3 := fun W (hW : Below w2'.heap.size w2' W) => cTa W (chain HBK.out hW)
    have cTB3 := fun W (hW : Below w2'.heap.size w2' W) => cTb W (chain HBK.out hW)
    have bS : ∀ {W0 W : World} (o : Obj), Below W0.heap.size W0 W → Below W0.heap.size W0 (W.alloc o) := fun o h => h.alloc h.size o
    clear q9 q9' bK BJ cTa cTb cTi cEA hwJ hwI hwH hwG hw8 hsz
    go_cut [19, 20] (fun pv pb wr => ∃ (C : Nat) (y : Option Addr) (d : Nat), pv = .pointer (some ⟨C, 0, none⟩) ∧ pb = .bool SB ∧ Hid (wr.heap[C]? = some (.cells #[.int .i64 JA, .slice y JN d] 26 (0, 0)) ∧ ArgI wr (.slice y JN d) RR ∧ Below w2'.heap.size w2' wr ∧ w2'.heap.size ≤ C))
    case first =>
      have bZ : ∀ (W : World), Below W.heap.size W (W.alloc (.cells #[.int .i64 0, .slice none 0 0] 26)).drew := fun W => ((Below.refl _ _).alloc (Nat.le_refl _) _).drew
      have bZ' : ∀ (W : World), Below W.heap.size W (W.alloc (.cells #[.int .i64 0, .slice none 0 0] 26)) := fun W => ((Below.refl _ _).alloc (Nat.le_refl _) _)
      have nZ : ∀ (W : World), (W.alloc (.cells #[.int .i64 0, .slice none 0 0] 26)).heap[W.heap.size]? = some (.cells #[.int .i64 0, .slice none 0 0] 26 (0, 0)) := fun W => heap_alloc_new W _
      have bD : ∀ (W : World), Below W.heap.size W W.drew := fun W => (Below.refl _ _).drew
      have hKeep : ∀ {C : Nat} {V W : World} {o : Obj}, V.heap[C]? = some o → Below V.heap.size V W → W.heap[C]? = some o := fun h hb => (hb.block _ (lt16 h)).trans h
      have hHid : ∀ {p : Prop}, p → Hid p := fun h => h
      have hA2 : ∀ (V W : World), Below w2'.heap.size w2' V → Below V.heap.size V W → Hid (Below w2'.heap.size w2' W) := fun V W h1 h2 => chain h1 h2
      have hAB : ∀ (U V W : World), Below U.heap.size U V → Below V.heap.size V W → Hid (Below U.heap.size U W) := fun U V W h1 h2 => chain h1 h2
      have nZd : ∀ (W : World), (W.alloc (.cells #[.int .i64 0, .slice none 0 0] 26)).drew.heap[W.heap.size]? = some (.cells #[.int .i64 0, .slice none 0 0] 26 (0, 0)) := fun W => heap_alloc_new W _
      have hK2 : ∀ (C : Nat) (V W : World), V.heap[C]? = some (.cells #[.int .i64 0, .slice none 0 0] 26 (0, 0)) → Below V.heap.size V W → Hid (W.heap[C]? = some (.cells #[.int .i64 0, .slice none 0 0] 26 (0, 0))) := fun C V W h hb => (hb.block _ (lt16 h)).trans h
      have bP : ∀ (C j : Nat) (u : Value) {W : World}, w2'.heap.size ≤ C → Below w2'.heap.size w2' W → Below w2'.heap.size w2' (W.setCell ⟨C, j, none⟩ u) := fun C j u W hC h => h.setCell (p := ⟨C, j, none⟩) hC u
      have bO : ∀ (W : World) (o : Obj), Below W.heap.size W (W.alloc o) := fun W o => (Below.refl _ _).alloc (Nat.le_refl _) o
      have hEndA : ∀ (W : World) (y : Option Addr) (d B : Nat), Hid (Below w2'.heap.size w2' W) → Hid (OwnI W B (.slice y JN d) RR) → Hid ((W.alloc (.cells #[.int .i64 JA, .slice y JN d] 26)).heap[W.heap.size]? = some (.cells #[.int .i64 JA, .slice y JN d] 26 (0, 0)) ∧ ArgI (W.alloc (.cells #[.int .i64 JA, .slice y JN d] 26)) (.slice y JN d) RR ∧ Below w2'.heap.size w2' (W.alloc (.cells #[.int .i64 JA, .slice y JN d] 26)) ∧ w2'.heap.size ≤ W.heap.size) := fun W y d B hB hO => ⟨heap_alloc_new W _, (OwnI.arg (hO.out.alloc _)), bS _ hB.out, hB.out.size⟩
      have hEndB : ∀ (W : World) (y : Option Addr) (d B C : Nat), Hid (Below w2'.heap.size w2' W) → Hid (OwnI W B (.slice y JN d) RR) → Hid (W.heap[C]? = some (.cells #[.int .i64 0, .slice none 0 0] 26 (0, 0))) → Hid (w2'.heap.size ≤ C) → Hid (((W.setCell ⟨C, 0, none⟩ (.int .i64 JA)).setCell ⟨C, 1, none⟩ (.slice y JN d)).heap[C]? = some (.cells #[.int .i64 JA, .slice y JN d] 26 (0, 0)) ∧ ArgI ((W.setCell ⟨C, 0, none⟩ (.int .i64 JA)).setCell ⟨C, 1, none⟩ (.slice y JN d)) (.slice y JN d) RR ∧ Below w2'.heap.size w2' ((W.setCell ⟨C, 0, none⟩ (.int .i64 JA)).setCell ⟨C, 1, none⟩ (.slice y JN d)) ∧ w2'.heap.size ≤ C) := fun W y d B C hB hO hC hL => by
        have k0 := heap_setCell_same W C 0 _ _ (.int .i64 JA) hC.out
        have k1 := heap_setCell_same _ C 1 _ _ (.slice y JN d) k0
        have ne := apart16 hO.out hC.out (by decide)
        have ho : OwnI ((W.setCell ⟨C, 0, none⟩ (.int .i64 JA)).setCell ⟨C, 1, none⟩ (.slice y JN d)) B (.slice y JN d) RR := far16 (far16 hO.out ne) ne
        exact ⟨k1, ho.arg, bP _ _ _ hL.out (bP _ _ _ hL.out hB.out), hL.out⟩
      go_region_held_law (fun W => W.cell? ⟨G, 0, none⟩ = some fv ∧ W.cell? ⟨G, 1, none⟩ = some cv ∧ W.cell? ⟨G + 1, 0, none⟩ = some (.int .i64 AC) ∧ W.cell? ⟨G + 1, 1, none⟩ = some (.slice xu n cu))
        (exact HK3.out _ (by first | with_reducible exact bP _ _ _ HLE.out (bP _ _ _ HLE.out HBJ.out) | with_reducible exact RowKit.Below.drew (bP _ _ _ HLE.out (bP _ _ _ HLE.out HBJ.out)) | with_reducible exact chain HBJ.out (bO _ _) | with_reducible exact chain HBJ.out (RowKit.Below.drew (bO _ _)) | with_reducible exact HBJ.out | with_reducible exact RowKit.Below.drew HBJ.out | with_reducible exact HBB.out | with_reducible exact RowKit.Below.drew HBB.out | with_reducible exact HBA.out | with_reducible exact RowKit.Below.drew HBA.out | with_reducible exact Below.refl _ _ | with_reducible exact (Below.refl _ _).drew | with_reducible exact bZ _ | with_reducible exact bZ' _ | with_reducible exact chain HBA.out (bZ _) | with_reducible exact chain HBA.out (bZ' _) | with_reducible exact chain HBB.out (bZ _) | with_reducible exact chain HBB.out (bZ' _)))
        (first
          | (go_at_call 19; (with_reducible refine (cTA3 _ (by first | with_reducible exact bZ _ | with_reducible exact bZ' _)).mono ?_); rintro e wA ⟨yA, dA, rfl, hoA, hbA⟩; have HBA := hA2 _ _ (by first | with_reducible exact bZ _ | with_reducible exact bZ' _) hbA; have HOA := hHid hoA; have HCA := hK2 w2'.heap.size _ _ (by first | with_reducible exact nZd _ | with_reducible exact nZ _) hbA; clear hoA)
          | (go_at_call 19; (with_reducible refine (cTA3 _ (by first | with_reducible exact Below.refl _ _ | with_reducible exact bD _)).mono ?_); rintro e wA ⟨yA, dA, rfl, hoA, hbA⟩; have HBA := hA2 _ _ (by first | with_reducible exact Below.refl _ _ | with_reducible exact bD _) hbA; have HOA := hHid hoA; clear hoA)
          | (go_at_call 20; (with_reducible refine (cTB3 _ (chain HBA.out (by first | with_reducible exact bZ _ | with_reducible exact bZ' _))).mono ?_); rintro e wB ⟨yB, dB, rfl, hoB, hbB⟩; have HAB := hAB wA _ _ (by first | with_reducible exact bZ _ | with_reducible exact bZ' _) hbB; have HBB := hA2 _ _ HBA.out HAB.out; have HOB := hHid hoB.arg; have HCB := hK2 wA.heap.size _ _ (by first | with_reducible exact nZd _ | with_reducible exact nZ _) hbB; have HLE := hHid HBA.out.size; clear hoB)
          | (go_at_call 20; (with_reducible refine (cTB3 _ (chain HBA.out (by first | with_reducible exact Below.refl _ _ | with_reducible exact bD _))).mono ?_); rintro e wB ⟨yB, dB, rfl, hoB, hbB⟩; have HAB := hAB wA _ _ (by first | with_reducible exact Below.refl _ _ | with_reducible exact bD _) hbB; have HBB := hA2 _ _ HBA.out HAB.out; have HOB := hHid hoB.arg; have HCB := hK2 w2'.heap.size _ _ HCA.out HAB.out; have HLE := hHid (Nat.le_refl w2'.heap.size); clear hoB)
          | (go_at_call 20; (with_reducible refine (cTB3 _ (chain HBA.out (by first | with_reducible exact Below.refl _ _ | with_reducible exact bD _))).mono ?_); rintro e wB ⟨yB, dB, rfl, hoB, hbB⟩; have HAB := hAB wA _ _ (by first | with_reducible exact Below.refl _ _ | with_reducible exact bD _) hbB; have HBB := hA2 _ _ HBA.out HAB.out; have HOB := hHid hoB.arg; clear hoB)
          | (go_at_call 21; (with_reducible refine (cJi _ _ _ _ _ (HOA.out.below (chain (w := wA) HAB.out (by first | with_reducible exact bZ _ | with_reducible exact bZ' _))) (HOB.out.below (by first | with_reducible exact bZ _ | with_reducible exact bZ' _))).mono ?_); rintro e wJ ⟨yJ, dJ, rfl, hoJ, hbJ⟩; have HBJ0 := hAB wB _ _ (by first | with_reducible exact bZ _ | with_reducible exact bZ' _) hbJ; have HBJ := hA2 _ _ HBB.out HBJ0.out; have HOJ := hHid hoJ; have HCJ := hK2 wB.heap.size _ _ (by first | with_reducible exact nZd _ | with_reducible exact nZ _) hbJ; have HLE := hHid HBB.out.size; have pz := two_cells_of HCJ.out; have pz1 := pz.1; have pz2 := pz.2; have fzj := fun i => frozen_of_row wJ _ i _ _ HCJ.out; clear pz; clear hoJ)
          | (go_at_call 21; (with_reducible refine (cJi _ _ _ _ _ (HOA.out.below (chain (w := wA) HAB.out (by first | with_reducible exact Below.refl _ _ | with_reducible exact bD _))) (HOB.out.below (by first | with_reducible exact Below.refl _ _ | with_reducible exact bD _))).mono ?_); rintro e wJ ⟨yJ, dJ, rfl, hoJ, hbJ⟩; have HBJ0 := hAB wB _ _ (by first | with_reducible exact Below.refl _ _ | with_reducible exact bD _) hbJ; have HBJ := hA2 _ _ HBB.out HBJ0.out; have HOJ := hHid hoJ; have HCJ := hK2 _ _ _ HCB.out HBJ0.out; have pz := two_cells_of HCJ.out; have pz1 := pz.1; have pz2 := pz.2; have fzj := fun i => frozen_of_row wJ _ i _ _ HCJ.out; clear pz; clear hoJ)
          | (go_at_call 21; (with_reducible refine (cJi _ _ _ _ _ (HOA.out.below (chain (w := wA) HAB.out (by first | with_reducible exact Below.refl _ _ | with_reducible exact bD _))) (HOB.out.below (by first | with_reducible exact Below.refl _ _ | with_reducible exact bD _))).mono ?_); rintro e wJ ⟨yJ, dJ, rfl, hoJ, hbJ⟩; have HBJ0 := hAB wB _ _ (by first | with_reducible exact Below.refl _ _ | with_reducible exact bD _) hbJ; have HBJ := hA2 _ _ HBB.out HBJ0.out; have HOJ := hHid hoJ; clear hoJ))
      all_goals
        first
          | (have HE := hEndB _ _ _ _ _ HBJ HOJ HCJ HLE
             clear HK3 cTA3 cTB3 cJi hEndA hEndB bZ bZ' nZ bD hKeep hHid hA2 hAB nZd hK2 bP bO bS
             go_wp2
             go_meet
             case rel => exact ⟨_, _, _, rfl, rfl, HE⟩)
          | (have HE := hEndA _ _ _ _ HBJ HOJ
             clear HK3 cTA3 cTB3 cJi hEndA hEndB bZ bZ' nZ bD hKeep hHid hA2 hAB nZd hK2 bP bO bS
             go_wp2
             go_meet
             case rel => exact ⟨_, _, _, rfl, rfl, HE⟩)
    case rest =>
      obtain ⟨C2, y2, d2, rfl, rfl, HD2⟩ := hcut
      have BV := chain HBK.out HD2.out.2.2.1
      obtain ⟨_, ⟨c0, c1⟩, ac⟩ := HKC.out wc BV
      obtain ⟨p0, p1⟩ := two_cells_of HD2.out.1
      have cE0 := cEJ _ _ wc HD2.out.2.1 ac
      have q9 := (HD2.out.2.2.1.block X9 (lt16 HQ9.out)).trans HQ9.out
      have HBV : Hid (Below WC.heap.size WC wc) := BV
      have HBV2 : Hid (Below wJ0.heap.size wJ0 wc) := chain HKJ.out HD2.out.2.2.1
      clear HD2 cTA3 cTB3 HK3 cJi BV
      go_upto_region 35 with (go_at_call 22; (with_reducible refine cE0.mono ?_); rintro e wV ⟨rfl, bV⟩)
      clear cE0 p0 p1 c0 c1 ac
      have q9' := (bV.block X9 (lt16 q9)).trans q9
      have cH0 := cH wV (chain HBV2.out bV)
      obtain ⟨p0, p1⟩ := two_cells_of q9'
      have HBW : Hid (Below w.heap.size w wV) := chain HBC.out (chain HBV.out bV)
      clear q9 q9' bV cH
      go_wp2_with (go_at_call 24; (with_reducible refine cH0.mono ?_); rintro e wX ⟨rfl, bX9⟩)
      go_ret
      exact ⟨rfl, chain HBW.out bX9⟩
end Go.Proofs.Ytlplljgcgohonaa
