/-
  The law FnExactJoin, walked.
-/
import Derived.Test.YtgaphgejpnepfaaSta16M
import Derived.Test.YtgaphgejpnepfaaVer16A
import Derived.Test.YtgaphgejpnepfaaSta16J
import Derived.Test.YtgaphgejpnepfaaIVer16J
namespace Go.Proofs.Ytgaphgejpnepfaa
open Go.RowKit Go.Sort
set_option linter.unusedVariables false

theorem own_in {w : World} {B g : Nat} {v : Value} {l : List Int} (h : OwnI w B v l) (hg : v.ownBlock = some g) : g < w.heap.size ∧ B ≤ g := by
  obtain ⟨_, ⟨h2, _⟩ | ⟨g2, cap, cur, h2, h3, h4, _⟩⟩ := h
  · rw [h2] at hg; cases hg
  · rw [h2] at hg
    have e : g2 = g := Option.some.inj hg
    rw [← e]
    exact ⟨lt16 h4, h3⟩
/-- a row is marked: boxes of states and other rows stand -/
structure Marked (B0 : Nat) (wc w w' : World) (v : Value) : Prop where
  boxes : ∀ (X : Nat) (cs : Array Value), w.heap[X]? = some (.cells cs 26 (0, 0)) → w'.heap[X]? = some (.cells cs 26 (0, 0))
  rows : ∀ (B : Nat) (u : Value) (l : List Int), OwnI w B u l → (∀ g, v.ownBlock = some g → u.ownBlock ≠ some g) → OwnI w' B u l
  bel : Below B0 wc w'
  size : w.heap.size ≤ w'.heap.size
theorem marked {B0 B : Nat} {wc w w' : World} {v : Value} {l : List Int} (ho : OwnI w B v l) (hB : B0 ≤ B) (hb : Below B0 wc w) (hw : B0 ≤ w.heap.size) (gr : w.grownBy w' v.ownBlock) : Marked B0 wc w w' v := by
  refine ⟨fun X cs hX => (gr.block X (lt16 hX) (fun e => apart16 ho hX (by decide) e.symm)).trans hX, fun B' u l' hu hn => hu.kept gr ?_, ⟨gr.os.trans hb.os, gr.tape.trans hb.tape, gr.output.trans hb.output, Nat.le_trans hb.size gr.size, fun k hk => (gr.block k (by omega) (fun e => ?_)).trans (hb.block k hk)⟩, gr.size⟩
  · cases hu2 : u.ownBlock with
    | none => exact .inl rfl
    | some g => exact .inr (fun e => hn g e.symm hu2)
  · have := (own_in ho e.symm).2
    omega

set_option maxHeartbeats 8000000 in
set_option maxRecDepth 100000 in
theorem fnExactJoin_walk (a : PSta) (u : Value) (b : PSta) (v : Value) (w : World) (hu : ArgI w u a.regs) (hv : ArgI w v b.regs) :
    Calls Try.prog 6 #[.agg #[.int .i64 a.acc, u], .agg #[.int .i64 b.acc, v]] w fun e w' => e = .returned (.bool true) ∧ Below w.heap.size w w' := by
  obtain ⟨xu, cu, rfl, mu, _⟩ := hu.opened
  obtain ⟨xv, cv, rfl, mv, _⟩ := hv.opened
  have HU : Hid (∀ W, Below w.heap.size w W → ArgI W (.slice xu a.regs.length cu) a.regs) := fun W hW => hu.below hW
  have HVV : Hid (∀ W, Below w.heap.size w W → ArgI W (.slice xv b.regs.length cv) b.regs) := fun W hW => hv.below hW
  obtain ⟨n, en⟩ : ∃ n, a.regs.length = n := ⟨_, rfl⟩
  obtain ⟨m, em⟩ : ∃ n, b.regs.length = n := ⟨_, rfl⟩
  obtain ⟨AC, eA⟩ : ∃ n, a.acc = n := ⟨_, rfl⟩
  obtain ⟨BC, eB⟩ : ∃ n, b.acc = n := ⟨_, rfl⟩
  simp only [en, em, eA, eB] at HU HVV mu mv ⊢
  have HL : Hid (a.regs.length = n ∧ b.regs.length = m ∧ a.acc = AC ∧ b.acc = BC) := ⟨en, em, eA, eB⟩
  clear hu hv en em eA eB
  have bX : Below w.heap.size w ((w.alloc (.cells #[.int .i64 AC, .slice xu n cu] 49)).alloc (.cells #[.int .i64 BC, .slice xv m cv] 49)) := ((Below.refl _ _).alloc (Nat.le_refl _) _).alloc (by simp) _
  obtain ⟨W0, hW0⟩ : ∃ W, ((w.alloc (.cells #[.int .i64 AC, .slice xu n cu] 49)).alloc (.cells #[.int .i64 BC, .slice xv m cv] 49)) = W := ⟨_, rfl⟩
  have z0 : W0.heap[w.heap.size]? = some (.cells #[.int .i64 AC, .slice xu n cu] 49 (0, 0)) := by
    rw [← hW0, heap_alloc_old (r := w.heap.size) _ _ (by simp)]
    exact heap_alloc_new w _
  have z1 : W0.heap[w.heap.size + 1]? = some (.cells #[.int .i64 BC, .slice xv m cv] 49 (0, 0)) := by
    rw [← hW0, show w.heap.size + 1 = (w.alloc (.cells #[.int .i64 AC, .slice xu n cu] 49)).heap.size by simp]
    exact heap_alloc_new _ _
  rw [hW0] at bX
  have HW0 : Hid (_ = W0) := hW0
  clear hW0
  obtain ⟨G, hG⟩ : ∃ G, w.heap.size = G := ⟨_, rfl⟩
  rw [hG] at z0 z1
  have HK : Hid (∀ W, Below W0.heap.size W0 W → W.cell? ⟨G, 0, none⟩ = some (.int .i64 AC) ∧ W.cell? ⟨G, 1, none⟩ = some (.slice xu n cu) ∧ W.cell? ⟨G + 1, 0, none⟩ = some (.int .i64 BC) ∧ W.cell? ⟨G + 1, 1, none⟩ = some (.slice xv m cv)) := fun W hW => by
    obtain ⟨p0, p1⟩ := two_cells_of ((hW.block G (lt16 z0)).trans z0)
    obtain ⟨q0, q1⟩ := two_cells_of ((hW.block (G + 1) (lt16 z1)).trans z1)
    exact ⟨p0, p1, q0, q1⟩
  have cZA := szState_any (.int .i64 AC) (.slice xu n cu) 1 n (a.regs.flatMap intC) 1048576 W0 (by have h := HU.out W0 bX; unfold ArgI at h; rw [HL.out.1] at h; exact h) (by omega) (by omega)
  have cZB := fun W (hW : Below W0.heap.size W0 W) (left : Int) (h0 : 0 ≤ left) (h1 : left ≤ 1048576) => szState_any (.int .i64 BC) (.slice xv m cv) 1 m (b.regs.flatMap intC) left W (by have h := HVV.out W (chain bX hW); unfold ArgI at h; rw [HL.out.2.1] at h; exact h) h0 h1
  go_enter Try.func6, Try.ntmps6
  go_upto_region 1 with fail
  rw [HW0.out]
  clear HW0
  try simp only [hG]
  obtain ⟨p0, p1, q0, q1⟩ := HK.out W0 (Below.refl _ _)
  go_wp2_with fail
  refine cZA.mono ?_
  rintro e w1 ⟨r, rfl, hr, b1⟩
  rcases hr with rfl | ⟨r0, r1, r2⟩
  · clear cZA cZB
    go_wp2
    go_ret
    exact ⟨rfl, chain bX b1⟩
  have hneg : ¬ r < 0 := by omega
  clear p0 p1 q0 q1
  obtain ⟨p0, p1, q0, q1⟩ := HK.out w1 b1
  go_wp2_with fail
  refine (cZB w1 b1 r (by omega) (by omega)).mono ?_
  rintro e w2 ⟨r', rfl, hr', b2⟩
  rcases hr' with rfl | ⟨r0', r1', r2'⟩
  · clear cZA cZB
    go_wp2
    go_ret
    exact ⟨rfl, chain (chain bX b1) b2⟩
  have hneg' : ¬ r' < 0 := by omega
  clear p0 p1 q0 q1 cZA cZB
  have B2 : Below W0.heap.size W0 w2 := chain b1 b2
  have hnf : n ≤ 1048576 := by omega
  have hmf : m ≤ 1048576 := by omega
  have cTA := fun W (hW : Below w2.heap.size w2 W) => toState_any a _ W (HU.out W (chain bX (chain B2 hW))) (by have := HL.out.1; omega)
  have cTB := fun W (hW : Below w2.heap.size w2 W) => toState_any b _ W (HVV.out W (chain bX (chain B2 hW))) (by have := HL.out.2.1; omega)
  simp only [HL.out.2.2.1] at cTA
  simp only [HL.out.2.2.2] at cTB
  have HK2 : Hid (∀ W, Below w2.heap.size w2 W → W.cell? ⟨G, 0, none⟩ = some (.int .i64 AC) ∧ W.cell? ⟨G, 1, none⟩ = some (.slice xu n cu) ∧ W.cell? ⟨G + 1, 0, none⟩ = some (.int .i64 BC) ∧ W.cell? ⟨G + 1, 1, none⟩ = some (.slice xv m cv)) := fun W hW => HK.out W (chain B2 hW)
  have bS : ∀ {W0 W : World} (o : Obj), Below W0.heap.size W0 W → Below W0.heap.size W0 (W.alloc o) := fun o h => h.alloc h.size o
  clear HK
  obtain ⟨JA, eJA⟩ : ∃ x, (joinS a b).acc = x := ⟨_, rfl⟩
  obtain ⟨JN, eJN⟩ : ∃ x, (joinS a b).regs.length = x := ⟨_, rfl⟩
  have HJ : Hid ((joinS a b).acc = JA ∧ (joinS a b).regs.length = JN) := ⟨eJA, eJN⟩
  have cTA2 := fun W (hW : Below w2.heap.size w2 W) => (cTA W hW).mono (fun e w' (hh : ∃ v', e = .returned (.agg #[.int .i64 AC, v']) ∧ OwnI w' W.heap.size v' a.regs ∧ Below W.heap.size W w') => show ∃ (y : Option Addr) (d : Nat), e = .returned (.agg #[.int .i64 AC, .slice y n d]) ∧ OwnI w' W.heap.size (.slice y n d) a.regs ∧ Below W.heap.size W w' by
    obtain ⟨v, e1, e2, e3⟩ := hh
    obtain ⟨y, d, rfl⟩ := row_slice e2
    rw [HL.out.1] at e1 e2
    exact ⟨y, d, e1, e2, e3⟩)
  have cTB2 := fun W (hW : Below w2.heap.size w2 W) => (cTB W hW).mono (fun e w' (hh : ∃ v', e = .returned (.agg #[.int .i64 BC, v']) ∧ OwnI w' W.heap.size v' b.regs ∧ Below W.heap.size W w') => show ∃ (y : Option Addr) (d : Nat), e = .returned (.agg #[.int .i64 BC, .slice y m d]) ∧ OwnI w' W.heap.size (.slice y m d) b.regs ∧ Below W.heap.size W w' by
    obtain ⟨v, e1, e2, e3⟩ := hh
    obtain ⟨y, d, rfl⟩ := row_slice e2
    rw [HL.out.2.1] at e1 e2
    exact ⟨y, d, e1, e2, e3⟩)
  have cJ2 := fun (ya yb : Option Addr) (da db : Nat) W (ha : ArgI W (.slice ya n da) a.regs) (hb : ArgI W (.slice yb m db) b.regs) => (specJoin_any a b _ _ W ha hb (by have := HL.out.1; omega) (by have := HL.out.2.1; omega)).mono (fun e w' (hh : ∃ v', e = .returned (.agg #[.int .i64 (joinS a b).acc, v']) ∧ OwnI w' W.heap.size v' (joinS a b).regs ∧ Below W.heap.size W w') => show ∃ (y : Option Addr) (d : Nat), e = .returned (.agg #[.int .i64 JA, .slice y JN d]) ∧ OwnI w' W.heap.size (.slice y JN d) (joinS a b).regs ∧ Below W.heap.size W w' by
    obtain ⟨v, e1, e2, e3⟩ := hh
    obtain ⟨y, d, rfl⟩ := row_slice e2
    rw [HJ.out.1] at e1
    rw [HJ.out.2] at e1 e2
    exact ⟨y, d, e1, e2, e3⟩)
  simp only [HL.out.2.2.1, HL.out.2.2.2] at cJ2
  clear cTA cTB eJA eJN
  go_upto_region 8 with fail
  go_cut [6] (fun pv wr => ∃ (C : Nat) (y : Option Addr) (d : Nat), pv = .pointer (some ⟨C, 0, none⟩) ∧ Hid (wr.heap[C]? = some (.cells #[.int .i64 JA, .slice y JN d] 26 (0, 0)) ∧ ArgI wr (.slice y JN d) (joinS a b).regs ∧ Below w2.heap.size w2 wr ∧ w2.heap.size ≤ C))
  case first =>
    have bZ : ∀ (W : World), Below W.heap.size W (W.alloc (.cells #[.int .i64 0, .slice none 0 0] 26)).drew := fun W => ((Below.refl _ _).alloc (Nat.le_refl _) _).drew
    have bZ' : ∀ (W : World), Below W.heap.size W (W.alloc (.cells #[.int .i64 0, .slice none 0 0] 26)) := fun W => ((Below.refl _ _).alloc (Nat.le_refl _) _)
    have nZ : ∀ (W : World), (W.alloc (.cells #[.int .i64 0, .slice none 0 0] 26)).heap[W.heap.size]? = some (.cells #[.int .i64 0, .slice none 0 0] 26 (0, 0)) := fun W => heap_alloc_new W _
    have bD : ∀ (W : World), Below W.heap.size W W.drew := fun W => (Below.refl _ _).drew
    have hKeep : ∀ {C : Nat} {V W : World} {o : Obj}, V.heap[C]? = some o → Below V.heap.size V W → W.heap[C]? = some o := fun h hb => (hb.block _ (lt16 h)).trans h
    have hHid : ∀ {p : Prop}, p → Hid p := fun h => h
    have hA2 : ∀ (V W : World), Below w2.heap.size w2 V → Below V.heap.size V W → Hid (Below w2.heap.size w2 W) := fun V W h1 h2 => chain h1 h2
    have hAB : ∀ (U V W : World), Below U.heap.size U V → Below V.heap.size V W → Hid (Below U.heap.size U W) := fun U V W h1 h2 => chain h1 h2
    have nZd : ∀ (W : World), (W.alloc (.cells #[.int .i64 0, .slice none 0 0] 26)).drew.heap[W.heap.size]? = some (.cells #[.int .i64 0, .slice none 0 0] 26 (0, 0)) := fun W => heap_alloc_new W _
    have hK2 : ∀ (C : Nat) (V W : World), V.heap[C]? = some (.cells #[.int .i64 0, .slice none 0 0] 26 (0, 0)) → Below V.heap.size V W → Hid (W.heap[C]? = some (.cells #[.int .i64 0, .slice none 0 0] 26 (0, 0))) := fun C V W h hb => (hb.block _ (lt16 h)).trans h
    have bP : ∀ (C j : Nat) (u : Value) {W : World}, w2.heap.size ≤ C → Below w2.heap.size w2 W → Below w2.heap.size w2 (W.setCell ⟨C, j, none⟩ u) := fun C j u W hC h => h.setCell (p := ⟨C, j, none⟩) hC u
    have bO : ∀ (W : World) (o : Obj), Below W.heap.size W (W.alloc o) := fun W o => (Below.refl _ _).alloc (Nat.le_refl _) o
    have hEndA : ∀ (W : World) (y : Option Addr) (d B : Nat), Hid (Below w2.heap.size w2 W) → Hid (OwnI W B (.slice y JN d) (joinS a b).regs) → Hid ((W.alloc (.cells #[.int .i64 JA, .slice y JN d] 26)).heap[W.heap.size]? = some (.cells #[.int .i64 JA, .slice y JN d] 26 (0, 0)) ∧ ArgI (W.alloc (.cells #[.int .i64 JA, .slice y JN d] 26)) (.slice y JN d) (joinS a b).regs ∧ Below w2.heap.size w2 (W.alloc (.cells #[.int .i64 JA, .slice y JN d] 26)) ∧ w2.heap.size ≤ W.heap.size) := fun W y d B hB hO => ⟨heap_alloc_new W _, (OwnI.arg (hO.out.alloc _)), bS _ hB.out, hB.out.size⟩
    have hEndB : ∀ (W : World) (y : Option Addr) (d B C : Nat), Hid (Below w2.heap.size w2 W) → Hid (OwnI W B (.slice y JN d) (joinS a b).regs) → Hid (W.heap[C]? = some (.cells #[.int .i64 0, .slice none 0 0] 26 (0, 0))) → Hid (w2.heap.size ≤ C) → Hid (((W.setCell ⟨C, 0, none⟩ (.int .i64 JA)).setCell ⟨C, 1, none⟩ (.slice y JN d)).heap[C]? = some (.cells #[.int .i64 JA, .slice y JN d] 26 (0, 0)) ∧ ArgI ((W.setCell ⟨C, 0, none⟩ (.int .i64 JA)).setCell ⟨C, 1, none⟩ (.slice y JN d)) (.slice y JN d) (joinS a b).regs ∧ Below w2.heap.size w2 ((W.setCell ⟨C, 0, none⟩ (.int .i64 JA)).setCell ⟨C, 1, none⟩ (.slice y JN d)) ∧ w2.heap.size ≤ C) := fun W y d B C hB hO hC hL => by
      have k0 := heap_setCell_same W C 0 _ _ (.int .i64 JA) hC.out
      have k1 := heap_setCell_same _ C 1 _ _ (.slice y JN d) k0
      have ne := apart16 hO.out hC.out (by decide)
      have ho : OwnI ((W.setCell ⟨C, 0, none⟩ (.int .i64 JA)).setCell ⟨C, 1, none⟩ (.slice y JN d)) B (.slice y JN d) (joinS a b).regs := far16 (far16 hO.out ne) ne
      exact ⟨k1, ho.arg, bP _ _ _ hL.out (bP _ _ _ hL.out hB.out), hL.out⟩
    go_region_held_law (fun W => W.cell? ⟨G, 0, none⟩ = some (.int .i64 AC) ∧ W.cell? ⟨G, 1, none⟩ = some (.slice xu n cu) ∧ W.cell? ⟨G + 1, 0, none⟩ = some (.int .i64 BC) ∧ W.cell? ⟨G + 1, 1, none⟩ = some (.slice xv m cv))
      (exact HK2.out _ (by first | with_reducible exact bP _ _ _ HLE.out (bP _ _ _ HLE.out HBJ.out) | with_reducible exact RowKit.Below.drew (bP _ _ _ HLE.out (bP _ _ _ HLE.out HBJ.out)) | with_reducible exact chain HBJ.out (bO _ _) | with_reducible exact chain HBJ.out (RowKit.Below.drew (bO _ _)) | with_reducible exact HBJ.out | with_reducible exact RowKit.Below.drew HBJ.out | with_reducible exact HBB.out | with_reducible exact RowKit.Below.drew HBB.out | with_reducible exact HBA.out | with_reducible exact RowKit.Below.drew HBA.out | with_reducible exact Below.refl _ _ | with_reducible exact (Below.refl _ _).drew | with_reducible exact bZ _ | with_reducible exact bZ' _ | with_reducible exact chain HBA.out (bZ _) | with_reducible exact chain HBA.out (bZ' _) | with_reducible exact chain HBB.out (bZ _) | with_reducible exact chain HBB.out (bZ' _)))
      (first
        | (go_at_call 24; (with_reducible refine (cTA2 _ (by first | with_reducible exact bZ _ | with_reducible exact bZ' _)).mono ?_); rintro e wA ⟨yA, dA, rfl, hoA, hbA⟩; have HBA := hA2 _ _ (by first | with_reducible exact bZ _ | with_reducible exact bZ' _) hbA; have HOA := hHid hoA.arg; have HCA := hK2 w2.heap.size _ _ (by first | with_reducible exact nZd _ | with_reducible exact nZ _) hbA; clear hoA)
        | (go_at_call 24; (with_reducible refine (cTA2 _ (by first | with_reducible exact Below.refl _ _ | with_reducible exact bD _)).mono ?_); rintro e wA ⟨yA, dA, rfl, hoA, hbA⟩; have HBA := hA2 _ _ (by first | with_reducible exact Below.refl _ _ | with_reducible exact bD _) hbA; have HOA := hHid hoA.arg; clear hoA)
        | (go_at_call 24; (with_reducible refine (cTB2 _ (chain HBA.out (by first | with_reducible exact bZ _ | with_reducible exact bZ' _))).mono ?_); rintro e wB ⟨yB, dB, rfl, hoB, hbB⟩; have HAB := hAB wA _ _ (by first | with_reducible exact bZ _ | with_reducible exact bZ' _) hbB; have HBB := hA2 _ _ HBA.out HAB.out; have HOB := hHid hoB.arg; have HCB := hK2 wA.heap.size _ _ (by first | with_reducible exact nZd _ | with_reducible exact nZ _) hbB; have HLE := hHid HBA.out.size; clear hoB)
        | (go_at_call 24; (with_reducible refine (cTB2 _ (chain HBA.out (by first | with_reducible exact Below.refl _ _ | with_reducible exact bD _))).mono ?_); rintro e wB ⟨yB, dB, rfl, hoB, hbB⟩; have HAB := hAB wA _ _ (by first | with_reducible exact Below.refl _ _ | with_reducible exact bD _) hbB; have HBB := hA2 _ _ HBA.out HAB.out; have HOB := hHid hoB.arg; have HCB := hK2 w2.heap.size _ _ HCA.out HAB.out; have HLE := hHid (Nat.le_refl w2.heap.size); clear hoB)
        | (go_at_call 24; (with_reducible refine (cTB2 _ (chain HBA.out (by first | with_reducible exact Below.refl _ _ | with_reducible exact bD _))).mono ?_); rintro e wB ⟨yB, dB, rfl, hoB, hbB⟩; have HAB := hAB wA _ _ (by first | with_reducible exact Below.refl _ _ | with_reducible exact bD _) hbB; have HBB := hA2 _ _ HBA.out HAB.out; have HOB := hHid hoB.arg; clear hoB)
        | (go_at_call 23; (with_reducible refine (cJ2 _ _ _ _ _ (HOA.out.below (chain (w := wA) HAB.out (by first | with_reducible exact bZ _ | with_reducible exact bZ' _))) (HOB.out.below (by first | with_reducible exact bZ _ | with_reducible exact bZ' _))).mono ?_); rintro e wJ ⟨yJ, dJ, rfl, hoJ, hbJ⟩; have HBJ0 := hAB wB _ _ (by first | with_reducible exact bZ _ | with_reducible exact bZ' _) hbJ; have HBJ := hA2 _ _ HBB.out HBJ0.out; have HOJ := hHid hoJ; have HCJ := hK2 wB.heap.size _ _ (by first | with_reducible exact nZd _ | with_reducible exact nZ _) hbJ; have HLE := hHid HBB.out.size; have pz := two_cells_of HCJ.out; have pz1 := pz.1; have pz2 := pz.2; have fzj := fun i => frozen_of_row wJ _ i _ _ HCJ.out; clear pz; clear hoJ)
        | (go_at_call 23; (with_reducible refine (cJ2 _ _ _ _ _ (HOA.out.below (chain (w := wA) HAB.out (by first | with_reducible exact Below.refl _ _ | with_reducible exact bD _))) (HOB.out.below (by first | with_reducible exact Below.refl _ _ | with_reducible exact bD _))).mono ?_); rintro e wJ ⟨yJ, dJ, rfl, hoJ, hbJ⟩; have HBJ0 := hAB wB _ _ (by first | with_reducible exact Below.refl _ _ | with_reducible exact bD _) hbJ; have HBJ := hA2 _ _ HBB.out HBJ0.out; have HOJ := hHid hoJ; have HCJ := hK2 _ _ _ HCB.out HBJ0.out; have pz := two_cells_of HCJ.out; have pz1 := pz.1; have pz2 := pz.2; have fzj := fun i => frozen_of_row wJ _ i _ _ HCJ.out; clear pz; clear hoJ)
        | (go_at_call 23; (with_reducible refine (cJ2 _ _ _ _ _ (HOA.out.below (chain (w := wA) HAB.out (by first | with_reducible exact Below.refl _ _ | with_reducible exact bD _))) (HOB.out.below (by first | with_reducible exact Below.refl _ _ | with_reducible exact bD _))).mono ?_); rintro e wJ ⟨yJ, dJ, rfl, hoJ, hbJ⟩; have HBJ0 := hAB wB _ _ (by first | with_reducible exact Below.refl _ _ | with_reducible exact bD _) hbJ; have HBJ := hA2 _ _ HBB.out HBJ0.out; have HOJ := hHid hoJ; clear hoJ))
    all_goals
      first
        | (have HE := hEndB _ _ _ _ _ HBJ HOJ HCJ HLE
           clear HK2 cTA2 cTB2 cJ2 hEndA hEndB bZ bZ' nZ bD hKeep hHid hA2 hAB nZd hK2 bP bO bS HU HVV
           go_wp2
           go_meet
           case rel => exact ⟨_, _, _, rfl, HE⟩)
        | (have HE := hEndA _ _ _ _ HBJ HOJ
           clear HK2 cTA2 cTB2 cJ2 hEndA hEndB bZ bZ' nZ bD hKeep hHid hA2 hAB nZd hK2 bP bO bS HU HVV
           go_wp2
           go_meet
           case rel => exact ⟨_, _, _, rfl, HE⟩)
  case rest =>
    obtain ⟨C, y, d, rfl, HD⟩ := hcut
    obtain ⟨WC, hWC⟩ : ∃ W, W = wc := ⟨_, rfl⟩
    subst hWC
    have HBC : Hid (Below w.heap.size w WC) := chain bX (chain B2 HD.out.2.2.1)
    have HKC : Hid (∀ V, Below WC.heap.size WC V → ((V.cell? ⟨G, 0, none⟩ = some (.int .i64 AC) ∧ V.cell? ⟨G, 1, none⟩ = some (.slice xu n cu)) ∧ (V.cell? ⟨G + 1, 0, none⟩ = some (.int .i64 BC) ∧ V.cell? ⟨G + 1, 1, none⟩ = some (.slice xv m cv))) ∧ (V.cell? ⟨C, 0, none⟩ = some (.int .i64 JA) ∧ V.cell? ⟨C, 1, none⟩ = some (.slice y JN d)) ∧ ArgI V (.slice y JN d) (joinS a b).regs) := fun V hV => by
      obtain ⟨e1, e2, e3, e4⟩ := HK2.out V (chain HD.out.2.2.1 hV)
      exact ⟨⟨⟨e1, e2⟩, e3, e4⟩, two_cells_of ((hV.block C (lt16 HD.out.1)).trans HD.out.1), HD.out.2.1.below hV⟩
    have cTa := fun W (hW : Below WC.heap.size WC W) => cTA2 W (chain HD.out.2.2.1 hW)
    have cTb := fun W (hW : Below WC.heap.size WC W) => cTB2 W (chain HD.out.2.2.1 hW)
    have cJi := fun (ya yb : Option Addr) (da db : Nat) W (ha : ArgI W (.slice ya n da) a.regs) (hb : ArgI W (.slice yb m db) b.regs) => (iJoin_any a b _ _ W ha hb (by have := HL.out.1; omega) (by have := HL.out.2.1; omega)).mono (fun e w' (hh : ∃ v', e = .returned (.agg #[.int .i64 (joinS a b).acc, v']) ∧ OwnI w' W.heap.size v' (joinS a b).regs ∧ Below W.heap.size W w') => show ∃ (y : Option Addr) (d : Nat), e = .returned (.agg #[.int .i64 JA, .slice y JN d]) ∧ OwnI w' W.heap.size (.slice y JN d) (joinS a b).regs ∧ Below W.heap.size W w' by
      obtain ⟨v, e1, e2, e3⟩ := hh
      obtain ⟨y, d, rfl⟩ := row_slice e2
      rw [HJ.out.1] at e1
      rw [HJ.out.2] at e1 e2
      exact ⟨y, d, e1, e2, e3⟩)
    simp only [HL.out.2.2.1, HL.out.2.2.2] at cJi
    have cEq := fun (s : PSta) (u v : Value) (W : World) (hu : ArgI W u s.regs) (hv : ArgI W v s.regs) => (eqState_any s s u v W hu hv).mono (fun e w' (hh : e = .returned (.bool (decide (s.acc = s.acc) && decide (s.regs = s.regs))) ∧ Below W.heap.size W w') => show e = .returned (.bool true) ∧ Below W.heap.size W w' from ⟨by rw [hh.1]; simp, hh.2⟩)
    clear HD cTA2 cTB2 cJ2 HK2 HU HVV B2 bX z0 z1
    obtain ⟨⟨⟨p0, p1⟩, p2, p3⟩, ⟨c0, c1⟩, _⟩ := HKC.out WC (Below.refl _ _)
    -- x0
    have cA0 := cTa WC (Below.refl _ _)
    go_upto_region 10 with (go_at_call 24; (with_reducible refine cA0.mono ?_); rintro e w3 ⟨y7, d7, rfl, o7, b3⟩)
    clear cA0 p0 p1 p2 p3 c0 c1
    have g7 : (w3.alloc (.cells #[.int .i64 AC, .slice y7 n d7] 26)).heap[w3.heap.size]? = some (.cells #[.int .i64 AC, .slice y7 n d7] 26 (0, 0)) := heap_alloc_new w3 _
    have bA3 : Below w3.heap.size w3 (w3.alloc (.cells #[.int .i64 AC, .slice y7 n d7] 26)) := (Below.refl _ _).alloc (Nat.le_refl _) _
    have o7' : OwnI (w3.alloc (.cells #[.int .i64 AC, .slice y7 n d7] 26)) WC.heap.size (.slice y7 n d7) a.regs := o7.below bA3
    have B3 : Below WC.heap.size WC (w3.alloc (.cells #[.int .i64 AC, .slice y7 n d7] 26)) := chain b3 bA3
    obtain ⟨X7, hX7⟩ : ∃ k, w3.heap.size = k := ⟨_, rfl⟩
    obtain ⟨W3, hW3⟩ : ∃ W, w3.alloc (.cells #[.int .i64 AC, .slice y7 n d7] 26) = W := ⟨_, rfl⟩
    simp only [hX7, hW3] at g7 o7' B3 ⊢
    have HY7 : Hid (∀ g, (Value.slice y7 n d7).ownBlock = some g → g < W3.heap.size) := fun g hg => (own_in o7' hg).1
    have HX7 : Hid (WC.heap.size ≤ X7 ∧ X7 < W3.heap.size) := ⟨by rw [← hX7]; exact b3.size, lt16 g7⟩
    clear hW3 hX7 bA3 o7 b3
    -- x1
    obtain ⟨⟨⟨p0, p1⟩, p2, p3⟩, ⟨c0, c1⟩, _⟩ := HKC.out W3 B3
    have cB0 := cTb W3 B3
    go_upto_region 11 with (go_at_call 24; (with_reducible refine cB0.mono ?_); rintro e w4 ⟨y8, d8, rfl, o8, b4⟩)
    clear cB0 p0 p1 p2 p3 c0 c1
    have bA4 : Below w4.heap.size w4 (w4.alloc (.cells #[.int .i64 BC, .slice y8 m d8] 26)) := (Below.refl _ _).alloc (Nat.le_refl _) _
    have g8 : (w4.alloc (.cells #[.int .i64 BC, .slice y8 m d8] 26)).heap[w4.heap.size]? = some (.cells #[.int .i64 BC, .slice y8 m d8] 26 (0, 0)) := heap_alloc_new w4 _
    have o8' : OwnI (w4.alloc (.cells #[.int .i64 BC, .slice y8 m d8] 26)) W3.heap.size (.slice y8 m d8) b.regs := o8.below bA4
    have b34 := chain b4 bA4
    have g74 := (b34.block X7 (lt16 g7)).trans g7
    have o74 := o7'.below b34
    have B4 := chain B3 b34
    obtain ⟨X8, hX8⟩ : ∃ k, w4.heap.size = k := ⟨_, rfl⟩
    obtain ⟨W4, hW4⟩ : ∃ W, w4.alloc (.cells #[.int .i64 BC, .slice y8 m d8] 26) = W := ⟨_, rfl⟩
    simp only [hX8, hW4] at g8 g74 o74 o8' B4 b34 ⊢
    have HY8 : Hid (∀ g, (Value.slice y8 m d8).ownBlock = some g → g < W4.heap.size) := fun g hg => (own_in o8' hg).1
    have HX8 : Hid (W3.heap.size ≤ X8 ∧ X8 < W4.heap.size) := ⟨by rw [← hX8]; exact b4.size, lt16 g8⟩
    clear hW4 hX8 bA4 o8 b4 g7 o7' b34
    -- g0
    obtain ⟨⟨_, _⟩, ⟨c0, c1⟩, ac⟩ := HKC.out W4 B4
    obtain ⟨p0, p1⟩ := two_cells_of g74
    obtain ⟨p2, p3⟩ := two_cells_of g8
    have cJ0 := cJi y7 y8 d7 d8 W4 o74.arg o8'.arg
    go_upto_region 12 with (go_at_call 11; (with_reducible refine cJ0.mono ?_); rintro e w5 ⟨y9, d9, rfl, o9, b5⟩)
    clear cJ0 p0 p1 p2 p3 c0 c1
    have bA5 : Below w5.heap.size w5 (w5.alloc (.cells #[.int .i64 JA, .slice y9 JN d9] 26)) := (Below.refl _ _).alloc (Nat.le_refl _) _
    have g9 : (w5.alloc (.cells #[.int .i64 JA, .slice y9 JN d9] 26)).heap[w5.heap.size]? = some (.cells #[.int .i64 JA, .slice y9 JN d9] 26 (0, 0)) := heap_alloc_new w5 _
    have o95 : OwnI (w5.alloc (.cells #[.int .i64 JA, .slice y9 JN d9] 26)) W4.heap.size (.slice y9 JN d9) (joinS a b).regs := o9.below bA5
    have b45 := chain b5 bA5
    have g75 := (b45.block X7 (lt16 g74)).trans g74
    have g85 := (b45.block X8 (lt16 g8)).trans g8
    have o75 := o74.below b45
    have o85 := o8'.below b45
    have B5 := chain B4 b45
    obtain ⟨X9, hX9⟩ : ∃ k, w5.heap.size = k := ⟨_, rfl⟩
    obtain ⟨W5, hW5⟩ : ∃ W, w5.alloc (.cells #[.int .i64 JA, .slice y9 JN d9] 26) = W := ⟨_, rfl⟩
    simp only [hX9, hW5] at g9 g75 g85 o75 o85 o95 B5 b45 ⊢
    have HSZ : Hid (WC.heap.size ≤ W3.heap.size ∧ W3.heap.size ≤ W4.heap.size ∧ W4.heap.size ≤ W5.heap.size) := ⟨B3.size, by have := HX8.out; omega, b45.size⟩
    clear hW5 hX9 bA5 o9 b5 g74 g8 o74 o8' ac
    have HR : Hid (∀ V, Below W5.heap.size W5 V → ((V.cell? ⟨X7, 0, none⟩ = some (.int .i64 AC) ∧ V.cell? ⟨X7, 1, none⟩ = some (.slice y7 n d7)) ∧ (V.cell? ⟨X8, 0, none⟩ = some (.int .i64 BC) ∧ V.cell? ⟨X8, 1, none⟩ = some (.slice y8 m d8)) ∧ (V.cell? ⟨X9, 0, none⟩ = some (.int .i64 JA) ∧ V.cell? ⟨X9, 1, none⟩ = some (.slice y9 JN d9)))) := fun V hV => ⟨two_cells_of ((hV.block X7 (lt16 g75)).trans g75), two_cells_of ((hV.block X8 (lt16 g85)).trans g85), two_cells_of ((hV.block X9 (lt16 g9)).trans g9)⟩
    have HB5 : Hid (Below WC.heap.size WC W5) := B5
    have cEJ := fun (u v : Value) (W : World) (hu : ArgI W u (joinS a b).regs) (hv : ArgI W v (joinS a b).regs) => cEq (joinS a b) u v W hu hv
    have cEA := fun (u v : Value) (W : World) (hu : ArgI W u a.regs) (hv : ArgI W v a.regs) => cEq a u v W hu hv
    have cEB := fun (u v : Value) (W : World) (hu : ArgI W u b.regs) (hv : ArgI W v b.regs) => cEq b u v W hu hv
    simp only [HJ.out.1] at cEJ
    simp only [HL.out.2.2.1] at cEA
    simp only [HL.out.2.2.2] at cEB
    clear cEq
    -- held against the specification's
    obtain ⟨_, ⟨c0, c1⟩, ac⟩ := HKC.out W5 B5
    obtain ⟨_, _, ⟨p0, p1⟩⟩ := HR.out W5 (Below.refl _ _)
    have cE0 := cEJ _ _ W5 o95.arg ac
    go_upto_region 14 with (go_at_call 25; (with_reducible refine cE0.mono ?_); rintro e w6 ⟨rfl, b6⟩)
    clear cE0 p0 p1 c0 c1 ac
    have hA2 : ∀ {W V : World}, Below W5.heap.size W5 W → Below W.heap.size W V → Hid (Below W5.heap.size W5 V) := fun h k => chain h k
    have HB6 : Hid (Below W5.heap.size W5 w6) := b6
    have HK6 : Hid (∀ V, Below W5.heap.size W5 V → ((V.cell? ⟨X7, 0, none⟩ = some (.int .i64 AC) ∧ V.cell? ⟨X7, 1, none⟩ = some (.slice y7 n d7)) ∧ (V.cell? ⟨G, 0, none⟩ = some (.int .i64 AC) ∧ V.cell? ⟨G, 1, none⟩ = some (.slice xu n cu)))) := fun V hV => ⟨(HR.out V hV).1, (HKC.out V (chain HB5.out hV)).1.1⟩
    have HK7 : Hid (∀ V, Below W5.heap.size W5 V → ((V.cell? ⟨X8, 0, none⟩ = some (.int .i64 BC) ∧ V.cell? ⟨X8, 1, none⟩ = some (.slice y8 m d8)) ∧ (V.cell? ⟨G + 1, 0, none⟩ = some (.int .i64 BC) ∧ V.cell? ⟨G + 1, 1, none⟩ = some (.slice xv m cv)))) := fun V hV => ⟨(HR.out V hV).2.1, (HKC.out V (chain HB5.out hV)).1.2⟩
    have cT6 := fun W (hW : Below W5.heap.size W5 W) => (cTa W (chain HB5.out hW)).mono (fun e w' (hh : ∃ (y : Option Addr) (d : Nat), e = .returned (.agg #[.int .i64 AC, .slice y n d]) ∧ OwnI w' W.heap.size (.slice y n d) a.regs ∧ Below W.heap.size W w') => show ∃ (y : Option Addr) (d : Nat), e = .returned (.agg #[.int .i64 AC, .slice y n d]) ∧ Hid (ArgI w' (.slice y n d) a.regs) ∧ Hid (Below W5.heap.size W5 w') by
      obtain ⟨y, d, e1, e2, e3⟩ := hh
      exact ⟨y, d, e1, e2.arg, chain hW e3⟩)
    have cT7 := fun W (hW : Below W5.heap.size W5 W) => (cTb W (chain HB5.out hW)).mono (fun e w' (hh : ∃ (y : Option Addr) (d : Nat), e = .returned (.agg #[.int .i64 BC, .slice y m d]) ∧ OwnI w' W.heap.size (.slice y m d) b.regs ∧ Below W.heap.size W w') => show ∃ (y : Option Addr) (d : Nat), e = .returned (.agg #[.int .i64 BC, .slice y m d]) ∧ Hid (ArgI w' (.slice y m d) b.regs) ∧ Hid (Below W5.heap.size W5 w') by
      obtain ⟨y, d, e1, e2, e3⟩ := hh
      exact ⟨y, d, e1, e2.arg, chain hW e3⟩)
    have cE6 := fun (yt : Option Addr) (dt : Nat) W (hW : Below W5.heap.size W5 W) (ht : ArgI W (.slice yt n dt) a.regs) => cEA (.slice y7 n d7) (.slice yt n dt) W (o75.arg.below hW) ht
    have cE7 := fun (yt : Option Addr) (dt : Nat) W (hW : Below W5.heap.size W5 W) (ht : ArgI W (.slice yt m dt) b.regs) => cEB (.slice y8 m d8) (.slice yt m dt) W (o85.arg.below hW) ht
    go_region_held_law (fun V => (V.cell? ⟨X7, 0, none⟩ = some (.int .i64 AC) ∧ V.cell? ⟨X7, 1, none⟩ = some (.slice y7 n d7)) ∧ (V.cell? ⟨G, 0, none⟩ = some (.int .i64 AC) ∧ V.cell? ⟨G, 1, none⟩ = some (.slice xu n cu)))
      (exact HK6.out _ (by first | with_reducible exact HBE.out | with_reducible exact RowKit.Below.drew HBE.out | with_reducible exact HBT.out | with_reducible exact RowKit.Below.drew HBT.out | with_reducible exact HB6.out | with_reducible exact RowKit.Below.drew HB6.out))
      (first
        | (go_at_call 24; (with_reducible refine (cT6 _ (by first | with_reducible exact HB6.out | with_reducible exact RowKit.Below.drew HB6.out)).mono ?_); rintro e wT ⟨yT, dT, rfl, HOT, HBT⟩)
        | (go_at_call 25; (with_reducible refine (cE6 _ _ _ HBT.out HOT.out).mono ?_); rintro e wE ⟨rfl, bE⟩; have HBE := hA2 HBT.out bE))
    clear HOT HBT b6 HB6 HK6 cT6 cE6 bE
    go_upto_region 16 with fail
    have HB7 : Hid (Below W5.heap.size W5 wE) := HBE.out
    clear HBE
    go_region_held_law (fun V => (V.cell? ⟨X8, 0, none⟩ = some (.int .i64 BC) ∧ V.cell? ⟨X8, 1, none⟩ = some (.slice y8 m d8)) ∧ (V.cell? ⟨G + 1, 0, none⟩ = some (.int .i64 BC) ∧ V.cell? ⟨G + 1, 1, none⟩ = some (.slice xv m cv)))
      (exact HK7.out _ (by first | with_reducible exact HBF.out | with_reducible exact RowKit.Below.drew HBF.out | with_reducible exact HBU.out | with_reducible exact RowKit.Below.drew HBU.out | with_reducible exact HB7.out | with_reducible exact RowKit.Below.drew HB7.out))
      (first
        | (go_at_call 24; (with_reducible refine (cT7 _ (by first | with_reducible exact HB7.out | with_reducible exact RowKit.Below.drew HB7.out)).mono ?_); rintro e wU ⟨yU, dU, rfl, HOU, HBU⟩)
        | (go_at_call 25; (with_reducible refine (cE7 _ _ _ HBU.out HOU.out).mono ?_); rintro e wF ⟨rfl, bF⟩; have HBF := hA2 HBU.out bF))
    clear HOU HBU HB7 HK7 cT7 cE7 bF hA2
    go_upto_region 19 with fail
    have B8 := HBF.out
    have q7 := (B8.block X7 (lt16 g75)).trans g75
    have q8 := (B8.block X8 (lt16 g85)).trans g85
    have q9 := (B8.block X9 (lt16 g9)).trans g9
    have o7 := o75.below B8
    have o8 := o85.below B8
    have o9 := o95.below B8
    have hsz := HSZ.out
    have hw8 := B8.size
    have BF := chain HB5.out B8
    clear HBF g75 g85 g9 o75 o85 o95 HR B8
    -- the first is marked
    have cM := markState_any WC.heap.size a (.slice y7 n d7) 1 wF o7 (by have := HL.out.1; omega) (by omega)
    rw [HL.out.2.2.1, HL.out.1, show ((1 : Nat) : Int) = 1 from rfl] at cM
    obtain ⟨KA, hKA⟩ : ∃ k, 1 + n = k := ⟨_, rfl⟩
    rw [hKA] at cM
    obtain ⟨p0, p1⟩ := two_cells_of q7
    go_upto_region 20 with (go_at_call 26; (with_reducible refine cM.mono ?_); rintro e wG ⟨rfl, _, grG⟩)
    clear cM p0 p1
    have MG := marked o7 (Nat.le_refl _) BF (by omega) grG
    have q8' := MG.boxes X8 _ q8
    have q9' := MG.boxes X9 _ q9
    have o8' := MG.rows _ _ _ o8 (fun g hg hu => by have := HY7.out g hg; have := (own_in o8 hu).2; omega)
    have o9' := MG.rows _ _ _ o9 (fun g hg hu => by have := HY7.out g hg; have := (own_in o9 hu).2; omega)
    have BG := MG.bel
    have hwG := MG.size
    clear MG grG q7 q8 q9 o7 o8 o9 BF
    -- the second
    have cM := markState_any W3.heap.size b (.slice y8 m d8) KA wG o8' (by have := HL.out.2.1; omega) (by omega)
    rw [HL.out.2.2.2, HL.out.2.1] at cM
    obtain ⟨KB, hKB⟩ : ∃ k, KA + m = k := ⟨_, rfl⟩
    rw [hKB] at cM
    obtain ⟨p0, p1⟩ := two_cells_of q8'
    go_upto_region 21 with (go_at_call 26; (with_reducible refine cM.mono ?_); rintro e wH ⟨rfl, _, grH⟩)
    clear cM p0 p1
    have MH := marked o8' (by omega) BG (by omega) grH
    have q9 := MH.boxes X9 _ q9'
    have o9 := MH.rows _ _ _ o9' (fun g hg hu => by have := HY8.out g hg; have := (own_in o9' hu).2; omega)
    have BH := MH.bel
    have hwH := MH.size
    clear MH grH q8' q9' o8' o9' BG
    have hKneg : ¬ (KB : Int) < 0 := by omega
    -- the answer stands
    obtain ⟨_, ⟨c0, c1⟩, ac⟩ := HKC.out wH BH
    obtain ⟨p0, p1⟩ := two_cells_of q9
    have cE0 := cEJ _ _ wH o9.arg ac
    go_upto_region 24 with (go_at_call 25; (with_reducible refine cE0.mono ?_); rintro e wI ⟨rfl, bI⟩)
    clear cE0 p0 p1 c0 c1 ac
    have q9' := (bI.block X9 (lt16 q9)).trans q9
    have o9' := o9.below bI
    have BI := chain BH bI
    have hwI := bI.size
    clear q9 o9 BH bI
    -- the answer is marked
    have cM := markState_any W4.heap.size (joinS a b) (.slice y9 JN d9) 1 wI o9' (by have := HJ.out.2; have := joinL_size a.regs b.regs; have e : (joinS a b).regs = joinL a.regs b.regs := rfl; rw [e]; have := HL.out; omega) (by omega)
    rw [HJ.out.1, HJ.out.2, show ((1 : Nat) : Int) = 1 from rfl] at cM
    have hJN : JN ≤ 2000000 := by
      have h1 := joinL_size a.regs b.regs
      have e : (joinS a b).regs = joinL a.regs b.regs := rfl
      have h2 := HJ.out.2
      rw [e, h1] at h2
      have := HL.out
      omega
    obtain ⟨KM, hKM⟩ : ∃ k, 1 + JN = k := ⟨_, rfl⟩
    rw [hKM] at cM
    obtain ⟨p0, p1⟩ := two_cells_of q9'
    go_upto_region 26 with (go_at_call 26; (with_reducible refine cM.mono ?_); rintro e wJ0 ⟨rfl, oJ, grJ⟩)
    clear cM p0 p1
    have MJ := marked o9' (by omega) BI (by omega) grJ
    have q9 := MJ.boxes X9 _ q9'
    have BJ := MJ.bel
    have hwJ := MJ.size
    clear MJ grJ q9' o9' BI
    have cH := fun (W : World) (hW : Below wJ0.heap.size wJ0 W) => heldState_any JA (.slice y9 JN d9) JN 1 W (oJ.arg.below hW) hJN (by omega)
    simp only [hKM, show ((1 : Nat) : Int) = 1 from rfl] at cH
    have cH0 := cH wJ0 (Below.refl _ _)
    have hMneg : ¬ (KM : Int) < 0 := by omega
    obtain ⟨p0, p1⟩ := two_cells_of q9
    go_upto_region 31 with (go_at_call 27; (with_reducible refine cH0.mono ?_); rintro e w2' ⟨rfl, bK⟩)
    clear cH0 p0 p1
    have q9' := (bK.block X9 (lt16 q9)).trans q9
    have HQ9 : Hid _ := q9'
    have HKJ : Hid (Below wJ0.heap.size wJ0 w2') := bK
    have HBK : Hid (Below WC.heap.size WC w2') := chain BJ bK
    have HK3 : Hid (∀ W, Below w2'.heap.size w2' W → W.cell? ⟨G, 0, none⟩ = some (.int .i64 AC) ∧ W.cell? ⟨G, 1, none⟩ = some (.slice xu n cu) ∧ W.cell? ⟨G + 1, 0, none⟩ = some (.int .i64 BC) ∧ W.cell? ⟨G + 1, 1, none⟩ = some (.slice xv m cv)) := fun W hW => by
      have h := (HKC.out W (chain HBK.out hW)).1
      exact ⟨h.1.1, h.1.2, h.2.1, h.2.2⟩
    have cTA3 := fun W (hW : Below w2'.heap.size w2' W) => cTa W (chain HBK.out hW)
    have cTB3 := fun W (hW : Below w2'.heap.size w2' W) => cTb W (chain HBK.out hW)
    have bS : ∀ {W0 W : World} (o : Obj), Below W0.heap.size W0 W → Below W0.heap.size W0 (W.alloc o) := fun o h => h.alloc h.size o
    clear q9 q9' bK BJ cTa cTb cEA cEB hwJ hwI hwH hwG hw8 hsz
    go_cut [13] (fun pv wr => ∃ (C : Nat) (y : Option Addr) (d : Nat), pv = .pointer (some ⟨C, 0, none⟩) ∧ Hid (wr.heap[C]? = some (.cells #[.int .i64 JA, .slice y JN d] 26 (0, 0)) ∧ ArgI wr (.slice y JN d) (joinS a b).regs ∧ Below w2'.heap.size w2' wr ∧ w2'.heap.size ≤ C))
    case first =>
      have bZ : ∀ (W : World), Below W.heap.size W (W.alloc (.cells #[.int .i64 0, .slice none 0 0] 26)).drew := fun W => ((Below.refl _ _).alloc (Nat.le_refl _) _).drew
      have bZ' : ∀ (W : World), Below W.heap.size W (W.alloc (.cells #[.int .i64 0, .slice none 0 0] 26)) := fun W => ((Below.refl _ _).alloc (Nat.le_refl _) _)
      have nZ : ∀ (W : World), (W.alloc (.cells #[.int .i64 0, .slice none 0 0] 26)).heap[W.heap.size]? = some (.cells #[.int .i64 0, .slice none 0 0] 26 (0, 0)) := fun W => heap_alloc_new W _
      have bD : ∀ (W : World), Below W.heap.size W W.drew := fun W => (Below.refl _ _).drew
      have hKeep : ∀ {C : Nat} {V W : World} {o : Obj}, V.heap[C]? = some o → Below V.heap.size V W → W.heap[C]? = some o := fun h hb => (hb.block _ (lt16 h)).trans h
      have hHid : ∀ {p : Prop}, p → Hid p := fun h => h
      have hA2 : ∀ (V W : World), Below w2'.heap.size w2' V → Below V.heap.size V W → Hid (Below w2'.heap.size w2' W) := fun V W h1 h2 => chain h1 h2
      have hAB : ∀ (U V W : World), Below U.heap.size U V → Below V.heap.size V W → Hid (Below U.heap.size U W) := fun U V W h1 h2 => chain h1 h2
      have nZd : ∀ (W : World), (W.alloc (.cells #[.int .i64 0, .slice none 0 0] 26)).drew.heap[W.heap.size]? = some (.cells #[.int .i64 0, .slice none 0 0] 26 (0, 0)) := fun W => heap_alloc_new W _
      have hK2 : ∀ (C : Nat) (V W : World), V.heap[C]? = some (.cells #[.int .i64 0, .slice none 0 0] 26 (0, 0)) → Below V.heap.size V W → Hid (W.heap[C]? = some (.cells #[.int .i64 0, .slice none 0 0] 26 (0, 0))) := fun C V W h hb => (hb.block _ (lt16 h)).trans h
      have bP : ∀ (C j : Nat) (u : Value) {W : World}, w2'.heap.size ≤ C → Below w2'.heap.size w2' W → Below w2'.heap.size w2' (W.setCell ⟨C, j, none⟩ u) := fun C j u W hC h => h.setCell (p := ⟨C, j, none⟩) hC u
      have bO : ∀ (W : World) (o : Obj), Below W.heap.size W (W.alloc o) := fun W o => (Below.refl _ _).alloc (Nat.le_refl _) o
      have hEndA : ∀ (W : World) (y : Option Addr) (d B : Nat), Hid (Below w2'.heap.size w2' W) → Hid (OwnI W B (.slice y JN d) (joinS a b).regs) → Hid ((W.alloc (.cells #[.int .i64 JA, .slice y JN d] 26)).heap[W.heap.size]? = some (.cells #[.int .i64 JA, .slice y JN d] 26 (0, 0)) ∧ ArgI (W.alloc (.cells #[.int .i64 JA, .slice y JN d] 26)) (.slice y JN d) (joinS a b).regs ∧ Below w2'.heap.size w2' (W.alloc (.cells #[.int .i64 JA, .slice y JN d] 26)) ∧ w2'.heap.size ≤ W.heap.size) := fun W y d B hB hO => ⟨heap_alloc_new W _, (OwnI.arg (hO.out.alloc _)), bS _ hB.out, hB.out.size⟩
      have hEndB : ∀ (W : World) (y : Option Addr) (d B C : Nat), Hid (Below w2'.heap.size w2' W) → Hid (OwnI W B (.slice y JN d) (joinS a b).regs) → Hid (W.heap[C]? = some (.cells #[.int .i64 0, .slice none 0 0] 26 (0, 0))) → Hid (w2'.heap.size ≤ C) → Hid (((W.setCell ⟨C, 0, none⟩ (.int .i64 JA)).setCell ⟨C, 1, none⟩ (.slice y JN d)).heap[C]? = some (.cells #[.int .i64 JA, .slice y JN d] 26 (0, 0)) ∧ ArgI ((W.setCell ⟨C, 0, none⟩ (.int .i64 JA)).setCell ⟨C, 1, none⟩ (.slice y JN d)) (.slice y JN d) (joinS a b).regs ∧ Below w2'.heap.size w2' ((W.setCell ⟨C, 0, none⟩ (.int .i64 JA)).setCell ⟨C, 1, none⟩ (.slice y JN d)) ∧ w2'.heap.size ≤ C) := fun W y d B C hB hO hC hL => by
        have k0 := heap_setCell_same W C 0 _ _ (.int .i64 JA) hC.out
        have k1 := heap_setCell_same _ C 1 _ _ (.slice y JN d) k0
        have ne := apart16 hO.out hC.out (by decide)
        have ho : OwnI ((W.setCell ⟨C, 0, none⟩ (.int .i64 JA)).setCell ⟨C, 1, none⟩ (.slice y JN d)) B (.slice y JN d) (joinS a b).regs := far16 (far16 hO.out ne) ne
        exact ⟨k1, ho.arg, bP _ _ _ hL.out (bP _ _ _ hL.out hB.out), hL.out⟩
      go_region_held_law (fun W => W.cell? ⟨G, 0, none⟩ = some (.int .i64 AC) ∧ W.cell? ⟨G, 1, none⟩ = some (.slice xu n cu) ∧ W.cell? ⟨G + 1, 0, none⟩ = some (.int .i64 BC) ∧ W.cell? ⟨G + 1, 1, none⟩ = some (.slice xv m cv))
        (exact HK3.out _ (by first | with_reducible exact bP _ _ _ HLE.out (bP _ _ _ HLE.out HBJ.out) | with_reducible exact RowKit.Below.drew (bP _ _ _ HLE.out (bP _ _ _ HLE.out HBJ.out)) | with_reducible exact chain HBJ.out (bO _ _) | with_reducible exact chain HBJ.out (RowKit.Below.drew (bO _ _)) | with_reducible exact HBJ.out | with_reducible exact RowKit.Below.drew HBJ.out | with_reducible exact HBB.out | with_reducible exact RowKit.Below.drew HBB.out | with_reducible exact HBA.out | with_reducible exact RowKit.Below.drew HBA.out | with_reducible exact Below.refl _ _ | with_reducible exact (Below.refl _ _).drew | with_reducible exact bZ _ | with_reducible exact bZ' _ | with_reducible exact chain HBA.out (bZ _) | with_reducible exact chain HBA.out (bZ' _) | with_reducible exact chain HBB.out (bZ _) | with_reducible exact chain HBB.out (bZ' _)))
        (first
          | (go_at_call 24; (with_reducible refine (cTA3 _ (by first | with_reducible exact bZ _ | with_reducible exact bZ' _)).mono ?_); rintro e wA ⟨yA, dA, rfl, hoA, hbA⟩; have HBA := hA2 _ _ (by first | with_reducible exact bZ _ | with_reducible exact bZ' _) hbA; have HOA := hHid hoA.arg; have HCA := hK2 w2'.heap.size _ _ (by first | with_reducible exact nZd _ | with_reducible exact nZ _) hbA; clear hoA)
          | (go_at_call 24; (with_reducible refine (cTA3 _ (by first | with_reducible exact Below.refl _ _ | with_reducible exact bD _)).mono ?_); rintro e wA ⟨yA, dA, rfl, hoA, hbA⟩; have HBA := hA2 _ _ (by first | with_reducible exact Below.refl _ _ | with_reducible exact bD _) hbA; have HOA := hHid hoA.arg; clear hoA)
          | (go_at_call 24; (with_reducible refine (cTB3 _ (chain HBA.out (by first | with_reducible exact bZ _ | with_reducible exact bZ' _))).mono ?_); rintro e wB ⟨yB, dB, rfl, hoB, hbB⟩; have HAB := hAB wA _ _ (by first | with_reducible exact bZ _ | with_reducible exact bZ' _) hbB; have HBB := hA2 _ _ HBA.out HAB.out; have HOB := hHid hoB.arg; have HCB := hK2 wA.heap.size _ _ (by first | with_reducible exact nZd _ | with_reducible exact nZ _) hbB; have HLE := hHid HBA.out.size; clear hoB)
          | (go_at_call 24; (with_reducible refine (cTB3 _ (chain HBA.out (by first | with_reducible exact Below.refl _ _ | with_reducible exact bD _))).mono ?_); rintro e wB ⟨yB, dB, rfl, hoB, hbB⟩; have HAB := hAB wA _ _ (by first | with_reducible exact Below.refl _ _ | with_reducible exact bD _) hbB; have HBB := hA2 _ _ HBA.out HAB.out; have HOB := hHid hoB.arg; have HCB := hK2 w2'.heap.size _ _ HCA.out HAB.out; have HLE := hHid (Nat.le_refl w2'.heap.size); clear hoB)
          | (go_at_call 24; (with_reducible refine (cTB3 _ (chain HBA.out (by first | with_reducible exact Below.refl _ _ | with_reducible exact bD _))).mono ?_); rintro e wB ⟨yB, dB, rfl, hoB, hbB⟩; have HAB := hAB wA _ _ (by first | with_reducible exact Below.refl _ _ | with_reducible exact bD _) hbB; have HBB := hA2 _ _ HBA.out HAB.out; have HOB := hHid hoB.arg; clear hoB)
          | (go_at_call 11; (with_reducible refine (cJi _ _ _ _ _ (HOA.out.below (chain (w := wA) HAB.out (by first | with_reducible exact bZ _ | with_reducible exact bZ' _))) (HOB.out.below (by first | with_reducible exact bZ _ | with_reducible exact bZ' _))).mono ?_); rintro e wJ ⟨yJ, dJ, rfl, hoJ, hbJ⟩; have HBJ0 := hAB wB _ _ (by first | with_reducible exact bZ _ | with_reducible exact bZ' _) hbJ; have HBJ := hA2 _ _ HBB.out HBJ0.out; have HOJ := hHid hoJ; have HCJ := hK2 wB.heap.size _ _ (by first | with_reducible exact nZd _ | with_reducible exact nZ _) hbJ; have HLE := hHid HBB.out.size; have pz := two_cells_of HCJ.out; have pz1 := pz.1; have pz2 := pz.2; have fzj := fun i => frozen_of_row wJ _ i _ _ HCJ.out; clear pz; clear hoJ)
          | (go_at_call 11; (with_reducible refine (cJi _ _ _ _ _ (HOA.out.below (chain (w := wA) HAB.out (by first | with_reducible exact Below.refl _ _ | with_reducible exact bD _))) (HOB.out.below (by first | with_reducible exact Below.refl _ _ | with_reducible exact bD _))).mono ?_); rintro e wJ ⟨yJ, dJ, rfl, hoJ, hbJ⟩; have HBJ0 := hAB wB _ _ (by first | with_reducible exact Below.refl _ _ | with_reducible exact bD _) hbJ; have HBJ := hA2 _ _ HBB.out HBJ0.out; have HOJ := hHid hoJ; have HCJ := hK2 _ _ _ HCB.out HBJ0.out; have pz := two_cells_of HCJ.out; have pz1 := pz.1; have pz2 := pz.2; have fzj := fun i => frozen_of_row wJ _ i _ _ HCJ.out; clear pz; clear hoJ)
          | (go_at_call 11; (with_reducible refine (cJi _ _ _ _ _ (HOA.out.below (chain (w := wA) HAB.out (by first | with_reducible exact Below.refl _ _ | with_reducible exact bD _))) (HOB.out.below (by first | with_reducible exact Below.refl _ _ | with_reducible exact bD _))).mono ?_); rintro e wJ ⟨yJ, dJ, rfl, hoJ, hbJ⟩; have HBJ0 := hAB wB _ _ (by first | with_reducible exact Below.refl _ _ | with_reducible exact bD _) hbJ; have HBJ := hA2 _ _ HBB.out HBJ0.out; have HOJ := hHid hoJ; clear hoJ))
      all_goals
        first
          | (have HE := hEndB _ _ _ _ _ HBJ HOJ HCJ HLE
             clear HK3 cTA3 cTB3 cJi hEndA hEndB bZ bZ' nZ bD hKeep hHid hA2 hAB nZd hK2 bP bO bS
             go_wp2
             go_meet
             case rel => exact ⟨_, _, _, rfl, HE⟩)
          | (have HE := hEndA _ _ _ _ HBJ HOJ
             clear HK3 cTA3 cTB3 cJi hEndA hEndB bZ bZ' nZ bD hKeep hHid hA2 hAB nZd hK2 bP bO bS
             go_wp2
             go_meet
             case rel => exact ⟨_, _, _, rfl, HE⟩)
    case rest =>
      obtain ⟨C2, y2, d2, rfl, HD2⟩ := hcut
      have BV := chain HBK.out HD2.out.2.2.1
      obtain ⟨_, ⟨c0, c1⟩, ac⟩ := HKC.out wc BV
      obtain ⟨p0, p1⟩ := two_cells_of HD2.out.1
      have cE0 := cEJ _ _ wc HD2.out.2.1 ac
      have q9 := (HD2.out.2.2.1.block X9 (lt16 HQ9.out)).trans HQ9.out
      have HBV : Hid (Below WC.heap.size WC wc) := BV
      have HBV2 : Hid (Below wJ0.heap.size wJ0 wc) := chain HKJ.out HD2.out.2.2.1
      clear HD2 cTA3 cTB3 HK3 cJi BV
      go_upto_region 35 with (go_at_call 25; (with_reducible refine cE0.mono ?_); rintro e wV ⟨rfl, bV⟩)
      clear cE0 p0 p1 c0 c1 ac
      have q9' := (bV.block X9 (lt16 q9)).trans q9
      have cH0 := cH wV (chain HBV2.out bV)
      obtain ⟨p0, p1⟩ := two_cells_of q9'
      have HBW : Hid (Below w.heap.size w wV) := chain HBC.out (chain HBV.out bV)
      clear q9 q9' bV cH
      go_wp2_with (go_at_call 27; (with_reducible refine cH0.mono ?_); rintro e wX ⟨rfl, bX9⟩)
      go_ret
      exact ⟨rfl, chain HBW.out bX9⟩

end Go.Proofs.Ytgaphgejpnepfaa
