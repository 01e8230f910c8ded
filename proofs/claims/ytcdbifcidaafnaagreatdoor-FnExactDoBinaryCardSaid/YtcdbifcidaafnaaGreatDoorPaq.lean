/-
  Part 17 of what is proved of drawn right trees.
-/
import Derived.Test.YtcdbifcidaafnaaGreatDoorPap
import Derived.Test.YtcdbifcidaafnaaGreatDoorPac
import Derived.Deep.RegionHeldLaw

namespace Go.Proofs.YtcdbifcidaafnaaGreatDoor
open Go.RowKit Go.Sort
set_option linter.unusedVariables false
set_option linter.unusedSimpArgs false
theorem lt17b {w : World} {k : Nat} {o : Obj} (h : w.heap[k]? = some o) : k < w.heap.size := (Array.getElem?_eq_some_iff.1 h).1
set_option maxHeartbeats 4000000 in
set_option maxRecDepth 100000 in
theorem fnExactDoBinary_walk (op : Int) (a b : PVal) (w : World) (ha : valW a) (hb : valW b) (hg : EtOk w) :
    Calls Tryz.prog 5 #[.int .i64 op, .agg #[.int .i64 a.kind, .int .u64 (a.num : Int), .string a.text, .int .i64 a.ref], .agg #[.int .i64 b.kind, .int .u64 (b.num : Int), .string b.text, .int .i64 b.ref]] w fun e w' => e = .returned (.bool true) ∧ Below w.heap.size w w' := by
  have cA := fun W => szValue_any a 1048576 W ha.2.2.1 (by omega) (by omega)
  have cB := fun (left : Int) W (k0 : 0 ≤ left) (k1 : left ≤ 1048576) => szValue_any b left W hb.2.2.1 k0 k1
  have cO := fun W la lb => specDoBinary_v op a b W ha hb la lb
  have cI := fun W la lb (hE : EtOk W) => iDoBinary_any op a b W ha hb la lb hE
  have HG : Hid (∀ W, Below w.heap.size w W → EtOk W) := fun W hW => hg.more hW
  clear ha hb hg
  obtain ⟨⟨q, t⟩, hv⟩ : ∃ v, binV op a b = v := ⟨_, rfl⟩
  simp only [hv, pairV] at cO cI
  clear hv
  have cE := fun W => eqValue_same q W
  have tA := fun W => toValue_any a W
  have tB := fun W => toValue_any b W
  obtain ⟨t0, t1, tz, tb⟩ := two_made w (.cells #[.int .i64 a.kind, .int .u64 (a.num : Int), .string a.text, .int .i64 a.ref] 37) (.cells #[.int .i64 b.kind, .int .u64 (b.num : Int), .string b.text, .int .i64 b.ref] 37)
  obtain ⟨W2, hW2⟩ : ∃ W, ((w.alloc (.cells #[.int .i64 a.kind, .int .u64 (a.num : Int), .string a.text, .int .i64 a.ref] 37)).alloc (.cells #[.int .i64 b.kind, .int .u64 (b.num : Int), .string b.text, .int .i64 b.ref] 37)) = W := ⟨_, rfl⟩
  rw [hW2] at t0 t1 tz tb
  have HW : Hid (_ = W2) := hW2
  clear hW2
  obtain ⟨G, hG⟩ : ∃ G, w.heap.size = G := ⟨_, rfl⟩
  rw [hG] at t0 t1 tz
  have KS : ∀ W, Below W2.heap.size W2 W → (fun W => W.cell? ⟨G, 0, none⟩ = some (.int .i64 a.kind) ∧ W.cell? ⟨G, 1, none⟩ = some (.int .u64 (a.num : Int)) ∧ W.cell? ⟨G, 2, none⟩ = some (.string a.text) ∧ W.cell? ⟨G, 3, none⟩ = some (.int .i64 a.ref) ∧ W.cell? ⟨G + 1, 0, none⟩ = some (.int .i64 b.kind) ∧ W.cell? ⟨G + 1, 1, none⟩ = some (.int .u64 (b.num : Int)) ∧ W.cell? ⟨G + 1, 2, none⟩ = some (.string b.text) ∧ W.cell? ⟨G + 1, 3, none⟩ = some (.int .i64 b.ref)) W := fun W h => by
    have x := four_cells ((h.block G (lt17b t0)).trans t0)
    have y := four_cells ((h.block (G + 1) (lt17b t1)).trans t1)
    exact ⟨x.1, x.2.1, x.2.2.1, x.2.2.2, y.1, y.2.1, y.2.2.1, y.2.2.2⟩
  have HS2 : Hid (∀ W, Below W2.heap.size W2 W → (fun W => W.cell? ⟨G, 0, none⟩ = some (.int .i64 a.kind) ∧ W.cell? ⟨G, 1, none⟩ = some (.int .u64 (a.num : Int)) ∧ W.cell? ⟨G, 2, none⟩ = some (.string a.text) ∧ W.cell? ⟨G, 3, none⟩ = some (.int .i64 a.ref) ∧ W.cell? ⟨G + 1, 0, none⟩ = some (.int .i64 b.kind) ∧ W.cell? ⟨G + 1, 1, none⟩ = some (.int .u64 (b.num : Int)) ∧ W.cell? ⟨G + 1, 2, none⟩ = some (.string b.text) ∧ W.cell? ⟨G + 1, 3, none⟩ = some (.int .i64 b.ref)) W) := KS
  clear t0 t1 KS
  go_enter Tryz.func5, Tryz.ntmps5
  go_upto_region 1 with fail
  rw [HW.out]
  clear HW
  try simp only [hG]
  obtain ⟨a0, a1, a2, a3, d0, d1, d2, d3⟩ := HS2.out W2 (Below.refl _ _)
  go_wp2_with fail
  refine (cA _).mono ?_
  rintro e w1 ⟨r, rfl, hr, b1⟩
  clear a0 a1 a2 a3 d0 d1 d2 d3
  rcases hr with rfl | ⟨r0, r1, r2⟩
  · clear cA cB cO cI
    go_wp2
    go_ret
    exact ⟨rfl, chain tb b1⟩
  have hneg : ¬ r < 0 := by omega
  obtain ⟨a0, a1, a2, a3, d0, d1, d2, d3⟩ := HS2.out w1 b1
  have cB' := cB r w1 r0 (by omega)
  have la : a.text.size ≤ 1048576 := by omega
  clear r2 cA cB
  go_wp2_with fail
  refine cB'.mono ?_
  rintro e w2 ⟨q', rfl, hq, b2⟩
  have bb2 := chain b1 b2
  clear a0 a1 a2 a3 d0 d1 d2 d3 cB'
  rcases hq with rfl | ⟨q0, q1, q2⟩
  · clear cO cI
    go_wp2
    go_ret
    exact ⟨rfl, chain tb bb2⟩
  have hneg2 : ¬ q' < 0 := by omega
  have lb : b.text.size ≤ 1048576 := by omega
  have HB2 : Hid (Below w.heap.size w w2) := chain tb bb2
  have HS : Hid (∀ W, Below w2.heap.size w2 W → (fun W => W.cell? ⟨G, 0, none⟩ = some (.int .i64 a.kind) ∧ W.cell? ⟨G, 1, none⟩ = some (.int .u64 (a.num : Int)) ∧ W.cell? ⟨G, 2, none⟩ = some (.string a.text) ∧ W.cell? ⟨G, 3, none⟩ = some (.int .i64 a.ref) ∧ W.cell? ⟨G + 1, 0, none⟩ = some (.int .i64 b.kind) ∧ W.cell? ⟨G + 1, 1, none⟩ = some (.int .u64 (b.num : Int)) ∧ W.cell? ⟨G + 1, 2, none⟩ = some (.string b.text) ∧ W.cell? ⟨G + 1, 3, none⟩ = some (.int .i64 b.ref)) W) := fun W h => HS2.out W (chain bb2 h)
  have dO := fun W (hW : Below w2.heap.size w2 W) => cO W la lb
  have cI2 := fun W => cI W la lb
  clear q2 cO lb la HS2 cI b1 b2 bb2 tb tz
  go_upto_region 8 with fail
  go_cut [8, 9] (fun pv tv wr => ∃ C : Nat, pv = .pointer (some ⟨C, 0, none⟩) ∧ tv = .string t ∧ Hid (wr.heap[C]? = some (.cells #[.int .i64 q.kind, .int .u64 (q.num : Int), .string q.text, .int .i64 q.ref] 26 (0, 0)) ∧ Below w2.heap.size w2 wr ∧ w2.heap.size ≤ C))
  case first =>
    have bZ : ∀ (W : World), Below W.heap.size W (W.alloc (.cells #[.int .i64 0, .int .u64 0, .string ⟨#[]⟩, .int .i64 0] 26)).drew := fun W => ((Below.refl _ _).alloc (Nat.le_refl _) _).drew
    have bZ' : ∀ (W : World), Below W.heap.size W (W.alloc (.cells #[.int .i64 0, .int .u64 0, .string ⟨#[]⟩, .int .i64 0] 26)) := fun W => ((Below.refl _ _).alloc (Nat.le_refl _) _)
    have nZ : ∀ (W : World), (W.alloc (.cells #[.int .i64 0, .int .u64 0, .string ⟨#[]⟩, .int .i64 0] 26)).heap[W.heap.size]? = some (.cells #[.int .i64 0, .int .u64 0, .string ⟨#[]⟩, .int .i64 0] 26 (0, 0)) := fun W => heap_alloc_new W _
    have nZd : ∀ (W : World), (W.alloc (.cells #[.int .i64 0, .int .u64 0, .string ⟨#[]⟩, .int .i64 0] 26)).drew.heap[W.heap.size]? = some (.cells #[.int .i64 0, .int .u64 0, .string ⟨#[]⟩, .int .i64 0] 26 (0, 0)) := fun W => heap_alloc_new W _
    have bD : ∀ (W : World), Below W.heap.size W W.drew := fun W => (Below.refl _ _).drew
    have bO : ∀ (W : World) (o : Obj), Below W.heap.size W (W.alloc o) := fun W o => (Below.refl _ _).alloc (Nat.le_refl _) o
    have hHid : ∀ {p : Prop}, p → Hid p := fun h => h
    have hA2 : ∀ (U W : World), Below w2.heap.size w2 U → Below U.heap.size U W → Hid (Below w2.heap.size w2 W) := fun U W h1 h2 => chain h1 h2
    have hK2 : ∀ (C : Nat) (U W : World), U.heap[C]? = some (.cells #[.int .i64 0, .int .u64 0, .string ⟨#[]⟩, .int .i64 0] 26 (0, 0)) → Below U.heap.size U W → Hid (W.heap[C]? = some (.cells #[.int .i64 0, .int .u64 0, .string ⟨#[]⟩, .int .i64 0] 26 (0, 0))) := fun C U W h hb => (hb.block _ (Array.getElem?_eq_some_iff.1 h).1).trans h
    have bP : ∀ (C j : Nat) (u : Value) {W : World}, w2.heap.size ≤ C → Below w2.heap.size w2 W → Below w2.heap.size w2 (W.setCell ⟨C, j, none⟩ u) := fun C j u W hC h => h.setCell (p := ⟨C, j, none⟩) hC u
    have hEndA : ∀ (W : World), Hid (Below w2.heap.size w2 W) → Hid ((W.alloc (.cells #[.int .i64 q.kind, .int .u64 (q.num : Int), .string q.text, .int .i64 q.ref] 26)).heap[W.heap.size]? = some (.cells #[.int .i64 q.kind, .int .u64 (q.num : Int), .string q.text, .int .i64 q.ref] 26 (0, 0)) ∧ Below w2.heap.size w2 (W.alloc (.cells #[.int .i64 q.kind, .int .u64 (q.num : Int), .string q.text, .int .i64 q.ref] 26)) ∧ w2.heap.size ≤ W.heap.size) := fun W hB => ⟨heap_alloc_new W _, chain hB.out (bO _ _), hB.out.size⟩
    have hEndB : ∀ (W : World) (C : Nat), Hid (Below w2.heap.size w2 W) → Hid (W.heap[C]? = some (.cells #[.int .i64 0, .int .u64 0, .string ⟨#[]⟩, .int .i64 0] 26 (0, 0))) → Hid (w2.heap.size ≤ C) → Hid (((((W.setCell ⟨C, 0, none⟩ (.int .i64 q.kind)).setCell ⟨C, 1, none⟩ (.int .u64 (q.num : Int))).setCell ⟨C, 2, none⟩ (.string q.text)).setCell ⟨C, 3, none⟩ (.int .i64 q.ref)).heap[C]? = some (.cells #[.int .i64 q.kind, .int .u64 (q.num : Int), .string q.text, .int .i64 q.ref] 26 (0, 0)) ∧ Below w2.heap.size w2 ((((W.setCell ⟨C, 0, none⟩ (.int .i64 q.kind)).setCell ⟨C, 1, none⟩ (.int .u64 (q.num : Int))).setCell ⟨C, 2, none⟩ (.string q.text)).setCell ⟨C, 3, none⟩ (.int .i64 q.ref)) ∧ w2.heap.size ≤ C) := fun W C hB hC hL => ⟨four_put hC.out, bP _ _ _ hL.out (bP _ _ _ hL.out (bP _ _ _ hL.out (bP _ _ _ hL.out hB.out))), hL.out⟩
    go_region_held_law (fun W => W.cell? ⟨G, 0, none⟩ = some (.int .i64 a.kind) ∧ W.cell? ⟨G, 1, none⟩ = some (.int .u64 (a.num : Int)) ∧ W.cell? ⟨G, 2, none⟩ = some (.string a.text) ∧ W.cell? ⟨G, 3, none⟩ = some (.int .i64 a.ref) ∧ W.cell? ⟨G + 1, 0, none⟩ = some (.int .i64 b.kind) ∧ W.cell? ⟨G + 1, 1, none⟩ = some (.int .u64 (b.num : Int)) ∧ W.cell? ⟨G + 1, 2, none⟩ = some (.string b.text) ∧ W.cell? ⟨G + 1, 3, none⟩ = some (.int .i64 b.ref))
      (exact HS.out _ (by first | with_reducible exact bP _ _ _ HLE.out (bP _ _ _ HLE.out (bP _ _ _ HLE.out (bP _ _ _ HLE.out HBJ.out))) | with_reducible exact RowKit.Below.drew (bP _ _ _ HLE.out (bP _ _ _ HLE.out (bP _ _ _ HLE.out (bP _ _ _ HLE.out HBJ.out)))) | with_reducible exact chain HBJ.out (bO _ _) | with_reducible exact chain HBJ.out (RowKit.Below.drew (bO _ _)) | with_reducible exact HBJ.out | with_reducible exact RowKit.Below.drew HBJ.out | with_reducible exact chain HBB.out (bO _ _) | with_reducible exact chain HBB.out (RowKit.Below.drew (bO _ _)) | with_reducible exact HBB.out | with_reducible exact RowKit.Below.drew HBB.out | with_reducible exact chain HBA.out (bO _ _) | with_reducible exact chain HBA.out (RowKit.Below.drew (bO _ _)) | with_reducible exact HBA.out | with_reducible exact RowKit.Below.drew HBA.out | with_reducible exact Below.refl _ _ | with_reducible exact (Below.refl _ _).drew | with_reducible exact bZ _ | with_reducible exact bZ' _))
      (first
        | (go_at_call 20; (with_reducible refine (tA _).mono ?_); rintro e wA ⟨rfl, hbA⟩; have HBA := hA2 _ _ (by first | with_reducible exact bZ _ | with_reducible exact bZ' _) hbA; have HCA := hK2 w2.heap.size _ _ (by first | with_reducible exact nZd _ | with_reducible exact nZ _) hbA)
        | (go_at_call 20; (with_reducible refine (tA _).mono ?_); rintro e wA ⟨rfl, hbA⟩; have HBA := hA2 _ _ (by first | with_reducible exact Below.refl _ _ | with_reducible exact bD _) hbA)
        | (go_at_call 20; (with_reducible refine (tB _).mono ?_); rintro e wB ⟨rfl, hbB⟩; have HBB := hA2 _ _ (chain HBA.out (by first | with_reducible exact bZ _ | with_reducible exact bZ' _)) hbB; have HCB := hK2 wA.heap.size _ _ (by first | with_reducible exact nZd _ | with_reducible exact nZ _) hbB; have HLE := hHid HBA.out.size)
        | (go_at_call 20; (with_reducible refine (tB _).mono ?_); rintro e wB ⟨rfl, hbB⟩; have HBB := hA2 _ _ (chain HBA.out (by first | with_reducible exact Below.refl _ _ | with_reducible exact bD _)) hbB; have HCB := hK2 w2.heap.size _ _ HCA.out hbB; have HLE := hHid (Nat.le_refl w2.heap.size))
        | (go_at_call 20; (with_reducible refine (tB _).mono ?_); rintro e wB ⟨rfl, hbB⟩; have HBB := hA2 _ _ (chain HBA.out (by first | with_reducible exact Below.refl _ _ | with_reducible exact bD _)) hbB)
        | (go_at_call 11; (with_reducible refine (dO _ (chain HBB.out (by first | with_reducible exact bZ _ | with_reducible exact bZ' _))).mono ?_); rintro e wJ ⟨rfl, hbJ⟩; have HBJ := hA2 _ _ (chain HBB.out (by first | with_reducible exact bZ _ | with_reducible exact bZ' _)) hbJ; have HCJ := hK2 wB.heap.size _ _ (by first | with_reducible exact nZd _ | with_reducible exact nZ _) hbJ; have HLE := hHid HBB.out.size; have pz := four_cells HCJ.out; have pz0 := pz.1; have pz1 := pz.2.1; have pz2 := pz.2.2.1; have pz3 := pz.2.2.2; have fzj := fun i => frozen_of_row wJ _ i _ _ HCJ.out; clear pz)
        | (go_at_call 11; (with_reducible refine (dO _ (chain HBB.out (by first | with_reducible exact Below.refl _ _ | with_reducible exact bD _))).mono ?_); rintro e wJ ⟨rfl, hbJ⟩; have HBJ := hA2 _ _ (chain HBB.out (by first | with_reducible exact Below.refl _ _ | with_reducible exact bD _)) hbJ; have HCJ := hK2 _ _ _ HCB.out hbJ; have pz := four_cells HCJ.out; have pz0 := pz.1; have pz1 := pz.2.1; have pz2 := pz.2.2.1; have pz3 := pz.2.2.2; have fzj := fun i => frozen_of_row wJ _ i _ _ HCJ.out; clear pz)
        | (go_at_call 11; (with_reducible refine (dO _ (chain HBB.out (by first | with_reducible exact Below.refl _ _ | with_reducible exact bD _))).mono ?_); rintro e wJ ⟨rfl, hbJ⟩; have HBJ := hA2 _ _ (chain HBB.out (by first | with_reducible exact Below.refl _ _ | with_reducible exact bD _)) hbJ))
    all_goals
      first
        | (have HE := hEndB _ _ HBJ HCJ HLE
           clear hEndA hEndB bZ bZ' nZ bD hHid hA2 nZd hK2 bP bO
           go_wp2
           go_meet
           case rel => exact ⟨_, rfl, rfl, HE⟩)
        | (have HE := hEndA _ HBJ
           clear hEndA hEndB bZ bZ' nZ bD hHid hA2 nZd hK2 bP bO
           go_wp2
           go_meet
           case rel => exact ⟨_, rfl, rfl, HE⟩)
  case rest =>
  obtain ⟨C, rfl, rfl, HC⟩ := hcut
  have HS3 : Hid (∀ W, Below wc.heap.size wc W → (fun W => W.cell? ⟨G, 0, none⟩ = some (.int .i64 a.kind) ∧ W.cell? ⟨G, 1, none⟩ = some (.int .u64 (a.num : Int)) ∧ W.cell? ⟨G, 2, none⟩ = some (.string a.text) ∧ W.cell? ⟨G, 3, none⟩ = some (.int .i64 a.ref) ∧ W.cell? ⟨G + 1, 0, none⟩ = some (.int .i64 b.kind) ∧ W.cell? ⟨G + 1, 1, none⟩ = some (.int .u64 (b.num : Int)) ∧ W.cell? ⟨G + 1, 2, none⟩ = some (.string b.text) ∧ W.cell? ⟨G + 1, 3, none⟩ = some (.int .i64 b.ref)) W) := fun W h => HS.out W (chain HC.out.2.1 h)
  have HBC : Hid (Below w.heap.size w wc) := chain HB2.out HC.out.2.1
  have HCC : Hid (wc.heap[C]? = some (.cells #[.int .i64 q.kind, .int .u64 (q.num : Int), .string q.text, .int .i64 q.ref] 26 (0, 0))) := HC.out.1
  have dI := fun W (hW : Below wc.heap.size wc W) => cI2 W (HG.out W (chain HBC.out hW))
  clear dO HS HC HB2 cI2
  obtain ⟨w8, hw8⟩ : ∃ W, W = wc := ⟨_, rfl⟩
  subst hw8
  go_upto_region 9 with fail
  go_cut [10, 11] (fun pv tv wr => ∃ C : Nat, pv = .pointer (some ⟨C, 0, none⟩) ∧ tv = .string t ∧ Hid (wr.heap[C]? = some (.cells #[.int .i64 q.kind, .int .u64 (q.num : Int), .string q.text, .int .i64 q.ref] 26 (0, 0)) ∧ Below w8.heap.size w8 wr ∧ w8.heap.size ≤ C))
  case first =>
    have bZ : ∀ (W : World), Below W.heap.size W (W.alloc (.cells #[.int .i64 0, .int .u64 0, .string ⟨#[]⟩, .int .i64 0] 26)).drew := fun W => ((Below.refl _ _).alloc (Nat.le_refl _) _).drew
    have bZ' : ∀ (W : World), Below W.heap.size W (W.alloc (.cells #[.int .i64 0, .int .u64 0, .string ⟨#[]⟩, .int .i64 0] 26)) := fun W => ((Below.refl _ _).alloc (Nat.le_refl _) _)
    have nZ : ∀ (W : World), (W.alloc (.cells #[.int .i64 0, .int .u64 0, .string ⟨#[]⟩, .int .i64 0] 26)).heap[W.heap.size]? = some (.cells #[.int .i64 0, .int .u64 0, .string ⟨#[]⟩, .int .i64 0] 26 (0, 0)) := fun W => heap_alloc_new W _
    have nZd : ∀ (W : World), (W.alloc (.cells #[.int .i64 0, .int .u64 0, .string ⟨#[]⟩, .int .i64 0] 26)).drew.heap[W.heap.size]? = some (.cells #[.int .i64 0, .int .u64 0, .string ⟨#[]⟩, .int .i64 0] 26 (0, 0)) := fun W => heap_alloc_new W _
    have bD : ∀ (W : World), Below W.heap.size W W.drew := fun W => (Below.refl _ _).drew
    have bO : ∀ (W : World) (o : Obj), Below W.heap.size W (W.alloc o) := fun W o => (Below.refl _ _).alloc (Nat.le_refl _) o
    have hHid : ∀ {p : Prop}, p → Hid p := fun h => h
    have hA2 : ∀ (U W : World), Below w8.heap.size w8 U → Below U.heap.size U W → Hid (Below w8.heap.size w8 W) := fun U W h1 h2 => chain h1 h2
    have hK2 : ∀ (C : Nat) (U W : World), U.heap[C]? = some (.cells #[.int .i64 0, .int .u64 0, .string ⟨#[]⟩, .int .i64 0] 26 (0, 0)) → Below U.heap.size U W → Hid (W.heap[C]? = some (.cells #[.int .i64 0, .int .u64 0, .string ⟨#[]⟩, .int .i64 0] 26 (0, 0))) := fun C U W h hb => (hb.block _ (Array.getElem?_eq_some_iff.1 h).1).trans h
    have bP : ∀ (C j : Nat) (u : Value) {W : World}, w8.heap.size ≤ C → Below w8.heap.size w8 W → Below w8.heap.size w8 (W.setCell ⟨C, j, none⟩ u) := fun C j u W hC h => h.setCell (p := ⟨C, j, none⟩) hC u
    have hEndA : ∀ (W : World), Hid (Below w8.heap.size w8 W) → Hid ((W.alloc (.cells #[.int .i64 q.kind, .int .u64 (q.num : Int), .string q.text, .int .i64 q.ref] 26)).heap[W.heap.size]? = some (.cells #[.int .i64 q.kind, .int .u64 (q.num : Int), .string q.text, .int .i64 q.ref] 26 (0, 0)) ∧ Below w8.heap.size w8 (W.alloc (.cells #[.int .i64 q.kind, .int .u64 (q.num : Int), .string q.text, .int .i64 q.ref] 26)) ∧ w8.heap.size ≤ W.heap.size) := fun W hB => ⟨heap_alloc_new W _, chain hB.out (bO _ _), hB.out.size⟩
    have hEndB : ∀ (W : World) (C : Nat), Hid (Below w8.heap.size w8 W) → Hid (W.heap[C]? = some (.cells #[.int .i64 0, .int .u64 0, .string ⟨#[]⟩, .int .i64 0] 26 (0, 0))) → Hid (w8.heap.size ≤ C) → Hid (((((W.setCell ⟨C, 0, none⟩ (.int .i64 q.kind)).setCell ⟨C, 1, none⟩ (.int .u64 (q.num : Int))).setCell ⟨C, 2, none⟩ (.string q.text)).setCell ⟨C, 3, none⟩ (.int .i64 q.ref)).heap[C]? = some (.cells #[.int .i64 q.kind, .int .u64 (q.num : Int), .string q.text, .int .i64 q.ref] 26 (0, 0)) ∧ Below w8.heap.size w8 ((((W.setCell ⟨C, 0, none⟩ (.int .i64 q.kind)).setCell ⟨C, 1, none⟩ (.int .u64 (q.num : Int))).setCell ⟨C, 2, none⟩ (.string q.text)).setCell ⟨C, 3, none⟩ (.int .i64 q.ref)) ∧ w8.heap.size ≤ C) := fun W C hB hC hL => ⟨four_put hC.out, bP _ _ _ hL.out (bP _ _ _ hL.out (bP _ _ _ hL.out (bP _ _ _ hL.out hB.out))), hL.out⟩
    go_region_held_law (fun W => W.cell? ⟨G, 0, none⟩ = some (.int .i64 a.kind) ∧ W.cell? ⟨G, 1, none⟩ = some (.int .u64 (a.num : Int)) ∧ W.cell? ⟨G, 2, none⟩ = some (.string a.text) ∧ W.cell? ⟨G, 3, none⟩ = some (.int .i64 a.ref) ∧ W.cell? ⟨G + 1, 0, none⟩ = some (.int .i64 b.kind) ∧ W.cell? ⟨G + 1, 1, none⟩ = some (.int .u64 (b.num : Int)) ∧ W.cell? ⟨G + 1, 2, none⟩ = some (.string b.text) ∧ W.cell? ⟨G + 1, 3, none⟩ = some (.int .i64 b.ref))
      (exact HS3.out _ (by first | with_reducible exact bP _ _ _ HLE.out (bP _ _ _ HLE.out (bP _ _ _ HLE.out (bP _ _ _ HLE.out HBJ.out))) | with_reducible exact RowKit.Below.drew (bP _ _ _ HLE.out (bP _ _ _ HLE.out (bP _ _ _ HLE.out (bP _ _ _ HLE.out HBJ.out)))) | with_reducible exact chain HBJ.out (bO _ _) | with_reducible exact chain HBJ.out (RowKit.Below.drew (bO _ _)) | with_reducible exact HBJ.out | with_reducible exact RowKit.Below.drew HBJ.out | with_reducible exact chain HBB.out (bO _ _) | with_reducible exact chain HBB.out (RowKit.Below.drew (bO _ _)) | with_reducible exact HBB.out | with_reducible exact RowKit.Below.drew HBB.out | with_reducible exact chain HBA.out (bO _ _) | with_reducible exact chain HBA.out (RowKit.Below.drew (bO _ _)) | with_reducible exact HBA.out | with_reducible exact RowKit.Below.drew HBA.out | with_reducible exact Below.refl _ _ | with_reducible exact (Below.refl _ _).drew | with_reducible exact bZ _ | with_reducible exact bZ' _))
      (first
        | (go_at_call 20; (with_reducible refine (tA _).mono ?_); rintro e wA ⟨rfl, hbA⟩; have HBA := hA2 _ _ (by first | with_reducible exact bZ _ | with_reducible exact bZ' _) hbA; have HCA := hK2 w8.heap.size _ _ (by first | with_reducible exact nZd _ | with_reducible exact nZ _) hbA)
        | (go_at_call 20; (with_reducible refine (tA _).mono ?_); rintro e wA ⟨rfl, hbA⟩; have HBA := hA2 _ _ (by first | with_reducible exact Below.refl _ _ | with_reducible exact bD _) hbA)
        | (go_at_call 20; (with_reducible refine (tB _).mono ?_); rintro e wB ⟨rfl, hbB⟩; have HBB := hA2 _ _ (chain HBA.out (by first | with_reducible exact bZ _ | with_reducible exact bZ' _)) hbB; have HCB := hK2 wA.heap.size _ _ (by first | with_reducible exact nZd _ | with_reducible exact nZ _) hbB; have HLE := hHid HBA.out.size)
        | (go_at_call 20; (with_reducible refine (tB _).mono ?_); rintro e wB ⟨rfl, hbB⟩; have HBB := hA2 _ _ (chain HBA.out (by first | with_reducible exact Below.refl _ _ | with_reducible exact bD _)) hbB; have HCB := hK2 w8.heap.size _ _ HCA.out hbB; have HLE := hHid (Nat.le_refl w8.heap.size))
        | (go_at_call 20; (with_reducible refine (tB _).mono ?_); rintro e wB ⟨rfl, hbB⟩; have HBB := hA2 _ _ (chain HBA.out (by first | with_reducible exact Below.refl _ _ | with_reducible exact bD _)) hbB)
        | (go_at_call 10; (with_reducible refine (dI _ (chain HBB.out (by first | with_reducible exact bZ _ | with_reducible exact bZ' _))).mono ?_); rintro e wJ ⟨rfl, hbJ⟩; have HBJ := hA2 _ _ (chain HBB.out (by first | with_reducible exact bZ _ | with_reducible exact bZ' _)) hbJ; have HCJ := hK2 wB.heap.size _ _ (by first | with_reducible exact nZd _ | with_reducible exact nZ _) hbJ; have HLE := hHid HBB.out.size; have pz := four_cells HCJ.out; have pz0 := pz.1; have pz1 := pz.2.1; have pz2 := pz.2.2.1; have pz3 := pz.2.2.2; have fzj := fun i => frozen_of_row wJ _ i _ _ HCJ.out; clear pz)
        | (go_at_call 10; (with_reducible refine (dI _ (chain HBB.out (by first | with_reducible exact Below.refl _ _ | with_reducible exact bD _))).mono ?_); rintro e wJ ⟨rfl, hbJ⟩; have HBJ := hA2 _ _ (chain HBB.out (by first | with_reducible exact Below.refl _ _ | with_reducible exact bD _)) hbJ; have HCJ := hK2 _ _ _ HCB.out hbJ; have pz := four_cells HCJ.out; have pz0 := pz.1; have pz1 := pz.2.1; have pz2 := pz.2.2.1; have pz3 := pz.2.2.2; have fzj := fun i => frozen_of_row wJ _ i _ _ HCJ.out; clear pz)
        | (go_at_call 10; (with_reducible refine (dI _ (chain HBB.out (by first | with_reducible exact Below.refl _ _ | with_reducible exact bD _))).mono ?_); rintro e wJ ⟨rfl, hbJ⟩; have HBJ := hA2 _ _ (chain HBB.out (by first | with_reducible exact Below.refl _ _ | with_reducible exact bD _)) hbJ))
    all_goals
      first
        | (have HE := hEndB _ _ HBJ HCJ HLE
           clear hEndA hEndB bZ bZ' nZ bD hHid hA2 nZd hK2 bP bO
           go_wp2
           go_meet
           case rel => exact ⟨_, rfl, rfl, HE⟩)
        | (have HE := hEndA _ HBJ
           clear hEndA hEndB bZ bZ' nZ bD hHid hA2 nZd hK2 bP bO
           go_wp2
           go_meet
           case rel => exact ⟨_, rfl, rfl, HE⟩)
  case rest =>
  obtain ⟨D, rfl, rfl, HD⟩ := hcut
  obtain ⟨p0, p1, p2, p3⟩ := four_cells HD.out.1
  obtain ⟨k0, k1, k2, k3⟩ := four_cells ((HD.out.2.1.block C (lt17b HCC.out)).trans HCC.out)
  have HF : Hid (Below w.heap.size w wc) := chain HBC.out HD.out.2.1
  clear HD HBC HCC HS3 dI
  go_wp2_with fail
  refine (cE _).mono ?_
  rintro e w9 ⟨rfl, b9⟩
  go_wp2
  go_ret
  exact ⟨rfl, chain HF.out b9⟩
end Go.Proofs.YtcdbifcidaafnaaGreatDoor
