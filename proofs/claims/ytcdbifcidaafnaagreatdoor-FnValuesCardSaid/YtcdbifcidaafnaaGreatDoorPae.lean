/-
  Part 5 of what is proved of drawn right trees.
-/
import Derived.Test.YtcdbifcidaafnaaGreatDoorPad
import Derived.Deep.RegionHeld3

namespace Go.Proofs.YtcdbifcidaafnaaGreatDoor
open Go.RowKit Go.Sort
set_option linter.unusedVariables false
set_option linter.unusedSimpArgs false
theorem new2 {ac : Option Addr} {len cap g : Nat} {w : World} (hC : Cur ac len cap w g) : BXS ac len cap g [w.heap.size + 1, w.heap.size] w ((w.alloc (.cells #[.int .i64 0, .int .u64 0, .string ⟨#[]⟩, .int .i64 0] 26)).alloc (.cells #[.int .i64 0, .int .u64 0, .string ⟨#[]⟩, .int .i64 0] 26)) := by
  have h := ((BXS.start hC).new ⟨0, 0, ⟨#[]⟩, 0⟩ valL_zero).new ⟨0, 0, ⟨#[]⟩, 0⟩ valL_zero
  have e : ∀ o : Obj, (w.alloc o).heap.size = w.heap.size + 1 := fun o => by simp
  simp only [e] at h
  exact h
theorem set4_other {w : World} {C k : Nat} {a b c d : Value} (h : k ≠ C) : ((((w.setCell ⟨C, 0, none⟩ a).setCell ⟨C, 1, none⟩ b).setCell ⟨C, 2, none⟩ c).setCell ⟨C, 3, none⟩ d).heap[k]? = w.heap[k]? := by
  rw [heap_setCell_other _ _ _ _ h, heap_setCell_other _ _ _ _ h, heap_setCell_other _ _ _ _ h, heap_setCell_other _ _ _ _ h]
theorem four_keep {w w' : World} {A B : Nat} (h : ∀ k, k = A ∨ k = B → w'.heap[k]? = w.heap[k]?) (j : Nat) : w'.cell? ⟨A, j, none⟩ = w.cell? ⟨A, j, none⟩ ∧ w'.cell? ⟨B, j, none⟩ = w.cell? ⟨B, j, none⟩ := by
  unfold World.cell?
  simp only [h A (.inl rfl), h B (.inr rfl), and_self]
theorem keep_drew {X Y : World} {A B : Nat} (h : ∀ k, k = A ∨ k = B → X.heap[k]? = Y.heap[k]?) : ∀ k, k = A ∨ k = B → X.drew.heap[k]? = Y.heap[k]? := h
theorem two_put17 {w : World} {R S : Nat} {p q r s : PVal} (h1 : w.heap[R]? = some (.cells #[.int .i64 r.kind, .int .u64 (r.num : Int), .string r.text, .int .i64 r.ref] 26 (0, 0))) (h2 : w.heap[S]? = some (.cells #[.int .i64 s.kind, .int .u64 (s.num : Int), .string s.text, .int .i64 s.ref] 26 (0, 0))) (hne : R ≠ S) :
    ((((((((w.setCell ⟨R, 0, none⟩ (.int .i64 p.kind)).setCell ⟨R, 1, none⟩ (.int .u64 (p.num : Int))).setCell ⟨R, 2, none⟩ (.string p.text)).setCell ⟨R, 3, none⟩ (.int .i64 p.ref)).setCell ⟨S, 0, none⟩ (.int .i64 q.kind)).setCell ⟨S, 1, none⟩ (.int .u64 (q.num : Int))).setCell ⟨S, 2, none⟩ (.string q.text)).setCell ⟨S, 3, none⟩ (.int .i64 q.ref)).heap[R]? = some (.cells #[.int .i64 p.kind, .int .u64 (p.num : Int), .string p.text, .int .i64 p.ref] 26 (0, 0)) ∧ ((((((((w.setCell ⟨R, 0, none⟩ (.int .i64 p.kind)).setCell ⟨R, 1, none⟩ (.int .u64 (p.num : Int))).setCell ⟨R, 2, none⟩ (.string p.text)).setCell ⟨R, 3, none⟩ (.int .i64 p.ref)).setCell ⟨S, 0, none⟩ (.int .i64 q.kind)).setCell ⟨S, 1, none⟩ (.int .u64 (q.num : Int))).setCell ⟨S, 2, none⟩ (.string q.text)).setCell ⟨S, 3, none⟩ (.int .i64 q.ref)).heap[S]? = some (.cells #[.int .i64 q.kind, .int .u64 (q.num : Int), .string q.text, .int .i64 q.ref] 26 (0, 0)) := by
  have k1 := four_put (b0 := .int .i64 p.kind) (b1 := .int .u64 (p.num : Int)) (b2 := .string p.text) (b3 := .int .i64 p.ref) h1
  have k2 : ((((w.setCell ⟨R, 0, none⟩ (.int .i64 p.kind)).setCell ⟨R, 1, none⟩ (.int .u64 (p.num : Int))).setCell ⟨R, 2, none⟩ (.string p.text)).setCell ⟨R, 3, none⟩ (.int .i64 p.ref)).heap[S]? = some (.cells #[.int .i64 s.kind, .int .u64 (s.num : Int), .string s.text, .int .i64 s.ref] 26 (0, 0)) := by
    rw [heap_setCell_other _ _ _ _ (Ne.symm hne), heap_setCell_other _ _ _ _ (Ne.symm hne), heap_setCell_other _ _ _ _ (Ne.symm hne), heap_setCell_other _ _ _ _ (Ne.symm hne)]
    exact h2
  refine ⟨?_, four_put k2⟩
  rw [heap_setCell_other _ _ _ _ hne, heap_setCell_other _ _ _ _ hne, heap_setCell_other _ _ _ _ hne, heap_setCell_other _ _ _ _ hne]
  exact k1
set_option maxHeartbeats 4000000 in
set_option maxRecDepth 100000 in
theorem l17Two_any (ac : Option Addr) (len cap g : Nat) (w : World) (hC : Cur ac len cap w g) :
    Calls Tryz.prog 23 #[.pointer (some ⟨g, 0, none⟩)] w fun e w' => ∃ p q : PVal, e = .returned (.tuple #[.agg #[.int .i64 p.kind, .int .u64 (p.num : Int), .string p.text, .int .i64 p.ref], .agg #[.int .i64 q.kind, .int .u64 (q.num : Int), .string q.text, .int .i64 q.ref]]) ∧ valL p ∧ valL q ∧ Cur ac len cap w' g ∧ w.grownBy w' (some g) := by
  have H0 := new2 hC
  obtain ⟨R, hR⟩ : ∃ R, w.heap.size = R := ⟨_, rfl⟩
  rw [hR] at H0
  obtain ⟨W0, hW0⟩ : ∃ W, ((w.alloc (.cells #[.int .i64 0, .int .u64 0, .string ⟨#[]⟩, .int .i64 0] 26)).alloc (.cells #[.int .i64 0, .int .u64 0, .string ⟨#[]⟩, .int .i64 0] 26)) = W := ⟨_, rfl⟩
  rw [hW0] at H0
  have HW0 : Hid (_ = W0) := hW0
  have HH0 : Hid (BXS ac len cap g [R + 1, R] w W0) := H0
  have z0 : W0.heap.size = R + 2 := by rw [← hW0, ← hR]; simp
  have cV := fun (W : World) (h : Cur ac len cap W g) => l17Value_any ac len cap g W h
  have cN := fun (W : World) (h : Cur ac len cap W g) => l03Number_any ac len cap g W h
  have cV0 := cV W0 H0.cur
  clear H0 hW0
  go_enter Tryz.func23, Tryz.ntmps23
  go_upto_region 1 with fail
  rw [HW0.out]
  clear HW0
  try simp only [hR]
  go_upto_region 2 with (go_at_call 47; (with_reducible refine cV0.mono ?_); rintro e w1 ⟨p1, rfl, ok1, hc1, g1⟩)
  have H1 := (HH0.out.grown hc1 g1).new p1 ok1
  obtain ⟨A, hA⟩ : ∃ A, w1.heap.size = A := ⟨_, rfl⟩
  obtain ⟨W2, hW2⟩ : ∃ W, w1.alloc (.cells #[.int .i64 p1.kind, .int .u64 (p1.num : Int), .string p1.text, .int .i64 p1.ref] 26) = W := ⟨_, rfl⟩
  rw [hA, hW2] at H1
  have hAR : R + 2 ≤ A := by have := g1.size; omega
  have z2 : W2.heap.size = A + 1 := by rw [← hW2, ← hA]; simp
  try simp only [hA, hW2]
  have HH1 : Hid (BXS ac len cap g [A, R + 1, R] w W2) := H1
  have cV1 := cV W2 H1.cur
  clear H1 hA hW2 HH0 cV0 hc1 g1 ok1 cV
  go_upto_region 3 with (go_at_call 47; (with_reducible refine cV1.mono ?_); rintro e w3 ⟨p2, rfl, ok2, hc3, g3⟩)
  have H3 := (HH1.out.grown hc3 g3).new p2 ok2
  obtain ⟨B, hB⟩ : ∃ B, w3.heap.size = B := ⟨_, rfl⟩
  obtain ⟨W4, hW4⟩ : ∃ W, w3.alloc (.cells #[.int .i64 p2.kind, .int .u64 (p2.num : Int), .string p2.text, .int .i64 p2.ref] 26) = W := ⟨_, rfl⟩
  rw [hB, hW4] at H3
  have hBA : A + 1 ≤ B := by have := g3.size; omega
  try simp only [hB, hW4]
  have HH3 : Hid (BXS ac len cap g [B, A, R + 1, R] w W4) := H3
  have cB := l01Below_nat ac len cap g 4 W4 H3.cur (by omega) (by omega)
  rw [show ((4 : Nat) : Int) = 4 from rfl] at cB
  clear H3 hB hW4 HH1 cV1 hc3 g3 ok2
  go_upto_region 4 with (go_at_call 48; (with_reducible refine cB.mono ?_); rintro e w5 ⟨z, hz, rfl, hc5, g5⟩)
  have H5 : Hid (BXS ac len cap g [B, A, R + 1, R] w w5) := HH3.out.grown hc5 g5
  have hz3 : z = 0 ∨ z = 1 ∨ (¬ (z : Int) = 0 ∧ ¬ (z : Int) = 1) := by omega
  clear HH3 cB hc5 g5
  obtain ⟨_, pa, hba, oka⟩ := H5.out.box A (by simp)
  obtain ⟨_, pb, hbb, okb⟩ := H5.out.box B (by simp)
  rcases hz3 with rfl | rfl | ⟨z0, z1⟩
  · obtain ⟨x0, x1, x2, x3⟩ := four_cells hba
    obtain ⟨y0, y1, y2, y3⟩ := four_cells hbb
    have fy := fun j => frozen_of_row w5 B j _ _ hbb
    go_upto_region 9 with fail
    have HZ : Hid (BXS ac len cap g [B, A, R + 1, R] w ((((w5.setCell ⟨B, 0, none⟩ (.int .i64 pa.kind)).setCell ⟨B, 1, none⟩ (.int .u64 (pa.num : Int))).setCell ⟨B, 2, none⟩ (.string pa.text)).setCell ⟨B, 3, none⟩ (.int .i64 pa.ref))) := H5.out.put4 (by simp) pa oka
    obtain ⟨WZ, hWZ⟩ : ∃ W, ((((w5.setCell ⟨B, 0, none⟩ (.int .i64 pa.kind)).setCell ⟨B, 1, none⟩ (.int .u64 (pa.num : Int))).setCell ⟨B, 2, none⟩ (.string pa.text)).setCell ⟨B, 3, none⟩ (.int .i64 pa.ref)) = W := ⟨_, rfl⟩
    rw [hWZ] at HZ
    simp only [hWZ]
    clear hWZ x0 x1 x2 x3 y0 y1 y2 y3 fy hba hbb oka okb H5
    obtain ⟨_, qa, hqa, oqa⟩ := HZ.out.box A (by simp)
    obtain ⟨_, qb, hqb, oqb⟩ := HZ.out.box B (by simp)
    obtain ⟨_, ra, hra, _⟩ := HZ.out.box R (by simp)
    obtain ⟨_, rb, hrb, _⟩ := HZ.out.box (R + 1) (by simp)
    have SA := four_cells hqa
    have SB := four_cells hqb
    have HK : Hid (∀ W : World, (∀ k, k = A ∨ k = B → W.heap[k]? = WZ.heap[k]?) → (W.cell? ⟨A, 0, none⟩ = some (.int .i64 qa.kind) ∧ W.cell? ⟨A, 1, none⟩ = some (.int .u64 (qa.num : Int)) ∧ W.cell? ⟨A, 2, none⟩ = some (.string qa.text) ∧ W.cell? ⟨A, 3, none⟩ = some (.int .i64 qa.ref)) ∧ (W.cell? ⟨B, 0, none⟩ = some (.int .i64 qb.kind) ∧ W.cell? ⟨B, 1, none⟩ = some (.int .u64 (qb.num : Int)) ∧ W.cell? ⟨B, 2, none⟩ = some (.string qb.text) ∧ W.cell? ⟨B, 3, none⟩ = some (.int .i64 qb.ref))) := fun W h =>
      ⟨⟨(four_keep h 0).1.trans SA.1, (four_keep h 1).1.trans SA.2.1, (four_keep h 2).1.trans SA.2.2.1, (four_keep h 3).1.trans SA.2.2.2⟩, (four_keep h 0).2.trans SB.1, (four_keep h 1).2.trans SB.2.1, (four_keep h 2).2.trans SB.2.2.1, (four_keep h 3).2.trans SB.2.2.2⟩
    have nR : ∀ k, k = A ∨ k = B → k ≠ R := fun k hk => by omega
    have nS : ∀ k, k = A ∨ k = B → k ≠ R + 1 := fun k hk => by omega
    obtain ⟨u0, u1, u2, u3⟩ := four_cells hra
    obtain ⟨v0, v1, v2, v3⟩ := four_cells hrb
    have fu := fun j => frozen_of_row WZ R j _ _ hra
    have fv := fun j => frozen_of_row WZ (R + 1) j _ _ hrb
    have hrb' : ((((WZ.setCell ⟨R, 0, none⟩ (.int .i64 qa.kind)).setCell ⟨R, 1, none⟩ (.int .u64 (qa.num : Int))).setCell ⟨R, 2, none⟩ (.string qa.text)).setCell ⟨R, 3, none⟩ (.int .i64 qa.ref)).heap[R + 1]? = some (.cells #[.int .i64 rb.kind, .int .u64 (rb.num : Int), .string rb.text, .int .i64 rb.ref] 26 (0, 0)) := (set4_other (by omega)).trans hrb
    have hra' : ((((WZ.setCell ⟨(R + 1), 0, none⟩ (.int .i64 qb.kind)).setCell ⟨(R + 1), 1, none⟩ (.int .u64 (qb.num : Int))).setCell ⟨(R + 1), 2, none⟩ (.string qb.text)).setCell ⟨(R + 1), 3, none⟩ (.int .i64 qb.ref)).heap[R]? = some (.cells #[.int .i64 ra.kind, .int .u64 (ra.num : Int), .string ra.text, .int .i64 ra.ref] 26 (0, 0)) := (set4_other (by omega)).trans hra
    obtain ⟨m0, m1, m2, m3⟩ := four_cells hrb'
    obtain ⟨n0, n1, n2, n3⟩ := four_cells hra'
    have fm := fun j => frozen_of_row _ (R + 1) j _ _ hrb'
    have fn := fun j => frozen_of_row _ R j _ _ hra'
    have P1 := two_put17 (p := qa) (q := qb) hra hrb (by omega)
    have P2 := two_put17 (p := qb) (q := qa) hrb hra (by omega)
    obtain ⟨d0, d1, d2, d3⟩ := four_cells P1.1
    obtain ⟨e0, e1, e2, e3⟩ := four_cells P1.2
    obtain ⟨i0, i1, i2, i3⟩ := four_cells P2.1
    obtain ⟨j0, j1, j2, j3⟩ := four_cells P2.2
    have HE1 : Hid _ := (HZ.out.put4 (C := R) (by simp) qa oqa).put4 (C := R + 1) (by simp) qb oqb
    have HE2 : Hid _ := (HZ.out.put4 (C := R + 1) (by simp) qb oqb).put4 (C := R) (by simp) qa oqa
    have HE1d : Hid _ := HE1.out.below (Below.refl _ _).drew
    have HE2d : Hid _ := HE2.out.below (Below.refl _ _).drew
    have HOK : Hid (valL qa ∧ valL qb) := ⟨oqa, oqb⟩
    have E0 : ∀ k, k = A ∨ k = B → WZ.heap[k]? = WZ.heap[k]? := fun _ _ => rfl
    have K0 := HK.out WZ E0
    have K0d := HK.out (World.drew WZ) (keep_drew E0)
    have E1 : ∀ k, k = A ∨ k = B → ((((WZ.setCell ⟨R, 0, none⟩ (.int .i64 qa.kind)).setCell ⟨R, 1, none⟩ (.int .u64 (qa.num : Int))).setCell ⟨R, 2, none⟩ (.string qa.text)).setCell ⟨R, 3, none⟩ (.int .i64 qa.ref)).heap[k]? = WZ.heap[k]? := fun k hk => set4_other (nR k hk)
    have K1 := HK.out ((((WZ.setCell ⟨R, 0, none⟩ (.int .i64 qa.kind)).setCell ⟨R, 1, none⟩ (.int .u64 (qa.num : Int))).setCell ⟨R, 2, none⟩ (.string qa.text)).setCell ⟨R, 3, none⟩ (.int .i64 qa.ref)) E1
    have K1d := HK.out (World.drew ((((WZ.setCell ⟨R, 0, none⟩ (.int .i64 qa.kind)).setCell ⟨R, 1, none⟩ (.int .u64 (qa.num : Int))).setCell ⟨R, 2, none⟩ (.string qa.text)).setCell ⟨R, 3, none⟩ (.int .i64 qa.ref))) (keep_drew E1)
    have E2 : ∀ k, k = A ∨ k = B → ((((WZ.setCell ⟨(R + 1), 0, none⟩ (.int .i64 qb.kind)).setCell ⟨(R + 1), 1, none⟩ (.int .u64 (qb.num : Int))).setCell ⟨(R + 1), 2, none⟩ (.string qb.text)).setCell ⟨(R + 1), 3, none⟩ (.int .i64 qb.ref)).heap[k]? = WZ.heap[k]? := fun k hk => set4_other (nS k hk)
    have K2 := HK.out ((((WZ.setCell ⟨(R + 1), 0, none⟩ (.int .i64 qb.kind)).setCell ⟨(R + 1), 1, none⟩ (.int .u64 (qb.num : Int))).setCell ⟨(R + 1), 2, none⟩ (.string qb.text)).setCell ⟨(R + 1), 3, none⟩ (.int .i64 qb.ref)) E2
    have K2d := HK.out (World.drew ((((WZ.setCell ⟨(R + 1), 0, none⟩ (.int .i64 qb.kind)).setCell ⟨(R + 1), 1, none⟩ (.int .u64 (qb.num : Int))).setCell ⟨(R + 1), 2, none⟩ (.string qb.text)).setCell ⟨(R + 1), 3, none⟩ (.int .i64 qb.ref))) (keep_drew E2)
    have E3 : ∀ k, k = A ∨ k = B → ((((((((WZ.setCell ⟨R, 0, none⟩ (.int .i64 qa.kind)).setCell ⟨R, 1, none⟩ (.int .u64 (qa.num : Int))).setCell ⟨R, 2, none⟩ (.string qa.text)).setCell ⟨R, 3, none⟩ (.int .i64 qa.ref)).setCell ⟨(R + 1), 0, none⟩ (.int .i64 qb.kind)).setCell ⟨(R + 1), 1, none⟩ (.int .u64 (qb.num : Int))).setCell ⟨(R + 1), 2, none⟩ (.string qb.text)).setCell ⟨(R + 1), 3, none⟩ (.int .i64 qb.ref)).heap[k]? = WZ.heap[k]? := fun k hk => (set4_other (nS k hk)).trans (set4_other (nR k hk))
    have K3 := HK.out ((((((((WZ.setCell ⟨R, 0, none⟩ (.int .i64 qa.kind)).setCell ⟨R, 1, none⟩ (.int .u64 (qa.num : Int))).setCell ⟨R, 2, none⟩ (.string qa.text)).setCell ⟨R, 3, none⟩ (.int .i64 qa.ref)).setCell ⟨(R + 1), 0, none⟩ (.int .i64 qb.kind)).setCell ⟨(R + 1), 1, none⟩ (.int .u64 (qb.num : Int))).setCell ⟨(R + 1), 2, none⟩ (.string qb.text)).setCell ⟨(R + 1), 3, none⟩ (.int .i64 qb.ref)) E3
    have K3d := HK.out (World.drew ((((((((WZ.setCell ⟨R, 0, none⟩ (.int .i64 qa.kind)).setCell ⟨R, 1, none⟩ (.int .u64 (qa.num : Int))).setCell ⟨R, 2, none⟩ (.string qa.text)).setCell ⟨R, 3, none⟩ (.int .i64 qa.ref)).setCell ⟨(R + 1), 0, none⟩ (.int .i64 qb.kind)).setCell ⟨(R + 1), 1, none⟩ (.int .u64 (qb.num : Int))).setCell ⟨(R + 1), 2, none⟩ (.string qb.text)).setCell ⟨(R + 1), 3, none⟩ (.int .i64 qb.ref))) (keep_drew E3)
    have E4 : ∀ k, k = A ∨ k = B → ((((((((WZ.setCell ⟨(R + 1), 0, none⟩ (.int .i64 qb.kind)).setCell ⟨(R + 1), 1, none⟩ (.int .u64 (qb.num : Int))).setCell ⟨(R + 1), 2, none⟩ (.string qb.text)).setCell ⟨(R + 1), 3, none⟩ (.int .i64 qb.ref)).setCell ⟨R, 0, none⟩ (.int .i64 qa.kind)).setCell ⟨R, 1, none⟩ (.int .u64 (qa.num : Int))).setCell ⟨R, 2, none⟩ (.string qa.text)).setCell ⟨R, 3, none⟩ (.int .i64 qa.ref)).heap[k]? = WZ.heap[k]? := fun k hk => (set4_other (nR k hk)).trans (set4_other (nS k hk))
    have K4 := HK.out ((((((((WZ.setCell ⟨(R + 1), 0, none⟩ (.int .i64 qb.kind)).setCell ⟨(R + 1), 1, none⟩ (.int .u64 (qb.num : Int))).setCell ⟨(R + 1), 2, none⟩ (.string qb.text)).setCell ⟨(R + 1), 3, none⟩ (.int .i64 qb.ref)).setCell ⟨R, 0, none⟩ (.int .i64 qa.kind)).setCell ⟨R, 1, none⟩ (.int .u64 (qa.num : Int))).setCell ⟨R, 2, none⟩ (.string qa.text)).setCell ⟨R, 3, none⟩ (.int .i64 qa.ref)) E4
    have K4d := HK.out (World.drew ((((((((WZ.setCell ⟨(R + 1), 0, none⟩ (.int .i64 qb.kind)).setCell ⟨(R + 1), 1, none⟩ (.int .u64 (qb.num : Int))).setCell ⟨(R + 1), 2, none⟩ (.string qb.text)).setCell ⟨(R + 1), 3, none⟩ (.int .i64 qb.ref)).setCell ⟨R, 0, none⟩ (.int .i64 qa.kind)).setCell ⟨R, 1, none⟩ (.int .u64 (qa.num : Int))).setCell ⟨R, 2, none⟩ (.string qa.text)).setCell ⟨R, 3, none⟩ (.int .i64 qa.ref))) (keep_drew E4)
    clear hqa hqb hra hrb oqa oqb P1 P2 HZ SA SB hrb' hra'
    go_region_held3 (fun W => (W.cell? ⟨A, 0, none⟩ = some (.int .i64 qa.kind) ∧ W.cell? ⟨A, 1, none⟩ = some (.int .u64 (qa.num : Int)) ∧ W.cell? ⟨A, 2, none⟩ = some (.string qa.text) ∧ W.cell? ⟨A, 3, none⟩ = some (.int .i64 qa.ref)) ∧ (W.cell? ⟨B, 0, none⟩ = some (.int .i64 qb.kind) ∧ W.cell? ⟨B, 1, none⟩ = some (.int .u64 (qb.num : Int)) ∧ W.cell? ⟨B, 2, none⟩ = some (.string qb.text) ∧ W.cell? ⟨B, 3, none⟩ = some (.int .i64 qb.ref)))
      (first | with_reducible exact K0d | with_reducible exact K1d | with_reducible exact K2d | with_reducible exact K3d | with_reducible exact K4d | with_reducible exact K0 | with_reducible exact K1 | with_reducible exact K2 | with_reducible exact K3 | with_reducible exact K4)
      (fail)
    all_goals
      clear E0 E1 E2 E3 E4 K0 K1 K2 K3 K4 K0d K1d K2d K3d K4d HK nR nS u0 u1 u2 u3 v0 v1 v2 v3 fu fv m0 m1 m2 m3 n0 n1 n2 n3 fm fn
      go_wp2
      first
        | (refine bodyPost_ret (by simp [results, Tryz.results23, go_sem, d0, d1, d2, d3, e0, e1, e2, e3]; try rfl) rfl ?_
           exact ⟨qa, qb, rfl, HOK.out.1, HOK.out.2, (by first | with_reducible exact HE1d.out.cur | with_reducible exact HE1.out.cur), (by first | with_reducible exact HE1d.out.gr | with_reducible exact HE1.out.gr)⟩)
        | (refine bodyPost_ret (by simp [results, Tryz.results23, go_sem, i0, i1, i2, i3, j0, j1, j2, j3]; try rfl) rfl ?_
           exact ⟨qa, qb, rfl, HOK.out.1, HOK.out.2, (by first | with_reducible exact HE2d.out.cur | with_reducible exact HE2.out.cur), (by first | with_reducible exact HE2d.out.gr | with_reducible exact HE2.out.gr)⟩)
  · have cN1 := cN w5 H5.out.cur
    go_upto_region 8 with (first
      | (go_at_call 49; (with_reducible refine cN1.mono ?_); rintro e w6 ⟨n6, hn6, rfl, hc6, g6⟩; have H6 : Hid (BXS ac len cap g [B, A, R + 1, R] w w6) := H5.out.grown hc6 g6)
      | (go_at_call 35; (with_reducible refine (l17Number_any n6 w6).mono ?_); rintro e w7 ⟨rfl, b7⟩; have H7 : Hid (BXS ac len cap g [B, A, R + 1, R] w w7) := H6.out.below b7; obtain ⟨_, pa7, ha7, _⟩ := H7.out.box A (by simp); obtain ⟨y0, y1, y2, y3⟩ := four_cells ha7; have fy := fun j => frozen_of_row w7 A j _ _ ha7))
    have H8 : Hid (BXS ac len cap g [B, A, R + 1, R] w ((((w7.setCell ⟨A, 0, none⟩ (.int .i64 2)).setCell ⟨A, 1, none⟩ (.int .u64 (n6 : Int))).setCell ⟨A, 2, none⟩ (.string ⟨#[]⟩)).setCell ⟨A, 3, none⟩ (.int .i64 0))) := H7.out.put4 (by simp) ⟨2, n6, ⟨#[]⟩, 0⟩ (valL_num (p := ⟨2, 0, ⟨#[]⟩, 0⟩) (valL_kind valL_zero (by omega)) hn6)
    obtain ⟨W8, hW8⟩ : ∃ W, ((((w7.setCell ⟨A, 0, none⟩ (.int .i64 2)).setCell ⟨A, 1, none⟩ (.int .u64 (n6 : Int))).setCell ⟨A, 2, none⟩ (.string ⟨#[]⟩)).setCell ⟨A, 3, none⟩ (.int .i64 0)) = W := ⟨_, rfl⟩
    rw [hW8] at H8
    simp only [hW8]
    have cN2 := cN W8 H8.out.cur
    clear hW8 y0 y1 y2 y3 fy ha7 H5 H6 H7 hc6 g6 b7 cN1 hba hbb oka okb
    go_upto_region 9 with (first
      | (go_at_call 49; (with_reducible refine cN2.mono ?_); rintro e w9 ⟨n9, hn9, rfl, hc9, g9⟩; have H9 : Hid (BXS ac len cap g [B, A, R + 1, R] w w9) := H8.out.grown hc9 g9)
      | (go_at_call 35; (with_reducible refine (l17Number_any n9 w9).mono ?_); rintro e wa ⟨rfl, ba⟩; have Ha : Hid (BXS ac len cap g [B, A, R + 1, R] w wa) := H9.out.below ba; obtain ⟨_, pa7, ha7, _⟩ := Ha.out.box B (by simp); obtain ⟨y0, y1, y2, y3⟩ := four_cells ha7; have fy := fun j => frozen_of_row wa B j _ _ ha7))
    have HZ : Hid (BXS ac len cap g [B, A, R + 1, R] w ((((wa.setCell ⟨B, 0, none⟩ (.int .i64 2)).setCell ⟨B, 1, none⟩ (.int .u64 (n9 : Int))).setCell ⟨B, 2, none⟩ (.string ⟨#[]⟩)).setCell ⟨B, 3, none⟩ (.int .i64 0))) := Ha.out.put4 (by simp) ⟨2, n9, ⟨#[]⟩, 0⟩ (valL_num (p := ⟨2, 0, ⟨#[]⟩, 0⟩) (valL_kind valL_zero (by omega)) hn9)
    obtain ⟨WZ, hWZ⟩ : ∃ W, ((((wa.setCell ⟨B, 0, none⟩ (.int .i64 2)).setCell ⟨B, 1, none⟩ (.int .u64 (n9 : Int))).setCell ⟨B, 2, none⟩ (.string ⟨#[]⟩)).setCell ⟨B, 3, none⟩ (.int .i64 0)) = W := ⟨_, rfl⟩
    rw [hWZ] at HZ
    simp only [hWZ]
    clear hWZ y0 y1 y2 y3 fy ha7 H8 H9 Ha hc9 g9 ba cN2
    obtain ⟨_, qa, hqa, oqa⟩ := HZ.out.box A (by simp)
    obtain ⟨_, qb, hqb, oqb⟩ := HZ.out.box B (by simp)
    obtain ⟨_, ra, hra, _⟩ := HZ.out.box R (by simp)
    obtain ⟨_, rb, hrb, _⟩ := HZ.out.box (R + 1) (by simp)
    have SA := four_cells hqa
    have SB := four_cells hqb
    have HK : Hid (∀ W : World, (∀ k, k = A ∨ k = B → W.heap[k]? = WZ.heap[k]?) → (W.cell? ⟨A, 0, none⟩ = some (.int .i64 qa.kind) ∧ W.cell? ⟨A, 1, none⟩ = some (.int .u64 (qa.num : Int)) ∧ W.cell? ⟨A, 2, none⟩ = some (.string qa.text) ∧ W.cell? ⟨A, 3, none⟩ = some (.int .i64 qa.ref)) ∧ (W.cell? ⟨B, 0, none⟩ = some (.int .i64 qb.kind) ∧ W.cell? ⟨B, 1, none⟩ = some (.int .u64 (qb.num : Int)) ∧ W.cell? ⟨B, 2, none⟩ = some (.string qb.text) ∧ W.cell? ⟨B, 3, none⟩ = some (.int .i64 qb.ref))) := fun W h =>
      ⟨⟨(four_keep h 0).1.trans SA.1, (four_keep h 1).1.trans SA.2.1, (four_keep h 2).1.trans SA.2.2.1, (four_keep h 3).1.trans SA.2.2.2⟩, (four_keep h 0).2.trans SB.1, (four_keep h 1).2.trans SB.2.1, (four_keep h 2).2.trans SB.2.2.1, (four_keep h 3).2.trans SB.2.2.2⟩
    have nR : ∀ k, k = A ∨ k = B → k ≠ R := fun k hk => by omega
    have nS : ∀ k, k = A ∨ k = B → k ≠ R + 1 := fun k hk => by omega
    obtain ⟨u0, u1, u2, u3⟩ := four_cells hra
    obtain ⟨v0, v1, v2, v3⟩ := four_cells hrb
    have fu := fun j => frozen_of_row WZ R j _ _ hra
    have fv := fun j => frozen_of_row WZ (R + 1) j _ _ hrb
    have hrb' : ((((WZ.setCell ⟨R, 0, none⟩ (.int .i64 qa.kind)).setCell ⟨R, 1, none⟩ (.int .u64 (qa.num : Int))).setCell ⟨R, 2, none⟩ (.string qa.text)).setCell ⟨R, 3, none⟩ (.int .i64 qa.ref)).heap[R + 1]? = some (.cells #[.int .i64 rb.kind, .int .u64 (rb.num : Int), .string rb.text, .int .i64 rb.ref] 26 (0, 0)) := (set4_other (by omega)).trans hrb
    have hra' : ((((WZ.setCell ⟨(R + 1), 0, none⟩ (.int .i64 qb.kind)).setCell ⟨(R + 1), 1, none⟩ (.int .u64 (qb.num : Int))).setCell ⟨(R + 1), 2, none⟩ (.string qb.text)).setCell ⟨(R + 1), 3, none⟩ (.int .i64 qb.ref)).heap[R]? = some (.cells #[.int .i64 ra.kind, .int .u64 (ra.num : Int), .string ra.text, .int .i64 ra.ref] 26 (0, 0)) := (set4_other (by omega)).trans hra
    obtain ⟨m0, m1, m2, m3⟩ := four_cells hrb'
    obtain ⟨n0, n1, n2, n3⟩ := four_cells hra'
    have fm := fun j => frozen_of_row _ (R + 1) j _ _ hrb'
    have fn := fun j => frozen_of_row _ R j _ _ hra'
    have P1 := two_put17 (p := qa) (q := qb) hra hrb (by omega)
    have P2 := two_put17 (p := qb) (q := qa) hrb hra (by omega)
    obtain ⟨d0, d1, d2, d3⟩ := four_cells P1.1
    obtain ⟨e0, e1, e2, e3⟩ := four_cells P1.2
    obtain ⟨i0, i1, i2, i3⟩ := four_cells P2.1
    obtain ⟨j0, j1, j2, j3⟩ := four_cells P2.2
    have HE1 : Hid _ := (HZ.out.put4 (C := R) (by simp) qa oqa).put4 (C := R + 1) (by simp) qb oqb
    have HE2 : Hid _ := (HZ.out.put4 (C := R + 1) (by simp) qb oqb).put4 (C := R) (by simp) qa oqa
    have HE1d : Hid _ := HE1.out.below (Below.refl _ _).drew
    have HE2d : Hid _ := HE2.out.below (Below.refl _ _).drew
    have HOK : Hid (valL qa ∧ valL qb) := ⟨oqa, oqb⟩
    have E0 : ∀ k, k = A ∨ k = B → WZ.heap[k]? = WZ.heap[k]? := fun _ _ => rfl
    have K0 := HK.out WZ E0
    have K0d := HK.out (World.drew WZ) (keep_drew E0)
    have E1 : ∀ k, k = A ∨ k = B → ((((WZ.setCell ⟨R, 0, none⟩ (.int .i64 qa.kind)).setCell ⟨R, 1, none⟩ (.int .u64 (qa.num : Int))).setCell ⟨R, 2, none⟩ (.string qa.text)).setCell ⟨R, 3, none⟩ (.int .i64 qa.ref)).heap[k]? = WZ.heap[k]? := fun k hk => set4_other (nR k hk)
    have K1 := HK.out ((((WZ.setCell ⟨R, 0, none⟩ (.int .i64 qa.kind)).setCell ⟨R, 1, none⟩ (.int .u64 (qa.num : Int))).setCell ⟨R, 2, none⟩ (.string qa.text)).setCell ⟨R, 3, none⟩ (.int .i64 qa.ref)) E1
    have K1d := HK.out (World.drew ((((WZ.setCell ⟨R, 0, none⟩ (.int .i64 qa.kind)).setCell ⟨R, 1, none⟩ (.int .u64 (qa.num : Int))).setCell ⟨R, 2, none⟩ (.string qa.text)).setCell ⟨R, 3, none⟩ (.int .i64 qa.ref))) (keep_drew E1)
    have E2 : ∀ k, k = A ∨ k = B → ((((WZ.setCell ⟨(R + 1), 0, none⟩ (.int .i64 qb.kind)).setCell ⟨(R + 1), 1, none⟩ (.int .u64 (qb.num : Int))).setCell ⟨(R + 1), 2, none⟩ (.string qb.text)).setCell ⟨(R + 1), 3, none⟩ (.int .i64 qb.ref)).heap[k]? = WZ.heap[k]? := fun k hk => set4_other (nS k hk)
    have K2 := HK.out ((((WZ.setCell ⟨(R + 1), 0, none⟩ (.int .i64 qb.kind)).setCell ⟨(R + 1), 1, none⟩ (.int .u64 (qb.num : Int))).setCell ⟨(R + 1), 2, none⟩ (.string qb.text)).setCell ⟨(R + 1), 3, none⟩ (.int .i64 qb.ref)) E2
    have K2d := HK.out (World.drew ((((WZ.setCell ⟨(R + 1), 0, none⟩ (.int .i64 qb.kind)).setCell ⟨(R + 1), 1, none⟩ (.int .u64 (qb.num : Int))).setCell ⟨(R + 1), 2, none⟩ (.string qb.text)).setCell ⟨(R + 1), 3, none⟩ (.int .i64 qb.ref))) (keep_drew E2)
    have E3 : ∀ k, k = A ∨ k = B → ((((((((WZ.setCell ⟨R, 0, none⟩ (.int .i64 qa.kind)).setCell ⟨R, 1, none⟩ (.int .u64 (qa.num : Int))).setCell ⟨R, 2, none⟩ (.string qa.text)).setCell ⟨R, 3, none⟩ (.int .i64 qa.ref)).setCell ⟨(R + 1), 0, none⟩ (.int .i64 qb.kind)).setCell ⟨(R + 1), 1, none⟩ (.int .u64 (qb.num : Int))).setCell ⟨(R + 1), 2, none⟩ (.string qb.text)).setCell ⟨(R + 1), 3, none⟩ (.int .i64 qb.ref)).heap[k]? = WZ.heap[k]? := fun k hk => (set4_other (nS k hk)).trans (set4_other (nR k hk))
    have K3 := HK.out ((((((((WZ.setCell ⟨R, 0, none⟩ (.int .i64 qa.kind)).setCell ⟨R, 1, none⟩ (.int .u64 (qa.num : Int))).setCell ⟨R, 2, none⟩ (.string qa.text)).setCell ⟨R, 3, none⟩ (.int .i64 qa.ref)).setCell ⟨(R + 1), 0, none⟩ (.int .i64 qb.kind)).setCell ⟨(R + 1), 1, none⟩ (.int .u64 (qb.num : Int))).setCell ⟨(R + 1), 2, none⟩ (.string qb.text)).setCell ⟨(R + 1), 3, none⟩ (.int .i64 qb.ref)) E3
    have K3d := HK.out (World.drew ((((((((WZ.setCell ⟨R, 0, none⟩ (.int .i64 qa.kind)).setCell ⟨R, 1, none⟩ (.int .u64 (qa.num : Int))).setCell ⟨R, 2, none⟩ (.string qa.text)).setCell ⟨R, 3, none⟩ (.int .i64 qa.ref)).setCell ⟨(R + 1), 0, none⟩ (.int .i64 qb.kind)).setCell ⟨(R + 1), 1, none⟩ (.int .u64 (qb.num : Int))).setCell ⟨(R + 1), 2, none⟩ (.string qb.text)).setCell ⟨(R + 1), 3, none⟩ (.int .i64 qb.ref))) (keep_drew E3)
    have E4 : ∀ k, k = A ∨ k = B → ((((((((WZ.setCell ⟨(R + 1), 0, none⟩ (.int .i64 qb.kind)).setCell ⟨(R + 1), 1, none⟩ (.int .u64 (qb.num : Int))).setCell ⟨(R + 1), 2, none⟩ (.string qb.text)).setCell ⟨(R + 1), 3, none⟩ (.int .i64 qb.ref)).setCell ⟨R, 0, none⟩ (.int .i64 qa.kind)).setCell ⟨R, 1, none⟩ (.int .u64 (qa.num : Int))).setCell ⟨R, 2, none⟩ (.string qa.text)).setCell ⟨R, 3, none⟩ (.int .i64 qa.ref)).heap[k]? = WZ.heap[k]? := fun k hk => (set4_other (nR k hk)).trans (set4_other (nS k hk))
    have K4 := HK.out ((((((((WZ.setCell ⟨(R + 1), 0, none⟩ (.int .i64 qb.kind)).setCell ⟨(R + 1), 1, none⟩ (.int .u64 (qb.num : Int))).setCell ⟨(R + 1), 2, none⟩ (.string qb.text)).setCell ⟨(R + 1), 3, none⟩ (.int .i64 qb.ref)).setCell ⟨R, 0, none⟩ (.int .i64 qa.kind)).setCell ⟨R, 1, none⟩ (.int .u64 (qa.num : Int))).setCell ⟨R, 2, none⟩ (.string qa.text)).setCell ⟨R, 3, none⟩ (.int .i64 qa.ref)) E4
    have K4d := HK.out (World.drew ((((((((WZ.setCell ⟨(R + 1), 0, none⟩ (.int .i64 qb.kind)).setCell ⟨(R + 1), 1, none⟩ (.int .u64 (qb.num : Int))).setCell ⟨(R + 1), 2, none⟩ (.string qb.text)).setCell ⟨(R + 1), 3, none⟩ (.int .i64 qb.ref)).setCell ⟨R, 0, none⟩ (.int .i64 qa.kind)).setCell ⟨R, 1, none⟩ (.int .u64 (qa.num : Int))).setCell ⟨R, 2, none⟩ (.string qa.text)).setCell ⟨R, 3, none⟩ (.int .i64 qa.ref))) (keep_drew E4)
    clear hqa hqb hra hrb oqa oqb P1 P2 HZ SA SB hrb' hra'
    go_region_held3 (fun W => (W.cell? ⟨A, 0, none⟩ = some (.int .i64 qa.kind) ∧ W.cell? ⟨A, 1, none⟩ = some (.int .u64 (qa.num : Int)) ∧ W.cell? ⟨A, 2, none⟩ = some (.string qa.text) ∧ W.cell? ⟨A, 3, none⟩ = some (.int .i64 qa.ref)) ∧ (W.cell? ⟨B, 0, none⟩ = some (.int .i64 qb.kind) ∧ W.cell? ⟨B, 1, none⟩ = some (.int .u64 (qb.num : Int)) ∧ W.cell? ⟨B, 2, none⟩ = some (.string qb.text) ∧ W.cell? ⟨B, 3, none⟩ = some (.int .i64 qb.ref)))
      (first | with_reducible exact K0d | with_reducible exact K1d | with_reducible exact K2d | with_reducible exact K3d | with_reducible exact K4d | with_reducible exact K0 | with_reducible exact K1 | with_reducible exact K2 | with_reducible exact K3 | with_reducible exact K4)
      (fail)
    all_goals
      clear E0 E1 E2 E3 E4 K0 K1 K2 K3 K4 K0d K1d K2d K3d K4d HK nR nS u0 u1 u2 u3 v0 v1 v2 v3 fu fv m0 m1 m2 m3 n0 n1 n2 n3 fm fn
      go_wp2
      first
        | (refine bodyPost_ret (by simp [results, Tryz.results23, go_sem, d0, d1, d2, d3, e0, e1, e2, e3]; try rfl) rfl ?_
           exact ⟨qa, qb, rfl, HOK.out.1, HOK.out.2, (by first | with_reducible exact HE1d.out.cur | with_reducible exact HE1.out.cur), (by first | with_reducible exact HE1d.out.gr | with_reducible exact HE1.out.gr)⟩)
        | (refine bodyPost_ret (by simp [results, Tryz.results23, go_sem, i0, i1, i2, i3, j0, j1, j2, j3]; try rfl) rfl ?_
           exact ⟨qa, qb, rfl, HOK.out.1, HOK.out.2, (by first | with_reducible exact HE2d.out.cur | with_reducible exact HE2.out.cur), (by first | with_reducible exact HE2d.out.gr | with_reducible exact HE2.out.gr)⟩)
  · go_upto_region 9 with fail
    have HZ : Hid (BXS ac len cap g [B, A, R + 1, R] w w5) := H5
    obtain ⟨WZ, hWZ⟩ : ∃ W, w5 = W := ⟨_, rfl⟩
    rw [hWZ] at HZ
    simp only [hWZ]
    clear hWZ hba hbb oka okb H5
    obtain ⟨_, qa, hqa, oqa⟩ := HZ.out.box A (by simp)
    obtain ⟨_, qb, hqb, oqb⟩ := HZ.out.box B (by simp)
    obtain ⟨_, ra, hra, _⟩ := HZ.out.box R (by simp)
    obtain ⟨_, rb, hrb, _⟩ := HZ.out.box (R + 1) (by simp)
    have SA := four_cells hqa
    have SB := four_cells hqb
    have HK : Hid (∀ W : World, (∀ k, k = A ∨ k = B → W.heap[k]? = WZ.heap[k]?) → (W.cell? ⟨A, 0, none⟩ = some (.int .i64 qa.kind) ∧ W.cell? ⟨A, 1, none⟩ = some (.int .u64 (qa.num : Int)) ∧ W.cell? ⟨A, 2, none⟩ = some (.string qa.text) ∧ W.cell? ⟨A, 3, none⟩ = some (.int .i64 qa.ref)) ∧ (W.cell? ⟨B, 0, none⟩ = some (.int .i64 qb.kind) ∧ W.cell? ⟨B, 1, none⟩ = some (.int .u64 (qb.num : Int)) ∧ W.cell? ⟨B, 2, none⟩ = some (.string qb.text) ∧ W.cell? ⟨B, 3, none⟩ = some (.int .i64 qb.ref))) := fun W h =>
      ⟨⟨(four_keep h 0).1.trans SA.1, (four_keep h 1).1.trans SA.2.1, (four_keep h 2).1.trans SA.2.2.1, (four_keep h 3).1.trans SA.2.2.2⟩, (four_keep h 0).2.trans SB.1, (four_keep h 1).2.trans SB.2.1, (four_keep h 2).2.trans SB.2.2.1, (four_keep h 3).2.trans SB.2.2.2⟩
    have nR : ∀ k, k = A ∨ k = B → k ≠ R := fun k hk => by omega
    have nS : ∀ k, k = A ∨ k = B → k ≠ R + 1 := fun k hk => by omega
    obtain ⟨u0, u1, u2, u3⟩ := four_cells hra
    obtain ⟨v0, v1, v2, v3⟩ := four_cells hrb
    have fu := fun j => frozen_of_row WZ R j _ _ hra
    have fv := fun j => frozen_of_row WZ (R + 1) j _ _ hrb
    have hrb' : ((((WZ.setCell ⟨R, 0, none⟩ (.int .i64 qa.kind)).setCell ⟨R, 1, none⟩ (.int .u64 (qa.num : Int))).setCell ⟨R, 2, none⟩ (.string qa.text)).setCell ⟨R, 3, none⟩ (.int .i64 qa.ref)).heap[R + 1]? = some (.cells #[.int .i64 rb.kind, .int .u64 (rb.num : Int), .string rb.text, .int .i64 rb.ref] 26 (0, 0)) := (set4_other (by omega)).trans hrb
    have hra' : ((((WZ.setCell ⟨(R + 1), 0, none⟩ (.int .i64 qb.kind)).setCell ⟨(R + 1), 1, none⟩ (.int .u64 (qb.num : Int))).setCell ⟨(R + 1), 2, none⟩ (.string qb.text)).setCell ⟨(R + 1), 3, none⟩ (.int .i64 qb.ref)).heap[R]? = some (.cells #[.int .i64 ra.kind, .int .u64 (ra.num : Int), .string ra.text, .int .i64 ra.ref] 26 (0, 0)) := (set4_other (by omega)).trans hra
    obtain ⟨m0, m1, m2, m3⟩ := four_cells hrb'
    obtain ⟨n0, n1, n2, n3⟩ := four_cells hra'
    have fm := fun j => frozen_of_row _ (R + 1) j _ _ hrb'
    have fn := fun j => frozen_of_row _ R j _ _ hra'
    have P1 := two_put17 (p := qa) (q := qb) hra hrb (by omega)
    have P2 := two_put17 (p := qb) (q := qa) hrb hra (by omega)
    obtain ⟨d0, d1, d2, d3⟩ := four_cells P1.1
    obtain ⟨e0, e1, e2, e3⟩ := four_cells P1.2
    obtain ⟨i0, i1, i2, i3⟩ := four_cells P2.1
    obtain ⟨j0, j1, j2, j3⟩ := four_cells P2.2
    have HE1 : Hid _ := (HZ.out.put4 (C := R) (by simp) qa oqa).put4 (C := R + 1) (by simp) qb oqb
    have HE2 : Hid _ := (HZ.out.put4 (C := R + 1) (by simp) qb oqb).put4 (C := R) (by simp) qa oqa
    have HE1d : Hid _ := HE1.out.below (Below.refl _ _).drew
    have HE2d : Hid _ := HE2.out.below (Below.refl _ _).drew
    have HOK : Hid (valL qa ∧ valL qb) := ⟨oqa, oqb⟩
    have E0 : ∀ k, k = A ∨ k = B → WZ.heap[k]? = WZ.heap[k]? := fun _ _ => rfl
    have K0 := HK.out WZ E0
    have K0d := HK.out (World.drew WZ) (keep_drew E0)
    have E1 : ∀ k, k = A ∨ k = B → ((((WZ.setCell ⟨R, 0, none⟩ (.int .i64 qa.kind)).setCell ⟨R, 1, none⟩ (.int .u64 (qa.num : Int))).setCell ⟨R, 2, none⟩ (.string qa.text)).setCell ⟨R, 3, none⟩ (.int .i64 qa.ref)).heap[k]? = WZ.heap[k]? := fun k hk => set4_other (nR k hk)
    have K1 := HK.out ((((WZ.setCell ⟨R, 0, none⟩ (.int .i64 qa.kind)).setCell ⟨R, 1, none⟩ (.int .u64 (qa.num : Int))).setCell ⟨R, 2, none⟩ (.string qa.text)).setCell ⟨R, 3, none⟩ (.int .i64 qa.ref)) E1
    have K1d := HK.out (World.drew ((((WZ.setCell ⟨R, 0, none⟩ (.int .i64 qa.kind)).setCell ⟨R, 1, none⟩ (.int .u64 (qa.num : Int))).setCell ⟨R, 2, none⟩ (.string qa.text)).setCell ⟨R, 3, none⟩ (.int .i64 qa.ref))) (keep_drew E1)
    have E2 : ∀ k, k = A ∨ k = B → ((((WZ.setCell ⟨(R + 1), 0, none⟩ (.int .i64 qb.kind)).setCell ⟨(R + 1), 1, none⟩ (.int .u64 (qb.num : Int))).setCell ⟨(R + 1), 2, none⟩ (.string qb.text)).setCell ⟨(R + 1), 3, none⟩ (.int .i64 qb.ref)).heap[k]? = WZ.heap[k]? := fun k hk => set4_other (nS k hk)
    have K2 := HK.out ((((WZ.setCell ⟨(R + 1), 0, none⟩ (.int .i64 qb.kind)).setCell ⟨(R + 1), 1, none⟩ (.int .u64 (qb.num : Int))).setCell ⟨(R + 1), 2, none⟩ (.string qb.text)).setCell ⟨(R + 1), 3, none⟩ (.int .i64 qb.ref)) E2
    have K2d := HK.out (World.drew ((((WZ.setCell ⟨(R + 1), 0, none⟩ (.int .i64 qb.kind)).setCell ⟨(R + 1), 1, none⟩ (.int .u64 (qb.num : Int))).setCell ⟨(R + 1), 2, none⟩ (.string qb.text)).setCell ⟨(R + 1), 3, none⟩ (.int .i64 qb.ref))) (keep_drew E2)
    have E3 : ∀ k, k = A ∨ k = B → ((((((((WZ.setCell ⟨R, 0, none⟩ (.int .i64 qa.kind)).setCell ⟨R, 1, none⟩ (.int .u64 (qa.num : Int))).setCell ⟨R, 2, none⟩ (.string qa.text)).setCell ⟨R, 3, none⟩ (.int .i64 qa.ref)).setCell ⟨(R + 1), 0, none⟩ (.int .i64 qb.kind)).setCell ⟨(R + 1), 1, none⟩ (.int .u64 (qb.num : Int))).setCell ⟨(R + 1), 2, none⟩ (.string qb.text)).setCell ⟨(R + 1), 3, none⟩ (.int .i64 qb.ref)).heap[k]? = WZ.heap[k]? := fun k hk => (set4_other (nS k hk)).trans (set4_other (nR k hk))
    have K3 := HK.out ((((((((WZ.setCell ⟨R, 0, none⟩ (.int .i64 qa.kind)).setCell ⟨R, 1, none⟩ (.int .u64 (qa.num : Int))).setCell ⟨R, 2, none⟩ (.string qa.text)).setCell ⟨R, 3, none⟩ (.int .i64 qa.ref)).setCell ⟨(R + 1), 0, none⟩ (.int .i64 qb.kind)).setCell ⟨(R + 1), 1, none⟩ (.int .u64 (qb.num : Int))).setCell ⟨(R + 1), 2, none⟩ (.string qb.text)).setCell ⟨(R + 1), 3, none⟩ (.int .i64 qb.ref)) E3
    have K3d := HK.out (World.drew ((((((((WZ.setCell ⟨R, 0, none⟩ (.int .i64 qa.kind)).setCell ⟨R, 1, none⟩ (.int .u64 (qa.num : Int))).setCell ⟨R, 2, none⟩ (.string qa.text)).setCell ⟨R, 3, none⟩ (.int .i64 qa.ref)).setCell ⟨(R + 1), 0, none⟩ (.int .i64 qb.kind)).setCell ⟨(R + 1), 1, none⟩ (.int .u64 (qb.num : Int))).setCell ⟨(R + 1), 2, none⟩ (.string qb.text)).setCell ⟨(R + 1), 3, none⟩ (.int .i64 qb.ref))) (keep_drew E3)
    have E4 : ∀ k, k = A ∨ k = B → ((((((((WZ.setCell ⟨(R + 1), 0, none⟩ (.int .i64 qb.kind)).setCell ⟨(R + 1), 1, none⟩ (.int .u64 (qb.num : Int))).setCell ⟨(R + 1), 2, none⟩ (.string qb.text)).setCell ⟨(R + 1), 3, none⟩ (.int .i64 qb.ref)).setCell ⟨R, 0, none⟩ (.int .i64 qa.kind)).setCell ⟨R, 1, none⟩ (.int .u64 (qa.num : Int))).setCell ⟨R, 2, none⟩ (.string qa.text)).setCell ⟨R, 3, none⟩ (.int .i64 qa.ref)).heap[k]? = WZ.heap[k]? := fun k hk => (set4_other (nR k hk)).trans (set4_other (nS k hk))
    have K4 := HK.out ((((((((WZ.setCell ⟨(R + 1), 0, none⟩ (.int .i64 qb.kind)).setCell ⟨(R + 1), 1, none⟩ (.int .u64 (qb.num : Int))).setCell ⟨(R + 1), 2, none⟩ (.string qb.text)).setCell ⟨(R + 1), 3, none⟩ (.int .i64 qb.ref)).setCell ⟨R, 0, none⟩ (.int .i64 qa.kind)).setCell ⟨R, 1, none⟩ (.int .u64 (qa.num : Int))).setCell ⟨R, 2, none⟩ (.string qa.text)).setCell ⟨R, 3, none⟩ (.int .i64 qa.ref)) E4
    have K4d := HK.out (World.drew ((((((((WZ.setCell ⟨(R + 1), 0, none⟩ (.int .i64 qb.kind)).setCell ⟨(R + 1), 1, none⟩ (.int .u64 (qb.num : Int))).setCell ⟨(R + 1), 2, none⟩ (.string qb.text)).setCell ⟨(R + 1), 3, none⟩ (.int .i64 qb.ref)).setCell ⟨R, 0, none⟩ (.int .i64 qa.kind)).setCell ⟨R, 1, none⟩ (.int .u64 (qa.num : Int))).setCell ⟨R, 2, none⟩ (.string qa.text)).setCell ⟨R, 3, none⟩ (.int .i64 qa.ref))) (keep_drew E4)
    clear hqa hqb hra hrb oqa oqb P1 P2 HZ SA SB hrb' hra'
    go_region_held3 (fun W => (W.cell? ⟨A, 0, none⟩ = some (.int .i64 qa.kind) ∧ W.cell? ⟨A, 1, none⟩ = some (.int .u64 (qa.num : Int)) ∧ W.cell? ⟨A, 2, none⟩ = some (.string qa.text) ∧ W.cell? ⟨A, 3, none⟩ = some (.int .i64 qa.ref)) ∧ (W.cell? ⟨B, 0, none⟩ = some (.int .i64 qb.kind) ∧ W.cell? ⟨B, 1, none⟩ = some (.int .u64 (qb.num : Int)) ∧ W.cell? ⟨B, 2, none⟩ = some (.string qb.text) ∧ W.cell? ⟨B, 3, none⟩ = some (.int .i64 qb.ref)))
      (first | with_reducible exact K0d | with_reducible exact K1d | with_reducible exact K2d | with_reducible exact K3d | with_reducible exact K4d | with_reducible exact K0 | with_reducible exact K1 | with_reducible exact K2 | with_reducible exact K3 | with_reducible exact K4)
      (fail)
    all_goals
      clear E0 E1 E2 E3 E4 K0 K1 K2 K3 K4 K0d K1d K2d K3d K4d HK nR nS u0 u1 u2 u3 v0 v1 v2 v3 fu fv m0 m1 m2 m3 n0 n1 n2 n3 fm fn
      go_wp2
      first
        | (refine bodyPost_ret (by simp [results, Tryz.results23, go_sem, d0, d1, d2, d3, e0, e1, e2, e3]; try rfl) rfl ?_
           exact ⟨qa, qb, rfl, HOK.out.1, HOK.out.2, (by first | with_reducible exact HE1d.out.cur | with_reducible exact HE1.out.cur), (by first | with_reducible exact HE1d.out.gr | with_reducible exact HE1.out.gr)⟩)
        | (refine bodyPost_ret (by simp [results, Tryz.results23, go_sem, i0, i1, i2, i3, j0, j1, j2, j3]; try rfl) rfl ?_
           exact ⟨qa, qb, rfl, HOK.out.1, HOK.out.2, (by first | with_reducible exact HE2d.out.cur | with_reducible exact HE2.out.cur), (by first | with_reducible exact HE2d.out.gr | with_reducible exact HE2.out.gr)⟩)
end Go.Proofs.YtcdbifcidaafnaaGreatDoor
