/-
  Part 11 of what is proved of drawn right trees.
-/
import Derived.Test.YtcdbifcidaafnaaGreatDoorPaj

namespace Go.Proofs.YtcdbifcidaafnaaGreatDoor
open Go.RowKit Go.Sort
set_option linter.unusedVariables false
theorem put_other {w1 : World} {D g j : Nat} {b0 b1 b2 b3 : Value} (h : g ≠ D) : ((((w1.setCell ⟨D, 0, none⟩ b0).setCell ⟨D, 1, none⟩ b1).setCell ⟨D, 2, none⟩ b2).setCell ⟨D, 3, none⟩ b3).cell? ⟨g, j, none⟩ = w1.cell? ⟨g, j, none⟩ := by
  have e : ((((w1.setCell ⟨D, 0, none⟩ b0).setCell ⟨D, 1, none⟩ b1).setCell ⟨D, 2, none⟩ b2).setCell ⟨D, 3, none⟩ b3).heap[g]? = w1.heap[g]? := by
    rw [heap_setCell_other _ _ _ _ h, heap_setCell_other _ _ _ _ h, heap_setCell_other _ _ _ _ h, heap_setCell_other _ _ _ _ h]
  unfold World.cell?
  simp only [e]
set_option maxHeartbeats 4000000 in
set_option maxRecDepth 100000 in
theorem doB_num_order_false (op : Int) (h10 : ¬ op = 10) (h11 : ¬ op = 11) (x x' : Nat) (s s' : ByteArray) (r r' : Int) (w : World) (ho : inB op 6 9 = true) (bl be : Bool) (nb : Bool) (N : Nat) (hN : bitN (orderB op bl be nb) = N)
    (cL : ∀ W, Calls Tryz.prog 32 #[.int .u64 (x : Int), .int .u64 (x' : Int)] W fun e w' => e = .returned (.bool bl) ∧ Below W.heap.size W w')
    (cE : ∀ W, Calls Tryz.prog 33 #[.int .u64 (x : Int), .int .u64 (x' : Int)] W fun e w' => e = .returned (.bool be) ∧ Below W.heap.size W w')
    (cU : ∀ W, Calls Tryz.prog 34 #[.int .u64 (x : Int)] W fun e w' => e = .returned (.bool false) ∧ Below W.heap.size W w')
    (cV : ∀ W, Calls Tryz.prog 34 #[.int .u64 (x' : Int)] W fun e w' => e = .returned (.bool nb) ∧ Below W.heap.size W w') :
    Calls Tryz.prog 11 #[.int .i64 op, .agg #[.int .i64 2, .int .u64 (x : Int), .string s, .int .i64 r], .agg #[.int .i64 2, .int .u64 (x' : Int), .string s', .int .i64 r']] w fun e w' => e = .returned (.tuple #[.agg #[.int .i64 1, .int .u64 (N : Int), .string ⟨#[]⟩, .int .i64 0], .string ⟨#[]⟩]) ∧ Below w.heap.size w w' := by
  have cI := fun W => l01In_b op 6 9 W
  simp only [ho] at cI
  clear ho
  have cB := fun W => l17Order_any op bl be nb W
  simp only [hN] at cB
  clear hN
  obtain ⟨t0, t1, t2, tz, tb⟩ := three_made w (.cells #[.int .i64 2, .int .u64 (x : Int), .string s, .int .i64 r] 26) (.cells #[.int .i64 2, .int .u64 (x' : Int), .string s', .int .i64 r'] 26) (.cells #[.int .i64 0, .int .u64 0, .string ⟨#[]⟩, .int .i64 0] 26)
  obtain ⟨W3, hW3⟩ : ∃ W, (((w.alloc (.cells #[.int .i64 2, .int .u64 (x : Int), .string s, .int .i64 r] 26)).alloc (.cells #[.int .i64 2, .int .u64 (x' : Int), .string s', .int .i64 r'] 26)).alloc (.cells #[.int .i64 0, .int .u64 0, .string ⟨#[]⟩, .int .i64 0] 26)) = W := ⟨_, rfl⟩
  rw [hW3] at t0 t1 t2 tz tb
  have HW : Hid ((((w.alloc (.cells #[.int .i64 2, .int .u64 (x : Int), .string s, .int .i64 r] 26)).alloc (.cells #[.int .i64 2, .int .u64 (x' : Int), .string s', .int .i64 r'] 26)).alloc (.cells #[.int .i64 0, .int .u64 0, .string ⟨#[]⟩, .int .i64 0] 26)) = W3) := hW3
  clear hW3
  have HK : Hid (∀ W, Below W3.heap.size W3 W → W.cell? ⟨w.heap.size, 1, none⟩ = some (.int .u64 (x : Int)) ∧ W.cell? ⟨w.heap.size + 1, 1, none⟩ = some (.int .u64 (x' : Int))) := fun W h => ⟨(four_cells ((h.block w.heap.size (by omega)).trans t0)).2.1, (four_cells ((h.block (w.heap.size + 1) (by omega)).trans t1)).2.1⟩
  go_enter Tryz.func11, Tryz.ntmps11
  go_upto_region 16 with (go_at_call 30; with_reducible refine (cI _).mono ?_; rintro e w' ⟨rfl, rfl⟩)
  rw [HW.out]
  clear HW cI
  have HM0 : RowKit.Below W3.heap.size W3 W3 := RowKit.Below.refl _ _
  have HT : Hid _ := t2
  obtain ⟨c0, c1⟩ := HK.out W3 (Below.refl _ _)
  go_region_held3 (fun W => W.cell? ⟨w.heap.size, 1, none⟩ = some (.int .u64 (x : Int)) ∧ W.cell? ⟨w.heap.size + 1, 1, none⟩ = some (.int .u64 (x' : Int))) (first | exact HK.out _ (by first | with_reducible exact HM5 | with_reducible exact RowKit.Below.drew HM5 | with_reducible exact below_drewN HM5 _ | with_reducible exact HM4 | with_reducible exact RowKit.Below.drew HM4 | with_reducible exact below_drewN HM4 _ | with_reducible exact HM3 | with_reducible exact RowKit.Below.drew HM3 | with_reducible exact below_drewN HM3 _ | with_reducible exact HM2 | with_reducible exact RowKit.Below.drew HM2 | with_reducible exact below_drewN HM2 _ | with_reducible exact HM1 | with_reducible exact RowKit.Below.drew HM1 | with_reducible exact below_drewN HM1 _ | with_reducible exact HM0 | with_reducible exact RowKit.Below.drew HM0 | with_reducible exact below_drewN HM0 _) | exact HS | go_keep) (first
    | (go_at_call 32; with_reducible refine (cL _).mono ?_; rintro e w1 ⟨rfl, b1⟩; (first | have HM1 := chain (RowKit.Below.drew HM0) b1 | have HM1 := chain HM0 b1 | have HM1 := chain (below_drewN HM0 _) b1))
    | (go_at_call 33; with_reducible refine (cE _).mono ?_; rintro e w1 ⟨rfl, b1⟩; (first | have HM2 := chain (RowKit.Below.drew HM1) b1 | have HM2 := chain HM1 b1 | have HM2 := chain (below_drewN HM1 _) b1 | have HM2 := chain (RowKit.Below.drew HM0) b1 | have HM2 := chain HM0 b1 | have HM2 := chain (below_drewN HM0 _) b1))
    | (go_at_call 34; with_reducible refine (cU _).mono ?_; rintro e w1 ⟨rfl, b1⟩; (first | have HM3 := chain (RowKit.Below.drew HM2) b1 | have HM3 := chain HM2 b1 | have HM3 := chain (below_drewN HM2 _) b1 | have HM3 := chain (RowKit.Below.drew HM1) b1 | have HM3 := chain HM1 b1 | have HM3 := chain (below_drewN HM1 _) b1 | have HM3 := chain (RowKit.Below.drew HM0) b1 | have HM3 := chain HM0 b1 | have HM3 := chain (below_drewN HM0 _) b1))
    | (go_at_call 34; with_reducible refine (cV _).mono ?_; rintro e w1 ⟨rfl, b1⟩; (first | have HM4 := chain (RowKit.Below.drew HM3) b1 | have HM4 := chain HM3 b1 | have HM4 := chain (below_drewN HM3 _) b1 | have HM4 := chain (RowKit.Below.drew HM2) b1 | have HM4 := chain HM2 b1 | have HM4 := chain (below_drewN HM2 _) b1 | have HM4 := chain (RowKit.Below.drew HM1) b1 | have HM4 := chain HM1 b1 | have HM4 := chain (below_drewN HM1 _) b1 | have HM4 := chain (RowKit.Below.drew HM0) b1 | have HM4 := chain HM0 b1 | have HM4 := chain (below_drewN HM0 _) b1))
    | (go_at_call 31; with_reducible refine (cB _).mono ?_; rintro e w1 ⟨rfl, b1⟩; (first | have HM5 := chain (RowKit.Below.drew HM4) b1 | have HM5 := chain HM4 b1 | have HM5 := chain (below_drewN HM4 _) b1 | have HM5 := chain (RowKit.Below.drew HM3) b1 | have HM5 := chain HM3 b1 | have HM5 := chain (below_drewN HM3 _) b1 | have HM5 := chain (RowKit.Below.drew HM2) b1 | have HM5 := chain HM2 b1 | have HM5 := chain (below_drewN HM2 _) b1 | have HM5 := chain (RowKit.Below.drew HM1) b1 | have HM5 := chain HM1 b1 | have HM5 := chain (below_drewN HM1 _) b1 | have HM5 := chain (RowKit.Below.drew HM0) b1 | have HM5 := chain HM0 b1 | have HM5 := chain (below_drewN HM0 _) b1); obtain ⟨⟨c0, c1, c2, c3⟩, fz, ⟨g0, g1, g2, g3⟩, hbe⟩ := third_ready (w1 := w1) (b0 := .int .i64 1) (b1 := .int .u64 (N : Int)) (b2 := .string ⟨#[]⟩) (b3 := .int .i64 0) t2 tz tb HM5; have hx := HK.out w1 HM5; have HS := And.intro ((put_other (D := w.heap.size + 1 + 1) (b0 := .int .i64 1) (b1 := .int .u64 (N : Int)) (b2 := .string ⟨#[]⟩) (b3 := .int .i64 0) (by omega)).trans hx.1) ((put_other (D := w.heap.size + 1 + 1) (b0 := .int .i64 1) (b1 := .int .u64 (N : Int)) (b2 := .string ⟨#[]⟩) (b3 := .int .i64 0) (by omega)).trans hx.2))
    )
  go_wp2
  refine bodyPost_ret (by simp [results, Tryz.results11, go_sem, g0, g1, g2, g3]; try rfl) rfl ?_
  exact ⟨rfl, hbe⟩
end Go.Proofs.YtcdbifcidaafnaaGreatDoor
