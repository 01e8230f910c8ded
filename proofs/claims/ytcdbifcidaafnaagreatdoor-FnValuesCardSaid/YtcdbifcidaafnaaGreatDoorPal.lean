/-
  Part 12 of what is proved of drawn right trees.
-/
import Derived.Test.YtcdbifcidaafnaaGreatDoorPak
import Derived.Test.YtcdbifcidaafnaaGreatDoorPag
import Derived.Test.YtcdbifcidaafnaaGreatDoorPaa
import Derived.Test.YtcdbifcidaafnaaGreatDoorPai
import Derived.Test.YtcdbifcidaafnaaGreatDoorPab
import Derived.Test.YtcdbifcidaafnaaGreatDoorPac
import Derived.Deep.QuietTactic
import Derived.BigQuiet
import Derived.Lib.QuietBelow
import Derived.Deep.RegionHeld3

namespace Go.Proofs.YtcdbifcidaafnaaGreatDoor
open Go.RowKit Go.Sort
set_option linter.unusedVariables false
set_option maxHeartbeats 4000000 in
set_option maxRecDepth 100000 in
theorem doB_num_order_true (op : Int) (h10 : ¬ op = 10) (h11 : ¬ op = 11) (x x' : Nat) (s s' : ByteArray) (r r' : Int) (w : World) (ho : inB op 6 9 = true) (bl be : Bool) (N : Nat) (hN : bitN (orderB op bl be true) = N)
    (cL : ∀ W, Calls Tryz.prog 32 #[.int .u64 (x : Int), .int .u64 (x' : Int)] W fun e w' => e = .returned (.bool bl) ∧ Below W.heap.size W w')
    (cE : ∀ W, Calls Tryz.prog 33 #[.int .u64 (x : Int), .int .u64 (x' : Int)] W fun e w' => e = .returned (.bool be) ∧ Below W.heap.size W w')
    (cU : ∀ W, Calls Tryz.prog 34 #[.int .u64 (x : Int)] W fun e w' => e = .returned (.bool true) ∧ Below W.heap.size W w') :
    Calls Tryz.prog 11 #[.int .i64 op, .agg #[.int .i64 2, .int .u64 (x : Int), .string s, .int .i64 r], .agg #[.int .i64 2, .int .u64 (x' : Int), .string s', .int .i64 r']] w fun e w' => e = .returned (.tuple #[.agg #[.int .i64 1, .int .u64 (N : Int), .string ⟨#[]⟩, .int .i64 0], .string ⟨#[]⟩]) ∧ Below w.heap.size w w' := by
  have cI := fun W => l01In_b op 6 9 W
  simp only [ho] at cI
  clear ho
  have cB := fun W => l17Order_any op bl be true W
  simp only [hN] at cB
  clear hN
  obtain ⟨t0, t1, t2, tz, tb⟩ := three_made w (.cells #[.int .i64 2, .int .u64 (x : Int), .string s, .int .i64 r] 26) (.cells #[.int .i64 2, .int .u64 (x' : Int), .string s', .int .i64 r'] 26) (.cells #[.int .i64 0, .int .u64 0, .string ⟨#[]⟩, .int .i64 0] 26)
  obtain ⟨W3, hW3⟩ : ∃ W, (((w.alloc (.cells #[.int .i64 2, .int .u64 (x : Int), .string s, .int .i64 r] 26)).alloc (.cells #[.int .i64 2, .int .u64 (x' : Int), .string s', .int .i64 r'] 26)).alloc (.cells #[.int .i64 0, .int .u64 0, .string ⟨#[]⟩, .int .i64 0] 26)) = W := ⟨_, rfl⟩
  rw [hW3] at t0 t1 t2 tz tb
  have HW : Hid ((((w.alloc (.cells #[.int .i64 2, .int .u64 (x : Int), .string s, .int .i64 r] 26)).alloc (.cells #[.int .i64 2, .int .u64 (x' : Int), .string s', .int .i64 r'] 26)).alloc (.cells #[.int .i64 0, .int .u64 0, .string ⟨#[]⟩, .int .i64 0] 26)) = W3) := hW3
  clear hW3
  have HK : Hid (∀ W, Below W3.heap.size W3 W → W.cell? ⟨w.heap.size, 1, none⟩ = some (.int .u64 (x : Int)) ∧ W.cell? ⟨w.heap.size + 1, 1, none⟩ = some (.int .u64 (x' : Int))) := fun W h => ⟨(four_cells ((h.block w.heap.size (by omega)).trans t0)).2.1, (four_cells ((h.block (w.heap.size + 1) (by omega)).trans t1)).2.1⟩
  go_enter Tryz.func11, Tryz.ntmps11
  go_upto_region 16 with (go_at_call 30; with_reducible refine (cI _).mono ?_; rintro e w' ⟨rfl, rfl⟩)
  rw [HW.out]
  clear HW cI
  have HM0 : RowKit.Below W3.heap.size W3 W3 := RowKit.Below.refl _ _
  have HT : Hid _ := t2
  obtain ⟨c0, c1⟩ := HK.out W3 (Below.refl _ _)
  refine wp_region_held_drew (S := fun W => W.cell? ⟨w.heap.size, 1, none⟩ = some (.int .u64 (x : Int)) ∧ W.cell? ⟨w.heap.size + 1, 1, none⟩ = some (.int .u64 (x' : Int))) (by kernel_rfl) (HK.out _ (Below.refl _ _).drew) (fun hHeld => ?_)
  refine wpAnyH_take (i := 0) (oi := { dst := some 76, op := Op.move (Operand.tmp 0), type := 3, pos := "l17_values.go:107", after := #[], guard := none }) (v := ?_) rfl (by kernel_rfl) (by kernel_rfl) (by kernel_rfl) (fun _ _ _ h => h) (Or.inl ⟨by rfl, ?hy⟩) hHeld ?_
  case hy =>
    intro wz hSw
    try dsimp only at hSw
    go_simp
    try with_reducible rfl
  try simp only [Act.put, List.setIfInBounds_toArray, List.set_cons_zero, List.set_cons_succ]
  refine wpAnyH_take (i := 1) (oi := { dst := some 77, op := Op.fieldAddr 26 (Operand.tmp 4) 1, type := 0, pos := "l17_values.go:107", after := #[], guard := none }) (v := ?_) rfl (by kernel_rfl) (by kernel_rfl) (by kernel_rfl) (fun _ _ _ h => h) (Or.inl ⟨by rfl, ?hy⟩) hHeld ?_
  case hy =>
    intro wz hSw
    try dsimp only at hSw
    go_simp
    try with_reducible rfl
  try simp only [Act.put, List.setIfInBounds_toArray, List.set_cons_zero, List.set_cons_succ]
  refine wpAnyH_take (i := 2) (oi := { dst := some 78, op := Op.load 24 (Operand.tmp 77), type := 24, pos := "l17_values.go:107", after := #[{ on := 1, ground := Ground.data }], guard := none }) (v := ?_) rfl (by kernel_rfl) (by kernel_rfl) (by kernel_rfl) (fun _ _ _ h => h) (Or.inl ⟨by rfl, ?hy⟩) hHeld ?_
  case hy =>
    intro wz hSw
    try dsimp only at hSw
    go_simp
    try with_reducible rfl
  try simp only [Act.put, List.setIfInBounds_toArray, List.set_cons_zero, List.set_cons_succ]
  refine wpAnyH_take (i := 3) (oi := { dst := some 79, op := Op.fieldAddr 26 (Operand.tmp 5) 1, type := 0, pos := "l17_values.go:107", after := #[], guard := none }) (v := ?_) rfl (by kernel_rfl) (by kernel_rfl) (by kernel_rfl) (fun _ _ _ h => h) (Or.inl ⟨by rfl, ?hy⟩) hHeld ?_
  case hy =>
    intro wz hSw
    try dsimp only at hSw
    go_simp
    try with_reducible rfl
  try simp only [Act.put, List.setIfInBounds_toArray, List.set_cons_zero, List.set_cons_succ]
  refine wpAnyH_take (i := 4) (oi := { dst := some 80, op := Op.load 24 (Operand.tmp 79), type := 24, pos := "l17_values.go:107", after := #[{ on := 3, ground := Ground.data }], guard := none }) (v := ?_) rfl (by kernel_rfl) (by kernel_rfl) (by kernel_rfl) (fun _ _ _ h => h) (Or.inl ⟨by rfl, ?hy⟩) hHeld ?_
  case hy =>
    intro wz hSw
    try dsimp only at hSw
    go_simp
    try with_reducible rfl
  try simp only [Act.put, List.setIfInBounds_toArray, List.set_cons_zero, List.set_cons_succ]
  refine wpAnyH_take (i := 6) (oi := { dst := some 82, op := Op.fieldAddr 26 (Operand.tmp 4) 1, type := 0, pos := "l17_values.go:107", after := #[], guard := none }) (v := ?_) rfl (by kernel_rfl) (by kernel_rfl) (by kernel_rfl) (fun _ _ _ h => h) (Or.inl ⟨by rfl, ?hy⟩) hHeld ?_
  case hy =>
    intro wz hSw
    try dsimp only at hSw
    go_simp
    try with_reducible rfl
  try simp only [Act.put, List.setIfInBounds_toArray, List.set_cons_zero, List.set_cons_succ]
  refine wpAnyH_take (i := 7) (oi := { dst := some 83, op := Op.load 24 (Operand.tmp 82), type := 24, pos := "l17_values.go:107", after := #[{ on := 6, ground := Ground.data }], guard := none }) (v := ?_) rfl (by kernel_rfl) (by kernel_rfl) (by kernel_rfl) (fun _ _ _ h => h) (Or.inl ⟨by rfl, ?hy⟩) hHeld ?_
  case hy =>
    intro wz hSw
    try dsimp only at hSw
    go_simp
    try with_reducible rfl
  try simp only [Act.put, List.setIfInBounds_toArray, List.set_cons_zero, List.set_cons_succ]
  refine wpAnyH_take (i := 8) (oi := { dst := some 84, op := Op.fieldAddr 26 (Operand.tmp 5) 1, type := 0, pos := "l17_values.go:107", after := #[], guard := none }) (v := ?_) rfl (by kernel_rfl) (by kernel_rfl) (by kernel_rfl) (fun _ _ _ h => h) (Or.inl ⟨by rfl, ?hy⟩) hHeld ?_
  case hy =>
    intro wz hSw
    try dsimp only at hSw
    go_simp
    try with_reducible rfl
  try simp only [Act.put, List.setIfInBounds_toArray, List.set_cons_zero, List.set_cons_succ]
  refine wpAnyH_take (i := 9) (oi := { dst := some 85, op := Op.load 24 (Operand.tmp 84), type := 24, pos := "l17_values.go:107", after := #[{ on := 8, ground := Ground.data }], guard := none }) (v := ?_) rfl (by kernel_rfl) (by kernel_rfl) (by kernel_rfl) (fun _ _ _ h => h) (Or.inl ⟨by rfl, ?hy⟩) hHeld ?_
  case hy =>
    intro wz hSw
    try dsimp only at hSw
    go_simp
    try with_reducible rfl
  try simp only [Act.put, List.setIfInBounds_toArray, List.set_cons_zero, List.set_cons_succ]
  refine wpAnyH_take (i := 11) (oi := { dst := some 87, op := Op.fieldAddr 26 (Operand.tmp 4) 1, type := 0, pos := "l17_values.go:107", after := #[], guard := none }) (v := ?_) rfl (by kernel_rfl) (by kernel_rfl) (by kernel_rfl) (fun _ _ _ h => h) (Or.inl ⟨by rfl, ?hy⟩) hHeld ?_
  case hy =>
    intro wz hSw
    try dsimp only at hSw
    go_simp
    try with_reducible rfl
  try simp only [Act.put, List.setIfInBounds_toArray, List.set_cons_zero, List.set_cons_succ]
  refine wpAnyH_take (i := 12) (oi := { dst := some 88, op := Op.load 24 (Operand.tmp 87), type := 24, pos := "l17_values.go:107", after := #[{ on := 11, ground := Ground.data }], guard := none }) (v := ?_) rfl (by kernel_rfl) (by kernel_rfl) (by kernel_rfl) (fun _ _ _ h => h) (Or.inl ⟨by rfl, ?hy⟩) hHeld ?_
  case hy =>
    intro wz hSw
    try dsimp only at hSw
    go_simp
    try with_reducible rfl
  try simp only [Act.put, List.setIfInBounds_toArray, List.set_cons_zero, List.set_cons_succ]
  refine wpAnyH_ready (rs := [5]) (by kernel_rfl) (by simp) ?_
  refine AllReadyH.cons (o := { dst := some 81, op := Op.call { callee := Callee.value (Operand.func 32), args := #[Operand.tmp 78, Operand.tmp 80], argTypes := #[24, 24] }, type := 4, pos := "l17_values.go:107", after := #[{ on := 2, ground := Ground.data }, { on := 4, ground := Ground.data }], guard := none }) rfl (fun K' hK => ?_) AllReadyH.nil
  go_simp
  go_at_call 32
  with_reducible refine (cL _).mono ?_
  rintro e wHM1 ⟨rfl, b1⟩
  have HM1 := chain (RowKit.Below.drew HM0) b1
  clear b1
  try go_wp2_with fail
  refine hK.out _ _ (HK.out _ HM1) (fun hHeld => ?_)
  clear hK K'
  try simp only [Act.put, List.setIfInBounds_toArray, List.set_cons_zero, List.set_cons_succ]
  refine wpAnyH_ready (rs := [10]) (by kernel_rfl) (by simp) ?_
  refine AllReadyH.cons (o := { dst := some 86, op := Op.call { callee := Callee.value (Operand.func 33), args := #[Operand.tmp 83, Operand.tmp 85], argTypes := #[24, 24] }, type := 4, pos := "l17_values.go:107", after := #[{ on := 7, ground := Ground.data }, { on := 9, ground := Ground.data }, { on := 5, ground := Ground.chain }], guard := none }) rfl (fun K' hK => ?_) AllReadyH.nil
  go_simp
  go_at_call 33
  with_reducible refine (cE _).mono ?_
  rintro e wHM2 ⟨rfl, b1⟩
  have HM2 := chain HM1 b1
  clear b1
  try go_wp2_with fail
  refine hK.out _ _ (HK.out _ HM2) (fun hHeld => ?_)
  clear hK K'
  try simp only [Act.put, List.setIfInBounds_toArray, List.set_cons_zero, List.set_cons_succ]
  refine wpAnyH_ready (rs := [13]) (by kernel_rfl) (by simp) ?_
  refine AllReadyH.cons (o := { dst := some 89, op := Op.call { callee := Callee.value (Operand.func 34), args := #[Operand.tmp 88], argTypes := #[24] }, type := 4, pos := "l17_values.go:107", after := #[{ on := 12, ground := Ground.data }, { on := 10, ground := Ground.chain }], guard := none }) rfl (fun K' hK => ?_) AllReadyH.nil
  go_simp
  go_at_call 34
  with_reducible refine (cU _).mono ?_
  rintro e wHM3 ⟨rfl, b1⟩
  have HM3 := chain HM2 b1
  clear b1
  try go_wp2_with fail
  refine hK.out _ _ (HK.out _ HM3) (fun hHeld => ?_)
  clear hK K'
  try simp only [Act.put, List.setIfInBounds_toArray, List.set_cons_zero, List.set_cons_succ]
  refine wpAnyH_take (i := 14) (oi := { dst := some 90, op := Op.move (Operand.tmp 89), type := 4, pos := "l17_values.go:107", after := #[{ on := 13, ground := Ground.data }, { on := 13, ground := Ground.chain }], guard := none }) (v := ?_) rfl (by kernel_rfl) (by kernel_rfl) (by kernel_rfl) (fun _ _ _ h => h) (Or.inl ⟨by rfl, ?hy⟩) hHeld ?_
  case hy =>
    intro wz hSw
    try dsimp only at hSw
    go_simp
    try with_reducible rfl
  try simp only [Act.put, List.setIfInBounds_toArray, List.set_cons_zero, List.set_cons_succ]
  refine wpAnyH_take (i := 15) (oi := { dst := some 91, op := Op.fieldAddr 26 (Operand.tmp 5) 1, type := 0, pos := "l17_values.go:107", after := #[{ on := 14, ground := Ground.guard }], guard := some (14, false) }) (v := undef) rfl (by kernel_rfl) (by kernel_rfl) (by kernel_rfl) (fun _ _ _ h => h) (Or.inr ⟨by rfl, rfl⟩) hHeld ?_
  try simp only [Act.put, List.setIfInBounds_toArray, List.set_cons_zero, List.set_cons_succ]
  refine wpAnyH_take (i := 16) (oi := { dst := some 92, op := Op.load 24 (Operand.tmp 91), type := 24, pos := "l17_values.go:107", after := #[{ on := 15, ground := Ground.data }, { on := 14, ground := Ground.guard }], guard := some (14, false) }) (v := undef) rfl (by kernel_rfl) (by kernel_rfl) (by kernel_rfl) (fun _ _ _ h => h) (Or.inr ⟨by rfl, rfl⟩) hHeld ?_
  try simp only [Act.put, List.setIfInBounds_toArray, List.set_cons_zero, List.set_cons_succ]
  refine wpAnyH_take (i := 17) (oi := { dst := some 93, op := Op.call { callee := Callee.value (Operand.func 34), args := #[Operand.tmp 92], argTypes := #[24] }, type := 4, pos := "l17_values.go:107", after := #[{ on := 16, ground := Ground.data }, { on := 14, ground := Ground.chain }, { on := 14, ground := Ground.guard }], guard := some (14, false) }) (v := undef) rfl (by kernel_rfl) (by kernel_rfl) (by kernel_rfl) (fun _ _ _ h => h) (Or.inr ⟨by rfl, rfl⟩) hHeld ?_
  try simp only [Act.put, List.setIfInBounds_toArray, List.set_cons_zero, List.set_cons_succ]
  refine wpAnyH_take (i := 18) (oi := { dst := some 94, op := Op.pick (Operand.tmp 90) (Operand.const (Value.bool true)) (Operand.tmp 93), type := 4, pos := "l17_values.go:107", after := #[{ on := 14, ground := Ground.data }, { on := 17, ground := Ground.data }], guard := none }) (v := ?_) rfl (by kernel_rfl) (by kernel_rfl) (by kernel_rfl) (fun _ _ _ h => h) (Or.inl ⟨by rfl, ?hy⟩) hHeld ?_
  case hy =>
    intro wz hSw
    try dsimp only at hSw
    go_simp
    try with_reducible rfl
  try simp only [Act.put, List.setIfInBounds_toArray, List.set_cons_zero, List.set_cons_succ]
  refine wpAnyH_ready (rs := [19]) (by kernel_rfl) (by simp) ?_
  refine AllReadyH.cons (o := { dst := some 95, op := Op.call { callee := Callee.value (Operand.func 31), args := #[Operand.tmp 76, Operand.tmp 81, Operand.tmp 86, Operand.tmp 94], argTypes := #[3, 4, 4, 4] }, type := 26, pos := "l17_values.go:107", after := #[{ on := 0, ground := Ground.data }, { on := 5, ground := Ground.data }, { on := 10, ground := Ground.data }, { on := 18, ground := Ground.data }, { on := 17, ground := Ground.chain }], guard := none }) rfl (fun K' hK => ?_) AllReadyH.nil
  go_simp
  go_at_call 31
  with_reducible refine (cB _).mono ?_
  rintro e wHM5 ⟨rfl, b1⟩
  have HM5 := chain HM3 b1
  clear b1
  try go_wp2_with fail
  refine hK.out _ _ (HK.out _ HM5) (fun hHeld => ?_)
  clear hK K'
  try simp only [Act.put, List.setIfInBounds_toArray, List.set_cons_zero, List.set_cons_succ]
  obtain ⟨⟨k0, k1, k2, k3⟩, fz, ⟨g0, g1, g2, g3⟩, hbe⟩ := third_ready (w1 := wHM5) (b0 := .int .i64 1) (b1 := .int .u64 (N : Int)) (b2 := .string ⟨#[]⟩) (b3 := .int .i64 0) t2 tz tb HM5
  have hx := HK.out wHM5 HM5
  have HS := And.intro ((put_other (D := w.heap.size + 1 + 1) (b0 := .int .i64 1) (b1 := .int .u64 (N : Int)) (b2 := .string ⟨#[]⟩) (b3 := .int .i64 0) (by omega)).trans hx.1) ((put_other (D := w.heap.size + 1 + 1) (b0 := .int .i64 1) (b1 := .int .u64 (N : Int)) (b2 := .string ⟨#[]⟩) (b3 := .int .i64 0) (by omega)).trans hx.2)
  refine wpAnyH_ready (rs := [20]) (by kernel_rfl) (by simp) ?_
  refine AllReadyH.cons (o := { dst := none, op := Op.store 26 (Operand.tmp 6) (Operand.tmp 95), type := 0, pos := "l17_values.go:107", after := #[{ on := 19, ground := Ground.data }, { on := 19, ground := Ground.chain }, { on := 0, ground := Ground.phase }, { on := 1, ground := Ground.phase }, { on := 2, ground := Ground.phase }, { on := 3, ground := Ground.phase }, { on := 4, ground := Ground.phase }, { on := 5, ground := Ground.phase }, { on := 6, ground := Ground.phase }, { on := 7, ground := Ground.phase }, { on := 8, ground := Ground.phase }, { on := 9, ground := Ground.phase }, { on := 10, ground := Ground.phase }, { on := 11, ground := Ground.phase }, { on := 12, ground := Ground.phase }, { on := 13, ground := Ground.phase }, { on := 14, ground := Ground.phase }, { on := 15, ground := Ground.phase }, { on := 16, ground := Ground.phase }, { on := 17, ground := Ground.phase }, { on := 18, ground := Ground.phase }, { on := 19, ground := Ground.phase }], guard := none }) rfl (fun K' hK => ?_) AllReadyH.nil
  go_simp
  refine hK.out _ _ HS (fun hHeld => ?_)
  clear hK K'
  try simp only [Act.put, List.setIfInBounds_toArray, List.set_cons_zero, List.set_cons_succ]
  refine wpAnyH_take (i := 21) (oi := { dst := some 7, op := Op.assign (Operand.const (Value.string { data := #[] })), type := 9, pos := "l17_values.go:107", after := #[{ on := 20, ground := Ground.chain }, { on := 0, ground := Ground.phase }, { on := 1, ground := Ground.phase }, { on := 2, ground := Ground.phase }, { on := 3, ground := Ground.phase }, { on := 4, ground := Ground.phase }, { on := 5, ground := Ground.phase }, { on := 6, ground := Ground.phase }, { on := 7, ground := Ground.phase }, { on := 8, ground := Ground.phase }, { on := 9, ground := Ground.phase }, { on := 10, ground := Ground.phase }, { on := 11, ground := Ground.phase }, { on := 12, ground := Ground.phase }, { on := 13, ground := Ground.phase }, { on := 14, ground := Ground.phase }, { on := 15, ground := Ground.phase }, { on := 16, ground := Ground.phase }, { on := 17, ground := Ground.phase }, { on := 18, ground := Ground.phase }, { on := 19, ground := Ground.phase }, { on := 20, ground := Ground.phase }], guard := none }) (v := ?_) rfl (by kernel_rfl) (by kernel_rfl) (by kernel_rfl) (fun _ _ _ h => h) (Or.inl ⟨by rfl, ?hy⟩) hHeld ?_
  case hy =>
    intro wz hSw
    try dsimp only at hSw
    go_simp
    try with_reducible rfl
  try simp only [Act.put, List.setIfInBounds_toArray, List.set_cons_zero, List.set_cons_succ]
  refine wpAnyH_done (by kernel_rfl) ?_ _
  go_wp2
  refine bodyPost_ret (by simp [results, Tryz.results11, go_sem, g0, g1, g2, g3]; try rfl) rfl ?_
  exact ⟨rfl, hbe⟩
end Go.Proofs.YtcdbifcidaafnaaGreatDoor
namespace Go.Proofs.YtcdbifcidaafnaaGreatDoor
open Go.RowKit Go.Sort
set_option linter.unusedVariables false
def bin17V (op : Int) (a b : PVal) : PVal × ByteArray :=
  if op = 10 then (boolV (valSame a b), ⟨#[]⟩)
  else if op = 11 then (boolV (!valSame a b), ⟨#[]⟩)
  else if a.kind = 3 ∧ b.kind = 3 then
    if inB op 6 9 = true then (boolV (orderB op (Op.bytesLess a.text.toList b.text.toList) (a.text.toList == b.text.toList) false), ⟨#[]⟩)
    else if op = 1 then (if 200 < a.text.size + b.text.size then (noneV, longS) else (textV (a.text ++ b.text), ⟨#[]⟩))
    else (noneV, typeS)
  else if a.kind = 2 ∧ b.kind = 2 then
    if inB op 6 9 = true then (boolV (orderB op (lessN a.num b.num) (equalN a.num b.num) (decide (kindN a.num = 1) || decide (kindN b.num = 1))), ⟨#[]⟩)
    else if op = 1 then (numV (addN a.num b.num), ⟨#[]⟩)
    else if op = 2 then (numV (subN a.num b.num), ⟨#[]⟩)
    else if op = 3 then (numV (mulN a.num b.num), ⟨#[]⟩)
    else if op = 4 then (numV (divN a.num b.num), ⟨#[]⟩)
    else if op = 5 then (numV (remN a.num b.num), ⟨#[]⟩)
    else (noneV, typeS)
  else (noneV, typeS)
def pairV (x : PVal × ByteArray) : Value := .tuple #[.agg #[.int .i64 x.1.kind, .int .u64 (x.1.num : Int), .string x.1.text, .int .i64 x.1.ref], .string x.2]
theorem specDoBinary_v (op : Int) (a b : PVal) (w : World) (ha : valW a) (hb : valW b) (la : a.text.size ≤ 1048576) (lb : b.text.size ≤ 1048576) :
    Calls Tryz.prog 11 #[.int .i64 op, .agg #[.int .i64 a.kind, .int .u64 (a.num : Int), .string a.text, .int .i64 a.ref], .agg #[.int .i64 b.kind, .int .u64 (b.num : Int), .string b.text, .int .i64 b.ref]] w fun e w' => e = .returned (pairV (bin17V op a b)) ∧ Below w.heap.size w w' := by
  have cS := fun W => specSameValue_any a b W ha hb
  have na := ha.2.1
  have nb := hb.2.1
  clear ha hb
  unfold bin17V
  obtain ⟨k, x, s, r⟩ := a
  obtain ⟨k', x', s', r'⟩ := b
  simp only at la lb na nb cS ⊢
  by_cases h10 : op = 10
  · subst h10
    rw [if_pos rfl]
    exact doB_10 k k' x x' s s' r r' w _ _ rfl cS
  rw [if_neg h10]
  by_cases h11 : op = 11
  · subst h11
    rw [if_pos rfl]
    exact doB_11 k k' x x' s s' r r' w _ _ rfl cS
  rw [if_neg h11]
  clear cS
  by_cases h3 : k = 3 ∧ k' = 3
  · rw [if_pos h3]
    obtain ⟨rfl, rfl⟩ := h3
    by_cases ho : inB op 6 9 = true
    · rw [if_pos ho]
      exact doB_text_order op h10 h11 x x' s s' r r' w ho _ rfl
    · rw [if_neg ho]
      have ho' : inB op 6 9 = false := by revert ho; cases inB op 6 9 <;> simp
      by_cases h1 : op = 1
      · subst h1
        rw [if_pos rfl]
        by_cases hl : 200 < s.size + s'.size
        · rw [if_pos hl]
          exact doB_text_long x x' s s' r r' w hl (by omega) (by omega)
        · rw [if_neg hl]
          exact doB_text_add x x' s s' r r' w hl
      · rw [if_neg h1]
        exact doB_text_type op h10 h11 h1 x x' s s' r r' w ho'
  rw [if_neg h3]
  by_cases h2 : k = 2 ∧ k' = 2
  · rw [if_pos h2]
    obtain ⟨rfl, rfl⟩ := h2
    by_cases ho : inB op 6 9 = true
    · rw [if_pos ho]
      have cL := fun W => specLess_any x x' W na nb
      have cE := fun W => specEqual_any x x' W na nb
      have cU := fun W => l03Nan_any x W na
      have cV := fun W => l03Nan_any x' W nb
      obtain ⟨u, hu⟩ : ∃ u, decide (kindN x = 1) = u := ⟨_, rfl⟩
      simp only [hu] at cU ⊢
      cases u with
      | true => exact doB_num_order_true op h10 h11 x x' s s' r r' w ho _ _ _ rfl cL cE cU
      | false => exact doB_num_order_false op h10 h11 x x' s s' r r' w ho _ _ _ _ rfl cL cE cU cV
    · rw [if_neg ho]
      have ho' : inB op 6 9 = false := by revert ho; cases inB op 6 9 <;> simp
      by_cases h1 : op = 1
      · subst h1; rw [if_pos rfl]; exact doB_num_1 x x' s s' r r' w _ (fun W => specAdd_any x x' W na nb)
      rw [if_neg h1]
      by_cases h2 : op = 2
      · subst h2; rw [if_pos rfl]; exact doB_num_2 x x' s s' r r' w _ (fun W => specSub_any x x' W na nb)
      rw [if_neg h2]
      by_cases h3 : op = 3
      · subst h3; rw [if_pos rfl]; exact doB_num_3 x x' s s' r r' w _ (fun W => specMul_any x x' W na nb)
      rw [if_neg h3]
      by_cases h4 : op = 4
      · subst h4; rw [if_pos rfl]; exact doB_num_4 x x' s s' r r' w _ (fun W => specDiv_any x x' W na nb)
      rw [if_neg h4]
      by_cases h5 : op = 5
      · subst h5; rw [if_pos rfl]; exact doB_num_5 x x' s s' r r' w _ (fun W => specRem_any x x' W na nb)
      rw [if_neg h5]
      exact doB_num_type op h10 h11 h1 h2 h3 h4 h5 x x' s s' r r' w ho'
  rw [if_neg h2]
  exact doB_type op h10 h11 k k' x x' s s' r r' w h3 h2
end Go.Proofs.YtcdbifcidaafnaaGreatDoor
namespace Go.Proofs.YtcdbifcidaafnaaGreatDoor
open Go.RowKit
set_option linter.unusedVariables false
set_option maxHeartbeats 400000 in
set_option maxRecDepth 100000 in
theorem iTruthy (x : Nat) (w : World) (hx : x < 18446744073709551616) :
    Calls Tryz.prog 135 #[.int .u64 x] w fun e w' => e = .returned (.bool (truthyN x)) ∧ Below w.heap.size w w' := by
  have cK := fun W => iKind x W
  have HK := kindN_cases x
  obtain ⟨k, hk⟩ : ∃ k, kindN x = k := ⟨_, rfl⟩
  have HT : Hid (Unit → truthyN x = decide (k ≠ 1 ∧ k ≠ 3)) := fun _ => by unfold truthyN; rw [hk]
  rw [hk] at HK cK
  clear hk hx
  rcases HK with rfl | rfl | rfl | rfl
  all_goals
    go_enter Tryz.func135, Tryz.ntmps135
    go_wp2_with (go_at_call 82; refine (cK _).mono ?_; rintro e w' ⟨rfl, rfl⟩)
    go_ret
    exact ⟨by rw [HT.out ()]; rfl, Below.refl _ _⟩
set_option maxHeartbeats 400000 in
set_option maxRecDepth 100000 in
theorem iRank (x : Nat) (w : World) (hx : x < 18446744073709551616) :
    Calls Tryz.prog 62 #[.int .u64 x] w fun e w' => e = .returned (.int .i64 (keyN x)) ∧ w = w' := by
  have cB := fun W => iBelow x W
  have cS := fun W => iSize x W
  by_cases h : (9223372036854775808 : Int) ≤ x
  · rw [decide_eq_true (by omega : 9223372036854775808 ≤ x)] at cB
    obtain ⟨s, hs⟩ : ∃ s : Int, (x : Int) % 9223372036854775808 = s := ⟨_, rfl⟩
    rw [hs] at cS
    have HY : Hid (Unit → keyN x = -s) := fun _ => by unfold keyN; rw [if_pos (by omega)]; omega
    have s1 : 0 ≤ s := by omega
    have s2 : s < 9223372036854775808 := by omega
    clear hs h hx
    go_enter Tryz.func62, Tryz.ntmps62
    go_wp2_with (first | (go_at_call 83; refine (cB _).mono ?_; rintro e w' ⟨rfl, rfl⟩) | (go_at_call 84; refine (cS _).mono ?_; rintro e w' ⟨rfl, rfl⟩))
    go_ret
    exact ⟨by rw [HY.out ()]; rfl, rfl⟩
  · rw [decide_eq_false (by omega : ¬9223372036854775808 ≤ x)] at cB
    have HY : Hid (Unit → keyN x = x) := fun _ => by unfold keyN; rw [if_neg (by omega)]
    have h' : (x : Int) < 9223372036854775808 := by omega
    clear h hx
    go_enter Tryz.func62, Tryz.ntmps62
    go_wp2_with (go_at_call 83; refine (cB _).mono ?_; rintro e w' ⟨rfl, rfl⟩)
    go_ret
    exact ⟨by rw [HY.out ()]; rfl, rfl⟩
set_option maxHeartbeats 400000 in
set_option maxRecDepth 100000 in
theorem iCompares (a b : Nat) (w : World) :
    Calls Tryz.prog 61 #[.int .u64 a, .int .u64 b] w fun e w' => e = .returned (.bool (decide (kindN a ≠ 1 ∧ kindN b ≠ 1))) ∧ w = w' := by
  have cA := fun W => iKind a W
  have cB := fun W => iKind b W
  obtain ⟨p, hp⟩ : ∃ p, kindN a = p := ⟨_, rfl⟩
  obtain ⟨q, hq⟩ : ∃ q, kindN b = q := ⟨_, rfl⟩
  rw [hp] at cA
  rw [hq] at cB
  rw [hp, hq]
  clear hp hq
  by_cases h1 : p = 1
  · subst h1
    go_enter Tryz.func61, Tryz.ntmps61
    go_wp2_with (go_at_call 82; refine (cA _).mono ?_; rintro e w' ⟨rfl, rfl⟩)
    go_ret
    exact ⟨by simp, rfl⟩
  · have d1 : ((p : Int) != 1) = true := by simp; omega
    by_cases h2 : q = 1
    · subst h2
      go_enter Tryz.func61, Tryz.ntmps61
      go_wp2_with fail
      refine (cA _).mono ?_
      rintro e w' ⟨rfl, rfl⟩
      go_wp2_with fail
      refine (cB _).mono ?_
      rintro e w' ⟨rfl, rfl⟩
      go_wp2
      go_ret
      exact ⟨by simp, rfl⟩
    · have d2 : ((q : Int) != 1) = true := by simp; omega
      have HY : Hid (Unit → decide (p ≠ 1 ∧ q ≠ 1) = true) := fun _ => by simp [h1, h2]
      go_enter Tryz.func61, Tryz.ntmps61
      go_wp2_with fail
      refine (cA _).mono ?_
      rintro e w' ⟨rfl, rfl⟩
      go_wp2_with fail
      refine (cB _).mono ?_
      rintro e w' ⟨rfl, rfl⟩
      go_wp2
      go_ret
      exact ⟨by rw [HY.out ()]; rfl, rfl⟩
set_option maxHeartbeats 1000000 in
set_option maxRecDepth 100000 in
theorem iEqual (a b : Nat) (w : World) (ha : a < 18446744073709551616) (hb : b < 18446744073709551616) :
    Calls Tryz.prog 43 #[.int .u64 a, .int .u64 b] w fun e w' => e = .returned (.bool (equalN a b)) ∧ Below w.heap.size w w' := by
  have cC := fun W => iCompares a b W
  have cA := fun W => iRank a W ha
  have cB := fun W => iRank b W hb
  clear ha hb
  have HE : Hid (Unit → equalN a b = (decide (kindN a ≠ 1 ∧ kindN b ≠ 1) && (keyN a == keyN b))) := fun _ => by
    rw [equalN, Bool.eq_iff_iff]
    simp [and_assoc]
  rw [HE.out ()]
  clear HE
  obtain ⟨c, hc⟩ : ∃ c, decide (kindN a ≠ 1 ∧ kindN b ≠ 1) = c := ⟨_, rfl⟩
  obtain ⟨p, hp⟩ : ∃ p, keyN a = p := ⟨_, rfl⟩
  obtain ⟨q, hq⟩ : ∃ q, keyN b = q := ⟨_, rfl⟩
  rw [hc] at cC ⊢
  rw [hp] at cA ⊢
  rw [hq] at cB ⊢
  clear hc hp hq
  cases c
  · go_enter Tryz.func43, Tryz.ntmps43
    go_wp2_with (go_at_call 61; refine (cC _).mono ?_; rintro e w' ⟨rfl, rfl⟩)
    go_ret
    exact ⟨rfl, Below.refl _ _⟩
  · go_enter Tryz.func43, Tryz.ntmps43
    go_wp2_with fail
    refine (cC _).mono ?_
    rintro e w' ⟨rfl, rfl⟩
    go_wp2_with fail
    refine (cA _).mono ?_
    rintro e w' ⟨rfl, rfl⟩
    go_wp2_with fail
    refine (cB _).mono ?_
    rintro e w' ⟨rfl, rfl⟩
    go_wp2
    go_ret
    exact ⟨rfl, Below.refl _ _⟩
set_option maxHeartbeats 1000000 in
set_option maxRecDepth 100000 in
theorem iLess (a b : Nat) (w : World) (ha : a < 18446744073709551616) (hb : b < 18446744073709551616) :
    Calls Tryz.prog 95 #[.int .u64 a, .int .u64 b] w fun e w' => e = .returned (.bool (lessN a b)) ∧ Below w.heap.size w w' := by
  have cC := fun W => iCompares a b W
  have cA := fun W => iRank a W ha
  have cB := fun W => iRank b W hb
  clear ha hb
  have HE : Hid (Unit → lessN a b = (decide (kindN a ≠ 1 ∧ kindN b ≠ 1) && decide (keyN a < keyN b))) := fun _ => by
    rw [lessN, Bool.eq_iff_iff]
    simp [and_assoc]
  rw [HE.out ()]
  clear HE
  obtain ⟨c, hc⟩ : ∃ c, decide (kindN a ≠ 1 ∧ kindN b ≠ 1) = c := ⟨_, rfl⟩
  obtain ⟨p, hp⟩ : ∃ p, keyN a = p := ⟨_, rfl⟩
  obtain ⟨q, hq⟩ : ∃ q, keyN b = q := ⟨_, rfl⟩
  rw [hc] at cC ⊢
  rw [hp] at cA ⊢
  rw [hq] at cB ⊢
  clear hc hp hq
  cases c
  · go_enter Tryz.func95, Tryz.ntmps95
    go_wp2_with (go_at_call 61; refine (cC _).mono ?_; rintro e w' ⟨rfl, rfl⟩)
    go_ret
    exact ⟨rfl, Below.refl _ _⟩
  · go_enter Tryz.func95, Tryz.ntmps95
    go_wp2_with fail
    refine (cC _).mono ?_
    rintro e w' ⟨rfl, rfl⟩
    go_wp2_with fail
    refine (cA _).mono ?_
    rintro e w' ⟨rfl, rfl⟩
    go_wp2_with fail
    refine (cB _).mono ?_
    rintro e w' ⟨rfl, rfl⟩
    go_wp2
    go_ret
    exact ⟨rfl, Below.refl _ _⟩
end Go.Proofs.YtcdbifcidaafnaaGreatDoor
namespace Go.Proofs.YtcdbifcidaafnaaGreatDoor
open Go.RowKit Go.Sort
set_option linter.unusedVariables false
set_option linter.unusedSimpArgs false
theorem tri_cells {w : World} {g : Nat} {a0 a1 a2 : Value} {t : TypeId} {r : Nat × Nat} (h : w.heap[g]? = some (.cells #[a0, a1, a2] t r)) :
    w.cell? ⟨g, 0, none⟩ = some a0 ∧ w.cell? ⟨g, 1, none⟩ = some a1 ∧ w.cell? ⟨g, 2, none⟩ = some a2 := by
  refine ⟨?_, ?_, ?_⟩ <;> (rw [cell_of_row _ _ _ _ _ _ h]; rfl)
theorem tri_put {w : World} {g : Nat} {a0 a1 a2 b0 b1 b2 : Value} {t : TypeId} (h : w.heap[g]? = some (.cells #[a0, a1, a2] t)) :
    (((w.setCell ⟨g, 0, none⟩ b0).setCell ⟨g, 1, none⟩ b1).setCell ⟨g, 2, none⟩ b2).heap[g]? = some (.cells #[b0, b1, b2] t) := by
  have k0 : (w.setCell ⟨g, 0, none⟩ b0).heap[g]? = some (.cells #[b0, a1, a2] t) := heap_setCell_same _ _ _ _ _ _ h
  have k1 := heap_setCell_same _ _ 1 _ _ b1 k0
  exact heap_setCell_same _ _ 2 _ _ b2 k1
theorem tri_ready {w w1 : World} {G B : Nat} {a0 a1 a2 b0 b1 b2 : Value} {t : TypeId} (u : w1.heap[G]? = some (.cells #[a0, a1, a2] t)) (hb : Below B w w1) (hG : B ≤ G) :
    (w1.cell? ⟨G, 0, none⟩ = some a0 ∧ w1.cell? ⟨G, 1, none⟩ = some a1 ∧ w1.cell? ⟨G, 2, none⟩ = some a2) ∧ (∀ j, w1.frozen? ⟨G, j, none⟩ = false) ∧
    ((((w1.setCell ⟨G, 0, none⟩ b0).setCell ⟨G, 1, none⟩ b1).setCell ⟨G, 2, none⟩ b2).cell? ⟨G, 0, none⟩ = some b0 ∧ (((w1.setCell ⟨G, 0, none⟩ b0).setCell ⟨G, 1, none⟩ b1).setCell ⟨G, 2, none⟩ b2).cell? ⟨G, 1, none⟩ = some b1 ∧ (((w1.setCell ⟨G, 0, none⟩ b0).setCell ⟨G, 1, none⟩ b1).setCell ⟨G, 2, none⟩ b2).cell? ⟨G, 2, none⟩ = some b2) ∧
    Below B w (((w1.setCell ⟨G, 0, none⟩ b0).setCell ⟨G, 1, none⟩ b1).setCell ⟨G, 2, none⟩ b2) :=
  ⟨tri_cells u, fun j => frozen_of_row w1 G j _ _ u, tri_cells (tri_put u), ((hb.setCell (p := ⟨G, 0, none⟩) hG b0).setCell (p := ⟨G, 1, none⟩) hG b1).setCell (p := ⟨G, 2, none⟩) hG b2⟩
set_option maxHeartbeats 1000000 in
set_option maxRecDepth 100000 in
theorem iOrderText (s u : ByteArray) (w : World) :
    Calls Tryz.prog 80 #[.string s, .string u] w fun e w' => e = .returned (.agg #[.bool (Op.bytesLess s.toList u.toList), .bool (s.toList == u.toList), .bool (!Op.bytesLess s.toList u.toList && !(s.toList == u.toList))]) ∧ Below w.heap.size w w' := by
  obtain ⟨⟨c0, c1, c2⟩, fz, ⟨g0, g1, g2⟩, hbe⟩ := tri_ready (b0 := .bool (Op.bytesLess s.toList u.toList)) (b1 := .bool (s.toList == u.toList)) (b2 := .bool (!Op.bytesLess s.toList u.toList && !(s.toList == u.toList))) (heap_alloc_new w (.cells #[.bool false, .bool false, .bool false] 119)) ((Below.refl w.heap.size w).alloc (Nat.le_refl _) _) (Nat.le_refl _)
  obtain ⟨L, hL⟩ : ∃ b, Op.bytesLess s.toList u.toList = b := ⟨_, rfl⟩
  obtain ⟨E, hE⟩ : ∃ b, (s.toList == u.toList) = b := ⟨_, rfl⟩
  simp only [hL, hE] at g0 g1 g2 hbe ⊢
  have hbO : ∀ (a b c : Bool) W, (Instr.build 119 #[(0, .bool a), (1, .bool b), (2, .bool c)]).run Tryz.prog W = .ok (.agg #[.bool a, .bool b, .bool c]) W := fun a b c W => run_build W 119 _ _ (by kernel_rfl)
  go_enter Tryz.func80, Tryz.ntmps80
  go_wp2
  refine bodyPost_ret (by simp [results, Tryz.results80, go_sem, hL, hE, g0, g1, g2]; try rfl) rfl ?_
  refine ⟨?_, ?_⟩
  · first | rfl | trivial
  · exact (Below.refl _ _).alloc (Nat.le_refl _) _
set_option maxHeartbeats 1000000 in
set_option maxRecDepth 100000 in
theorem iOrderNum (x y : Nat) (w : World) (hx : x < 18446744073709551616) (hy : y < 18446744073709551616) :
    Calls Tryz.prog 78 #[.int .u64 (x : Int), .int .u64 (y : Int)] w fun e w' => e = .returned (.agg #[.bool (lessN x y), .bool (equalN x y), .bool (lessN y x)]) ∧ Below w.heap.size w w' := by
  have cL := fun W => iLess x y W hx hy
  have cG := fun W => iLess y x W hy hx
  have cE := fun W => iEqual x y W hx hy
  clear hx hy
  obtain ⟨L, hL⟩ : ∃ b, lessN x y = b := ⟨_, rfl⟩
  obtain ⟨E, hE⟩ : ∃ b, equalN x y = b := ⟨_, rfl⟩
  obtain ⟨K, hK⟩ : ∃ b, lessN y x = b := ⟨_, rfl⟩
  simp only [hL, hE, hK] at cL cG cE ⊢
  clear hL hE hK
  have h0 := heap_alloc_new w (.cells #[.bool false, .bool false, .bool false] 119)
  have b0 : Below w.heap.size w (w.alloc (.cells #[.bool false, .bool false, .bool false] 119)) := (Below.refl w.heap.size w).alloc (Nat.le_refl _) _
  have hl0 : w.heap.size < (w.alloc (.cells #[.bool false, .bool false, .bool false] 119)).heap.size := by simp
  have hbO : ∀ (a b c : Bool) W, (Instr.build 119 #[(0, .bool a), (1, .bool b), (2, .bool c)]).run Tryz.prog W = .ok (.agg #[.bool a, .bool b, .bool c]) W := fun a b c W => run_build W 119 _ _ (by kernel_rfl)
  go_enter Tryz.func78, Tryz.ntmps78
  go_wp2_with (first
    | (go_at_call 95; (with_reducible refine (cL _).mono ?_); rintro e w1 ⟨rfl, b1⟩)
    | (go_at_call 43; (with_reducible refine (cE _).mono ?_); rintro e w2 ⟨rfl, b2⟩)
    | (go_at_call 95; (with_reducible refine (cG _).mono ?_); rintro e w3 ⟨rfl, b3⟩; obtain ⟨⟨c0, c1, c2⟩, fz, ⟨g0, g1, g2⟩, hbe⟩ := tri_ready (w1 := w3) (G := w.heap.size) (b0 := .bool L) (b1 := .bool E) (b2 := .bool K) (((chain b1 (chain b2 b3)).block w.heap.size hl0).trans h0) (chain b0 (chain b1 (chain b2 b3))) (Nat.le_refl _)))
  refine bodyPost_ret (by simp [results, Tryz.results78, go_sem, g0, g1, g2]; try rfl) rfl ?_
  exact ⟨rfl, hbe⟩
def holdU (op : Int) (l s g : Bool) : Value :=
  if op = 6 then .tuple #[.iface 80 (.bool l), .nilIface]
  else if op = 7 then .tuple #[.iface 80 (.bool (l || s)), .nilIface]
  else if op = 8 then .tuple #[.iface 80 (.bool g), .nilIface]
  else if op = 9 then .tuple #[.iface 80 (.bool (g || s)), .nilIface]
  else .tuple #[.nilIface, .iface 85 (.agg #[.string typeS])]
set_option maxHeartbeats 1000000 in
set_option maxRecDepth 100000 in
theorem iHoldsFor (op : Int) (l s g : Bool) (w : World) :
    Calls Tryz.prog 79 #[.agg #[.bool l, .bool s, .bool g], .int .i64 op] w fun e w' => e = .returned (holdU op l s g) ∧ Below w.heap.size w w' := by
  have b0 : Below w.heap.size w (w.alloc (.cells #[.bool l, .bool s, .bool g] 119)) := (Below.refl w.heap.size w).alloc (Nat.le_refl _) _
  obtain ⟨c0, c1, c2⟩ := tri_cells (heap_alloc_new w (.cells #[.bool l, .bool s, .bool g] 119))
  have hbM : ∀ (t : ByteArray) W, (Instr.build 85 #[(0, .string t)]).run Tryz.prog W = .ok (.agg #[.string t]) W := fun t W => run_build W 85 _ _ (by kernel_rfl)
  unfold holdU
  by_cases h6 : op = 6
  · subst h6
    rw [if_pos rfl]
    go_enter Tryz.func79, Tryz.ntmps79
    go_wp2
    go_ret2
    exact ⟨rfl, b0⟩
  rw [if_neg h6]
  by_cases h7 : op = 7
  · subst h7
    rw [if_pos rfl]
    cases l
    all_goals
      go_enter Tryz.func79, Tryz.ntmps79
      go_wp2
      go_ret2
      exact ⟨rfl, b0⟩
  rw [if_neg h7]
  by_cases h8 : op = 8
  · subst h8
    rw [if_pos rfl]
    go_enter Tryz.func79, Tryz.ntmps79
    go_wp2
    go_ret2
    exact ⟨rfl, b0⟩
  rw [if_neg h8]
  by_cases h9 : op = 9
  · subst h9
    rw [if_pos rfl]
    cases g
    all_goals
      go_enter Tryz.func79, Tryz.ntmps79
      go_wp2
      go_ret2
      exact ⟨rfl, b0⟩
  rw [if_neg h9]
  have e6 : (op == 6) = false := by rw [beq_eq_false_iff_ne]; exact h6
  have e7 : (op == 7) = false := by rw [beq_eq_false_iff_ne]; exact h7
  have e8 : (op == 8) = false := by rw [beq_eq_false_iff_ne]; exact h8
  have e9 : (op == 9) = false := by rw [beq_eq_false_iff_ne]; exact h9
  go_enter Tryz.func79, Tryz.ntmps79
  go_wp2
  go_ret2
  exact ⟨rfl, b0⟩
def DoneIs (r : PVal × ByteArray) (u : Value) : Prop :=
  (∃ T v fv, Cont17 r.1 T v fv ∧ cvP r.1 = r.1 ∧ r.2 = ⟨#[]⟩ ∧ u = .tuple #[.iface T v, .nilIface]) ∨ (r.1 = noneV ∧ u = .tuple #[.nilIface, .iface 85 (.agg #[.string r.2])])
theorem done_truth (b : Bool) : DoneIs (boolV b, ⟨#[]⟩) (.tuple #[.iface 80 (.bool b), .nilIface]) :=
  .inl ⟨_, _, _, .inr (.inl ⟨rfl, rfl, rfl, rfl⟩), by cases b <;> rfl, rfl, by cases b <;> rfl⟩
theorem done_num (n : Nat) : DoneIs (numV n, ⟨#[]⟩) (.tuple #[.iface 64 (.int .u64 (n : Int)), .nilIface]) :=
  .inl ⟨_, _, _, .inr (.inr (.inl ⟨rfl, rfl, rfl, rfl⟩)), rfl, rfl, rfl⟩
theorem done_text (s : ByteArray) : DoneIs (textV s, ⟨#[]⟩) (.tuple #[.iface 81 (.string s), .nilIface]) :=
  .inl ⟨_, _, _, .inr (.inr (.inr (.inl ⟨rfl, rfl, rfl, rfl⟩))), rfl, rfl, rfl⟩
theorem done_no (s : ByteArray) : DoneIs (noneV, s) (.tuple #[.nilIface, .iface 85 (.agg #[.string s])]) := .inr ⟨rfl, rfl⟩
theorem in_69 {op : Int} : inB op 6 9 = true ↔ op = 6 ∨ op = 7 ∨ op = 8 ∨ op = 9 := by
  unfold inB
  simp only [Bool.and_eq_true, decide_eq_true_eq]
  omega
theorem hold_is (op : Int) (l s g n : Bool) (hg : g = (!n && (!l && !s))) (hn : n = true → l = false ∧ s = false) (hls : l = true → s = false) :
    DoneIs (if inB op 6 9 = true then (boolV (orderB op l s n), ⟨#[]⟩) else (noneV, typeS)) (holdU op l s g) := by
  unfold holdU
  by_cases h6 : op = 6
  · subst h6
    exact done_truth l
  rw [if_neg h6]
  by_cases h7 : op = 7
  · subst h7
    exact done_truth (l || s)
  rw [if_neg h7]
  by_cases h8 : op = 8
  · subst h8
    rw [hg]
    exact done_truth _
  rw [if_neg h8]
  by_cases h9 : op = 9
  · subst h9
    have e : (g || s) = (!n && !l) := by
      subst hg
      cases n with
      | true => obtain ⟨rfl, rfl⟩ := hn rfl; rfl
      | false =>
        cases l with
        | true => obtain rfl := hls rfl; rfl
        | false => cases s <;> rfl
    rw [e]
    exact done_truth _
  rw [if_neg h9, if_neg (fun h => by have := in_69.1 h; omega)]
  exact done_no typeS
end Go.Proofs.YtcdbifcidaafnaaGreatDoor
namespace Go.Proofs.YtcdbifcidaafnaaGreatDoor
open Go.RowKit Go.Sort
set_option linter.unusedVariables false
theorem bool_all {a b c d : Bool} (h : (a && (b && c)) = d) : (a = false ∧ d = false) ∨ (a = true ∧ b = false ∧ d = false) ∨ (a = true ∧ b = true ∧ c = d) := by
  subst h
  cases a <;> cases b <;> simp
theorem stoodValue17 : Tryz.prog.stoodInHeld 26 = false := by kernel_rfl
set_option maxHeartbeats 2000000 in
set_option maxRecDepth 100000 in
theorem iValueOk_any (p : PVal) (w : World) (hp : valW p) :
    Calls Tryz.prog 9 #[.agg #[.int .i64 p.kind, .int .u64 (p.num : Int), .string p.text, .int .i64 p.ref]] w fun e w' => e = .returned (.bool (valOk p)) ∧ Below w.heap.size w w' := by
  obtain ⟨T, v, fv, hc⟩ := cont17_some p
  have cC := fun W => iContentAs hc W
  have cV := fun W => iValueOf hc W
  have hE := fun W => eqFour (cvP p) p W
  obtain ⟨d, hd⟩ : ∃ d, valOk p = d := ⟨_, rfl⟩
  have hx := bool_all ((ok17 p).trans hd)
  rw [hd]
  have hl := hp.2.2.1
  obtain ⟨q, hq⟩ : ∃ q, cvP p = q := ⟨_, rfl⟩
  simp only [hq] at cV hE hx
  clear hq hd hp
  obtain ⟨B, hB⟩ : ∃ B, eqP q p = B := ⟨_, rfl⟩
  simp only [hB] at hE hx
  clear hB
  obtain ⟨k, x, s, r⟩ := p
  obtain ⟨qk, qx, qs, qr⟩ := q
  simp only at cC cV hE hx hl ⊢
  unfold maxLen at hl
  have hst := stoodValue17
  have c0 := fun W (h : Below (w.alloc (.cells #[.int .i64 k, .int .u64 (x : Int), .string s, .int .i64 r] 26)).heap.size (w.alloc (.cells #[.int .i64 k, .int .u64 (x : Int), .string s, .int .i64 r] 26)) W) => four_cells ((h.block w.heap.size (by simp)).trans (heap_alloc_new w _))
  have b0 : Below w.heap.size w (w.alloc (.cells #[.int .i64 k, .int .u64 (x : Int), .string s, .int .i64 r] 26)) := (Below.refl _ _).alloc (Nat.le_refl _) _
  obtain ⟨W0, hW0⟩ : ∃ W, (w.alloc (.cells #[.int .i64 k, .int .u64 (x : Int), .string s, .int .i64 r] 26)) = W := ⟨_, rfl⟩
  rw [hW0] at c0 b0
  obtain ⟨X, hX⟩ : ∃ X, w.heap.size = X := ⟨_, rfl⟩
  simp only [hX] at c0
  have HW : Hid (_ = W0) := hW0
  have HX : Hid (w.heap.size = X) := hX
  have HB0 : Hid (Below w.heap.size w W0) := b0
  have HK : Hid (∀ W, Below W0.heap.size W0 W → W.cell? ⟨X, 0, none⟩ = some (.int .i64 k) ∧ W.cell? ⟨X, 1, none⟩ = some (.int .u64 (x : Int)) ∧ W.cell? ⟨X, 2, none⟩ = some (.string s) ∧ W.cell? ⟨X, 3, none⟩ = some (.int .i64 r)) := c0
  obtain ⟨p0, p1, p2, p3⟩ := c0 W0 (Below.refl _ _)
  clear hW0 hX c0 b0
  go_enter Tryz.func9, Tryz.ntmps9
  go_upto_region 1 with fail
  rw [HW.out]
  clear HW
  try simp only [HX.out]
  rcases hc with ⟨_, rfl, rfl, rfl⟩ | ⟨_, rfl, rfl, rfl⟩ | ⟨_, rfl, rfl, rfl⟩ | ⟨_, rfl, rfl, rfl⟩ | ⟨_, rfl, rfl, rfl⟩ | ⟨_, rfl, rfl, rfl⟩
  all_goals
    have tC := fun d os => Calls.regrown_of (w := W0) (d := d) (os := os) (cC (grow (redrawn W0 d) os))
    have tV := fun d os => Calls.regrown_of (w := W0) (d := d) (os := os) (cV (grow (redrawn W0 d) os))
    clear cC cV
    have r0 := cell_regrown p0
    have r1 := cell_regrown p1
    have r2 := cell_regrown p2
    have r3 := cell_regrown p3
    clear p0 p1 p2 p3
    rcases hx with ⟨rfl, rfl⟩ | ⟨rfl, h2, rfl⟩ | ⟨rfl, h2, rfl⟩
    · refine wp_region_quiet_below (by kernel_rfl) (by kernel_rfl) ?_
      quiet_step (with_reducible exact tC _ _)
      quiet_step (with_reducible exact tC _ _)
      quiet_step ((go_invoke; go_simp; with_reducible exact tV _ _))
      iterate 14 (quiet_step (with_reducible exact tC _ _))
      refine wpQuiet_nil ?_
      intro _ hw'
      obtain ⟨⟨dq, osq⟩, hw''⟩ := hw'
      subst hw''
      have HB1 : Hid (Below w.heap.size w (grow (redrawn W0 dq) osq)) := chain HB0.out (below_regrown W0 dq osq)
      clear r0 r1 r2 r3 HK hE
      go_wp2
      go_ret
      exact ⟨rfl, HB1.out⟩
    · have h3 : ¬ (s.size : Int) ≤ 200 := by
        have := of_decide_eq_false h2
        omega
      clear h2
      refine wp_region_quiet_below (by kernel_rfl) (by kernel_rfl) ?_
      quiet_step (with_reducible exact tC _ _)
      quiet_step (with_reducible exact tC _ _)
      quiet_step ((go_invoke; go_simp; with_reducible exact tV _ _))
      iterate 14 (quiet_step (with_reducible exact tC _ _))
      refine wpQuiet_nil ?_
      intro _ hw'
      obtain ⟨⟨dq, osq⟩, hw''⟩ := hw'
      subst hw''
      have HB1 : Hid (Below w.heap.size w (grow (redrawn W0 dq) osq)) := chain HB0.out (below_regrown W0 dq osq)
      clear r0 r1 r2 r3 HK hE
      go_wp2
      go_ret
      exact ⟨rfl, HB1.out⟩
    · have h3 : (s.size : Int) ≤ 200 := by
        have := of_decide_eq_true h2
        omega
      clear h2
      refine wp_region_quiet_below (by kernel_rfl) (by kernel_rfl) ?_
      quiet_step (with_reducible exact tC _ _)
      quiet_step (with_reducible exact tC _ _)
      quiet_step ((go_invoke; go_simp; with_reducible exact tV _ _))
      iterate 14 (quiet_step (with_reducible exact tC _ _))
      refine wpQuiet_nil ?_
      intro _ hw'
      obtain ⟨⟨dq, osq⟩, hw''⟩ := hw'
      subst hw''
      have HB1 : Hid (Below w.heap.size w (grow (redrawn W0 dq) osq)) := chain HB0.out (below_regrown W0 dq osq)
      clear r0 r1 r2 r3 HK hE
      go_wp2
      go_ret
      exact ⟨rfl, HB1.out⟩
end Go.Proofs.YtcdbifcidaafnaaGreatDoor
