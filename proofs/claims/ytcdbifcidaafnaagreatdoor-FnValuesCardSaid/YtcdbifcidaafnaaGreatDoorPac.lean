/-
  Part 3 of what is proved of drawn right trees.
-/
import Derived.Test.YtcdbifcidaafnaaGreatDoorPab
import Derived.Test.YtcdbifcidaafnaaGreatDoorRows
import Derived.Test.YtcdbifcidaafnaaGreatDoorPaa
import Derived.Deep.QuietTactic
import Derived.BigQuiet
import Derived.OpenShut
import Derived.Lib.Strings
import Derived.Deep.RegionLaw
import Derived.Lib.ItoaNum
import Derived.WalkKit
import Derived.Deep.DeepCutAuto
import Derived.Deep.CutBlock
import Derived.Deep.CutRange
import Derived.Deep.RegionWith

namespace Go.Proofs.YtcdbifcidaafnaaGreatDoor
open Go.RowKit Go.Sort
set_option linter.unusedVariables false
theorem four_cells {w : World} {g : Nat} {a0 a1 a2 a3 : Value} {t : TypeId} {r : Nat × Nat} (h : w.heap[g]? = some (.cells #[a0, a1, a2, a3] t r)) :
    w.cell? ⟨g, 0, none⟩ = some a0 ∧ w.cell? ⟨g, 1, none⟩ = some a1 ∧ w.cell? ⟨g, 2, none⟩ = some a2 ∧ w.cell? ⟨g, 3, none⟩ = some a3 := by
  refine ⟨?_, ?_, ?_, ?_⟩ <;> (rw [cell_of_row _ _ _ _ _ _ h]; rfl)
theorem four_put {w : World} {g : Nat} {a0 a1 a2 a3 b0 b1 b2 b3 : Value} {t : TypeId} (h : w.heap[g]? = some (.cells #[a0, a1, a2, a3] t)) :
    ((((w.setCell ⟨g, 0, none⟩ b0).setCell ⟨g, 1, none⟩ b1).setCell ⟨g, 2, none⟩ b2).setCell ⟨g, 3, none⟩ b3).heap[g]? = some (.cells #[b0, b1, b2, b3] t) := by
  have k0 : (w.setCell ⟨g, 0, none⟩ b0).heap[g]? = some (.cells #[b0, a1, a2, a3] t) := heap_setCell_same _ _ _ _ _ _ h
  have k1 := heap_setCell_same _ _ 1 _ _ b1 k0
  have k2 : _ = some (Obj.cells #[b0, b1, b2, a3] t) := heap_setCell_same _ _ 2 _ _ b2 k1
  exact heap_setCell_same _ _ 3 _ _ b3 k2
theorem four_ready {w w1 : World} {G : Nat} {B : Nat} {a0 a1 a2 a3 b0 b1 b2 b3 : Value} {t : TypeId} (u : w1.heap[G]? = some (.cells #[a0, a1, a2, a3] t)) (hb : Below B w w1) (hG : B ≤ G) :
    (w1.cell? ⟨G, 0, none⟩ = some a0 ∧ w1.cell? ⟨G, 1, none⟩ = some a1 ∧ w1.cell? ⟨G, 2, none⟩ = some a2 ∧ w1.cell? ⟨G, 3, none⟩ = some a3) ∧ (∀ j, w1.frozen? ⟨G, j, none⟩ = false) ∧
    (((((w1.setCell ⟨G, 0, none⟩ b0).setCell ⟨G, 1, none⟩ b1).setCell ⟨G, 2, none⟩ b2).setCell ⟨G, 3, none⟩ b3).cell? ⟨G, 0, none⟩ = some b0 ∧ ((((w1.setCell ⟨G, 0, none⟩ b0).setCell ⟨G, 1, none⟩ b1).setCell ⟨G, 2, none⟩ b2).setCell ⟨G, 3, none⟩ b3).cell? ⟨G, 1, none⟩ = some b1 ∧ ((((w1.setCell ⟨G, 0, none⟩ b0).setCell ⟨G, 1, none⟩ b1).setCell ⟨G, 2, none⟩ b2).setCell ⟨G, 3, none⟩ b3).cell? ⟨G, 2, none⟩ = some b2 ∧ ((((w1.setCell ⟨G, 0, none⟩ b0).setCell ⟨G, 1, none⟩ b1).setCell ⟨G, 2, none⟩ b2).setCell ⟨G, 3, none⟩ b3).cell? ⟨G, 3, none⟩ = some b3) ∧
    Below B w ((((w1.setCell ⟨G, 0, none⟩ b0).setCell ⟨G, 1, none⟩ b1).setCell ⟨G, 2, none⟩ b2).setCell ⟨G, 3, none⟩ b3) :=
  ⟨four_cells u, fun j => frozen_of_row w1 G j _ _ u, four_cells (four_put u), (((hb.setCell (p := ⟨G, 0, none⟩) hG b0).setCell (p := ⟨G, 1, none⟩) hG b1).setCell (p := ⟨G, 2, none⟩) hG b2).setCell (p := ⟨G, 3, none⟩) hG b3⟩
def orderB (op : Int) (less same none : Bool) : Bool := if op = 6 then less else if op = 7 then less || same else if op = 8 then !none && (!less && !same) else !none && !less
theorem two_made (w : World) (o1 o2 : Obj) : ((w.alloc o1).alloc o2).heap[w.heap.size]? = some o1 ∧ ((w.alloc o1).alloc o2).heap[w.heap.size + 1]? = some o2 ∧ ((w.alloc o1).alloc o2).heap.size = w.heap.size + 2 ∧ Below w.heap.size w ((w.alloc o1).alloc o2) := by
  have z1 : (w.alloc o1).heap.size = w.heap.size + 1 := by simp
  refine ⟨?_, ?_, by simp, ((Below.refl _ _).alloc (Nat.le_refl _) _).alloc (by simp) _⟩
  · rw [heap_alloc_old (r := w.heap.size) _ _ (by omega)]
    exact heap_alloc_new _ _
  · rw [← z1]
    exact heap_alloc_new _ _
set_option maxHeartbeats 1000000 in
set_option maxRecDepth 100000 in
theorem l17Order_any (op : Int) (l s n : Bool) (w : World) : Calls Tryz.prog 31 #[.int .i64 op, .bool l, .bool s, .bool n] w fun e w' => e = .returned (.agg #[.int .i64 1, .int .u64 (bitN (orderB op l s n) : Int), .string ⟨#[]⟩, .int .i64 0]) ∧ Below w.heap.size w w' := by
  have hb0 : Below w.heap.size w (w.alloc (.cells #[.int .i64 0, .int .u64 0, .string ⟨#[]⟩, .int .i64 0] 26)) := (Below.refl _ _).alloc (Nat.le_refl _) _
  obtain ⟨b, hbb⟩ : ∃ b, orderB op l s n = b := ⟨_, rfl⟩
  have cB := fun W => l17Bool_any b W
  rw [hbb]
  obtain ⟨N, hN⟩ : ∃ N, bitN b = N := ⟨_, rfl⟩
  simp only [hN] at cB ⊢
  clear hN
  unfold orderB at hbb
  by_cases k6 : op = 6
  · subst k6
    rw [if_pos rfl] at hbb
    subst hbb
    go_enter Tryz.func31, Tryz.ntmps31
    go_wp2_with (go_at_call 28; refine (cB _).mono ?_; rintro e w1 ⟨rfl, b1⟩; obtain ⟨⟨c0, c1, c2, c3⟩, fz, ⟨g0, g1, g2, g3⟩, hbe⟩ := four_ready (b0 := .int .i64 1) (b1 := .int .u64 (N : Int)) (b2 := .string ⟨#[]⟩) (b3 := .int .i64 0) ((b1.block w.heap.size (by simp)).trans (heap_alloc_new w _)) (chain hb0 b1) (Nat.le_refl _))
    refine bodyPost_ret (by simp [results, Tryz.results31, go_sem, g0, g1, g2, g3]; try rfl) rfl ?_
    exact ⟨rfl, hbe⟩
  by_cases k7 : op = 7
  · subst k7
    rw [if_neg (by decide), if_pos rfl] at hbb
    cases l <;> cases s <;> (simp at hbb; subst hbb)
    all_goals
      go_enter Tryz.func31, Tryz.ntmps31
      go_wp2_with (go_at_call 28; refine (cB _).mono ?_; rintro e w1 ⟨rfl, b1⟩; obtain ⟨⟨c0, c1, c2, c3⟩, fz, ⟨g0, g1, g2, g3⟩, hbe⟩ := four_ready (b0 := .int .i64 1) (b1 := .int .u64 (N : Int)) (b2 := .string ⟨#[]⟩) (b3 := .int .i64 0) ((b1.block w.heap.size (by simp)).trans (heap_alloc_new w _)) (chain hb0 b1) (Nat.le_refl _))
      refine bodyPost_ret (by simp [results, Tryz.results31, go_sem, g0, g1, g2, g3]; try rfl) rfl ?_
      exact ⟨rfl, hbe⟩
  by_cases k8 : op = 8
  · subst k8
    rw [if_neg (by decide), if_neg (by decide), if_pos rfl] at hbb
    cases l <;> cases s <;> cases n <;> (simp at hbb; subst hbb)
    all_goals
      go_enter Tryz.func31, Tryz.ntmps31
      go_wp2_with (go_at_call 28; refine (cB _).mono ?_; rintro e w1 ⟨rfl, b1⟩; obtain ⟨⟨c0, c1, c2, c3⟩, fz, ⟨g0, g1, g2, g3⟩, hbe⟩ := four_ready (b0 := .int .i64 1) (b1 := .int .u64 (N : Int)) (b2 := .string ⟨#[]⟩) (b3 := .int .i64 0) ((b1.block w.heap.size (by simp)).trans (heap_alloc_new w _)) (chain hb0 b1) (Nat.le_refl _))
      refine bodyPost_ret (by simp [results, Tryz.results31, go_sem, g0, g1, g2, g3]; try rfl) rfl ?_
      exact ⟨rfl, hbe⟩
  rw [if_neg k6, if_neg k7, if_neg k8] at hbb
  cases l <;> cases n <;> (simp at hbb; subst hbb)
  all_goals
    go_enter Tryz.func31, Tryz.ntmps31
    go_wp2_with (go_at_call 28; refine (cB _).mono ?_; rintro e w1 ⟨rfl, b1⟩; obtain ⟨⟨c0, c1, c2, c3⟩, fz, ⟨g0, g1, g2, g3⟩, hbe⟩ := four_ready (b0 := .int .i64 1) (b1 := .int .u64 (N : Int)) (b2 := .string ⟨#[]⟩) (b3 := .int .i64 0) ((b1.block w.heap.size (by simp)).trans (heap_alloc_new w _)) (chain hb0 b1) (Nat.le_refl _))
    refine bodyPost_ret (by simp [results, Tryz.results31, go_sem, g0, g1, g2, g3]; try rfl) rfl ?_
    exact ⟨rfl, hbe⟩
end Go.Proofs.YtcdbifcidaafnaaGreatDoor
namespace Go.Proofs.YtcdbifcidaafnaaGreatDoor
open Go.RowKit
set_option linter.unusedVariables false
theorem i64_and255 (n : Int) : bits .and .i64 n 255 = n % 256 := by
  have h127 : (BitVec.ofInt 64 255).toNat = 2 ^ 8 - 1 := by decide
  have key : (BitVec.ofInt 64 n &&& BitVec.ofInt 64 255).toNat = (n % ((2 ^ 64 : Nat) : Int)).toNat % 2 ^ 8 := by
    rw [BitVec.toNat_and, BitVec.toNat_ofInt, h127, Nat.and_two_pow_sub_one_eq_mod]
  show IntKind.i64.wrap ((BitVec.ofInt 64 n &&& BitVec.ofInt 64 255).toNat : Nat) = n % 256
  rw [key, IntKind.wrap_i64]
  omega
theorem and255_nat (n : Int) : ∃ x : Nat, x < 256 ∧ bits .and .i64 n 255 = (x : Int) := ⟨(n % 256).toNat, by omega, by rw [i64_and255]; omega⟩
def CodeIn (w : World) (ac : Option Addr) (len g : Nat) : Prop :=
  len ≤ 1048576 ∧ (0 < len → ∃ b off, ac = some ⟨b, off, none⟩ ∧ b ≠ g ∧ b < w.heap.size ∧ ∀ j, j < len → ∃ z : Nat, z < 256 ∧ w.cell? ⟨b, off + j, none⟩ = some (.int .u8 z))
def Cur (ac : Option Addr) (len cap : Nat) (w : World) (g : Nat) : Prop :=
  CodeIn w ac len g ∧ g < w.heap.size ∧ ∃ (i : Nat) (h : Int), i ≤ len ∧ w.heap[g]? = some (.cells #[.slice ac len cap, .int .i64 i, .int .i64 h] 72 (0, 0))
theorem codeIn_kept {w w' : World} {ac : Option Addr} {len g : Nat} (h : CodeIn w ac len g) (hg : w.grownBy w' (some g)) : CodeIn w' ac len g := by
  refine ⟨h.1, fun hp => ?_⟩
  obtain ⟨b, off, e, hb, hlt, hc⟩ := h.2 hp
  refine ⟨b, off, e, hb, Nat.lt_of_lt_of_le hlt hg.size, fun j hj => ?_⟩
  obtain ⟨z, hz, hcz⟩ := hc j hj
  exact ⟨z, hz, hg.cell hcz (by simpa using hb)⟩
theorem cur_cells {w : World} {g : Nat} {a b c : Value} {t : TypeId} (h : w.heap[g]? = some (.cells #[a, b, c] t (0, 0))) :
    w.cell? ⟨g, 0, none⟩ = some a ∧ w.cell? ⟨g, 1, none⟩ = some b ∧ w.cell? ⟨g, 2, none⟩ = some c ∧ ∀ j, w.frozen? ⟨g, j, none⟩ = false := by
  refine ⟨?_, ?_, ?_, fun j => ?_⟩
  · unfold World.cell?; simp only [h]; rfl
  · unfold World.cell?; simp only [h]; rfl
  · unfold World.cell?; simp only [h]; rfl
  · unfold World.frozen?; simp only [h]; simp
theorem grown_set (w : World) (g j : Nat) (v : Value) : w.grownBy (w.setCell ⟨g, j, none⟩ v) (some g) :=
  ⟨rfl, rfl, rfl, by simp, fun k _ hk => heap_setCell_other w ⟨g, j, none⟩ k v (fun e => hk (by simp [e]))⟩
theorem grown_drewN (w : World) (n : Nat) (row : Option Nat) : w.grownBy (w.drewN n) row := ⟨rfl, rfl, rfl, Nat.le_refl _, fun _ _ _ => rfl⟩
set_option maxHeartbeats 1000000 in
set_option maxRecDepth 100000 in
theorem l01Byte_any (ac : Option Addr) (len cap g : Nat) (w : World) (hC : Cur ac len cap w g) :
    Calls Tryz.prog 66 #[.pointer (some ⟨g, 0, none⟩)] w fun e w' => ∃ x : Nat, x < 256 ∧ e = .returned (.int .i64 x) ∧ Cur ac len cap w' g ∧ w.grownBy w' (some g) := by
  obtain ⟨hcode, hlt, i, h, hi, hg⟩ := hC
  obtain ⟨c0, c1, c2, hf⟩ := cur_cells hg
  have f1 := hf 1
  have f2 := hf 2
  clear hf
  go_enter Tryz.func66, Tryz.ntmps66
  go_wp2
  obtain ⟨h1, hh1⟩ : ∃ h1, h1 = wrap64 (wrap64 (h * 6364136223846793005) + 1442695040888963407) := ⟨_, rfl⟩
  rw [← hh1]
  clear hh1
  obtain ⟨W, hW⟩ : ∃ W, W = w.setCell ⟨g, 2, none⟩ (.int .i64 h1) := ⟨_, rfl⟩
  rw [← hW]
  have hgW : W.heap[g]? = some (.cells #[.slice ac len cap, .int .i64 i, .int .i64 h1] 72 (0, 0)) := by rw [hW, heap_setCell_same _ _ _ _ _ _ hg]; rfl
  have grW : w.grownBy W (some g) := by rw [hW]; exact grown_set _ _ _ _
  have codeW := codeIn_kept hcode grW
  clear hW c0 c1 c2 f1 f2 hg hcode
  obtain ⟨c0, c1, c2, hf⟩ := cur_cells hgW
  have f1 := hf 1
  clear hf
  go_quiet (fail)
  go_wp2
  obtain ⟨x0, hx1, hx0⟩ := and255_nat (bits BinOp.xor IntKind.i64 (h1 / 8589934592) (h1 / 35184372088832))
  rw [hx0]
  clear hx0
  have hl : len ≤ 1048576 := codeW.1
  by_cases hil : i < len
  · obtain ⟨b, off, rfl, hbg, hbl, hcs⟩ := codeW.2 (by omega)
    obtain ⟨z, hz, hcz⟩ := hcs i hil
    have hil' : (i : Int) < (len : Int) := by omega
    have hi0 : (0 : Int) ≤ (i : Int) := by omega
    clear hcs
    go_quiet (fail)
    go_wp2
    go_quiet (fail)
    go_wp2
    obtain ⟨x1, hx3, hx2⟩ := and255_nat ((x0 : Int) + (z : Int))
    go_ret
    refine ⟨x1, hx3, by rw [← hx2]; rfl, ⟨codeIn_kept (codeIn_kept codeW (grown_drewN _ _ _)) (grown_set _ _ _ _), ?_, i + 1, h1, by omega, ?_⟩, (grW.trans (grown_drewN _ _ _)).trans (grown_set _ _ _ _)⟩
    · have := grW.size
      simp [World.drewN]; omega
    · rw [heap_setCell_same _ _ _ _ _ _ (show (W.drewN _).heap[g]? = _ from hgW)]; rfl
  · have d : decide ((i : Int) < (len : Int)) = false := by simp; omega
    go_quiet (fail)
    go_wp2
    go_ret
    exact ⟨x0, hx1, rfl, ⟨codeIn_kept (codeIn_kept codeW (grown_drewN _ _ _)) (grown_drewN _ _ _), by have := grW.size; simp [World.drewN]; omega, i, h1, hi, hgW⟩, (grW.trans (grown_drewN _ _ _)).trans (grown_drewN _ _ _)⟩
set_option maxHeartbeats 1000000 in
set_option maxRecDepth 100000 in
theorem l01Below_any (ac : Option Addr) (len cap g : Nat) (n : Int) (w : World) (hC : Cur ac len cap w g) (hn : n ≤ 4294967296) :
    Calls Tryz.prog 48 #[.pointer (some ⟨g, 0, none⟩), .int .i64 n] w fun e w' => ∃ x : Nat, ((x : Int) < n ∨ (n ≤ 0 ∧ x = 0)) ∧ e = .returned (.int .i64 x) ∧ Cur ac len cap w' g ∧ w.grownBy w' (some g) := by
  by_cases h0 : n ≤ 0
  · go_enter Tryz.func48, Tryz.ntmps48
    go_wp2
    go_ret
    exact ⟨0, .inr ⟨h0, rfl⟩, rfl, hC, ⟨rfl, rfl, rfl, Nat.le_refl _, fun _ _ _ => rfl⟩⟩
  · obtain ⟨m, rfl⟩ : ∃ m : Nat, n = m := ⟨n.toNat, by omega⟩
    have hm0 : 0 < m := by omega
    have hmi : (0 : Int) < (m : Int) := by omega
    have hne : ((m : Int) == 0) = false := by rw [beq_eq_false_iff_ne]; omega
    by_cases h256 : m ≤ 256
    · go_enter Tryz.func48, Tryz.ntmps48
      go_wp2_with fail
      refine (l01Byte_any ac len cap g _ hC).mono ?_
      rintro e w1 ⟨x, hx, rfl, hC1, gr1⟩
      have hlt := Nat.mod_lt x hm0
      go_wp2
      go_ret
      exact ⟨x % m, .inl (by omega), ret_int rfl, hC1, gr1⟩
    · have h257 : 256 < m := by omega
      go_enter Tryz.func48, Tryz.ntmps48
      go_wp2_with fail
      refine (l01Byte_any ac len cap g _ hC).mono ?_
      rintro e w1 ⟨x, hx, rfl, hC1, gr1⟩
      go_wp2_with fail
      refine (l01Byte_any ac len cap g _ hC1).mono ?_
      rintro e w2 ⟨y, hy, rfl, hC2, gr2⟩
      go_wp2_with fail
      refine (l01Byte_any ac len cap g _ hC2).mono ?_
      rintro e w3 ⟨z, hz, rfl, hC3, gr3⟩
      go_wp2_with fail
      refine (l01Byte_any ac len cap g _ hC3).mono ?_
      rintro e w4 ⟨q, hq, rfl, hC4, gr4⟩
      have hlt := Nat.mod_lt (x * 16777216 + y * 65536 + z * 256 + q) hm0
      go_wp2
      go_ret
      exact ⟨(x * 16777216 + y * 65536 + z * 256 + q) % m, .inl (by omega), ret_int (by simp), hC4, ((gr1.trans gr2).trans gr3).trans gr4⟩
theorem l01Below_nat (ac : Option Addr) (len cap g n : Nat) (w : World) (hC : Cur ac len cap w g) (h0 : 0 < n) (hn : n ≤ 4294967296) :
    Calls Tryz.prog 48 #[.pointer (some ⟨g, 0, none⟩), .int .i64 n] w fun e w' => ∃ x : Nat, x < n ∧ e = .returned (.int .i64 x) ∧ Cur ac len cap w' g ∧ w.grownBy w' (some g) := by
  refine (l01Below_any ac len cap g n w hC (by omega)).mono fun e w' ⟨x, hx, h⟩ => ⟨x, by omega, h⟩
set_option maxHeartbeats 400000 in
set_option maxRecDepth 100000 in
theorem l01Once_any (ac : Option Addr) (len cap g n : Nat) (w : World) (hC : Cur ac len cap w g) (h0 : 0 < n) (hn : n ≤ 4294967296) :
    Calls Tryz.prog 50 #[.pointer (some ⟨g, 0, none⟩), .int .i64 n] w fun e w' => ∃ b : Bool, e = .returned (.bool b) ∧ Cur ac len cap w' g ∧ w.grownBy w' (some g) := by
  go_enter Tryz.func50, Tryz.ntmps50
  go_wp2_with fail
  refine (l01Below_nat ac len cap g n _ hC h0 hn).mono ?_
  rintro e w1 ⟨x, hx, rfl, hC1, gr1⟩
  go_wp2
  go_ret
  exact ⟨_, rfl, hC1, gr1⟩
theorem cur_new {w : World} {ac : Option Addr} {len cap : Nat} (hc : CodeIn w ac len w.heap.size) (h : Int) : Cur ac len cap (w.alloc (.cells #[.slice ac len cap, .int .i64 0, .int .i64 h] 72)) w.heap.size :=
  ⟨codeIn_kept hc (World.grownBy_alloc _ _ _), by simp, 0, h, Nat.zero_le _, heap_alloc_new w _⟩
set_option maxHeartbeats 1000000 in
set_option maxRecDepth 100000 in
theorem l01New_any (ac : Option Addr) (len cap : Nat) (w : World) (hc : CodeIn w ac len w.heap.size) :
    Calls Tryz.prog 22 #[.slice ac len cap] w fun e w' => ∃ g, e = .returned (.pointer (some ⟨g, 0, none⟩)) ∧ w.heap.size ≤ g ∧ Cur ac len cap w' g ∧ Below w.heap.size w w' := by
  have hl := hc.1
  go_enter Tryz.func22, Tryz.ntmps22
  go_wp2
  go_loop [3, 4] (fun x y => ∃ (h : Int) (i : Nat), i ≤ len ∧ x = .int .i64 h ∧ y = .int .i64 i) (fun _ y => len - (intOf y).toNat)
  case atStart => exact ⟨_, 0, Nat.zero_le _, rfl, rfl⟩
  case round =>
    obtain ⟨h, i, hi, rfl, rfl⟩ := hrel
    by_cases hil : i < len
    · obtain ⟨b, off, rfl, hbg, hbl, hcs⟩ := hc.2 (by omega)
      obtain ⟨z, hz, hcz⟩ := hcs i hil
      have hil' : (i : Int) < (len : Int) := by omega
      have hi0 : (0 : Int) ≤ (i : Int) := by omega
      clear hcs
      by_cases h4 : i < 4000
      · have h4' : (i : Int) < 4000 := by omega
        go_wp2
        go_round
        case rel => exact ⟨_, i + 1, by omega, rfl, by go_num⟩
        case measure => simp [intOf]; omega
      · have d : decide ((i : Int) < 4000) = false := by simp; omega
        go_wp2
        go_ret
        exact ⟨w.heap.size, rfl, Nat.le_refl _, cur_new hc _, (Below.refl _ _).alloc (Nat.le_refl _) _⟩
    · go_wp2
      go_ret
      exact ⟨w.heap.size, rfl, Nat.le_refl _, cur_new hc _, (Below.refl _ _).alloc (Nat.le_refl _) _⟩
end Go.Proofs.YtcdbifcidaafnaaGreatDoor
namespace Go.Proofs.YtcdbifcidaafnaaGreatDoor
open Go.RowKit
set_option linter.unusedVariables false
set_option maxHeartbeats 400000 in
set_option maxRecDepth 100000 in
theorem l01PickInt_any (ac : Option Addr) (len cap g gl c : Nat) (zs : List Int) (w : World) (hC : Cur ac len cap w g) (hgl : gl ≠ g) (h0 : 0 < zs.length) (hn : zs.length ≤ 1000) (hz : ∀ j, j < zs.length → w.cell? ⟨gl, j, none⟩ = some (.int .i64 (zs.getD j 0))) :
    Calls Tryz.prog 51 #[.pointer (some ⟨g, 0, none⟩), .slice (some ⟨gl, 0, none⟩) zs.length c] w fun e w' => ∃ z, z ∈ zs ∧ e = .returned (.int .i64 z) ∧ Cur ac len cap w' g ∧ w.grownBy w' (some g) := by
  go_enter Tryz.func51, Tryz.ntmps51
  go_wp2_with fail
  refine (l01Below_nat ac len cap g zs.length _ hC h0 (by omega)).mono ?_
  rintro e w1 ⟨x, hx, rfl, hC1, gr1⟩
  have hc : w1.cell? ⟨gl, x, none⟩ = some (.int .i64 (zs.getD x 0)) := gr1.cell (hz x hx) (by simpa using hgl)
  have hxi : (x : Int) < (zs.length : Int) := by omega
  have hx0 : (0 : Int) ≤ (x : Int) := by omega
  clear hz
  go_wp2
  go_ret
  exact ⟨zs[x], List.getElem_mem hx, rfl, hC1, gr1⟩
theorem cur_alloc {ac : Option Addr} {len cap g : Nat} {w : World} (h : Cur ac len cap w g) (o : Obj) : Cur ac len cap (w.alloc o) g := by
  obtain ⟨h1, h2, i, hh, h3, h4⟩ := h
  exact ⟨codeIn_kept h1 (World.grownBy_alloc _ _ _), by simp; omega, i, hh, h3, by rw [Below.heap_alloc w o g h2]; exact h4⟩
theorem gr_below {w w1 w2 : World} {row : Option Nat} (gr : w.grownBy w1 row) (b : Below w.heap.size w1 w2) : w.grownBy w2 row :=
  ⟨b.os.trans gr.os, b.tape.trans gr.tape, b.output.trans gr.output, Nat.le_trans gr.size b.size, fun k hk hr => (b.block k hk).trans (gr.block k hk hr)⟩
theorem cur_below {ac : Option Addr} {len cap g : Nat} {w w1 w2 : World} (h : Cur ac len cap w g) (h1 : Cur ac len cap w1 g) (b : Below w.heap.size w1 w2) : Cur ac len cap w2 g := by
  obtain ⟨⟨hc1, hc2⟩, hlt, _⟩ := h
  obtain ⟨⟨hd1, hd2⟩, hlt1, i, hh, h3, h4⟩ := h1
  refine ⟨⟨hd1, fun hp => ?_⟩, Nat.lt_of_lt_of_le hlt1 b.size, i, hh, h3, by rw [b.block g hlt]; exact h4⟩
  obtain ⟨x, off, e, hx, hxl, _⟩ := hc2 hp
  obtain ⟨y, off', e', hy, hyl, hc⟩ := hd2 hp
  rw [e] at e'
  injection e' with e1
  injection e1 with e2 e3
  subst e2
  subst e3
  exact ⟨x, off, e, hx, Nat.lt_of_lt_of_le hyl b.size, fun j hj => by obtain ⟨z, hz, hcz⟩ := hc j hj; exact ⟨z, hz, (b.cell hxl).trans hcz⟩⟩
theorem l01PickInt_new (ac : Option Addr) (len cap g n : Nat) (zs : List Int) (t : TypeId) (w : World) (hC : Cur ac len cap w g) (hl : zs.length = n) (h0 : 0 < n) (hn : n ≤ 1000) :
    Calls Tryz.prog 51 #[.pointer (some ⟨g, 0, none⟩), .slice (some ⟨w.heap.size, 0, none⟩) n n] (w.alloc (.cells (zs.map (Value.int .i64)).toArray t)) fun e w' => ∃ z, z ∈ zs ∧ e = .returned (.int .i64 z) ∧ Cur ac len cap w' g ∧ w.grownBy w' (some g) := by
  subst hl
  have hg := hC.2.1
  refine (l01PickInt_any ac len cap g w.heap.size _ zs _ (cur_alloc hC _) (by omega) h0 hn (fun j hj => ?_)).mono fun e w' ⟨z, hz, he, hc, gr⟩ => ⟨z, hz, he, hc, (World.grownBy_alloc _ _ _).trans gr⟩
  have h := heap_alloc_new w (.cells (zs.map (Value.int .i64)).toArray t)
  unfold World.cell?
  simp only [h]
  simp [List.getElem?_eq_getElem hj]
theorem own_thawed {w : World} {B : Nat} {e : TypeId} {g n c : Nat} {xs : List Value} (h : w.ownsRow B e 1 (.slice (some ⟨g, 0, none⟩) n c) n xs) (j : Nat) : w.frozen? ⟨g, j, none⟩ = false := by
  rcases h.2 with ⟨h', _⟩ | ⟨g', cap', cur, h', hb, hg, _⟩
  · simp at h'
  · simp only [Value.slice.injEq, Option.some.injEq, Addr.mk.injEq, and_true, true_and] at h'
    obtain ⟨rfl, rfl⟩ := h'
    unfold World.frozen?
    simp only [hg]
    simp
set_option maxHeartbeats 1000000 in
set_option maxRecDepth 100000 in
theorem l01Long_any (n : Nat) (y : Int) (w : World) (hn : n ≤ 1000000) :
    Calls Tryz.prog 65 #[.int .i64 n, .int .u8 y] w fun e w' => ∃ s : ByteArray, s.size = n ∧ e = .returned (.string s) ∧ Below w.heap.size w w' := by
  obtain ⟨i0, hi, hz0, hz1, hz2⟩ := info_parts Tryz.infoByte
  have hmk := fun W : World => run_make (P := Tryz.prog) W 22 5 i0 (.int .u8 0) Tryz.underlying22 hi hz0 .i64 .i64 (n : Int) (n : Int) (by omega) (by omega) (by rw [hz2]; omega) (by omega)
  go_enter Tryz.func65, Tryz.ntmps65
  go_wp2
  clear hmk
  go_loopw [6] (fun x wr => ∃ (k : Nat) (zs : List Int), k ≤ n ∧ x = .int .i64 k ∧ zs.length = n ∧ wr.ownsRow w.heap.size 5 1 (.slice (some ⟨w.heap.size, 0, none⟩) n n) n (zs.map (Value.int .u8)) ∧ Below w.heap.size w wr) (fun x _ => n - (intOf x).toNat)
  case atStart =>
    refine ⟨0, List.replicate n 0, Nat.zero_le _, rfl, by simp, ⟨by simp, .inr ⟨w.heap.size, n, _, rfl, Nat.le_refl _, heap_alloc_new w _, Nat.le_refl _, by unfold maxLen; omega, by simp [size_madeCells], ?_⟩⟩, (Below.refl _ _).alloc (Nat.le_refl _) _⟩
    rw [toList_madeCells_one, Nat.mul_one, List.map_replicate, List.take_of_length_le (by simp)]
  case round =>
    obtain ⟨k, zs, hk, rfl, hzl, hown, hbel⟩ := hrel
    by_cases hlt : k < n
    · have hki : (k : Int) < (n : Int) := by omega
      have hk0 : (0 : Int) ≤ (k : Int) := by omega
      have hc1 : wr.cell? ⟨w.heap.size, k, none⟩ = some (.int .u8 (zs[k]'(by omega))) := by
        have h := hown.cells (g := w.heap.size) rfl k (.int .u8 (zs[k]'(by omega))) (by rw [List.getElem?_map, List.getElem?_eq_getElem (by omega)]; rfl)
        have hp : (⟨w.heap.size, 0, none⟩ : Addr).add k = ⟨w.heap.size, k, none⟩ := by unfold Addr.add; split <;> simp_all
        rw [← hp]; exact h
      have hf1 : wr.frozen? ⟨w.heap.size, k, none⟩ = false := own_thawed hown k
      have st := hown.stored k (.int .u8 y)
      have HS : Hid _ := st
      clear st
      go_wp2
      go_roundw
      case rel => exact ⟨k + 1, zs.set k y, by omega, by go_num, by simpa using hzl, by rw [List.map_set]; exact HS.out.1, hbel.setCell (Nat.le_refl _) _⟩
      case measure => simp [intOf]; omega
    · obtain rfl : k = n := by omega
      have hcv := conv_own (P := Tryz.prog) zs Tryz.underlying22 Tryz.underlying5 Tryz.underlying9 hown
      go_wp2
      go_ret
      exact ⟨strOfNums zs, by rw [strOfNums_size]; exact hzl, rfl, hbel⟩
theorem l01Long_at {x : Int} (n : Nat) (hx : x = n) (y : Int) (w : World) (hn : n ≤ 1000000) :
    Calls Tryz.prog 65 #[.int .i64 x, .int .u8 y] w fun e w' => ∃ s : ByteArray, s.size = n ∧ e = .returned (.string s) ∧ Below w.heap.size w w' := by
  subst hx; exact l01Long_any n y w hn
theorem codeIn_of {w : World} {a : Option Addr} {len cap : Nat} {zs : List Int} (h : (a = none ∧ len = 0 ∧ cap = 0 ∧ zs = []) ∨ ∃ x, a = some x ∧ len ≤ cap ∧ cap ≤ maxLen ∧ zs.length = cap ∧ (∀ i, i < zs.length → w.cell? (x.add i) = some (.int .u8 (zs.getD i 0))) ∧ ∀ n ∈ zs, (Lit.int .u8 n).wf = true) (hl : len ≤ 1048576) : CodeIn w a len w.heap.size := by
  refine ⟨hl, fun hp => ?_⟩
  rcases h with ⟨_, h0, _⟩ | ⟨⟨b, off, spot⟩, rfl, hlc, _, hz, hc, hw⟩
  · omega
  · have h0 := hc 0 (by omega)
    have hs : spot = none := by simpa [Addr.add] using World.cell?_spot h0
    subst hs
    have hp0 : ∀ j, (⟨b, off, none⟩ : Addr).add j = ⟨b, off + j, none⟩ := fun j => by unfold Addr.add; split <;> simp_all
    have hlt : b < w.heap.size := by
      have := World.block_lt_of_cell? w _ h0
      rw [hp0] at this
      exact this
    refine ⟨b, off, rfl, by omega, hlt, fun j hj => ?_⟩
    have hj2 : j < zs.length := by omega
    have hcj := hc j hj2
    rw [hp0, List.getD_eq_getElem?_getD, List.getElem?_eq_getElem hj2] at hcj
    have hwj := hw _ (List.getElem_mem hj2)
    have hb : 0 ≤ zs[j] ∧ zs[j] ≤ 255 := bounds_u8 hwj
    refine ⟨zs[j].toNat, by omega, ?_⟩
    rw [hcj]
    simp only [Option.getD_some]
    congr 2
    omega
set_option maxHeartbeats 400000 in
set_option maxRecDepth 100000 in
theorem big_any (ac : Option Addr) (len cap : Nat) (w : World) (hl : len ≤ 9223372036854775807) :
    Calls Tryz.prog 6 #[.slice ac len cap] w fun e w' => e = .returned (.bool (decide (1048576 < (len : Int)))) ∧ w = w' := by
  go_enter Tryz.func6, Tryz.ntmps6
  go_wp2
  go_ret
  exact ⟨rfl, rfl⟩
end Go.Proofs.YtcdbifcidaafnaaGreatDoor
namespace Go.Proofs.YtcdbifcidaafnaaGreatDoor
open Go.RowKit
set_option linter.unusedVariables false
set_option maxHeartbeats 400000 in
set_option maxRecDepth 100000 in
theorem l03Bits64_any (ac : Option Addr) (len cap g : Nat) (w : World) (hC : Cur ac len cap w g) :
    Calls Tryz.prog 68 #[.pointer (some ⟨g, 0, none⟩)] w fun e w' => ∃ x : Nat, x < 18446744073709551616 ∧ e = .returned (.int .u64 x) ∧ Cur ac len cap w' g ∧ w.grownBy w' (some g) := by
  go_enter Tryz.func68, Tryz.ntmps68
  go_wp2_with fail
  refine (l01Below_nat ac len cap g 4294967296 _ hC (by decide) (by decide)).mono ?_
  rintro e w1 ⟨x, hx, rfl, hC1, gr1⟩
  have hx' : (x : Int) < 4294967296 := by omega
  have HX : Hid (Unit → x < 4294967296) := fun _ => hx
  clear hx
  go_wp2_with fail
  refine (l01Below_nat ac len cap g 4294967296 _ hC1 (by decide) (by decide)).mono ?_
  rintro e w2 ⟨y, hy, rfl, hC2, gr2⟩
  have hy' : (y : Int) < 4294967296 := by omega
  have HY : Hid (Unit → y < 4294967296) := fun _ => hy
  clear hy
  go_wp2_with fail
  go_ret
  exact ⟨x * 4294967296 + y, by have := HX.out (); have := HY.out (); omega, ret_int (by omega), hC2, gr1.trans gr2⟩
theorem signN_lt (b : Bool) (m : Nat) (e : Int) (st : Bool) : signN b (roundN m e st) < 18446744073709551616 := by
  have := roundN_le m e st
  unfold signN
  split <;> omega
theorem specRound_int (b : Bool) (m e : Int) (w : World) (h0 : 0 ≤ m) (hm : m < 18446744073709551616) (he0 : -9223372036854775808 ≤ e) (he2 : e ≤ 9223372036854775807) :
    Calls Tryz.prog 57 #[.bool b, .int .u64 m, .int .i64 e, .bool false] w fun en w' => ∃ x : Nat, x < 18446744073709551616 ∧ en = .returned (.int .u64 x) ∧ w = w' := by
  obtain ⟨n, rfl⟩ : ∃ n : Nat, m = n := ⟨m.toNat, by omega⟩
  exact (specRound_any b false n e w (by omega) he0 he2).mono fun en w' h => ⟨_, signN_lt _ _ _ _, h.1, h.2⟩
theorem specFromInt_some (n : Int) (w : World) (h0 : -9223372036854775808 ≤ n) (h1 : n ≤ 9223372036854775807) :
    Calls Tryz.prog 67 #[.int .i64 n] w fun e w' => ∃ x : Nat, x < 18446744073709551616 ∧ e = .returned (.int .u64 x) ∧ w = w' :=
  (specFromInt_any n w h0 h1).mono fun en w' h => ⟨_, signN_lt _ _ _ _, h.1, h.2⟩
def edgeNumbers : List Int := [0, 9223372036854775808, 1, 2, 4503599627370495, 4503599627370496, 4503599627370497, 9218868437227405312, 9218868437227405311, 9218868437227405310, 9221120237041090560, 9221120237041090561, 18442240474082181120, 18444492273895866368, 9218868437227405313, 4607182418800017408, 4607182418800017409]
theorem edge_ok : ∀ i : Fin 17, 0 ≤ edgeNumbers.getD i.val 0 ∧ edgeNumbers.getD i.val 0 < 18446744073709551616 := by decide
theorem edge_cell (w : World) (t : TypeId) (y : Nat) (hy : y < 17) : ∃ v : Nat, v < 18446744073709551616 ∧ (w.alloc (.cells (edgeNumbers.map (Value.int .u64)).toArray t)).cell? ⟨w.heap.size, y, none⟩ = some (.int .u64 v) := by
  have h := heap_alloc_new w (.cells (edgeNumbers.map (Value.int .u64)).toArray t)
  have ho := edge_ok ⟨y, hy⟩
  have hl : y < edgeNumbers.length := hy
  refine ⟨(edgeNumbers.getD y 0).toNat, by simp only at ho; omega, ?_⟩
  have e : (((edgeNumbers.getD y 0).toNat : Nat) : Int) = edgeNumbers.getD y 0 := Int.toNat_of_nonneg ho.1
  rw [e]
  unfold World.cell?
  simp only [h]
  simp [List.getElem?_eq_getElem hl]
set_option maxHeartbeats 1000000 in
set_option maxRecDepth 100000 in
theorem l03Number_any (ac : Option Addr) (len cap g : Nat) (w : World) (hC : Cur ac len cap w g) :
    Calls Tryz.prog 49 #[.pointer (some ⟨g, 0, none⟩)] w fun e w' => ∃ x : Nat, x < 18446744073709551616 ∧ e = .returned (.int .u64 x) ∧ Cur ac len cap w' g ∧ w.grownBy w' (some g) := by
  go_enter Tryz.func49, Tryz.ntmps49
  go_wp2_with fail
  refine (l01Below_nat ac len cap g 8 _ hC (by omega) (by omega)).mono ?_
  rintro e w1 ⟨x, hx, rfl, hC1, gr1⟩
  rcases (by omega : x = 0 ∨ x = 1 ∨ x = 2 ∨ x = 3 ∨ x = 4 ∨ x = 5 ∨ 5 < x) with rfl | rfl | rfl | rfl | rfl | rfl | h5
  · go_wp2_with (go_at_call 46; refine (l03Pow_63 _).mono ?_; rintro e w' ⟨rfl, rfl⟩)
    refine (l01Below_nat ac len cap g 17 _ (cur_alloc hC1 _) (by omega) (by omega)).mono ?_
    rintro e w2 ⟨y, hy, rfl, hC2, gr2⟩
    have hyi : (y : Int) < 17 := by omega
    have hy0 : (0 : Int) ≤ (y : Int) := by omega
    obtain ⟨v, hv, hcell⟩ := edge_cell w1 24 y hy
    have hg := hC1.2.1
    have hc2 : w2.cell? ⟨w1.heap.size, y, none⟩ = some (.int .u64 v) := gr2.cell hcell (by simp; omega)
    have HV : Hid (Unit → v < 18446744073709551616) := fun _ => hv
    clear hv hcell
    go_wp2_with fail
    go_ret
    exact ⟨v, HV.out (), rfl, hC2, (gr1.trans (World.grownBy_alloc _ _ _)).trans gr2⟩
  · go_wp2_with fail
    refine (l01Below_nat ac len cap g 2000 _ hC1 (by omega) (by omega)).mono ?_
    rintro e w2 ⟨y, hy, rfl, hC2, gr2⟩
    go_wp2_with fail
    refine (specFromInt_some _ _ (by omega) (by omega)).mono ?_
    rintro e w3 ⟨v, hv, rfl, rfl⟩
    have HV : Hid (Unit → v < 18446744073709551616) := fun _ => hv
    clear hv
    go_wp2_with fail
    go_ret
    exact ⟨v, HV.out (), rfl, hC2, gr1.trans gr2⟩
  · go_wp2_with fail
    refine (l01Below_nat ac len cap g 2000 _ hC1 (by omega) (by omega)).mono ?_
    rintro e w2 ⟨y, hy, rfl, hC2, gr2⟩
    go_wp2_with fail
    refine (specFromInt_some _ _ (by omega) (by omega)).mono ?_
    rintro e w3 ⟨v, hv, rfl, rfl⟩
    have HV : Hid (Unit → v < 18446744073709551616) := fun _ => hv
    clear hv
    go_wp2_with fail
    go_ret
    exact ⟨v, HV.out (), rfl, hC2, gr1.trans gr2⟩
  · go_wp2_with fail
    refine (l01Once_any ac len cap g 2 _ hC1 (by omega) (by omega)).mono ?_
    rintro e w2 ⟨b, rfl, hC2, gr2⟩
    go_wp2_with fail
    refine (l01Below_nat ac len cap g 1000000 _ hC2 (by omega) (by omega)).mono ?_
    rintro e w3 ⟨y, hy, rfl, hC3, gr3⟩
    go_wp2_with fail
    refine (l01Below_nat ac len cap g 40 _ hC3 (by omega) (by omega)).mono ?_
    rintro e w4 ⟨z, hz, rfl, hC4, gr4⟩
    go_wp2_with fail
    refine (specRound_int b _ _ _ (by omega) (by omega) (by omega) (by omega)).mono ?_
    rintro e w5 ⟨v, hv, rfl, rfl⟩
    have HV : Hid (Unit → v < 18446744073709551616) := fun _ => hv
    clear hv
    go_wp2_with fail
    go_ret
    exact ⟨v, HV.out (), rfl, hC4, ((gr1.trans gr2).trans gr3).trans gr4⟩
  · go_wp2_with fail
    refine (l01Below_nat ac len cap g 2048 _ hC1 (by omega) (by omega)).mono ?_
    rintro e w2 ⟨y, hy, rfl, hC2, gr2⟩
    go_wp2_with fail
    refine (l01Below_nat ac len cap g 4 _ hC2 (by omega) (by omega)).mono ?_
    rintro e w3 ⟨z, hz, rfl, hC3, gr3⟩
    go_wp2_with fail
    go_ret
    exact ⟨y * 4503599627370496 + z, by omega, ret_int (by omega), hC3, (gr1.trans gr2).trans gr3⟩
  · go_wp2_with fail
    refine (l01Once_any ac len cap g 2 _ hC1 (by omega) (by omega)).mono ?_
    rintro e w2 ⟨b, rfl, hC2, gr2⟩
    go_wp2_with fail
    refine (l03Bits64_any ac len cap g _ hC2).mono ?_
    rintro e w3 ⟨y, hy, rfl, hC3, gr3⟩
    have hy' : (y : Int) < 18446744073709551616 := by omega
    clear hy
    go_wp2_with fail
    refine (l01Below_nat ac len cap g 120 _ hC3 (by omega) (by omega)).mono ?_
    rintro e w4 ⟨z, hz, rfl, hC4, gr4⟩
    go_wp2_with fail
    refine (specRound_int b _ _ _ (by omega) (by omega) (by omega) (by omega)).mono ?_
    rintro e w5 ⟨v, hv, rfl, rfl⟩
    have HV : Hid (Unit → v < 18446744073709551616) := fun _ => hv
    clear hv
    go_wp2_with fail
    go_ret
    exact ⟨v, HV.out (), rfl, hC4, ((gr1.trans gr2).trans gr3).trans gr4⟩
  · have e0 : ((x : Int) == 0) = false := by rw [beq_eq_false_iff_ne]; omega
    have e1 : ((x : Int) == 1) = false := by rw [beq_eq_false_iff_ne]; omega
    have e2 : ((x : Int) == 2) = false := by rw [beq_eq_false_iff_ne]; omega
    have e3 : ((x : Int) == 3) = false := by rw [beq_eq_false_iff_ne]; omega
    have e4 : ((x : Int) == 4) = false := by rw [beq_eq_false_iff_ne]; omega
    have e5 : ((x : Int) == 5) = false := by rw [beq_eq_false_iff_ne]; omega
    go_wp2_with fail
    refine (l03Bits64_any ac len cap g _ hC1).mono ?_
    rintro e w2 ⟨v, hv, rfl, hC2, gr2⟩
    have HV : Hid (Unit → v < 18446744073709551616) := fun _ => hv
    clear hv
    go_wp2_with fail
    go_ret
    exact ⟨v, HV.out (), rfl, hC2, gr1.trans gr2⟩
end Go.Proofs.YtcdbifcidaafnaaGreatDoor
namespace Go.Proofs.YtcdbifcidaafnaaGreatDoor
theorem roundN_mark {M d low : Nat} {E : Int} (st : Bool) (hl : low < 2 ^ d) (hM : 9007199254740992 ≤ M) : roundN (M * 2 ^ d + low) (E - d) st = roundN M E (st || decide (low ≠ 0)) := by
  cases st
  · rw [Bool.false_or]; exact roundN_sticky hl (.inr hM)
  · have hp := Nat.two_pow_pos d
    have h1 : M * 1 ≤ M * 2 ^ d := Nat.mul_le_mul_left _ hp
    have a := roundN_sticky (M := M * 2 ^ d + low) (d := 1) (low := 1) (E := E - d) (by decide) (.inr (by omega))
    have b := roundN_sticky (M := M) (d := d + 1) (low := low * 2 + 1) (E := E) (by rw [Nat.pow_succ]; omega) (.inr hM)
    have e1 : (M * 2 ^ d + low) * 2 ^ 1 + 1 = M * 2 ^ (d + 1) + (low * 2 + 1) := by rw [Nat.pow_succ 2 d, Nat.pow_one, Nat.add_mul, ← Nat.mul_assoc]; omega
    have e2 : E - d - ((1 : Nat) : Int) = E - ((d + 1 : Nat) : Int) := by omega
    rw [e1, e2, b] at a
    have t1 : decide (low * 2 + 1 ≠ 0) = true := by simp
    have t2 : decide ((1 : Nat) ≠ 0) = true := by simp
    rw [t1, t2] at a
    rw [← a, Bool.true_or]
theorem round_off {P k n : Nat} {l : Bool} {E : Int} (hn : n = P / 2 ^ k) (hl : l = decide (P % 2 ^ k ≠ 0)) (h : k = 0 ∨ 72057594037927936 ≤ n) : roundN n (E + k) (l && decide (72057594037927936 ≤ n)) = roundN P E false := by
  have hp := Nat.div_add_mod P (2 ^ k)
  rw [← hn, Nat.mul_comm] at hp
  have hlow : P % 2 ^ k < 2 ^ k := Nat.mod_lt _ (Nat.two_pow_pos k)
  have h0 : k = 0 → P % 2 ^ k = 0 := fun e => by subst e; simp [Nat.mod_one]
  obtain ⟨low, hq⟩ : ∃ q, P % 2 ^ k = q := ⟨_, rfl⟩
  rw [hq] at hp hlow hl h0
  have hs : (l && decide (72057594037927936 ≤ n)) = decide (low ≠ 0) := by
    rcases h with h | h
    · have := h0 h
      subst this
      simp [hl]
    · rw [hl]; simp [h]
  have hE : E = E + k - k := by omega
  rw [hs, ← roundN_sticky (M := n) (d := k) (low := low) (E := E + k) hlow (by omega), ← hE, hp]
def quoN (m n : Nat) (e : Int) : Nat := roundN (m * 2 ^ 170 / n) (e - 170) (decide (m * 2 ^ 170 % n ≠ 0))
theorem quo_more {m n k d : Nat} {e : Int} (hn : n ≠ 0) (h : 9007199254740992 ≤ m * 2 ^ k / n) :
    roundN (m * 2 ^ (k + d) / n) (e - ((k + d : Nat) : Int)) (decide (m * 2 ^ (k + d) % n ≠ 0)) = roundN (m * 2 ^ k / n) (e - k) (decide (m * 2 ^ k % n ≠ 0)) := by
  have hp := Nat.div_add_mod (m * 2 ^ k) n
  obtain ⟨q, hq⟩ : ∃ q, m * 2 ^ k / n = q := ⟨_, rfl⟩
  obtain ⟨r, hr⟩ : ∃ q, m * 2 ^ k % n = q := ⟨_, rfl⟩
  have hrn : r < n := by rw [← hr]; exact Nat.mod_lt _ (by omega)
  rw [hq, hr] at hp ⊢
  rw [hq] at h
  have hD := Nat.two_pow_pos d
  have e1 : m * 2 ^ (k + d) = n * (q * 2 ^ d) + r * 2 ^ d := by rw [Nat.pow_add, ← Nat.mul_assoc, ← hp, Nat.add_mul, Nat.mul_assoc]
  have e2 : m * 2 ^ (k + d) / n = q * 2 ^ d + r * 2 ^ d / n := by rw [e1, Nat.mul_add_div (by omega)]
  have e3 : m * 2 ^ (k + d) % n = r * 2 ^ d % n := by rw [e1, Nat.mul_add_mod]
  have hlow : r * 2 ^ d / n < 2 ^ d := by
    rw [Nat.div_lt_iff_lt_mul (by omega), Nat.mul_comm]
    exact Nat.mul_lt_mul_of_pos_left hrn hD
  have hx : e - ((k + d : Nat) : Int) = e - k - d := by omega
  rw [e2, e3, hx, roundN_mark _ hlow h]
  congr 1
  have hz := Nat.div_add_mod (r * 2 ^ d) n
  rw [Bool.eq_iff_iff, Bool.or_eq_true, decide_eq_true_iff, decide_eq_true_iff, decide_eq_true_iff]
  constructor
  · intro h0 hr0
    subst hr0
    simp at h0
  · intro hr0
    rcases Nat.eq_zero_or_pos (r * 2 ^ d % n) with h1 | h1
    · right
      intro h2
      rw [h1, h2] at hz
      have : 0 < r * 2 ^ d := Nat.mul_pos (by omega) hD
      omega
    · left; omega
theorem quo_at {m n k : Nat} {e : Int} (hn : n ≠ 0) (h : 9007199254740992 ≤ m * 2 ^ k / n) (hk : k ≤ 170) : roundN (m * 2 ^ k / n) (e - k) (decide (m * 2 ^ k % n ≠ 0)) = quoN m n e := by
  obtain ⟨d, hd⟩ : ∃ d, k + d = 170 := ⟨170 - k, by omega⟩
  rw [← quo_more (d := d) hn h, hd]
  rfl
theorem quo_scale {m n u v : Nat} {e : Int} (hm : m ≠ 0) (hn : n ≠ 0) (hn2 : n < 9007199254740992) (hv : v ≤ 63) (hu : u ≤ 63) : quoN (m * 2 ^ u) (n * 2 ^ v) (e - u + v) = quoN m n e := by
  have h1 : ∀ k, 107 ≤ k → 9007199254740992 ≤ m * 2 ^ k / n := by
    intro k hk
    rw [Nat.le_div_iff_mul_le (by omega)]
    have : 2 ^ 107 ≤ 2 ^ k := Nat.pow_le_pow_right (by decide) hk
    have : 1 * 2 ^ k ≤ m * 2 ^ k := Nat.mul_le_mul_right _ (by omega)
    omega
  have key : ∀ k, 170 + u = k + v → 107 ≤ k → quoN (m * 2 ^ u) (n * 2 ^ v) (e - u + v) = roundN (m * 2 ^ k / n) (e - k) (decide (m * 2 ^ k % n ≠ 0)) := by
    intro k hk _
    have e1 : m * 2 ^ u * 2 ^ 170 = m * 2 ^ k * 2 ^ v := by rw [Nat.mul_assoc, Nat.mul_assoc, ← Nat.pow_add, ← Nat.pow_add, ← hk, Nat.add_comm]
    have hp := Nat.two_pow_pos v
    have e2 : m * 2 ^ k * 2 ^ v / (n * 2 ^ v) = m * 2 ^ k / n := Nat.mul_div_mul_right _ _ hp
    have e3 : m * 2 ^ k * 2 ^ v % (n * 2 ^ v) = m * 2 ^ k % n * 2 ^ v := Nat.mul_mod_mul_right _ _ _
    have e4 : decide (m * 2 ^ k % n * 2 ^ v ≠ 0) = decide (m * 2 ^ k % n ≠ 0) := by
      rw [Bool.eq_iff_iff, decide_eq_true_iff, decide_eq_true_iff]
      simp only [ne_eq, Nat.mul_eq_zero, not_or]
      exact ⟨fun h => h.1, fun h => ⟨h, by omega⟩⟩
    have e5 : e - u + v - 170 = e - k := by omega
    unfold quoN
    rw [e1, e2, e3, e4, e5]
  rw [key (170 + u - v) (by omega) (by omega)]
  have a := quo_more (m := m) (n := n) (k := 107) (d := 170 + u - v - 107) (e := e) hn (h1 _ (by omega))
  have b := quo_at (m := m) (n := n) (k := 107) (e := e) hn (h1 _ (by omega)) (by omega)
  rw [(by omega : 107 + (170 + u - v - 107) = 170 + u - v)] at a
  rw [a, b]
def mulP (k1 k2 : Nat) (s1 s2 : Bool) (m1 m2 : Nat) (e1 e2 : Int) : Nat :=
  if k1 = 1 ∨ k2 = 1 ∨ (k1 = 2 ∧ k2 = 3) ∨ (k1 = 3 ∧ k2 = 2) then 9221120237041090560
  else if k1 = 2 ∨ k2 = 2 then signN (s1 != s2) 9218868437227405312
  else if k1 = 3 ∨ k2 = 3 then signN (s1 != s2) 0
  else signN (s1 != s2) (roundN (m1 * m2) (e1 + e2) false)
def mulN (a b : Nat) : Nat := mulP (kindN a) (kindN b) (belowN a) (belowN b) (mantN a) (mantN b) (expN a) (expN b)
def divP (k1 k2 : Nat) (s1 s2 : Bool) (m1 m2 : Nat) (e1 e2 : Int) : Nat :=
  if k1 = 1 ∨ k2 = 1 ∨ (k1 = k2 ∧ (k1 = 2 ∨ k1 = 3)) then 9221120237041090560
  else if k1 = 2 ∨ k2 = 3 then signN (s1 != s2) 9218868437227405312
  else if k1 = 3 ∨ k2 = 2 then signN (s1 != s2) 0
  else signN (s1 != s2) (quoN m1 m2 (e1 - e2))
def divN (a b : Nat) : Nat := divP (kindN a) (kindN b) (belowN a) (belowN b) (mantN a) (mantN b) (expN a) (expN b)
def restN (m : Nat) (e : Int) (n : Nat) (f : Int) : Nat := roundN (m * 2 ^ (e - min e f).toNat % (n * 2 ^ (f - min e f).toNat)) (min e f) false
def remP (a k1 k2 : Nat) (s1 : Bool) (m1 m2 : Nat) (e1 e2 : Int) : Nat :=
  if k1 = 1 ∨ k2 = 1 ∨ k1 = 2 ∨ k2 = 3 then 9221120237041090560
  else if k1 = 3 ∨ k2 = 2 then a
  else signN s1 (restN m1 e1 m2 e2)
def remN (a b : Nat) : Nat := remP a (kindN a) (kindN b) (belowN a) (mantN a) (mantN b) (expN a) (expN b)
end Go.Proofs.YtcdbifcidaafnaaGreatDoor
namespace Go.Proofs.YtcdbifcidaafnaaGreatDoor
set_option linter.unusedVariables false
structure DivAt (P Q i n l : Nat) : Prop where
  eq : P * 2 ^ i = 2 * (n * Q) + l
  lt : l < 2 * Q
theorem div_start {P Q : Nat} (h : P < 2 * Q) : DivAt P Q 0 0 P := ⟨by simp, h⟩
theorem div_hit {P Q i n l : Nat} (h : DivAt P Q i n l) (hl : Q ≤ l) : DivAt P Q (i + 1) (n * 2 + 1) ((l - Q) * 2) := by
  refine ⟨?_, by have := h.lt; omega⟩
  have e1 : (n * 2 + 1) * Q = 2 * (n * Q) + Q := by rw [Nat.add_mul, Nat.mul_right_comm, Nat.one_mul, Nat.mul_comm 2]
  rw [Nat.pow_succ, ← Nat.mul_assoc, h.eq, e1]
  omega
theorem div_miss {P Q i n l : Nat} (h : DivAt P Q i n l) (hl : l < Q) : DivAt P Q (i + 1) (n * 2) (l * 2) := by
  refine ⟨?_, by omega⟩
  have e1 : n * 2 * Q = 2 * (n * Q) := by rw [Nat.mul_right_comm, Nat.mul_comm 2]
  rw [Nat.pow_succ, ← Nat.mul_assoc, h.eq, e1]
  omega
theorem div_bound {P Q i n l : Nat} (h : DivAt P Q i n l) (hP : P < 2 * Q) : n < 2 ^ i := by
  have h1 := h.eq
  rcases Nat.lt_or_ge n (2 ^ i) with h' | h'
  · exact h'
  · have h2 : 2 ^ i * Q ≤ n * Q := Nat.mul_le_mul_right _ h'
    have h3 : P * 2 ^ i < 2 * Q * 2 ^ i := Nat.mul_lt_mul_of_pos_right hP (Nat.two_pow_pos i)
    have h4 : 2 * Q * 2 ^ i = 2 * (2 ^ i * Q) := by rw [Nat.mul_assoc, Nat.mul_comm Q]
    omega
theorem div_end {P Q n l j : Nat} (h : DivAt P Q (j + 1) n l) (hQ : Q ≠ 0) : P * 2 ^ j / Q = n ∧ (0 < l ↔ P * 2 ^ j % Q ≠ 0) := by
  have h1 := h.eq
  rw [Nat.pow_succ, ← Nat.mul_assoc] at h1
  obtain ⟨X, hX⟩ : ∃ X, P * 2 ^ j = X := ⟨_, rfl⟩
  rw [hX] at h1 ⊢
  obtain ⟨r, hr⟩ : ∃ r, l = 2 * r := ⟨X - n * Q, by omega⟩
  have h3 : X = Q * n + r := by rw [Nat.mul_comm Q]; omega
  have h4 : r < Q := by have := h.lt; omega
  have h5 : X / Q = n := by rw [h3, Nat.mul_add_div (by omega), Nat.div_eq_of_lt h4, Nat.add_zero]
  have h6 : X % Q = r := by rw [h3, Nat.mul_add_mod, Nat.mod_eq_of_lt h4]
  exact ⟨h5, by omega⟩
end Go.Proofs.YtcdbifcidaafnaaGreatDoor
namespace Go.Proofs.YtcdbifcidaafnaaGreatDoor
open Go.RowKit
theorem kept_block {w w' : World} {g : Nat} {o : Obj} (h : Below w.heap.size w w') (ho : w.heap[g]? = some o) : w'.heap[g]? = some o := by
  have hg : g < w.heap.size := by
    rcases Nat.lt_or_ge g w.heap.size with h' | h'
    · exact h'
    · rw [Array.getElem?_eq_none h'] at ho; cases ho
  rw [h.block g hg]; exact ho
end Go.Proofs.YtcdbifcidaafnaaGreatDoor
namespace Go.Proofs.YtcdbifcidaafnaaGreatDoor
open Go.RowKit
set_option linter.unusedVariables false
structure Two (g c : Nat) (w w' : World) : Prop where
  os : w'.os = w.os
  tape : w'.tape = w.tape
  output : w'.output = w.output
  size : w.heap.size ≤ w'.heap.size
  block : ∀ k, k < w.heap.size → k ≠ g → k ≠ c → w'.heap[k]? = w.heap[k]?
theorem Two.of_grown {g c : Nat} {w w' : World} (h : w.grownBy w' (some c)) : Two g c w w' := ⟨h.os, h.tape, h.output, h.size, fun k hk _ h2 => h.block k hk (fun e => h2 (Option.some.inj e))⟩
theorem Two.cell {g c : Nat} {w w' : World} (h : Two g c w w') {b j : Nat} (hb : b < w.heap.size) (h1 : b ≠ g) (h2 : b ≠ c) : w'.cell? ⟨b, j, none⟩ = w.cell? ⟨b, j, none⟩ := by
  unfold World.cell?
  rw [h.block b hb h1 h2]
def StrRow (w : World) (b n m : Nat) : Prop := ∀ j, j < n → ∃ s : ByteArray, w.cell? ⟨b, j, none⟩ = some (.string s) ∧ s.size ≤ m
theorem row_new (w : World) (xs : List Value) (t : TypeId) (n m : Nat) (hn : xs.length = n) (h : ∀ v ∈ xs, ∃ s : ByteArray, v = .string s ∧ s.size ≤ m) : StrRow (w.alloc (.cells xs.toArray t)) w.heap.size n m := fun j hj => by
  rw [cell_of_row _ _ _ _ _ _ (heap_alloc_new w (.cells xs.toArray t))]
  obtain ⟨s, hs, h2⟩ := h xs[j] (List.getElem_mem _)
  refine ⟨s, ?_, h2⟩
  rw [← hs]
  simp
set_option maxHeartbeats 1000000 in
set_option maxRecDepth 100000 in
theorem l01Pick_any (ac : Option Addr) (len cap c gl n m k : Nat) (w : World) (hC : Cur ac len cap w c) (hgl : gl ≠ c) (hb : gl < w.heap.size) (h0 : 0 < n) (hn : n ≤ 1000) (hz : StrRow w gl n m) :
    Calls Tryz.prog 64 #[.pointer (some ⟨c, 0, none⟩), .slice (some ⟨gl, 0, none⟩) n k] w fun e w' => ∃ s : ByteArray, s.size ≤ m ∧ e = .returned (.string s) ∧ Cur ac len cap w' c ∧ w.grownBy w' (some c) := by
  go_enter Tryz.func64, Tryz.ntmps64
  go_wp2_with fail
  refine (l01Below_nat ac len cap c n _ hC h0 (by omega)).mono ?_
  rintro e w1 ⟨x, hx, rfl, hc, gr⟩
  obtain ⟨s, hs, hsm⟩ := hz x hx
  have hcell : w1.cell? ⟨gl, x, none⟩ = some (.string s) := by rw [Two.cell (Two.of_grown (g := c) gr) hb hgl hgl]; exact hs
  have hx' : (x : Int) < n := by omega
  clear hz hs
  go_wp2
  go_ret
  exact ⟨s, hsm, rfl, hc, gr⟩
end Go.Proofs.YtcdbifcidaafnaaGreatDoor
