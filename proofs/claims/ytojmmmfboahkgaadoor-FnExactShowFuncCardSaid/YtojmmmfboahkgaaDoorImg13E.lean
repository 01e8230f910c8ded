/-
  The law's own helpers that hold images against each other: of two that are the same they say so.
-/
import Derived.Test.YtojmmmfboahkgaaDoorImg13W
import Derived.Deep.QuietTactic
import Derived.BigQuiet
import Derived.Lib.QuietBelow
namespace Go.Proofs.YtojmmmfboahkgaaDoor
open Go.RowKit Go.Sort
set_option linter.unusedVariables false

theorem made_two (w : World) (o1 o2 : Obj) : ((w.alloc o1).alloc o2).heap[w.heap.size]? = some o1 ∧ ((w.alloc o1).alloc o2).heap[w.heap.size + 1]? = some o2 ∧ ((w.alloc o1).alloc o2).heap.size = w.heap.size + 2 ∧ Below w.heap.size w ((w.alloc o1).alloc o2) := by
  have z1 : (w.alloc o1).heap.size = w.heap.size + 1 := by simp
  refine ⟨?_, ?_, by simp, ((Below.refl _ _).alloc (Nat.le_refl _) _).alloc (by simp) _⟩
  · rw [heap_alloc_old (r := w.heap.size) _ _ (by omega)]
    exact heap_alloc_new _ _
  · rw [← z1]
    exact heap_alloc_new _ _

set_option maxHeartbeats 400000 in
set_option maxRecDepth 100000 in
theorem eqIns_same (p : PIns) (w : World) :
    Calls Tryd.prog 72 #[.agg #[.int .i64 p.op, .int .i64 p.a, .int .i64 p.b], .agg #[.int .i64 p.op, .int .i64 p.a, .int .i64 p.b]] w fun e w' => e = .returned (.bool true) ∧ Below w.heap.size w w' := by
  go_enter Tryd.func72, Tryd.ntmps72
  go_wp2
  go_ret
  exact ⟨rfl, by go_grown⟩

set_option maxHeartbeats 4000000 in
set_option maxRecDepth 100000 in
theorem eqInsS_same (a b : Value) (l : List PIns) (w : World) (ha : ArgFlat w a 3 l.length (l.flatMap insC)) (hb : ArgFlat w b 3 l.length (l.flatMap insC)) :
    Calls Tryd.prog 57 #[a, b] w fun e w' => e = .returned (.bool true) ∧ Below w.heap.size w w' := by
  obtain ⟨xa, ca, rfl, hm, oa⟩ := ha.opened insC_len
  obtain ⟨xb, cb, rfl, _, ob⟩ := hb.opened insC_len
  clear ha hb
  unfold maxLen at hm
  obtain ⟨n, hn⟩ : ∃ n, l.length = n := ⟨_, rfl⟩
  have HN : Hid (l.length = n) := hn
  rw [hn] at hm oa ob ⊢
  clear hn
  have HA : Hid (0 < n → ∃ b o, xa = some ⟨b, o, none⟩ ∧ b < w.heap.size ∧ ∀ j p, l[j]? = some p → ∀ c u, (insC p)[c]? = some u → w.cell? ⟨b, o + j * 3 + c, none⟩ = some u) := oa
  have HB : Hid (0 < n → ∃ b o, xb = some ⟨b, o, none⟩ ∧ b < w.heap.size ∧ ∀ j p, l[j]? = some p → ∀ c u, (insC p)[c]? = some u → w.cell? ⟨b, o + j * 3 + c, none⟩ = some u) := ob
  clear oa ob
  go_enter Tryd.func57, Tryd.ntmps57
  go_wp2
  go_loopw [5] (fun i wr => ∃ k : Nat, k ≤ n ∧ i = .int .i64 k ∧ Below w.heap.size w wr) (fun i _ => n - (intOf i).toNat)
  case atStart => exact ⟨0, Nat.zero_le _, rfl, Below.refl _ _⟩
  case round =>
    obtain ⟨k, hk, rfl, hbel⟩ := hrel
    by_cases hlt : k < n
    · obtain ⟨ga, sa, rfl, hga, hca⟩ := HA.out (by omega)
      obtain ⟨gb, sb, rfl, hgb, hcb⟩ := HB.out (by omega)
      obtain ⟨p, hp⟩ : ∃ p, l[k]? = some p := ⟨_, List.getElem?_eq_getElem (by have := HN.out; omega)⟩
      have cQ := fun d os => Calls.regrown_of (w := wr) (d := d) (os := os) (eqIns_same p (grow (redrawn wr d) os))
      have c0' : wr.cell? ⟨ga, sa + k * 3, none⟩ = some (.int .i64 p.op) := (hbel.cell hga).trans (hca k p hp 0 _ rfl)
      have c1' : wr.cell? ⟨ga, sa + k * 3 + 1, none⟩ = some (.int .i64 p.a) := (hbel.cell hga).trans (hca k p hp 1 _ rfl)
      have c2' : wr.cell? ⟨ga, sa + k * 3 + 2, none⟩ = some (.int .i64 p.b) := (hbel.cell hga).trans (hca k p hp 2 _ rfl)
      have d0' : wr.cell? ⟨gb, sb + k * 3, none⟩ = some (.int .i64 p.op) := (hbel.cell hgb).trans (hcb k p hp 0 _ rfl)
      have d1' : wr.cell? ⟨gb, sb + k * 3 + 1, none⟩ = some (.int .i64 p.a) := (hbel.cell hgb).trans (hcb k p hp 1 _ rfl)
      have d2' : wr.cell? ⟨gb, sb + k * 3 + 2, none⟩ = some (.int .i64 p.b) := (hbel.cell hgb).trans (hcb k p hp 2 _ rfl)
      have c0 := cell_regrown c0'
      have c1 := cell_regrown c1'
      have c2 := cell_regrown c2'
      have d0 := cell_regrown d0'
      have d1 := cell_regrown d1'
      have d2 := cell_regrown d2'
      have hki : (k : Int) < (n : Int) := by omega
      have hk0 : (0 : Int) ≤ (k : Int) := by omega
      clear hca hcb hp HA HB c0' c1' c2' d0' d1' d2'
      go_wp2
      refine wp_region_quiet_below (by kernel_rfl) (by kernel_rfl) ?_
      repeat (first | go_big_quiet_step (exact cQ _ _) | quiet_step (exact cQ _ _))
      refine wpQuiet_nil ?_
      intro _ hw'
      obtain ⟨⟨dq, osq⟩, hw''⟩ := hw'
      subst hw''
      go_wp2
      go_roundw
      case rel => exact ⟨k + 1, by omega, by go_num, chain hbel (below_regrown wr dq osq)⟩
      case measure => simp [intOf]; omega
    · go_wp2
      go_ret
      exact ⟨rfl, hbel⟩

set_option maxHeartbeats 400000 in
set_option maxRecDepth 100000 in
theorem eqCap_same (p : PCap) (w : World) :
    Calls Tryd.prog 71 #[.agg #[.bool p.reg, .int .i64 p.index], .agg #[.bool p.reg, .int .i64 p.index]] w fun e w' => e = .returned (.bool true) ∧ Below w.heap.size w w' := by
  go_enter Tryd.func71, Tryd.ntmps71
  go_wp2
  go_ret
  exact ⟨rfl, by go_grown⟩

set_option maxHeartbeats 4000000 in
set_option maxRecDepth 100000 in
theorem eqCapS_same (a b : Value) (l : List PCap) (w : World) (ha : ArgFlat w a 2 l.length (l.flatMap capC)) (hb : ArgFlat w b 2 l.length (l.flatMap capC)) :
    Calls Tryd.prog 56 #[a, b] w fun e w' => e = .returned (.bool true) ∧ Below w.heap.size w w' := by
  obtain ⟨xa, ca, rfl, hm, oa⟩ := ha.opened capC_len
  obtain ⟨xb, cb, rfl, _, ob⟩ := hb.opened capC_len
  clear ha hb
  unfold maxLen at hm
  obtain ⟨n, hn⟩ : ∃ n, l.length = n := ⟨_, rfl⟩
  have HN : Hid (l.length = n) := hn
  rw [hn] at hm oa ob ⊢
  clear hn
  have HA : Hid (0 < n → ∃ b o, xa = some ⟨b, o, none⟩ ∧ b < w.heap.size ∧ ∀ j p, l[j]? = some p → ∀ c u, (capC p)[c]? = some u → w.cell? ⟨b, o + j * 2 + c, none⟩ = some u) := oa
  have HB : Hid (0 < n → ∃ b o, xb = some ⟨b, o, none⟩ ∧ b < w.heap.size ∧ ∀ j p, l[j]? = some p → ∀ c u, (capC p)[c]? = some u → w.cell? ⟨b, o + j * 2 + c, none⟩ = some u) := ob
  clear oa ob
  go_enter Tryd.func56, Tryd.ntmps56
  go_wp2
  go_loopw [5] (fun i wr => ∃ k : Nat, k ≤ n ∧ i = .int .i64 k ∧ Below w.heap.size w wr) (fun i _ => n - (intOf i).toNat)
  case atStart => exact ⟨0, Nat.zero_le _, rfl, Below.refl _ _⟩
  case round =>
    obtain ⟨k, hk, rfl, hbel⟩ := hrel
    by_cases hlt : k < n
    · obtain ⟨ga, sa, rfl, hga, hca⟩ := HA.out (by omega)
      obtain ⟨gb, sb, rfl, hgb, hcb⟩ := HB.out (by omega)
      obtain ⟨p, hp⟩ : ∃ p, l[k]? = some p := ⟨_, List.getElem?_eq_getElem (by have := HN.out; omega)⟩
      have cQ := fun d os => Calls.regrown_of (w := wr) (d := d) (os := os) (eqCap_same p (grow (redrawn wr d) os))
      have c0' : wr.cell? ⟨ga, sa + k * 2, none⟩ = some (.bool p.reg) := (hbel.cell hga).trans (hca k p hp 0 _ rfl)
      have c1' : wr.cell? ⟨ga, sa + k * 2 + 1, none⟩ = some (.int .i64 p.index) := (hbel.cell hga).trans (hca k p hp 1 _ rfl)
      have d0' : wr.cell? ⟨gb, sb + k * 2, none⟩ = some (.bool p.reg) := (hbel.cell hgb).trans (hcb k p hp 0 _ rfl)
      have d1' : wr.cell? ⟨gb, sb + k * 2 + 1, none⟩ = some (.int .i64 p.index) := (hbel.cell hgb).trans (hcb k p hp 1 _ rfl)
      have c0 := cell_regrown c0'
      have c1 := cell_regrown c1'
      have d0 := cell_regrown d0'
      have d1 := cell_regrown d1'
      have hki : (k : Int) < (n : Int) := by omega
      have hk0 : (0 : Int) ≤ (k : Int) := by omega
      clear hca hcb hp HA HB c0' c1' d0' d1'
      go_wp2
      refine wp_region_quiet_below (by kernel_rfl) (by kernel_rfl) ?_
      repeat (first | go_big_quiet_step (exact cQ _ _) | quiet_step (exact cQ _ _))
      refine wpQuiet_nil ?_
      intro _ hw'
      obtain ⟨⟨dq, osq⟩, hw''⟩ := hw'
      subst hw''
      go_wp2
      go_roundw
      case rel => exact ⟨k + 1, by omega, by go_num, chain hbel (below_regrown wr dq osq)⟩
      case measure => simp [intOf]; omega
    · go_wp2
      go_ret
      exact ⟨rfl, hbel⟩

set_option maxHeartbeats 400000 in
set_option maxRecDepth 100000 in
theorem eqHandler_same (p : PHnd) (w : World) :
    Calls Tryd.prog 73 #[.agg #[.int .i64 p.lo, .int .i64 p.hi, .int .i64 p.target], .agg #[.int .i64 p.lo, .int .i64 p.hi, .int .i64 p.target]] w fun e w' => e = .returned (.bool true) ∧ Below w.heap.size w w' := by
  go_enter Tryd.func73, Tryd.ntmps73
  go_wp2
  go_ret
  exact ⟨rfl, by go_grown⟩

set_option maxHeartbeats 4000000 in
set_option maxRecDepth 100000 in
theorem eqHandlerS_same (a b : Value) (l : List PHnd) (w : World) (ha : ArgFlat w a 3 l.length (l.flatMap hndC)) (hb : ArgFlat w b 3 l.length (l.flatMap hndC)) :
    Calls Tryd.prog 58 #[a, b] w fun e w' => e = .returned (.bool true) ∧ Below w.heap.size w w' := by
  obtain ⟨xa, ca, rfl, hm, oa⟩ := ha.opened hndC_len
  obtain ⟨xb, cb, rfl, _, ob⟩ := hb.opened hndC_len
  clear ha hb
  unfold maxLen at hm
  obtain ⟨n, hn⟩ : ∃ n, l.length = n := ⟨_, rfl⟩
  have HN : Hid (l.length = n) := hn
  rw [hn] at hm oa ob ⊢
  clear hn
  have HA : Hid (0 < n → ∃ b o, xa = some ⟨b, o, none⟩ ∧ b < w.heap.size ∧ ∀ j p, l[j]? = some p → ∀ c u, (hndC p)[c]? = some u → w.cell? ⟨b, o + j * 3 + c, none⟩ = some u) := oa
  have HB : Hid (0 < n → ∃ b o, xb = some ⟨b, o, none⟩ ∧ b < w.heap.size ∧ ∀ j p, l[j]? = some p → ∀ c u, (hndC p)[c]? = some u → w.cell? ⟨b, o + j * 3 + c, none⟩ = some u) := ob
  clear oa ob
  go_enter Tryd.func58, Tryd.ntmps58
  go_wp2
  go_loopw [5] (fun i wr => ∃ k : Nat, k ≤ n ∧ i = .int .i64 k ∧ Below w.heap.size w wr) (fun i _ => n - (intOf i).toNat)
  case atStart => exact ⟨0, Nat.zero_le _, rfl, Below.refl _ _⟩
  case round =>
    obtain ⟨k, hk, rfl, hbel⟩ := hrel
    by_cases hlt : k < n
    · obtain ⟨ga, sa, rfl, hga, hca⟩ := HA.out (by omega)
      obtain ⟨gb, sb, rfl, hgb, hcb⟩ := HB.out (by omega)
      obtain ⟨p, hp⟩ : ∃ p, l[k]? = some p := ⟨_, List.getElem?_eq_getElem (by have := HN.out; omega)⟩
      have cQ := fun d os => Calls.regrown_of (w := wr) (d := d) (os := os) (eqHandler_same p (grow (redrawn wr d) os))
      have c0' : wr.cell? ⟨ga, sa + k * 3, none⟩ = some (.int .i64 p.lo) := (hbel.cell hga).trans (hca k p hp 0 _ rfl)
      have c1' : wr.cell? ⟨ga, sa + k * 3 + 1, none⟩ = some (.int .i64 p.hi) := (hbel.cell hga).trans (hca k p hp 1 _ rfl)
      have c2' : wr.cell? ⟨ga, sa + k * 3 + 2, none⟩ = some (.int .i64 p.target) := (hbel.cell hga).trans (hca k p hp 2 _ rfl)
      have d0' : wr.cell? ⟨gb, sb + k * 3, none⟩ = some (.int .i64 p.lo) := (hbel.cell hgb).trans (hcb k p hp 0 _ rfl)
      have d1' : wr.cell? ⟨gb, sb + k * 3 + 1, none⟩ = some (.int .i64 p.hi) := (hbel.cell hgb).trans (hcb k p hp 1 _ rfl)
      have d2' : wr.cell? ⟨gb, sb + k * 3 + 2, none⟩ = some (.int .i64 p.target) := (hbel.cell hgb).trans (hcb k p hp 2 _ rfl)
      have c0 := cell_regrown c0'
      have c1 := cell_regrown c1'
      have c2 := cell_regrown c2'
      have d0 := cell_regrown d0'
      have d1 := cell_regrown d1'
      have d2 := cell_regrown d2'
      have hki : (k : Int) < (n : Int) := by omega
      have hk0 : (0 : Int) ≤ (k : Int) := by omega
      clear hca hcb hp HA HB c0' c1' c2' d0' d1' d2'
      go_wp2
      refine wp_region_quiet_below (by kernel_rfl) (by kernel_rfl) ?_
      repeat (first | go_big_quiet_step (exact cQ _ _) | quiet_step (exact cQ _ _))
      refine wpQuiet_nil ?_
      intro _ hw'
      obtain ⟨⟨dq, osq⟩, hw''⟩ := hw'
      subst hw''
      go_wp2
      go_roundw
      case rel => exact ⟨k + 1, by omega, by go_num, chain hbel (below_regrown wr dq osq)⟩
      case measure => simp [intOf]; omega
    · go_wp2
      go_ret
      exact ⟨rfl, hbel⟩

set_option maxHeartbeats 400000 in
set_option maxRecDepth 100000 in
theorem eqConst_same (p : PCon) (w : World) :
    Calls Tryd.prog 40 #[.agg #[.int .i64 p.kind, .int .u64 (p.num : Int), .string p.text], .agg #[.int .i64 p.kind, .int .u64 (p.num : Int), .string p.text]] w fun e w' => e = .returned (.bool true) ∧ Below w.heap.size w w' := by
  go_enter Tryd.func40, Tryd.ntmps40
  go_wp2
  go_ret
  exact ⟨rfl, by go_grown⟩

set_option maxHeartbeats 4000000 in
set_option maxRecDepth 100000 in
theorem eqConstS_same (a b : Value) (l : List PCon) (w : World) (ha : ArgFlat w a 3 l.length (l.flatMap conC)) (hb : ArgFlat w b 3 l.length (l.flatMap conC)) :
    Calls Tryd.prog 27 #[a, b] w fun e w' => e = .returned (.bool true) ∧ Below w.heap.size w w' := by
  obtain ⟨xa, ca, rfl, hm, oa⟩ := ha.opened conC_len
  obtain ⟨xb, cb, rfl, _, ob⟩ := hb.opened conC_len
  clear ha hb
  unfold maxLen at hm
  obtain ⟨n, hn⟩ : ∃ n, l.length = n := ⟨_, rfl⟩
  have HN : Hid (l.length = n) := hn
  rw [hn] at hm oa ob ⊢
  clear hn
  have HA : Hid (0 < n → ∃ b o, xa = some ⟨b, o, none⟩ ∧ b < w.heap.size ∧ ∀ j p, l[j]? = some p → ∀ c u, (conC p)[c]? = some u → w.cell? ⟨b, o + j * 3 + c, none⟩ = some u) := oa
  have HB : Hid (0 < n → ∃ b o, xb = some ⟨b, o, none⟩ ∧ b < w.heap.size ∧ ∀ j p, l[j]? = some p → ∀ c u, (conC p)[c]? = some u → w.cell? ⟨b, o + j * 3 + c, none⟩ = some u) := ob
  clear oa ob
  go_enter Tryd.func27, Tryd.ntmps27
  go_wp2
  go_loopw [5] (fun i wr => ∃ k : Nat, k ≤ n ∧ i = .int .i64 k ∧ Below w.heap.size w wr) (fun i _ => n - (intOf i).toNat)
  case atStart => exact ⟨0, Nat.zero_le _, rfl, Below.refl _ _⟩
  case round =>
    obtain ⟨k, hk, rfl, hbel⟩ := hrel
    by_cases hlt : k < n
    · obtain ⟨ga, sa, rfl, hga, hca⟩ := HA.out (by omega)
      obtain ⟨gb, sb, rfl, hgb, hcb⟩ := HB.out (by omega)
      obtain ⟨p, hp⟩ : ∃ p, l[k]? = some p := ⟨_, List.getElem?_eq_getElem (by have := HN.out; omega)⟩
      have cQ := fun d os => Calls.regrown_of (w := wr) (d := d) (os := os) (eqConst_same p (grow (redrawn wr d) os))
      have c0' : wr.cell? ⟨ga, sa + k * 3, none⟩ = some (.int .i64 p.kind) := (hbel.cell hga).trans (hca k p hp 0 _ rfl)
      have c1' : wr.cell? ⟨ga, sa + k * 3 + 1, none⟩ = some (.int .u64 (p.num : Int)) := (hbel.cell hga).trans (hca k p hp 1 _ rfl)
      have c2' : wr.cell? ⟨ga, sa + k * 3 + 2, none⟩ = some (.string p.text) := (hbel.cell hga).trans (hca k p hp 2 _ rfl)
      have d0' : wr.cell? ⟨gb, sb + k * 3, none⟩ = some (.int .i64 p.kind) := (hbel.cell hgb).trans (hcb k p hp 0 _ rfl)
      have d1' : wr.cell? ⟨gb, sb + k * 3 + 1, none⟩ = some (.int .u64 (p.num : Int)) := (hbel.cell hgb).trans (hcb k p hp 1 _ rfl)
      have d2' : wr.cell? ⟨gb, sb + k * 3 + 2, none⟩ = some (.string p.text) := (hbel.cell hgb).trans (hcb k p hp 2 _ rfl)
      have c0 := cell_regrown c0'
      have c1 := cell_regrown c1'
      have c2 := cell_regrown c2'
      have d0 := cell_regrown d0'
      have d1 := cell_regrown d1'
      have d2 := cell_regrown d2'
      have hki : (k : Int) < (n : Int) := by omega
      have hk0 : (0 : Int) ≤ (k : Int) := by omega
      clear hca hcb hp HA HB c0' c1' c2' d0' d1' d2'
      go_wp2
      refine wp_region_quiet_below (by kernel_rfl) (by kernel_rfl) ?_
      repeat (first | go_big_quiet_step (exact cQ _ _) | quiet_step (exact cQ _ _))
      refine wpQuiet_nil ?_
      intro _ hw'
      obtain ⟨⟨dq, osq⟩, hw''⟩ := hw'
      subst hw''
      go_wp2
      go_roundw
      case rel => exact ⟨k + 1, by omega, by go_num, chain hbel (below_regrown wr dq osq)⟩
      case measure => simp [intOf]; omega
    · go_wp2
      go_ret
      exact ⟨rfl, hbel⟩

set_option maxHeartbeats 1000000 in
set_option maxRecDepth 100000 in
theorem eqFunc_same (p : PFun) (c1 k1 h1 c2 k2 h2 : Value) (w : World) (a1 : ArgFlat w c1 2 p.caps.length (p.caps.flatMap capC)) (a2 : ArgFlat w k1 3 p.code.length (p.code.flatMap insC)) (a3 : ArgFlat w h1 3 p.hnds.length (p.hnds.flatMap hndC))
    (b1 : ArgFlat w c2 2 p.caps.length (p.caps.flatMap capC)) (b2 : ArgFlat w k2 3 p.code.length (p.code.flatMap insC)) (b3 : ArgFlat w h2 3 p.hnds.length (p.hnds.flatMap hndC)) :
    Calls Tryd.prog 39 #[.agg #[.int .i64 p.params, .int .i64 p.regs, c1, k1, h1], .agg #[.int .i64 p.params, .int .i64 p.regs, c2, k2, h2]] w fun e w' => e = .returned (.bool true) ∧ Below w.heap.size w w' := by
  have T := made_two w (.cells #[.int .i64 p.params, .int .i64 p.regs, c1, k1, h1] 54) (.cells #[.int .i64 p.params, .int .i64 p.regs, c2, k2, h2] 54)
  obtain ⟨W2, hW2⟩ : ∃ W, ((w.alloc (.cells #[.int .i64 p.params, .int .i64 p.regs, c1, k1, h1] 54)).alloc (.cells #[.int .i64 p.params, .int .i64 p.regs, c2, k2, h2] 54)) = W := ⟨_, rfl⟩
  rw [hW2] at T
  obtain ⟨t0, t1, tz, tb⟩ := T
  have cC := fun W (hb : Below w.heap.size w W) => eqCapS_same c1 c2 p.caps W (a1.below hb) (b1.below hb)
  have cK := fun W (hb : Below w.heap.size w W) => eqInsS_same k1 k2 p.code W (a2.below hb) (b2.below hb)
  have cH := fun W (hb : Below w.heap.size w W) => eqHandlerS_same h1 h2 p.hnds W (a3.below hb) (b3.below hb)
  clear a1 a2 a3 b1 b2 b3
  obtain ⟨G, hG⟩ : ∃ G, w.heap.size = G := ⟨_, rfl⟩
  rw [hG] at t0 t1 tz
  obtain ⟨e0, e1, e2, e3, e4⟩ := cells_five t0
  obtain ⟨f0, f1, f2, f3, f4⟩ := cells_five t1
  go_enter Tryd.func39, Tryd.ntmps39
  go_upto_region 1 with fail
  try simp only [hW2, hG]
  clear hW2
  go_wp2_with fail
  refine (cC W2 tb).mono ?_
  rintro e w3 ⟨rfl, b3⟩
  have x0 := (b3.block G (by omega)).trans t0
  have x1 := (b3.block (G + 1) (by omega)).trans t1
  have tb3 := tb.trans (b3.mono (by omega))
  have s3 := b3.size
  clear e0 e1 e2 e3 e4 f0 f1 f2 f3 f4 t0 t1 cC b3
  obtain ⟨e0, e1, e2, e3, e4⟩ := cells_five x0
  obtain ⟨f0, f1, f2, f3, f4⟩ := cells_five x1
  go_wp2_with fail
  refine (cK w3 tb3).mono ?_
  rintro e w4 ⟨rfl, b4⟩
  have y0 := (b4.block G (by omega)).trans x0
  have y1 := (b4.block (G + 1) (by omega)).trans x1
  have tb4 := tb3.trans (b4.mono (by omega))
  have s4 := b4.size
  clear e0 e1 e2 e3 e4 f0 f1 f2 f3 f4 x0 x1 cK b4 tb3
  obtain ⟨e0, e1, e2, e3, e4⟩ := cells_five y0
  obtain ⟨f0, f1, f2, f3, f4⟩ := cells_five y1
  go_wp2_with fail
  refine (cH w4 tb4).mono ?_
  rintro e w5 ⟨rfl, b5⟩
  have tb5 := tb4.trans (b5.mono (by omega))
  clear e0 e1 e2 e3 e4 f0 f1 f2 f3 f4 y0 y1 cH b5 tb4
  go_wp2
  go_ret
  exact ⟨rfl, tb5⟩

set_option maxHeartbeats 4000000 in
set_option maxRecDepth 100000 in
theorem eqFuncS_same (a b : Value) (l : List PFun) (w : World) (ha : ArgFuns w a l) (hb : ArgFuns w b l) :
    Calls Tryd.prog 26 #[a, b] w fun e w' => e = .returned (.bool true) ∧ Below w.heap.size w w' := by
  obtain ⟨xa, ca, rfl, hm, oa⟩ := ha
  obtain ⟨xb, cb, rfl, _, ob⟩ := hb
  unfold maxLen at hm
  obtain ⟨n, hn⟩ : ∃ n, l.length = n := ⟨_, rfl⟩
  have HN : Hid (l.length = n) := hn
  rw [hn] at hm oa ob ⊢
  clear hn
  have HA : Hid (0 < n → ∃ b o, xa = some ⟨b, o, none⟩ ∧ b < w.heap.size ∧ ∀ j p, l[j]? = some p → ∃ cv kv hv, FunAt w b (o + j * 5) p cv kv hv) := oa
  have HB : Hid (0 < n → ∃ b o, xb = some ⟨b, o, none⟩ ∧ b < w.heap.size ∧ ∀ j p, l[j]? = some p → ∃ cv kv hv, FunAt w b (o + j * 5) p cv kv hv) := ob
  clear oa ob
  go_enter Tryd.func26, Tryd.ntmps26
  go_wp2
  go_loopw [5] (fun i wr => ∃ k : Nat, k ≤ n ∧ i = .int .i64 k ∧ Below w.heap.size w wr) (fun i _ => n - (intOf i).toNat)
  case atStart => exact ⟨0, Nat.zero_le _, rfl, Below.refl _ _⟩
  case round =>
    obtain ⟨k, hk, rfl, hbel⟩ := hrel
    by_cases hlt : k < n
    · obtain ⟨ga, sa, rfl, _, hca⟩ := HA.out (by omega)
      obtain ⟨gb, sb, rfl, _, hcb⟩ := HB.out (by omega)
      obtain ⟨p, hp⟩ : ∃ p, l[k]? = some p := ⟨_, List.getElem?_eq_getElem (by have := HN.out; omega)⟩
      obtain ⟨c1, k1, h1, hA⟩ := hca k p hp
      obtain ⟨c2, k2, h2, hB⟩ := hcb k p hp
      have hA' := hA.below hbel
      have hB' := hB.below hbel
      have cQ := fun d os => Calls.regrown_of (w := wr) (d := d) (os := os) (eqFunc_same p c1 k1 h1 c2 k2 h2 (grow (redrawn wr d) os) (hA'.below (below_regrown wr d os)).caps (hA'.below (below_regrown wr d os)).code (hA'.below (below_regrown wr d os)).hnds (hB'.below (below_regrown wr d os)).caps (hB'.below (below_regrown wr d os)).code (hB'.below (below_regrown wr d os)).hnds)
      have c0 := cell_regrown hA'.c0
      have c1' := cell_regrown hA'.c1
      have c2' := cell_regrown hA'.c2
      have c3 := cell_regrown hA'.c3
      have c4 := cell_regrown hA'.c4
      have d0 := cell_regrown hB'.c0
      have d1 := cell_regrown hB'.c1
      have d2 := cell_regrown hB'.c2
      have d3 := cell_regrown hB'.c3
      have d4 := cell_regrown hB'.c4
      have hki : (k : Int) < (n : Int) := by omega
      have hk0 : (0 : Int) ≤ (k : Int) := by omega
      clear hca hcb hp hA hB hA' hB' HA HB
      go_wp2
      refine wp_region_quiet_below (by kernel_rfl) (by kernel_rfl) ?_
      repeat (first | go_big_quiet_step (exact cQ _ _) | quiet_step (exact cQ _ _))
      refine wpQuiet_nil ?_
      intro _ hw'
      obtain ⟨⟨dq, osq⟩, hw''⟩ := hw'
      subst hw''
      go_wp2
      go_roundw
      case rel => exact ⟨k + 1, by omega, by go_num, chain hbel (below_regrown wr dq osq)⟩
      case measure => simp [intOf]; omega
    · go_wp2
      go_ret
      exact ⟨rfl, hbel⟩

set_option maxHeartbeats 1000000 in
set_option maxRecDepth 100000 in
theorem eqImage_same (p : PImg) (f1 c1 f2 c2 : Value) (w : World) (ha : ArgImg w f1 c1 p) (hb : ArgImg w f2 c2 p) :
    Calls Tryd.prog 12 #[.agg #[f1, c1], .agg #[f2, c2]] w fun e w' => e = .returned (.bool true) ∧ Below w.heap.size w w' := by
  have T := made_two w (.cells #[f1, c1] 37) (.cells #[f2, c2] 37)
  obtain ⟨W2, hW2⟩ : ∃ W, ((w.alloc (.cells #[f1, c1] 37)).alloc (.cells #[f2, c2] 37)) = W := ⟨_, rfl⟩
  rw [hW2] at T
  obtain ⟨t0, t1, tz, tb⟩ := T
  have cF := fun W (hb' : Below w.heap.size w W) => eqFuncS_same f1 f2 p.funcs W (ha.1.below hb') (hb.1.below hb')
  have cC := fun W (hb' : Below w.heap.size w W) => eqConstS_same c1 c2 p.consts W (ha.2.below hb') (hb.2.below hb')
  clear ha hb
  obtain ⟨G, hG⟩ : ∃ G, w.heap.size = G := ⟨_, rfl⟩
  rw [hG] at t0 t1 tz
  obtain ⟨e0, e1⟩ := cells_pair t0
  obtain ⟨d0, d1⟩ := cells_pair t1
  go_enter Tryd.func12, Tryd.ntmps12
  go_upto_region 1 with fail
  try simp only [hW2, hG]
  clear hW2
  go_wp2_with fail
  refine (cF W2 tb).mono ?_
  rintro e w3 ⟨rfl, b3⟩
  have x0 := (b3.block G (by omega)).trans t0
  have x1 := (b3.block (G + 1) (by omega)).trans t1
  have tb3 := tb.trans (b3.mono (by omega))
  clear e0 e1 d0 d1 t0 t1 cF b3
  obtain ⟨e0, e1⟩ := cells_pair x0
  obtain ⟨d0, d1⟩ := cells_pair x1
  go_wp2_with fail
  refine (cC w3 tb3).mono ?_
  rintro e w4 ⟨rfl, b4⟩
  have tb4 := tb3.trans (b4.mono (by have := tb3.size; omega))
  clear e0 e1 d0 d1 x0 x1 cC
  go_wp2
  go_ret
  exact ⟨rfl, tb4⟩

end Go.Proofs.YtojmmmfboahkgaaDoor
