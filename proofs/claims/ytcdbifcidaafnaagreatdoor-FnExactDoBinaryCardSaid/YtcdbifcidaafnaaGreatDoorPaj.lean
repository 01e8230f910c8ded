/-
  Part 10 of what is proved of drawn right trees.
-/
import Derived.Test.YtcdbifcidaafnaaGreatDoorPac
import Derived.Test.YtcdbifcidaafnaaGreatDoorPaa
import Derived.Test.YtcdbifcidaafnaaGreatDoorPaf
import Derived.Test.YtcdbifcidaafnaaGreatDoorPah
import Derived.Test.YtcdbifcidaafnaaGreatDoorPai
import Derived.Deep.RegionHeld3

namespace Go.Proofs.YtcdbifcidaafnaaGreatDoor
open Go.RowKit Go.Sort
set_option linter.unusedVariables false
theorem three_made (w : World) (o1 o2 o3 : Obj) : (((w.alloc o1).alloc o2).alloc o3).heap[w.heap.size]? = some o1 ∧ (((w.alloc o1).alloc o2).alloc o3).heap[w.heap.size + 1]? = some o2 ∧ (((w.alloc o1).alloc o2).alloc o3).heap[w.heap.size + 2]? = some o3 ∧ (((w.alloc o1).alloc o2).alloc o3).heap.size = w.heap.size + 3 ∧ Below w.heap.size w (((w.alloc o1).alloc o2).alloc o3) := by
  have z1 : (w.alloc o1).heap.size = w.heap.size + 1 := by simp
  have z2 : ((w.alloc o1).alloc o2).heap.size = w.heap.size + 2 := by simp
  refine ⟨?_, ?_, ?_, by simp, (((Below.refl _ _).alloc (Nat.le_refl _) _).alloc (by simp) _).alloc (by simp; omega) _⟩
  · rw [heap_alloc_old (r := w.heap.size) _ _ (by omega), heap_alloc_old (r := w.heap.size) _ _ (by omega)]
    exact heap_alloc_new _ _
  · rw [heap_alloc_old (r := w.heap.size + 1) _ _ (by omega), ← z1]
    exact heap_alloc_new _ _
  · rw [← z2]
    exact heap_alloc_new _ _
theorem third_ready {w W w1 : World} {a0 a1 a2 a3 b0 b1 b2 b3 : Value} {t : TypeId} (t2 : W.heap[w.heap.size + 2]? = some (.cells #[a0, a1, a2, a3] t)) (tz : W.heap.size = w.heap.size + 3) (tb : Below w.heap.size w W) (h : Below W.heap.size W w1) :
    (w1.cell? ⟨w.heap.size + 1 + 1, 0, none⟩ = some a0 ∧ w1.cell? ⟨w.heap.size + 1 + 1, 1, none⟩ = some a1 ∧ w1.cell? ⟨w.heap.size + 1 + 1, 2, none⟩ = some a2 ∧ w1.cell? ⟨w.heap.size + 1 + 1, 3, none⟩ = some a3) ∧ (∀ j, w1.frozen? ⟨w.heap.size + 1 + 1, j, none⟩ = false) ∧
    (((((w1.setCell ⟨w.heap.size + 1 + 1, 0, none⟩ b0).setCell ⟨w.heap.size + 1 + 1, 1, none⟩ b1).setCell ⟨w.heap.size + 1 + 1, 2, none⟩ b2).setCell ⟨w.heap.size + 1 + 1, 3, none⟩ b3).cell? ⟨w.heap.size + 1 + 1, 0, none⟩ = some b0 ∧ ((((w1.setCell ⟨w.heap.size + 1 + 1, 0, none⟩ b0).setCell ⟨w.heap.size + 1 + 1, 1, none⟩ b1).setCell ⟨w.heap.size + 1 + 1, 2, none⟩ b2).setCell ⟨w.heap.size + 1 + 1, 3, none⟩ b3).cell? ⟨w.heap.size + 1 + 1, 1, none⟩ = some b1 ∧ ((((w1.setCell ⟨w.heap.size + 1 + 1, 0, none⟩ b0).setCell ⟨w.heap.size + 1 + 1, 1, none⟩ b1).setCell ⟨w.heap.size + 1 + 1, 2, none⟩ b2).setCell ⟨w.heap.size + 1 + 1, 3, none⟩ b3).cell? ⟨w.heap.size + 1 + 1, 2, none⟩ = some b2 ∧ ((((w1.setCell ⟨w.heap.size + 1 + 1, 0, none⟩ b0).setCell ⟨w.heap.size + 1 + 1, 1, none⟩ b1).setCell ⟨w.heap.size + 1 + 1, 2, none⟩ b2).setCell ⟨w.heap.size + 1 + 1, 3, none⟩ b3).cell? ⟨w.heap.size + 1 + 1, 3, none⟩ = some b3) ∧
    Below w.heap.size w ((((w1.setCell ⟨w.heap.size + 1 + 1, 0, none⟩ b0).setCell ⟨w.heap.size + 1 + 1, 1, none⟩ b1).setCell ⟨w.heap.size + 1 + 1, 2, none⟩ b2).setCell ⟨w.heap.size + 1 + 1, 3, none⟩ b3) :=
  four_ready (G := w.heap.size + 1 + 1) ((h.block (w.heap.size + 2) (by omega)).trans t2) (tb.trans (h.mono (by omega))) (by omega)
set_option maxHeartbeats 1000000 in
set_option maxRecDepth 100000 in
theorem doB_10 (k k' : Int) (x x' : Nat) (s s' : ByteArray) (r r' : Int) (w : World) (b : Bool) (N : Nat) (hN : bitN (b) = N)
    (cS : ∀ W, Calls Tryz.prog 29 #[.agg #[.int .i64 k, .int .u64 (x : Int), .string s, .int .i64 r], .agg #[.int .i64 k', .int .u64 (x' : Int), .string s', .int .i64 r']] W fun e w' => e = .returned (.bool b) ∧ Below W.heap.size W w') :
    Calls Tryz.prog 11 #[.int .i64 10, .agg #[.int .i64 k, .int .u64 (x : Int), .string s, .int .i64 r], .agg #[.int .i64 k', .int .u64 (x' : Int), .string s', .int .i64 r']] w fun e w' => e = .returned (.tuple #[.agg #[.int .i64 1, .int .u64 (N : Int), .string ⟨#[]⟩, .int .i64 0], .string ⟨#[]⟩]) ∧ Below w.heap.size w w' := by
  have cB := fun W => l17Bool_any (b) W
  simp only [hN] at cB
  clear hN
  obtain ⟨t0, t1, t2, tz, tb⟩ := three_made w (.cells #[.int .i64 k, .int .u64 (x : Int), .string s, .int .i64 r] 26) (.cells #[.int .i64 k', .int .u64 (x' : Int), .string s', .int .i64 r'] 26) (.cells #[.int .i64 0, .int .u64 0, .string ⟨#[]⟩, .int .i64 0] 26)
  go_enter Tryz.func11, Tryz.ntmps11
  go_wp2_with (go_at_call 29; refine (cS _).mono ?_; rintro e w1 ⟨rfl, b1⟩)
  all_goals skip
  refine (cB _).mono ?_
  rintro e w2 ⟨rfl, b2⟩
  obtain ⟨⟨c0, c1, c2, c3⟩, fz, ⟨g0, g1, g2, g3⟩, hbe⟩ := third_ready (w1 := w2) (b0 := .int .i64 1) (b1 := .int .u64 (N : Int)) (b2 := .string ⟨#[]⟩) (b3 := .int .i64 0) t2 tz tb (chain b1 b2)
  clear t0 t1 t2 tz tb
  go_wp2
  refine bodyPost_ret (by simp [results, Tryz.results11, go_sem, g0, g1, g2, g3]; try rfl) rfl ?_
  exact ⟨rfl, hbe⟩
set_option maxHeartbeats 1000000 in
set_option maxRecDepth 100000 in
theorem doB_11 (k k' : Int) (x x' : Nat) (s s' : ByteArray) (r r' : Int) (w : World) (b : Bool) (N : Nat) (hN : bitN (!b) = N)
    (cS : ∀ W, Calls Tryz.prog 29 #[.agg #[.int .i64 k, .int .u64 (x : Int), .string s, .int .i64 r], .agg #[.int .i64 k', .int .u64 (x' : Int), .string s', .int .i64 r']] W fun e w' => e = .returned (.bool b) ∧ Below W.heap.size W w') :
    Calls Tryz.prog 11 #[.int .i64 11, .agg #[.int .i64 k, .int .u64 (x : Int), .string s, .int .i64 r], .agg #[.int .i64 k', .int .u64 (x' : Int), .string s', .int .i64 r']] w fun e w' => e = .returned (.tuple #[.agg #[.int .i64 1, .int .u64 (N : Int), .string ⟨#[]⟩, .int .i64 0], .string ⟨#[]⟩]) ∧ Below w.heap.size w w' := by
  have cB := fun W => l17Bool_any (!b) W
  simp only [hN] at cB
  clear hN
  obtain ⟨t0, t1, t2, tz, tb⟩ := three_made w (.cells #[.int .i64 k, .int .u64 (x : Int), .string s, .int .i64 r] 26) (.cells #[.int .i64 k', .int .u64 (x' : Int), .string s', .int .i64 r'] 26) (.cells #[.int .i64 0, .int .u64 0, .string ⟨#[]⟩, .int .i64 0] 26)
  go_enter Tryz.func11, Tryz.ntmps11
  go_wp2_with (go_at_call 29; refine (cS _).mono ?_; rintro e w1 ⟨rfl, b1⟩)
  all_goals skip
  refine (cB _).mono ?_
  rintro e w2 ⟨rfl, b2⟩
  obtain ⟨⟨c0, c1, c2, c3⟩, fz, ⟨g0, g1, g2, g3⟩, hbe⟩ := third_ready (w1 := w2) (b0 := .int .i64 1) (b1 := .int .u64 (N : Int)) (b2 := .string ⟨#[]⟩) (b3 := .int .i64 0) t2 tz tb (chain b1 b2)
  clear t0 t1 t2 tz tb
  go_wp2
  refine bodyPost_ret (by simp [results, Tryz.results11, go_sem, g0, g1, g2, g3]; try rfl) rfl ?_
  exact ⟨rfl, hbe⟩
set_option maxHeartbeats 1000000 in
set_option maxRecDepth 100000 in
theorem doB_text_order (op : Int) (h10 : ¬ op = 10) (h11 : ¬ op = 11) (x x' : Nat) (s s' : ByteArray) (r r' : Int) (w : World) (ho : inB op 6 9 = true) (N : Nat) (hN : bitN (orderB op (Op.bytesLess s.toList s'.toList) (s.toList == s'.toList) false) = N) :
    Calls Tryz.prog 11 #[.int .i64 op, .agg #[.int .i64 3, .int .u64 (x : Int), .string s, .int .i64 r], .agg #[.int .i64 3, .int .u64 (x' : Int), .string s', .int .i64 r']] w fun e w' => e = .returned (.tuple #[.agg #[.int .i64 1, .int .u64 (N : Int), .string ⟨#[]⟩, .int .i64 0], .string ⟨#[]⟩]) ∧ Below w.heap.size w w' := by
  have cI := fun W => l01In_b op 6 9 W
  simp only [ho] at cI
  clear ho
  have cB := fun W => l17Order_any op (Op.bytesLess s.toList s'.toList) (s.toList == s'.toList) false W
  simp only [hN] at cB
  clear hN
  obtain ⟨t0, t1, t2, tz, tb⟩ := three_made w (.cells #[.int .i64 3, .int .u64 (x : Int), .string s, .int .i64 r] 26) (.cells #[.int .i64 3, .int .u64 (x' : Int), .string s', .int .i64 r'] 26) (.cells #[.int .i64 0, .int .u64 0, .string ⟨#[]⟩, .int .i64 0] 26)
  go_enter Tryz.func11, Tryz.ntmps11
  go_wp2_with (go_at_call 30; with_reducible refine (cI _).mono ?_; rintro e w' ⟨rfl, rfl⟩)
  refine (cB _).mono ?_
  rintro e w2 ⟨rfl, b2⟩
  obtain ⟨⟨c0, c1, c2, c3⟩, fz, ⟨g0, g1, g2, g3⟩, hbe⟩ := third_ready (w1 := w2) (b0 := .int .i64 1) (b1 := .int .u64 (N : Int)) (b2 := .string ⟨#[]⟩) (b3 := .int .i64 0) t2 tz tb (b2)
  clear t0 t1 t2 tz tb
  go_wp2
  refine bodyPost_ret (by simp [results, Tryz.results11, go_sem, g0, g1, g2, g3]; try rfl) rfl ?_
  exact ⟨rfl, hbe⟩
set_option maxHeartbeats 1000000 in
set_option maxRecDepth 100000 in
theorem doB_text_long (x x' : Nat) (s s' : ByteArray) (r r' : Int) (w : World) (hl : 200 < s.size + s'.size) (hs : s.size ≤ 4611686018427387904) (hs' : s'.size ≤ 4611686018427387903) :
    Calls Tryz.prog 11 #[.int .i64 1, .agg #[.int .i64 3, .int .u64 (x : Int), .string s, .int .i64 r], .agg #[.int .i64 3, .int .u64 (x' : Int), .string s', .int .i64 r']] w fun e w' => e = .returned (.tuple #[.agg #[.int .i64 0, .int .u64 0, .string ⟨#[]⟩, .int .i64 0], .string ⟨#[108, 111, 110, 103]⟩]) ∧ Below w.heap.size w w' := by
  have cI := fun W => l01In_b 1 6 9 W
  have ho : inB 1 6 9 = false := by decide
  simp only [ho] at cI
  clear ho
  have z : (200 : Int) < (s.size : Int) + (s'.size : Int) := by omega
  go_enter Tryz.func11, Tryz.ntmps11
  go_wp2_with (go_at_call 30; with_reducible refine (cI _).mono ?_; rintro e w' ⟨rfl, rfl⟩)
  go_returns
  exact ⟨rfl, by go_grown⟩
set_option maxHeartbeats 1000000 in
set_option maxRecDepth 100000 in
theorem doB_text_add (x x' : Nat) (s s' : ByteArray) (r r' : Int) (w : World) (hl : ¬ 200 < s.size + s'.size) :
    Calls Tryz.prog 11 #[.int .i64 1, .agg #[.int .i64 3, .int .u64 (x : Int), .string s, .int .i64 r], .agg #[.int .i64 3, .int .u64 (x' : Int), .string s', .int .i64 r']] w fun e w' => e = .returned (.tuple #[.agg #[.int .i64 3, .int .u64 0, .string (s ++ s'), .int .i64 0], .string ⟨#[]⟩]) ∧ Below w.heap.size w w' := by
  have cI := fun W => l01In_b 1 6 9 W
  have ho : inB 1 6 9 = false := by decide
  simp only [ho] at cI
  clear ho
  have z : ¬ (200 : Int) < (s.size : Int) + (s'.size : Int) := by omega
  have z1 : (s.size : Int) ≤ 200 := by omega
  have z2 : (s'.size : Int) ≤ 200 := by omega
  go_enter Tryz.func11, Tryz.ntmps11
  go_wp2_with (go_at_call 30; with_reducible refine (cI _).mono ?_; rintro e w' ⟨rfl, rfl⟩)
  go_returns
  exact ⟨rfl, by go_grown⟩
set_option maxHeartbeats 1000000 in
set_option maxRecDepth 100000 in
theorem doB_text_type (op : Int) (h10 : ¬ op = 10) (h11 : ¬ op = 11) (h1 : ¬ op = 1) (x x' : Nat) (s s' : ByteArray) (r r' : Int) (w : World) (ho : inB op 6 9 = false) :
    Calls Tryz.prog 11 #[.int .i64 op, .agg #[.int .i64 3, .int .u64 (x : Int), .string s, .int .i64 r], .agg #[.int .i64 3, .int .u64 (x' : Int), .string s', .int .i64 r']] w fun e w' => e = .returned (.tuple #[.agg #[.int .i64 0, .int .u64 0, .string ⟨#[]⟩, .int .i64 0], .string ⟨#[116, 121, 112, 101]⟩]) ∧ Below w.heap.size w w' := by
  have cI := fun W => l01In_b op 6 9 W
  simp only [ho] at cI
  clear ho
  have z1 : (op == 1) = false := by rw [beq_eq_false_iff_ne]; exact h1
  go_enter Tryz.func11, Tryz.ntmps11
  go_wp2_with (go_at_call 30; with_reducible refine (cI _).mono ?_; rintro e w' ⟨rfl, rfl⟩)
  go_returns
  exact ⟨rfl, by go_grown⟩
set_option maxHeartbeats 1000000 in
set_option maxRecDepth 100000 in
theorem doB_type (op : Int) (h10 : ¬ op = 10) (h11 : ¬ op = 11) (k k' : Int) (x x' : Nat) (s s' : ByteArray) (r r' : Int) (w : World) (h3 : ¬ (k = 3 ∧ k' = 3)) (h2 : ¬ (k = 2 ∧ k' = 2)) :
    Calls Tryz.prog 11 #[.int .i64 op, .agg #[.int .i64 k, .int .u64 (x : Int), .string s, .int .i64 r], .agg #[.int .i64 k', .int .u64 (x' : Int), .string s', .int .i64 r']] w fun e w' => e = .returned (.tuple #[.agg #[.int .i64 0, .int .u64 0, .string ⟨#[]⟩, .int .i64 0], .string ⟨#[116, 121, 112, 101]⟩]) ∧ Below w.heap.size w w' := by
  have cI := fun W => l01In_b op 6 9 W
  obtain ⟨bo, ho⟩ : ∃ b, inB op 6 9 = b := ⟨_, rfl⟩
  simp only [ho] at cI
  clear ho
  by_cases a3 : k = 3
  · subst a3
    have b3 : ¬ k' = 3 := fun e => h3 ⟨rfl, e⟩
    clear h3 h2
    go_enter Tryz.func11, Tryz.ntmps11
    go_wp2_with (go_at_call 30; with_reducible refine (cI _).mono ?_; rintro e w' ⟨rfl, rfl⟩)
    go_returns
    exact ⟨rfl, by go_grown⟩
  by_cases a2 : k = 2
  · subst a2
    have b2 : ¬ k' = 2 := fun e => h2 ⟨rfl, e⟩
    clear h3 h2
    go_enter Tryz.func11, Tryz.ntmps11
    go_wp2_with (go_at_call 30; with_reducible refine (cI _).mono ?_; rintro e w' ⟨rfl, rfl⟩)
    go_returns
    exact ⟨rfl, by go_grown⟩
  clear h3 h2
  go_enter Tryz.func11, Tryz.ntmps11
  go_wp2_with (go_at_call 30; with_reducible refine (cI _).mono ?_; rintro e w' ⟨rfl, rfl⟩)
  go_returns
  exact ⟨rfl, by go_grown⟩
set_option maxHeartbeats 1000000 in
set_option maxRecDepth 100000 in
theorem doB_num_1 (x x' : Nat) (s s' : ByteArray) (r r' : Int) (w : World) (N : Nat) (cF : ∀ W, Calls Tryz.prog 36 #[.int .u64 (x : Int), .int .u64 (x' : Int)] W fun e w' => e = .returned (.int .u64 (N : Int)) ∧ Below W.heap.size W w') :
    Calls Tryz.prog 11 #[.int .i64 1, .agg #[.int .i64 2, .int .u64 (x : Int), .string s, .int .i64 r], .agg #[.int .i64 2, .int .u64 (x' : Int), .string s', .int .i64 r']] w fun e w' => e = .returned (.tuple #[.agg #[.int .i64 2, .int .u64 (N : Int), .string ⟨#[]⟩, .int .i64 0], .string ⟨#[]⟩]) ∧ Below w.heap.size w w' := by
  have cI := fun W => l01In_b 1 6 9 W
  have ho : inB 1 6 9 = false := by decide
  simp only [ho] at cI
  clear ho
  have cM := fun W => l17Number_any N W
  obtain ⟨t0, t1, t2, tz, tb⟩ := three_made w (.cells #[.int .i64 2, .int .u64 (x : Int), .string s, .int .i64 r] 26) (.cells #[.int .i64 2, .int .u64 (x' : Int), .string s', .int .i64 r'] 26) (.cells #[.int .i64 0, .int .u64 0, .string ⟨#[]⟩, .int .i64 0] 26)
  go_enter Tryz.func11, Tryz.ntmps11
  go_wp2_with (go_at_call 30; with_reducible refine (cI _).mono ?_; rintro e w' ⟨rfl, rfl⟩)
  refine (cF _).mono ?_
  rintro e w1 ⟨rfl, b1⟩
  go_wp2_with fail
  refine (cM _).mono ?_
  rintro e w2 ⟨rfl, b2⟩
  obtain ⟨⟨c0, c1, c2, c3⟩, fz, ⟨g0, g1, g2, g3⟩, hbe⟩ := third_ready (w1 := w2) (b0 := .int .i64 2) (b1 := .int .u64 (N : Int)) (b2 := .string ⟨#[]⟩) (b3 := .int .i64 0) t2 tz tb (chain b1 b2)
  clear t0 t1 t2 tz tb
  go_wp2
  refine bodyPost_ret (by simp [results, Tryz.results11, go_sem, g0, g1, g2, g3]; try rfl) rfl ?_
  exact ⟨rfl, hbe⟩
set_option maxHeartbeats 1000000 in
set_option maxRecDepth 100000 in
theorem doB_num_2 (x x' : Nat) (s s' : ByteArray) (r r' : Int) (w : World) (N : Nat) (cF : ∀ W, Calls Tryz.prog 37 #[.int .u64 (x : Int), .int .u64 (x' : Int)] W fun e w' => e = .returned (.int .u64 (N : Int)) ∧ Below W.heap.size W w') :
    Calls Tryz.prog 11 #[.int .i64 2, .agg #[.int .i64 2, .int .u64 (x : Int), .string s, .int .i64 r], .agg #[.int .i64 2, .int .u64 (x' : Int), .string s', .int .i64 r']] w fun e w' => e = .returned (.tuple #[.agg #[.int .i64 2, .int .u64 (N : Int), .string ⟨#[]⟩, .int .i64 0], .string ⟨#[]⟩]) ∧ Below w.heap.size w w' := by
  have cI := fun W => l01In_b 2 6 9 W
  have ho : inB 2 6 9 = false := by decide
  simp only [ho] at cI
  clear ho
  have cM := fun W => l17Number_any N W
  obtain ⟨t0, t1, t2, tz, tb⟩ := three_made w (.cells #[.int .i64 2, .int .u64 (x : Int), .string s, .int .i64 r] 26) (.cells #[.int .i64 2, .int .u64 (x' : Int), .string s', .int .i64 r'] 26) (.cells #[.int .i64 0, .int .u64 0, .string ⟨#[]⟩, .int .i64 0] 26)
  go_enter Tryz.func11, Tryz.ntmps11
  go_wp2_with (go_at_call 30; with_reducible refine (cI _).mono ?_; rintro e w' ⟨rfl, rfl⟩)
  refine (cF _).mono ?_
  rintro e w1 ⟨rfl, b1⟩
  go_wp2_with fail
  refine (cM _).mono ?_
  rintro e w2 ⟨rfl, b2⟩
  obtain ⟨⟨c0, c1, c2, c3⟩, fz, ⟨g0, g1, g2, g3⟩, hbe⟩ := third_ready (w1 := w2) (b0 := .int .i64 2) (b1 := .int .u64 (N : Int)) (b2 := .string ⟨#[]⟩) (b3 := .int .i64 0) t2 tz tb (chain b1 b2)
  clear t0 t1 t2 tz tb
  go_wp2
  refine bodyPost_ret (by simp [results, Tryz.results11, go_sem, g0, g1, g2, g3]; try rfl) rfl ?_
  exact ⟨rfl, hbe⟩
set_option maxHeartbeats 1000000 in
set_option maxRecDepth 100000 in
theorem doB_num_3 (x x' : Nat) (s s' : ByteArray) (r r' : Int) (w : World) (N : Nat) (cF : ∀ W, Calls Tryz.prog 38 #[.int .u64 (x : Int), .int .u64 (x' : Int)] W fun e w' => e = .returned (.int .u64 (N : Int)) ∧ Below W.heap.size W w') :
    Calls Tryz.prog 11 #[.int .i64 3, .agg #[.int .i64 2, .int .u64 (x : Int), .string s, .int .i64 r], .agg #[.int .i64 2, .int .u64 (x' : Int), .string s', .int .i64 r']] w fun e w' => e = .returned (.tuple #[.agg #[.int .i64 2, .int .u64 (N : Int), .string ⟨#[]⟩, .int .i64 0], .string ⟨#[]⟩]) ∧ Below w.heap.size w w' := by
  have cI := fun W => l01In_b 3 6 9 W
  have ho : inB 3 6 9 = false := by decide
  simp only [ho] at cI
  clear ho
  have cM := fun W => l17Number_any N W
  obtain ⟨t0, t1, t2, tz, tb⟩ := three_made w (.cells #[.int .i64 2, .int .u64 (x : Int), .string s, .int .i64 r] 26) (.cells #[.int .i64 2, .int .u64 (x' : Int), .string s', .int .i64 r'] 26) (.cells #[.int .i64 0, .int .u64 0, .string ⟨#[]⟩, .int .i64 0] 26)
  go_enter Tryz.func11, Tryz.ntmps11
  go_wp2_with (go_at_call 30; with_reducible refine (cI _).mono ?_; rintro e w' ⟨rfl, rfl⟩)
  refine (cF _).mono ?_
  rintro e w1 ⟨rfl, b1⟩
  go_wp2_with fail
  refine (cM _).mono ?_
  rintro e w2 ⟨rfl, b2⟩
  obtain ⟨⟨c0, c1, c2, c3⟩, fz, ⟨g0, g1, g2, g3⟩, hbe⟩ := third_ready (w1 := w2) (b0 := .int .i64 2) (b1 := .int .u64 (N : Int)) (b2 := .string ⟨#[]⟩) (b3 := .int .i64 0) t2 tz tb (chain b1 b2)
  clear t0 t1 t2 tz tb
  go_wp2
  refine bodyPost_ret (by simp [results, Tryz.results11, go_sem, g0, g1, g2, g3]; try rfl) rfl ?_
  exact ⟨rfl, hbe⟩
set_option maxHeartbeats 1000000 in
set_option maxRecDepth 100000 in
theorem doB_num_4 (x x' : Nat) (s s' : ByteArray) (r r' : Int) (w : World) (N : Nat) (cF : ∀ W, Calls Tryz.prog 39 #[.int .u64 (x : Int), .int .u64 (x' : Int)] W fun e w' => e = .returned (.int .u64 (N : Int)) ∧ Below W.heap.size W w') :
    Calls Tryz.prog 11 #[.int .i64 4, .agg #[.int .i64 2, .int .u64 (x : Int), .string s, .int .i64 r], .agg #[.int .i64 2, .int .u64 (x' : Int), .string s', .int .i64 r']] w fun e w' => e = .returned (.tuple #[.agg #[.int .i64 2, .int .u64 (N : Int), .string ⟨#[]⟩, .int .i64 0], .string ⟨#[]⟩]) ∧ Below w.heap.size w w' := by
  have cI := fun W => l01In_b 4 6 9 W
  have ho : inB 4 6 9 = false := by decide
  simp only [ho] at cI
  clear ho
  have cM := fun W => l17Number_any N W
  obtain ⟨t0, t1, t2, tz, tb⟩ := three_made w (.cells #[.int .i64 2, .int .u64 (x : Int), .string s, .int .i64 r] 26) (.cells #[.int .i64 2, .int .u64 (x' : Int), .string s', .int .i64 r'] 26) (.cells #[.int .i64 0, .int .u64 0, .string ⟨#[]⟩, .int .i64 0] 26)
  go_enter Tryz.func11, Tryz.ntmps11
  go_wp2_with (go_at_call 30; with_reducible refine (cI _).mono ?_; rintro e w' ⟨rfl, rfl⟩)
  refine (cF _).mono ?_
  rintro e w1 ⟨rfl, b1⟩
  go_wp2_with fail
  refine (cM _).mono ?_
  rintro e w2 ⟨rfl, b2⟩
  obtain ⟨⟨c0, c1, c2, c3⟩, fz, ⟨g0, g1, g2, g3⟩, hbe⟩ := third_ready (w1 := w2) (b0 := .int .i64 2) (b1 := .int .u64 (N : Int)) (b2 := .string ⟨#[]⟩) (b3 := .int .i64 0) t2 tz tb (chain b1 b2)
  clear t0 t1 t2 tz tb
  go_wp2
  refine bodyPost_ret (by simp [results, Tryz.results11, go_sem, g0, g1, g2, g3]; try rfl) rfl ?_
  exact ⟨rfl, hbe⟩
set_option maxHeartbeats 1000000 in
set_option maxRecDepth 100000 in
theorem doB_num_5 (x x' : Nat) (s s' : ByteArray) (r r' : Int) (w : World) (N : Nat) (cF : ∀ W, Calls Tryz.prog 40 #[.int .u64 (x : Int), .int .u64 (x' : Int)] W fun e w' => e = .returned (.int .u64 (N : Int)) ∧ Below W.heap.size W w') :
    Calls Tryz.prog 11 #[.int .i64 5, .agg #[.int .i64 2, .int .u64 (x : Int), .string s, .int .i64 r], .agg #[.int .i64 2, .int .u64 (x' : Int), .string s', .int .i64 r']] w fun e w' => e = .returned (.tuple #[.agg #[.int .i64 2, .int .u64 (N : Int), .string ⟨#[]⟩, .int .i64 0], .string ⟨#[]⟩]) ∧ Below w.heap.size w w' := by
  have cI := fun W => l01In_b 5 6 9 W
  have ho : inB 5 6 9 = false := by decide
  simp only [ho] at cI
  clear ho
  have cM := fun W => l17Number_any N W
  obtain ⟨t0, t1, t2, tz, tb⟩ := three_made w (.cells #[.int .i64 2, .int .u64 (x : Int), .string s, .int .i64 r] 26) (.cells #[.int .i64 2, .int .u64 (x' : Int), .string s', .int .i64 r'] 26) (.cells #[.int .i64 0, .int .u64 0, .string ⟨#[]⟩, .int .i64 0] 26)
  go_enter Tryz.func11, Tryz.ntmps11
  go_wp2_with (go_at_call 30; with_reducible refine (cI _).mono ?_; rintro e w' ⟨rfl, rfl⟩)
  refine (cF _).mono ?_
  rintro e w1 ⟨rfl, b1⟩
  go_wp2_with fail
  refine (cM _).mono ?_
  rintro e w2 ⟨rfl, b2⟩
  obtain ⟨⟨c0, c1, c2, c3⟩, fz, ⟨g0, g1, g2, g3⟩, hbe⟩ := third_ready (w1 := w2) (b0 := .int .i64 2) (b1 := .int .u64 (N : Int)) (b2 := .string ⟨#[]⟩) (b3 := .int .i64 0) t2 tz tb (chain b1 b2)
  clear t0 t1 t2 tz tb
  go_wp2
  refine bodyPost_ret (by simp [results, Tryz.results11, go_sem, g0, g1, g2, g3]; try rfl) rfl ?_
  exact ⟨rfl, hbe⟩
set_option maxHeartbeats 1000000 in
set_option maxRecDepth 100000 in
theorem doB_num_type (op : Int) (h10 : ¬ op = 10) (h11 : ¬ op = 11) (h1 : ¬ op = 1) (h2 : ¬ op = 2) (h3 : ¬ op = 3) (h4 : ¬ op = 4) (h5 : ¬ op = 5) (x x' : Nat) (s s' : ByteArray) (r r' : Int) (w : World) (ho : inB op 6 9 = false) :
    Calls Tryz.prog 11 #[.int .i64 op, .agg #[.int .i64 2, .int .u64 (x : Int), .string s, .int .i64 r], .agg #[.int .i64 2, .int .u64 (x' : Int), .string s', .int .i64 r']] w fun e w' => e = .returned (.tuple #[.agg #[.int .i64 0, .int .u64 0, .string ⟨#[]⟩, .int .i64 0], .string ⟨#[116, 121, 112, 101]⟩]) ∧ Below w.heap.size w w' := by
  have cI := fun W => l01In_b op 6 9 W
  simp only [ho] at cI
  clear ho
  go_enter Tryz.func11, Tryz.ntmps11
  go_wp2_with (go_at_call 30; with_reducible refine (cI _).mono ?_; rintro e w' ⟨rfl, rfl⟩)
  go_returns
  exact ⟨rfl, by go_grown⟩
end Go.Proofs.YtcdbifcidaafnaaGreatDoor
