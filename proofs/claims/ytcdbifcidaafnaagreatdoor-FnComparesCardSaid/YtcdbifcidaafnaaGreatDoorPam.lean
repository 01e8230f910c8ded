/-
  Part 13 of what is proved of drawn right trees.
-/
import Derived.Test.YtcdbifcidaafnaaGreatDoorPag
import Derived.Test.YtcdbifcidaafnaaGreatDoorPal
import Derived.Test.YtcdbifcidaafnaaGreatDoorPab
import Derived.Deep.QuietTactic
import Derived.BigQuiet
import Derived.Lib.QuietBelow
import Derived.Deep.RegionHeld3

namespace Go.Proofs.YtcdbifcidaafnaaGreatDoor
open Go.RowKit Go.Sort
set_option linter.unusedVariables false
theorem bool_all {a b c d : Bool} (h : (a && (b && c)) = d) : (a = false ∧ d = false) ∨ (a = true ∧ b = false ∧ d = false) ∨ (a = true ∧ b = true ∧ c = d) := by
  subst h
  cases a <;> cases b <;> simp
theorem stoodValue17 : Tryz.prog.stoodInHeld 26 = false := by kernel_rfl
set_option maxHeartbeats 2000000 in
set_option maxRecDepth 100000 in
theorem iValueOk_any (p : PVal) (w : World) (hp : valW p) :
    Calls Tryz.prog 9 #[.agg #[.int .i64 p.kind, .int .u64 (p.num : Int), .string p.text, .int .i64 p.ref]] w fun e w' => e = .returned (.bool (valOk p)) ∧ Below w.heap.size w w' := by
  obtain ⟨T, v, fv, hc⟩ := cont17_some p
  have cC := fun W => iContentAs hc W
  have cV := fun W => iValueOf hc W
  have hE := fun W => eqFour (cvP p) p W
  obtain ⟨d, hd⟩ : ∃ d, valOk p = d := ⟨_, rfl⟩
  have hx := bool_all ((ok17 p).trans hd)
  rw [hd]
  have hl := hp.2.2.1
  obtain ⟨q, hq⟩ : ∃ q, cvP p = q := ⟨_, rfl⟩
  simp only [hq] at cV hE hx
  clear hq hd hp
  obtain ⟨B, hB⟩ : ∃ B, eqP q p = B := ⟨_, rfl⟩
  simp only [hB] at hE hx
  clear hB
  obtain ⟨k, x, s, r⟩ := p
  obtain ⟨qk, qx, qs, qr⟩ := q
  simp only at cC cV hE hx hl ⊢
  unfold maxLen at hl
  have hst := stoodValue17
  have c0 := fun W (h : Below (w.alloc (.cells #[.int .i64 k, .int .u64 (x : Int), .string s, .int .i64 r] 26)).heap.size (w.alloc (.cells #[.int .i64 k, .int .u64 (x : Int), .string s, .int .i64 r] 26)) W) => four_cells ((h.block w.heap.size (by simp)).trans (heap_alloc_new w _))
  have b0 : Below w.heap.size w (w.alloc (.cells #[.int .i64 k, .int .u64 (x : Int), .string s, .int .i64 r] 26)) := (Below.refl _ _).alloc (Nat.le_refl _) _
  obtain ⟨W0, hW0⟩ : ∃ W, (w.alloc (.cells #[.int .i64 k, .int .u64 (x : Int), .string s, .int .i64 r] 26)) = W := ⟨_, rfl⟩
  rw [hW0] at c0 b0
  obtain ⟨X, hX⟩ : ∃ X, w.heap.size = X := ⟨_, rfl⟩
  simp only [hX] at c0
  have HW : Hid (_ = W0) := hW0
  have HX : Hid (w.heap.size = X) := hX
  have HB0 : Hid (Below w.heap.size w W0) := b0
  have HK : Hid (∀ W, Below W0.heap.size W0 W → W.cell? ⟨X, 0, none⟩ = some (.int .i64 k) ∧ W.cell? ⟨X, 1, none⟩ = some (.int .u64 (x : Int)) ∧ W.cell? ⟨X, 2, none⟩ = some (.string s) ∧ W.cell? ⟨X, 3, none⟩ = some (.int .i64 r)) := c0
  obtain ⟨p0, p1, p2, p3⟩ := c0 W0 (Below.refl _ _)
  clear hW0 hX c0 b0
  go_enter Tryz.func9, Tryz.ntmps9
  go_upto_region 1 with fail
  rw [HW.out]
  clear HW
  try simp only [HX.out]
  rcases hc with ⟨_, rfl, rfl, rfl⟩ | ⟨_, rfl, rfl, rfl⟩ | ⟨_, rfl, rfl, rfl⟩ | ⟨_, rfl, rfl, rfl⟩ | ⟨_, rfl, rfl, rfl⟩ | ⟨_, rfl, rfl, rfl⟩
  all_goals
    have tC := fun d os => Calls.regrown_of (w := W0) (d := d) (os := os) (cC (grow (redrawn W0 d) os))
    have tV := fun d os => Calls.regrown_of (w := W0) (d := d) (os := os) (cV (grow (redrawn W0 d) os))
    clear cC cV
    have r0 := cell_regrown p0
    have r1 := cell_regrown p1
    have r2 := cell_regrown p2
    have r3 := cell_regrown p3
    clear p0 p1 p2 p3
    rcases hx with ⟨rfl, rfl⟩ | ⟨rfl, h2, rfl⟩ | ⟨rfl, h2, rfl⟩
    · refine wp_region_quiet_below (by kernel_rfl) (by kernel_rfl) ?_
      quiet_step (with_reducible exact tC _ _)
      quiet_step (with_reducible exact tC _ _)
      quiet_step ((go_invoke; go_simp; with_reducible exact tV _ _))
      iterate 14 (quiet_step (with_reducible exact tC _ _))
      refine wpQuiet_nil ?_
      intro _ hw'
      obtain ⟨⟨dq, osq⟩, hw''⟩ := hw'
      subst hw''
      have HB1 : Hid (Below w.heap.size w (grow (redrawn W0 dq) osq)) := chain HB0.out (below_regrown W0 dq osq)
      clear r0 r1 r2 r3 HK hE
      go_wp2
      go_ret
      exact ⟨rfl, HB1.out⟩
    · have h3 : ¬ (s.size : Int) ≤ 200 := by
        have := of_decide_eq_false h2
        omega
      clear h2
      refine wp_region_quiet_below (by kernel_rfl) (by kernel_rfl) ?_
      quiet_step (with_reducible exact tC _ _)
      quiet_step (with_reducible exact tC _ _)
      quiet_step ((go_invoke; go_simp; with_reducible exact tV _ _))
      iterate 14 (quiet_step (with_reducible exact tC _ _))
      refine wpQuiet_nil ?_
      intro _ hw'
      obtain ⟨⟨dq, osq⟩, hw''⟩ := hw'
      subst hw''
      have HB1 : Hid (Below w.heap.size w (grow (redrawn W0 dq) osq)) := chain HB0.out (below_regrown W0 dq osq)
      clear r0 r1 r2 r3 HK hE
      go_wp2
      go_ret
      exact ⟨rfl, HB1.out⟩
    · have h3 : (s.size : Int) ≤ 200 := by
        have := of_decide_eq_true h2
        omega
      clear h2
      refine wp_region_quiet_below (by kernel_rfl) (by kernel_rfl) ?_
      quiet_step (with_reducible exact tC _ _)
      quiet_step (with_reducible exact tC _ _)
      quiet_step ((go_invoke; go_simp; with_reducible exact tV _ _))
      iterate 14 (quiet_step (with_reducible exact tC _ _))
      refine wpQuiet_nil ?_
      intro _ hw'
      obtain ⟨⟨dq, osq⟩, hw''⟩ := hw'
      subst hw''
      have HB1 : Hid (Below w.heap.size w (grow (redrawn W0 dq) osq)) := chain HB0.out (below_regrown W0 dq osq)
      clear r0 r1 r2 r3 HK hE
      go_wp2
      go_ret
      exact ⟨rfl, HB1.out⟩
end Go.Proofs.YtcdbifcidaafnaaGreatDoor
