/-
  The program's own measures: within their bounds.
-/
import Derived.Test.YtgaphgejpnepfaaIImg13B
import Derived.Deep.RegionWith
namespace Go.Proofs.Ytgaphgejpnepfaa
open Go.RowKit Go.Sort
set_option linter.unusedVariables false

theorem FiveAt.below {w w' : World} {g n : Nat} {m : Nat → Int} (h : FiveAt w g m) (hb : Below n w w') (hg : g < n) : ∀ j, j < 5 → w'.cell? ⟨g, j, none⟩ = some (.int .i64 (m j)) := fun j hj => (hb.cell (p := ⟨g, j, none⟩) hg).trans (h.cell j hj)

/-- five numbers alike -/
def likeB (m l : Nat → Int) : Bool := m 0 == l 0 && (m 1 == l 1 && (m 2 == l 2 && (m 3 == l 3 && m 4 == l 4)))

theorem like_five (m0 m1 m2 m3 m4 l0 l1 l2 l3 l4 : Int) (w : World) : (if m0 = l0 then if m1 = l1 then if m2 = l2 then if m3 = l3 then if m4 = l4 then Result.ok true w else Result.ok false w else Result.ok false w else Result.ok false w else Result.ok false w else Result.ok false w) = Result.ok (m0 == l0 && (m1 == l1 && (m2 == l2 && (m3 == l3 && m4 == l4)))) w := by
  by_cases h0 : m0 = l0
  · by_cases h1 : m1 = l1
    · by_cases h2 : m2 = l2
      · by_cases h3 : m3 = l3
        · by_cases h4 : m4 = l4 <;> simp [h0, h1, h2, h3, h4]
        · simp [h0, h1, h2, h3]
      · simp [h0, h1, h2]
    · simp [h0, h1]
  · simp [h0]
set_option maxHeartbeats 2000000 in
set_option maxRecDepth 100000 in
theorem eqFive (m l : Nat → Int) (w : World) : (Op.equalIn 10000 158 (.agg (fiveV m)) (.agg (fiveV l))).run Try.prog w = .ok (likeB m l) w := by
  have u3 := Try.underlying3
  have a3 := Try.isAgg3
  have z3 := Try.sizeOf3
  rw [show (10000 : Nat) = 9999 + 1 from rfl, Op.equalIn]
  simp only [Sem.run_bind, run_underlying Try.underlying158, Result.andThen_ok]
  simp only [Std.Legacy.Range.forIn_eq_forIn_range', Std.Legacy.Range.size, Nat.sub_zero, Nat.add_sub_cancel, Nat.div_one, List.range'_succ, List.range'_zero, List.forIn_cons, List.forIn_nil]
  go_simp
  exact like_five _ _ _ _ _ _ _ _ _ _ w
theorem eqGuardFive : Try.prog.eqGuardType Try.prog.depth 158 = false := by kernel_rfl

set_option maxHeartbeats 2000000 in
set_option maxRecDepth 100000 in
theorem iWithin (m l h : Nat → Int) (w : World) (b : Bool) (hb : likeB (hld m l h) m = b) :
    Calls Try.prog 97 #[.agg (fiveV m), .agg (fiveV l), .agg (fiveV h)] w fun e w' => e = .returned (.bool b) ∧ Below w.heap.size w w' := by
  have cH := fun W => iHeldTo m l h W
  have hE := eqFive (hld m l h) m
  have hG := eqGuardFive
  simp only [hb] at hE
  have f1 : FiveAt (((w.alloc (.cells (fiveV m) 158)).alloc (.cells (fiveV l) 158)).alloc (.cells (fiveV h) 158)) w.heap.size m := ((FiveAt.new w m).alloc _).alloc _
  have f2 : FiveAt (((w.alloc (.cells (fiveV m) 158)).alloc (.cells (fiveV l) 158)).alloc (.cells (fiveV h) 158)) (w.heap.size + 1) l := by
    have e : w.heap.size + 1 = (w.alloc (.cells (fiveV m) 158)).heap.size := by simp
    rw [e]
    exact (FiveAt.new _ l).alloc _
  have f3 : FiveAt (((w.alloc (.cells (fiveV m) 158)).alloc (.cells (fiveV l) 158)).alloc (.cells (fiveV h) 158)) (w.heap.size + 2) h := by
    have e : w.heap.size + 2 = ((w.alloc (.cells (fiveV m) 158)).alloc (.cells (fiveV l) 158)).heap.size := by simp
    rw [e]
    exact FiveAt.new _ h
  have b0 : Below w.heap.size w (((w.alloc (.cells (fiveV m) 158)).alloc (.cells (fiveV l) 158)).alloc (.cells (fiveV h) 158)) :=
    (((Below.refl _ _).alloc (Nat.le_refl _) _).alloc (by simp) _).alloc (by simp; omega) _
  have hsz : w.heap.size + 3 = (((w.alloc (.cells (fiveV m) 158)).alloc (.cells (fiveV l) 158)).alloc (.cells (fiveV h) 158)).heap.size := by simp
  obtain ⟨W0, hW0⟩ : ∃ W, (((w.alloc (.cells (fiveV m) 158)).alloc (.cells (fiveV l) 158)).alloc (.cells (fiveV h) 158)) = W := ⟨_, rfl⟩
  rw [hW0] at f1 f2 f3 b0 hsz
  have HW0 : Hid (_ = W0) := hW0
  clear hW0
  obtain ⟨n, hn⟩ : ∃ n, w.heap.size = n := ⟨_, rfl⟩
  rw [hn] at f1 f2 f3 b0 hsz
  have HX : ∀ W, Below W0.drew.heap.size W0.drew W → ∀ j, j < 5 → W.cell? ⟨n, j, none⟩ = some (.int .i64 (m j)) := fun W hW => f1.drew.below hW (by show n < W0.heap.size; omega)
  have g0 := f1.cell 0 (by omega)
  have g1 := f1.cell 1 (by omega)
  have g2 := f1.cell 2 (by omega)
  have g3 := f1.cell 3 (by omega)
  have g4 := f1.cell 4 (by omega)
  have l0 := f2.cell 0 (by omega)
  have l1 := f2.cell 1 (by omega)
  have l2 := f2.cell 2 (by omega)
  have l3 := f2.cell 3 (by omega)
  have l4 := f2.cell 4 (by omega)
  have h0 := f3.cell 0 (by omega)
  have h1 := f3.cell 1 (by omega)
  have h2 := f3.cell 2 (by omega)
  have h3 := f3.cell 3 (by omega)
  have h4 := f3.cell 4 (by omega)
  have HHX : Hid _ := HX
  have HB0 : Hid (Below w.heap.size w W0) := by show Below _ _ _; rw [hn]; exact b0
  clear f1 f2 f3 HX
  go_enter Try.func97, Try.ntmps97
  go_upto_region 1 with fail
  rw [HW0.out]
  clear HW0
  try rw [hn]
  go_region_with (go_at_call 160; refine (cH _).mono ?_; rintro e w' ⟨rfl, hbw⟩; have c0 := HHX.out w' hbw 0 (by omega); have c1 := HHX.out w' hbw 1 (by omega); have c2 := HHX.out w' hbw 2 (by omega); have c3 := HHX.out w' hbw 3 (by omega); have c4 := HHX.out w' hbw 4 (by omega))
  all_goals
    go_wp2
    go_ret
    exact ⟨rfl, chain HB0.out.drew hbw⟩
