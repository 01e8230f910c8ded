/-
  The walk of a drawn expression where nothing is left.
-/
import Derived.Test.YtcabanghegddhaaGreatDoorGen3
namespace Go.Proofs.YtcabanghegddhaaGreatDoor
open Go.RowKit
set_option linter.unusedVariables false

set_option maxHeartbeats 4000000 in
set_option maxRecDepth 100000 in
/-- an expression where nothing is left -/
theorem expr_spent {ac : Option Addr} {len cap g c : Nat} {nv : Value} {N : Nat} {w : World} (d l : Int) (hd : ¬d ≤ 0) (hc2 : w.cell? ⟨g, 2, none⟩ = some (.int .i64 l)) (hl : IntKind.i64.wrap (l - 1) ≤ 0) (G : Gen ac len cap g c nv N w) :
    Calls Tryz.prog 40 #[.pointer (some ⟨g, 0, none⟩), .int .i64 d] w fun e w' => ∃ s : ByteArray, s.size ≤ 30 ∧ e = .returned (.string s) ∧ Gen ac len cap g c nv N w' ∧ Two g c w w' := by
  obtain ⟨c0, c1, _, hf⟩ := G.cells
  have c2 := hc2
  have hd' : decide (d ≤ 0) = false := by simpa using hd
  have f2 := hf 2
  obtain ⟨l', hl'⟩ : ∃ l', IntKind.i64.wrap (l - 1) = l' := ⟨_, rfl⟩
  obtain ⟨W1, hW1⟩ : ∃ W, w.setCell ⟨g, 2, none⟩ (.int .i64 l') = W := ⟨_, rfl⟩
  have G1 : Gen ac len cap g c nv N W1 := by rw [← hW1]; exact G.setLeft l'
  have KK : Two g c w W1.drew := by rw [← hW1]; exact (two_set _).drew
  rw [hl'] at hl
  have d2 : W1.cell? ⟨g, 2, none⟩ = some (.int .i64 l') := by
    obtain ⟨lb, hb⟩ := G.blk
    rw [← hW1]
    exact (cur_cells (by rw [heap_setCell_same _ _ _ _ _ _ hb]; rfl)).2.2.1
  obtain ⟨d0, d1, _, _⟩ := G1.cells
  have d0a := fun o => (G1.drew.alloc o).cells.1
  have cP := fun (W : World) (xs : List Value) (t : TypeId) (n : Nat) (GW : Gen ac len cap g c nv N W) (hn : xs.length = n) (h0 : 0 < n) (hle : n ≤ 1000) (h : ∀ v ∈ xs, ∃ s : ByteArray, v = .string s ∧ s.size ≤ 30) => pick_arr xs t n 30 GW hn h0 hle h
  have cV := fun (W : World) (GW : Gen ac len cap g c nv N W) => l10Var_any GW
  go_enter Tryz.func40, Tryz.ntmps40
  go_upto_region 3 with fail
  try simp only [hW1]
  clear hW1 hf f2 c0 c1 c2 hc2 d2 hd hd' G
  go_region_with (first
    | (go_at_call 41; refine (cV _ ?_).mono ?_; (first | assumption | exact G1.drew | exact G1); rintro e w2 ⟨s, hs, rfl, G2, K2⟩; have KK : Two g c w w2 := Two.trans KK K2; obtain ⟨e0, e1, _, _⟩ := G2.cells; have e0a := fun o => (G2.alloc o).cells.1)
    | (go_at_call 19; refine (cP _ _ _ _ ?_ ?_ ?_ ?_ ?_).mono ?_; (first | assumption | exact G1.drew | exact G1); rfl; decide; decide; (repeat (first | exact str_none | refine str_more (by first | decide | assumption | omega) ?_)); rintro e w5 ⟨p, hp, rfl, G5, K5⟩; have KK : Two g c w w5 := Two.trans KK K5; obtain ⟨j0, j1, _, _⟩ := G5.cells))
  all_goals go_wp2
  all_goals go_ret
  all_goals exact ⟨p, hp, rfl, G5, KK⟩

end Go.Proofs.YtcabanghegddhaaGreatDoor
