/-
  The places that the laws draw: twelve numbers below 10000.
-/
import Derived.Test.YtfocaoliadbhcaaDoorDraw1
namespace Go.Proofs.YtfocaoliadbhcaaDoor
open Go.RowKit
set_option linter.unusedVariables false

/-- v is a slice of twelve numbers below 10000, in memory that was made behind block b -/
def Places (w : World) (b : Nat) (v : Value) (ps : List Nat) : Prop :=
  ps.length = 12 ∧ (∀ j, ps.getD j 0 < 10000) ∧ ∃ g cap, v = .slice (some ⟨g, 0, none⟩) 12 cap ∧ b ≤ g ∧ g < w.heap.size ∧ ∀ j, j < 12 → w.cell? ⟨g, j, none⟩ = some (.int .i64 (ps.getD j 0 : Nat))

theorem getD_snoc {ps : List Nat} {x n : Nat} (h : ∀ j, ps.getD j 0 < n) (hx : x < n) : ∀ j, (ps ++ [x]).getD j 0 < n := by
  intro j
  rw [List.getD_eq_getElem?_getD]
  by_cases h1 : j < ps.length
  · rw [List.getElem?_append_left h1, ← List.getD_eq_getElem?_getD]; exact h j
  · rw [List.getElem?_append_right (by omega)]
    by_cases h2 : j - ps.length = 0
    · rw [h2]; exact hx
    · rw [List.getElem?_eq_none (by simp; omega)]
      show 0 < n
      omega

theorem places_of {w : World} {b : Nat} {v : Value} {ps : List Nat} (hl : ps.length = 12) (hp : ∀ j, ps.getD j 0 < 10000) (h : w.ownsRow b 3 1 v 12 (ps.map fun p => Value.int .i64 (p : Nat))) : Places w b v ps := by
  have hcs := fun g hg => h.cells (g := g) hg
  obtain ⟨hlen, ⟨rfl, h0⟩ | ⟨g, cap, cur, rfl, hb, hg, hnc, hc, hsz, htk⟩⟩ := h
  · omega
  · refine ⟨hl, hp, g, cap, rfl, hb, ?_, fun j hj => ?_⟩
    · by_cases hlt : g < w.heap.size
      · exact hlt
      · rw [Array.getElem?_eq_none (by omega)] at hg
        cases hg
    · have h := hcs g rfl j (.int .i64 (ps.getD j 0 : Nat)) (by simp [List.getElem?_eq_getElem (show j < ps.length by omega)])
      have hq : (⟨g, 0, none⟩ : Addr).add j = ⟨g, 0 + j, none⟩ := by unfold Addr.add; split <;> simp_all
      rw [hq, Nat.zero_add] at h
      exact h

set_option maxHeartbeats 1000000 in
set_option maxRecDepth 100000 in
theorem drawPlaces_any (ac : Option Addr) (len cap : Nat) (w : World) (hc : CodeIn w ac len w.heap.size) :
    Calls Tryd.prog 26 #[.slice ac len cap] w fun e w' => ∃ (v : Value) (ps : List Nat), e = .returned v ∧ Places w' w.heap.size v ps ∧ Below w.heap.size w w' := by
  obtain ⟨i0, hi, hz0, hz1, hz2⟩ := info_parts Tryd.infoInt
  go_enter Tryd.func26, Tryd.ntmps26
  go_wp2_with fail
  refine (l01New_any ac len cap _ hc).mono ?_
  rintro e wa ⟨g, rfl, hg, hCa, hba⟩
  go_wp2_with fail
  refine (l01Byte_any ac len cap g _ hCa).mono ?_
  rintro e wb ⟨y, hy, rfl, hCb, grb⟩
  have hbb : Below w.heap.size w wb := hba.grown grb hba.size (fun k hk => by injection hk with hk; omega)
  have hgb := hCb.2.1
  clear hba grb hCa
  go_wp2_with fail
  go_loopw [4, 5] (fun v x wr => ∃ (k : Nat) (xs : List Nat), k ≤ 12 ∧ x = .int .i64 k ∧ xs.length = k ∧ (∀ j, xs.getD j 0 < 10000) ∧ wr.ownsRow wb.heap.size 3 1 v k (xs.map fun p => Value.int .i64 (p : Nat)) ∧ Cur ac len cap wr g ∧ wb.grownBy wr (some g)) (fun _ x _ => 12 - (intOf x).toNat)
  case atStart => exact ⟨0, [], Nat.zero_le _, rfl, rfl, by simp, World.ownsRow_made wb #[] 0 (Nat.le_refl _) (Nat.zero_le _) rfl, cur_alloc hCb _, World.grownBy_alloc _ _ _⟩
  case round =>
    obtain ⟨k, xs, hk, rfl, hxs, hlow, hown, hCr, gr⟩ := hrel
    have hsz := gr.size
    have HL : Hid (Unit → ∀ j, xs.getD j 0 < 10000) := fun _ => hlow
    clear hlow
    by_cases hlt : k < 12
    · go_wp2_with fail
      refine (l01Below_nat ac len cap g 10000 wr hCr (by omega) (by omega)).mono ?_
      rintro e w1 ⟨x, hx, rfl, hC1, gr1⟩
      have hown1 : w1.ownsRow wb.heap.size 3 1 _ k (xs.map fun p => Value.int .i64 (p : Nat)) := hown.kept gr1 (by
        cases hv : Value.ownBlock _ with
        | none => exact .inl rfl
        | some q => exact .inr (by have := (hown.lt q hv).1; simp; omega))
      have hsz1 := gr1.size
      go_wp2_with (at_builtin; refine append_one (w0 := w1) rfl _ _ 42 rfl wb.heap.size 3 i0 (.int .i64 0) 8 Tryd.underlying42 hi hz0 hz1 hz2 rfl _ _ _ rfl hown1 (.int .i64 (x : Int)) rfl rfl (by omega) (by decide) (Below.refl _ _) (by omega) ?_)
      intro v' w2 hown' hbel'
      have hC2 := cur_below hCb hC1 hbel'
      have gr2 := gr_below (gr.trans gr1) hbel'
      have hrow : w2.ownsRow wb.heap.size 3 1 v' (k + 1) ((xs ++ [x]).map fun p => Value.int .i64 (p : Nat)) := by simpa using hown'
      clear hown' hown hown1 gr gr1 hCr
      go_wp2
      go_roundw
      case rel => exact ⟨k + 1, xs ++ [x], by omega, by go_num, by simp [hxs], getD_snoc (HL.out ()) hx, hrow, hC2, gr2⟩
      case measure => simp [intOf]; omega
    · obtain rfl : k = 12 := by omega
      have hpl := places_of hxs (HL.out ()) hown
      have hbs := hbb.size
      go_wp2
      go_ret
      obtain ⟨h1, h2, gp, cp, h3, h4, h5⟩ := hpl
      exact ⟨_, xs, rfl, ⟨h1, h2, gp, cp, h3, by omega, h5⟩, hbb.grown gr hbb.size (fun k hk => by injection hk with hk; omega)⟩

end Go.Proofs.YtfocaoliadbhcaaDoor
