/-
  The program's own measures: five numbers held to their bounds.
-/
import Derived.Test.YtgaphgejpnepfaaImg13C
namespace Go.Proofs.Ytgaphgejpnepfaa
open Go.RowKit Go.Sort
set_option linter.unusedVariables false

/-- a number held to its bounds -/
def hld (m l h : Nat → Int) (j : Nat) : Int := if h j < (if m j < l j then l j else m j) then h j else (if m j < l j then l j else m j)
/-- five numbers as they are handed over -/
abbrev fiveV (m : Nat → Int) : Array Value := #[.int .i64 (m 0), .int .i64 (m 1), .int .i64 (m 2), .int .i64 (m 3), .int .i64 (m 4)]
/-- a block of five numbers -/
structure FiveAt (w : World) (g : Nat) (m : Nat → Int) : Prop where
  five : ∃ cs, w.heap[g]? = some (.cells cs 158 (0, 0)) ∧ cs.size = 5 ∧ ∀ j, j < 5 → cs[j]? = some (.int .i64 (m j))
theorem FiveAt.cell {w : World} {g : Nat} {m : Nat → Int} (h : FiveAt w g m) (j : Nat) (hj : j < 5) : w.cell? ⟨g, j, none⟩ = some (.int .i64 (m j)) := by
  obtain ⟨cs, h1, h2, h3⟩ := h.five
  rw [cell_of_row _ _ _ _ _ _ h1]
  exact h3 j hj
theorem FiveAt.free {w : World} {g : Nat} {m : Nat → Int} (h : FiveAt w g m) (j : Nat) : w.frozen? ⟨g, j, none⟩ = false := by
  obtain ⟨cs, h1, h2, h3⟩ := h.five
  exact frozen_of_row _ _ _ _ _ h1
theorem FiveAt.set {w : World} {g : Nat} {m : Nat → Int} (h : FiveAt w g m) (k : Nat) (v : Int) (m' : Nat → Int) (hm : ∀ j, j < 5 → m' j = if j = k then v else m j) : FiveAt (w.setCell ⟨g, k, none⟩ (.int .i64 v)) g m' := by
  obtain ⟨cs, h1, h2, h3⟩ := h.five
  refine ⟨_, heap_setCell_same _ _ _ _ _ _ h1, by simp [h2], fun j hj => ?_⟩
  rw [hm j hj, Array.getElem?_setIfInBounds]
  by_cases e : k = j
  · subst e
    rw [if_pos rfl, if_pos (by omega), if_pos rfl]
  · rw [if_neg e, if_neg (fun x => e x.symm)]
    exact h3 j hj
theorem FiveAt.far {w : World} {g k o : Nat} {m : Nat → Int} {v : Value} (h : FiveAt w g m) (hg : g ≠ k) : FiveAt (w.setCell ⟨k, o, none⟩ v) g m := by
  obtain ⟨cs, h1, h2, h3⟩ := h.five
  refine ⟨cs, ?_, h2, h3⟩
  rw [heap_setCell_other _ _ _ _ hg]
  exact h1
theorem FiveAt.drew {w : World} {g : Nat} {m : Nat → Int} (h : FiveAt w g m) : FiveAt w.drew g m := ⟨h.five⟩
theorem FiveAt.new (w : World) (m : Nat → Int) : FiveAt (w.alloc (.cells (fiveV m) 158)) w.heap.size m := by
  refine ⟨_, heap_alloc_new w _, rfl, fun j hj => ?_⟩
  match j, hj with
  | 0, _ => rfl
  | 1, _ => rfl
  | 2, _ => rfl
  | 3, _ => rfl
  | 4, _ => rfl
theorem FiveAt.alloc {w : World} {g : Nat} {m : Nat → Int} (h : FiveAt w g m) (o : Obj) : FiveAt (w.alloc o) g m := by
  obtain ⟨cs, h1, h2, h3⟩ := h.five
  refine ⟨cs, ?_, h2, h3⟩
  have hlt : g < w.heap.size := by
    rcases Nat.lt_or_ge g w.heap.size with x | x
    · exact x
    · rw [Array.getElem?_eq_none x] at h1; cases h1
  rw [← h1]
  show (w.heap.push o)[g]? = _
  rw [Array.getElem?_push]
  rw [if_neg (by omega)]

set_option maxHeartbeats 2000000 in
set_option maxRecDepth 100000 in
theorem iHeldTo (m l h : Nat → Int) (w : World) :
    Calls Try.prog 160 #[.agg (fiveV m), .agg (fiveV l), .agg (fiveV h)] w fun e w' => e = .returned (.agg (fiveV (hld m l h))) ∧ Below w.heap.size w w' := by
  obtain ⟨n, hn⟩ : ∃ n, w.heap.size = n := ⟨_, rfl⟩
  have f1 : FiveAt ((((w.alloc (.cells (fiveV m) 158)).alloc (.cells (fiveV l) 158)).alloc (.cells (fiveV h) 158)).alloc (.cells #[.int .i64 0, .int .i64 0, .int .i64 0, .int .i64 0, .int .i64 0] 158)) n m := by
    rw [← hn]
    exact (((FiveAt.new w m).alloc _).alloc _).alloc _
  have f2 : FiveAt ((((w.alloc (.cells (fiveV m) 158)).alloc (.cells (fiveV l) 158)).alloc (.cells (fiveV h) 158)).alloc (.cells #[.int .i64 0, .int .i64 0, .int .i64 0, .int .i64 0, .int .i64 0] 158)) (n + 1) l := by
    have e : n + 1 = (w.alloc (.cells (fiveV m) 158)).heap.size := by rw [← hn]; simp
    rw [e]
    exact ((FiveAt.new _ l).alloc _).alloc _
  have f3 : FiveAt ((((w.alloc (.cells (fiveV m) 158)).alloc (.cells (fiveV l) 158)).alloc (.cells (fiveV h) 158)).alloc (.cells #[.int .i64 0, .int .i64 0, .int .i64 0, .int .i64 0, .int .i64 0] 158)) (n + 2) h := by
    have e : n + 2 = ((w.alloc (.cells (fiveV m) 158)).alloc (.cells (fiveV l) 158)).heap.size := by rw [← hn]; simp
    rw [e]
    exact (FiveAt.new _ h).alloc _
  have f4 : FiveAt ((((w.alloc (.cells (fiveV m) 158)).alloc (.cells (fiveV l) 158)).alloc (.cells (fiveV h) 158)).alloc (.cells #[.int .i64 0, .int .i64 0, .int .i64 0, .int .i64 0, .int .i64 0] 158)) (n + 3) (fun _ => 0) := by
    have e : n + 3 = (((w.alloc (.cells (fiveV m) 158)).alloc (.cells (fiveV l) 158)).alloc (.cells (fiveV h) 158)).heap.size := by rw [← hn]; simp
    rw [e]
    exact FiveAt.new _ (fun _ => 0)
  have b0 : Below n w ((((w.alloc (.cells (fiveV m) 158)).alloc (.cells (fiveV l) 158)).alloc (.cells (fiveV h) 158)).alloc (.cells #[.int .i64 0, .int .i64 0, .int .i64 0, .int .i64 0, .int .i64 0] 158)) := by
    rw [← hn]
    exact ((((Below.refl _ _).alloc (Nat.le_refl _) _).alloc (by simp) _).alloc (by simp; omega) _).alloc (by simp; omega) _
  obtain ⟨W0, hW0⟩ : ∃ W, ((((w.alloc (.cells (fiveV m) 158)).alloc (.cells (fiveV l) 158)).alloc (.cells (fiveV h) 158)).alloc (.cells #[.int .i64 0, .int .i64 0, .int .i64 0, .int .i64 0, .int .i64 0] 158)) = W := ⟨_, rfl⟩
  rw [hW0] at f1 f2 f3 f4 b0
  have HW0 : Hid (_ = W0) := hW0
  clear hW0
  go_enter Try.func160, Try.ntmps160
  go_upto_region 1 with fail
  rw [HW0.out]
  clear HW0
  try rw [hn]
  go_wp2
  go_loopw [8] (fun i wr => ∃ k : Nat, k ≤ 5 ∧ i = .int .i64 k ∧ FiveAt wr n (fun j => if j < k then hld m l h j else m j) ∧ FiveAt wr (n + 1) l ∧ FiveAt wr (n + 2) h ∧ FiveAt wr (n + 3) (fun _ => 0) ∧ Below n w wr) (fun i _ => 5 - (intOf i).toNat)
  case atStart => exact ⟨0, Nat.zero_le _, rfl, by simpa using f1, f2, f3, f4, b0⟩
  case round =>
    clear f1 f2 f3 f4 b0
    obtain ⟨k, hk, rfl, f1, f2, f3, f4, hb⟩ := hrel
    by_cases hk5 : k < 5
    · have g1 := f1.cell k hk5
      rw [if_neg (Nat.lt_irrefl _)] at g1
      have g2 := f2.cell k hk5
      have g3 := f3.cell k hk5
      have g4 := f1.free k
      obtain ⟨x, hx⟩ : ∃ x, m k = x := ⟨_, rfl⟩
      obtain ⟨y, hy⟩ : ∃ x, l k = x := ⟨_, rfl⟩
      obtain ⟨z, hz⟩ : ∃ x, h k = x := ⟨_, rfl⟩
      rw [hx] at g1
      rw [hy] at g2
      rw [hz] at g3
      have hki : (k : Int) < 5 := by omega
      have hk0 : (0 : Int) ≤ (k : Int) := by omega
      have HF1 : Hid (FiveAt _ _ _) := f1
      have HF2 : Hid (FiveAt _ _ _) := f2
      have HF3 : Hid (FiveAt _ _ _) := f3
      have HF4 : Hid (FiveAt _ _ _) := f4
      clear f1 f2 f3 f4
      go_wp2
      go_region
      all_goals go_wp2
      all_goals
        go_roundw
        case rel =>
          have hv : hld m l h k = (if z < (if x < y then y else x) then z else (if x < y then y else x)) := by unfold hld; rw [hx, hy, hz]
          refine ⟨k + 1, by omega, by go_num, ?_, HF2.out.drew.far (by omega), HF3.out.drew.far (by omega), HF4.out.drew.far (by omega), hb.drew.setCell (by show n ≤ n; omega) _⟩
          refine HF1.out.drew.set k _ _ fun j hj => ?_
          by_cases e : j = k
          · subst e
            rw [if_pos (by omega), if_pos rfl, hv]
          · rw [if_neg e]
            by_cases e2 : j < k
            · rw [if_pos e2, if_pos (by omega)]
            · rw [if_neg e2, if_neg (by omega)]
        case measure => simp [intOf]; omega
    · have e5 : k = 5 := by omega
      subst e5
      have G : ∀ j, j < 5 → wr.cell? ⟨n, j, none⟩ = some (.int .i64 (hld m l h j)) := fun j hj => by
        have := f1.cell j hj
        rw [if_pos hj] at this
        exact this
      have g0 := G 0 (by omega)
      have g1 := G 1 (by omega)
      have g2 := G 2 (by omega)
      have g3 := G 3 (by omega)
      have g4 := G 4 (by omega)
      have z0 := f4.free 0
      have z1 := f4.free 1
      have z2 := f4.free 2
      have z3 := f4.free 3
      have z4 := f4.free 4
      have y0 := f4.cell 0 (by omega)
      have y1 := f4.cell 1 (by omega)
      have y2 := f4.cell 2 (by omega)
      have y3 := f4.cell 3 (by omega)
      have y4 := f4.cell 4 (by omega)
      obtain ⟨q0, e0⟩ : ∃ x, hld m l h 0 = x := ⟨_, rfl⟩
      obtain ⟨q1, e1⟩ : ∃ x, hld m l h 1 = x := ⟨_, rfl⟩
      obtain ⟨q2, e2⟩ : ∃ x, hld m l h 2 = x := ⟨_, rfl⟩
      obtain ⟨q3, e3⟩ : ∃ x, hld m l h 3 = x := ⟨_, rfl⟩
      obtain ⟨q4, e4⟩ : ∃ x, hld m l h 4 = x := ⟨_, rfl⟩
      rw [e0] at g0
      rw [e1] at g1
      rw [e2] at g2
      rw [e3] at g3
      rw [e4] at g4
      have HF4 : Hid (FiveAt wr (n + 3) _) := f4
      clear f1 f2 f3 f4 G
      go_wp2
      have F5 : FiveAt (((((wr.setCell ⟨n + 1 + 1 + 1, 0, none⟩ (.int .i64 q0)).setCell ⟨n + 1 + 1 + 1, 1, none⟩ (.int .i64 q1)).setCell ⟨n + 1 + 1 + 1, 2, none⟩ (.int .i64 q2)).setCell ⟨n + 1 + 1 + 1, 3, none⟩ (.int .i64 q3)).setCell ⟨n + 1 + 1 + 1, 4, none⟩ (.int .i64 q4)) (n + 1 + 1 + 1) (hld m l h) := by
        refine ((((HF4.out.set 0 q0 (fun j => if j < 1 then hld m l h j else 0) ?_).set 1 q1 (fun j => if j < 2 then hld m l h j else 0) ?_).set 2 q2 (fun j => if j < 3 then hld m l h j else 0) ?_).set 3 q3 (fun j => if j < 4 then hld m l h j else 0) ?_).set 4 q4 _ ?_
        all_goals
          intro j hj
          match j, hj with
          | 0, _ => simp [e0]
          | 1, _ => simp [e1]
          | 2, _ => simp [e2]
          | 3, _ => simp [e3]
          | 4, _ => simp [e4]
      have b5 : Below n w (((((wr.setCell ⟨n + 1 + 1 + 1, 0, none⟩ (.int .i64 q0)).setCell ⟨n + 1 + 1 + 1, 1, none⟩ (.int .i64 q1)).setCell ⟨n + 1 + 1 + 1, 2, none⟩ (.int .i64 q2)).setCell ⟨n + 1 + 1 + 1, 3, none⟩ (.int .i64 q3)).setCell ⟨n + 1 + 1 + 1, 4, none⟩ (.int .i64 q4)) := ((((hb.setCell (by show n ≤ n + 1 + 1 + 1; omega) _).setCell (by show n ≤ n + 1 + 1 + 1; omega) _).setCell (by show n ≤ n + 1 + 1 + 1; omega) _).setCell (by show n ≤ n + 1 + 1 + 1; omega) _).setCell (by show n ≤ n + 1 + 1 + 1; omega) _
      obtain ⟨W5, h5⟩ : ∃ W, (((((wr.setCell ⟨n + 1 + 1 + 1, 0, none⟩ (.int .i64 q0)).setCell ⟨n + 1 + 1 + 1, 1, none⟩ (.int .i64 q1)).setCell ⟨n + 1 + 1 + 1, 2, none⟩ (.int .i64 q2)).setCell ⟨n + 1 + 1 + 1, 3, none⟩ (.int .i64 q3)).setCell ⟨n + 1 + 1 + 1, 4, none⟩ (.int .i64 q4)) = W := ⟨_, rfl⟩
      rw [h5] at F5 b5 ⊢
      have c0 := F5.cell 0 (by omega)
      have c1 := F5.cell 1 (by omega)
      have c2 := F5.cell 2 (by omega)
      have c3 := F5.cell 3 (by omega)
      have c4 := F5.cell 4 (by omega)
      refine bodyPost_ret (v := .agg (fiveV (hld m l h))) (by simp [results, Try.results160, go_sem, c0, c1, c2, c3, c4]) rfl ⟨rfl, ?_⟩
      rw [hn]
      exact b5

end Go.Proofs.Ytgaphgejpnepfaa
