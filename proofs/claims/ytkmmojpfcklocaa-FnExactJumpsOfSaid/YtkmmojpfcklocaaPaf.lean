/-
  Part 6 of what is proved of drawn right trees.
-/
import Derived.Test.YtkmmojpfcklocaaPaa
import Derived.Deep.RegionWith

namespace Go.Proofs.Ytkmmojpfcklocaa
open Go.RowKit Go.Sort
set_option linter.unusedVariables false
def hld (m l h : Nat → Int) (j : Nat) : Int := if h j < (if m j < l j then l j else m j) then h j else (if m j < l j then l j else m j)
abbrev fiveV (m : Nat → Int) : Array Value := #[.int .i64 (m 0), .int .i64 (m 1), .int .i64 (m 2), .int .i64 (m 3), .int .i64 (m 4)]
structure FiveAt (w : World) (g : Nat) (m : Nat → Int) : Prop where
  five : ∃ cs, w.heap[g]? = some (.cells cs 97 (0, 0)) ∧ cs.size = 5 ∧ ∀ j, j < 5 → cs[j]? = some (.int .i64 (m j))
theorem FiveAt.cell {w : World} {g : Nat} {m : Nat → Int} (h : FiveAt w g m) (j : Nat) (hj : j < 5) : w.cell? ⟨g, j, none⟩ = some (.int .i64 (m j)) := by
  obtain ⟨cs, h1, h2, h3⟩ := h.five
  rw [cell_of_row _ _ _ _ _ _ h1]
  exact h3 j hj
theorem FiveAt.free {w : World} {g : Nat} {m : Nat → Int} (h : FiveAt w g m) (j : Nat) : w.frozen? ⟨g, j, none⟩ = false := by
  obtain ⟨cs, h1, h2, h3⟩ := h.five
  exact frozen_of_row _ _ _ _ _ h1
theorem FiveAt.set {w : World} {g : Nat} {m : Nat → Int} (h : FiveAt w g m) (k : Nat) (v : Int) (m' : Nat → Int) (hm : ∀ j, j < 5 → m' j = if j = k then v else m j) : FiveAt (w.setCell ⟨g, k, none⟩ (.int .i64 v)) g m' := by
  obtain ⟨cs, h1, h2, h3⟩ := h.five
  refine ⟨_, heap_setCell_same _ _ _ _ _ _ h1, by simp [h2], fun j hj => ?_⟩
  rw [hm j hj, Array.getElem?_setIfInBounds]
  by_cases e : k = j
  · subst e
    rw [if_pos rfl, if_pos (by omega), if_pos rfl]
  · rw [if_neg e, if_neg (fun x => e x.symm)]
    exact h3 j hj
theorem FiveAt.far {w : World} {g k o : Nat} {m : Nat → Int} {v : Value} (h : FiveAt w g m) (hg : g ≠ k) : FiveAt (w.setCell ⟨k, o, none⟩ v) g m := by
  obtain ⟨cs, h1, h2, h3⟩ := h.five
  refine ⟨cs, ?_, h2, h3⟩
  rw [heap_setCell_other _ _ _ _ hg]
  exact h1
theorem FiveAt.drew {w : World} {g : Nat} {m : Nat → Int} (h : FiveAt w g m) : FiveAt w.drew g m := ⟨h.five⟩
theorem FiveAt.new (w : World) (m : Nat → Int) : FiveAt (w.alloc (.cells (fiveV m) 97)) w.heap.size m := by
  refine ⟨_, heap_alloc_new w _, rfl, fun j hj => ?_⟩
  match j, hj with
  | 0, _ => rfl
  | 1, _ => rfl
  | 2, _ => rfl
  | 3, _ => rfl
  | 4, _ => rfl
theorem FiveAt.alloc {w : World} {g : Nat} {m : Nat → Int} (h : FiveAt w g m) (o : Obj) : FiveAt (w.alloc o) g m := by
  obtain ⟨cs, h1, h2, h3⟩ := h.five
  refine ⟨cs, ?_, h2, h3⟩
  have hlt : g < w.heap.size := by
    rcases Nat.lt_or_ge g w.heap.size with x | x
    · exact x
    · rw [Array.getElem?_eq_none x] at h1; cases h1
  rw [← h1]
  show (w.heap.push o)[g]? = _
  rw [Array.getElem?_push]
  rw [if_neg (by omega)]
set_option maxHeartbeats 2000000 in
set_option maxRecDepth 100000 in
theorem iHeldTo (m l h : Nat → Int) (w : World) :
    Calls Try.prog 74 #[.agg (fiveV m), .agg (fiveV l), .agg (fiveV h)] w fun e w' => e = .returned (.agg (fiveV (hld m l h))) ∧ Below w.heap.size w w' := by
  obtain ⟨n, hn⟩ : ∃ n, w.heap.size = n := ⟨_, rfl⟩
  have f1 : FiveAt ((((w.alloc (.cells (fiveV m) 97)).alloc (.cells (fiveV l) 97)).alloc (.cells (fiveV h) 97)).alloc (.cells #[.int .i64 0, .int .i64 0, .int .i64 0, .int .i64 0, .int .i64 0] 97)) n m := by
    rw [← hn]
    exact (((FiveAt.new w m).alloc _).alloc _).alloc _
  have f2 : FiveAt ((((w.alloc (.cells (fiveV m) 97)).alloc (.cells (fiveV l) 97)).alloc (.cells (fiveV h) 97)).alloc (.cells #[.int .i64 0, .int .i64 0, .int .i64 0, .int .i64 0, .int .i64 0] 97)) (n + 1) l := by
    have e : n + 1 = (w.alloc (.cells (fiveV m) 97)).heap.size := by rw [← hn]; simp
    rw [e]
    exact ((FiveAt.new _ l).alloc _).alloc _
  have f3 : FiveAt ((((w.alloc (.cells (fiveV m) 97)).alloc (.cells (fiveV l) 97)).alloc (.cells (fiveV h) 97)).alloc (.cells #[.int .i64 0, .int .i64 0, .int .i64 0, .int .i64 0, .int .i64 0] 97)) (n + 2) h := by
    have e : n + 2 = ((w.alloc (.cells (fiveV m) 97)).alloc (.cells (fiveV l) 97)).heap.size := by rw [← hn]; simp
    rw [e]
    exact (FiveAt.new _ h).alloc _
  have f4 : FiveAt ((((w.alloc (.cells (fiveV m) 97)).alloc (.cells (fiveV l) 97)).alloc (.cells (fiveV h) 97)).alloc (.cells #[.int .i64 0, .int .i64 0, .int .i64 0, .int .i64 0, .int .i64 0] 97)) (n + 3) (fun _ => 0) := by
    have e : n + 3 = (((w.alloc (.cells (fiveV m) 97)).alloc (.cells (fiveV l) 97)).alloc (.cells (fiveV h) 97)).heap.size := by rw [← hn]; simp
    rw [e]
    exact FiveAt.new _ (fun _ => 0)
  have b0 : Below n w ((((w.alloc (.cells (fiveV m) 97)).alloc (.cells (fiveV l) 97)).alloc (.cells (fiveV h) 97)).alloc (.cells #[.int .i64 0, .int .i64 0, .int .i64 0, .int .i64 0, .int .i64 0] 97)) := by
    rw [← hn]
    exact ((((Below.refl _ _).alloc (Nat.le_refl _) _).alloc (by simp) _).alloc (by simp; omega) _).alloc (by simp; omega) _
  obtain ⟨W0, hW0⟩ : ∃ W, ((((w.alloc (.cells (fiveV m) 97)).alloc (.cells (fiveV l) 97)).alloc (.cells (fiveV h) 97)).alloc (.cells #[.int .i64 0, .int .i64 0, .int .i64 0, .int .i64 0, .int .i64 0] 97)) = W := ⟨_, rfl⟩
  rw [hW0] at f1 f2 f3 f4 b0
  have HW0 : Hid (_ = W0) := hW0
  clear hW0
  go_enter Try.func74, Try.ntmps74
  go_upto_region 1 with fail
  rw [HW0.out]
  clear HW0
  try rw [hn]
  go_wp2
  go_loopw [8] (fun i wr => ∃ k : Nat, k ≤ 5 ∧ i = .int .i64 k ∧ FiveAt wr n (fun j => if j < k then hld m l h j else m j) ∧ FiveAt wr (n + 1) l ∧ FiveAt wr (n + 2) h ∧ FiveAt wr (n + 3) (fun _ => 0) ∧ Below n w wr) (fun i _ => 5 - (intOf i).toNat)
  case atStart => exact ⟨0, Nat.zero_le _, rfl, by simpa using f1, f2, f3, f4, b0⟩
  case round =>
    clear f1 f2 f3 f4 b0
    obtain ⟨k, hk, rfl, f1, f2, f3, f4, hb⟩ := hrel
    by_cases hk5 : k < 5
    · have g1 := f1.cell k hk5
      rw [if_neg (Nat.lt_irrefl _)] at g1
      have g2 := f2.cell k hk5
      have g3 := f3.cell k hk5
      have g4 := f1.free k
      obtain ⟨x, hx⟩ : ∃ x, m k = x := ⟨_, rfl⟩
      obtain ⟨y, hy⟩ : ∃ x, l k = x := ⟨_, rfl⟩
      obtain ⟨z, hz⟩ : ∃ x, h k = x := ⟨_, rfl⟩
      rw [hx] at g1
      rw [hy] at g2
      rw [hz] at g3
      have hki : (k : Int) < 5 := by omega
      have hk0 : (0 : Int) ≤ (k : Int) := by omega
      have HF1 : Hid (FiveAt _ _ _) := f1
      have HF2 : Hid (FiveAt _ _ _) := f2
      have HF3 : Hid (FiveAt _ _ _) := f3
      have HF4 : Hid (FiveAt _ _ _) := f4
      clear f1 f2 f3 f4
      go_wp2
      go_region
      all_goals go_wp2
      all_goals
        go_roundw
        case rel =>
          have hv : hld m l h k = (if z < (if x < y then y else x) then z else (if x < y then y else x)) := by unfold hld; rw [hx, hy, hz]
          refine ⟨k + 1, by omega, by go_num, ?_, HF2.out.drew.far (by omega), HF3.out.drew.far (by omega), HF4.out.drew.far (by omega), hb.drew.setCell (by show n ≤ n; omega) _⟩
          refine HF1.out.drew.set k _ _ fun j hj => ?_
          by_cases e : j = k
          · subst e
            rw [if_pos (by omega), if_pos rfl, hv]
          · rw [if_neg e]
            by_cases e2 : j < k
            · rw [if_pos e2, if_pos (by omega)]
            · rw [if_neg e2, if_neg (by omega)]
        case measure => simp [intOf]; omega
    · have e5 : k = 5 := by omega
      subst e5
      have G : ∀ j, j < 5 → wr.cell? ⟨n, j, none⟩ = some (.int .i64 (hld m l h j)) := fun j hj => by
        have := f1.cell j hj
        rw [if_pos hj] at this
        exact this
      have g0 := G 0 (by omega)
      have g1 := G 1 (by omega)
      have g2 := G 2 (by omega)
      have g3 := G 3 (by omega)
      have g4 := G 4 (by omega)
      have z0 := f4.free 0
      have z1 := f4.free 1
      have z2 := f4.free 2
      have z3 := f4.free 3
      have z4 := f4.free 4
      have y0 := f4.cell 0 (by omega)
      have y1 := f4.cell 1 (by omega)
      have y2 := f4.cell 2 (by omega)
      have y3 := f4.cell 3 (by omega)
      have y4 := f4.cell 4 (by omega)
      obtain ⟨q0, e0⟩ : ∃ x, hld m l h 0 = x := ⟨_, rfl⟩
      obtain ⟨q1, e1⟩ : ∃ x, hld m l h 1 = x := ⟨_, rfl⟩
      obtain ⟨q2, e2⟩ : ∃ x, hld m l h 2 = x := ⟨_, rfl⟩
      obtain ⟨q3, e3⟩ : ∃ x, hld m l h 3 = x := ⟨_, rfl⟩
      obtain ⟨q4, e4⟩ : ∃ x, hld m l h 4 = x := ⟨_, rfl⟩
      rw [e0] at g0
      rw [e1] at g1
      rw [e2] at g2
      rw [e3] at g3
      rw [e4] at g4
      have HF4 : Hid (FiveAt wr (n + 3) _) := f4
      clear f1 f2 f3 f4 G
      go_wp2
      have F5 : FiveAt (((((wr.setCell ⟨n + 1 + 1 + 1, 0, none⟩ (.int .i64 q0)).setCell ⟨n + 1 + 1 + 1, 1, none⟩ (.int .i64 q1)).setCell ⟨n + 1 + 1 + 1, 2, none⟩ (.int .i64 q2)).setCell ⟨n + 1 + 1 + 1, 3, none⟩ (.int .i64 q3)).setCell ⟨n + 1 + 1 + 1, 4, none⟩ (.int .i64 q4)) (n + 1 + 1 + 1) (hld m l h) := by
        refine ((((HF4.out.set 0 q0 (fun j => if j < 1 then hld m l h j else 0) ?_).set 1 q1 (fun j => if j < 2 then hld m l h j else 0) ?_).set 2 q2 (fun j => if j < 3 then hld m l h j else 0) ?_).set 3 q3 (fun j => if j < 4 then hld m l h j else 0) ?_).set 4 q4 _ ?_
        all_goals
          intro j hj
          match j, hj with
          | 0, _ => simp [e0]
          | 1, _ => simp [e1]
          | 2, _ => simp [e2]
          | 3, _ => simp [e3]
          | 4, _ => simp [e4]
      have b5 : Below n w (((((wr.setCell ⟨n + 1 + 1 + 1, 0, none⟩ (.int .i64 q0)).setCell ⟨n + 1 + 1 + 1, 1, none⟩ (.int .i64 q1)).setCell ⟨n + 1 + 1 + 1, 2, none⟩ (.int .i64 q2)).setCell ⟨n + 1 + 1 + 1, 3, none⟩ (.int .i64 q3)).setCell ⟨n + 1 + 1 + 1, 4, none⟩ (.int .i64 q4)) := ((((hb.setCell (by show n ≤ n + 1 + 1 + 1; omega) _).setCell (by show n ≤ n + 1 + 1 + 1; omega) _).setCell (by show n ≤ n + 1 + 1 + 1; omega) _).setCell (by show n ≤ n + 1 + 1 + 1; omega) _).setCell (by show n ≤ n + 1 + 1 + 1; omega) _
      obtain ⟨W5, h5⟩ : ∃ W, (((((wr.setCell ⟨n + 1 + 1 + 1, 0, none⟩ (.int .i64 q0)).setCell ⟨n + 1 + 1 + 1, 1, none⟩ (.int .i64 q1)).setCell ⟨n + 1 + 1 + 1, 2, none⟩ (.int .i64 q2)).setCell ⟨n + 1 + 1 + 1, 3, none⟩ (.int .i64 q3)).setCell ⟨n + 1 + 1 + 1, 4, none⟩ (.int .i64 q4)) = W := ⟨_, rfl⟩
      rw [h5] at F5 b5 ⊢
      have c0 := F5.cell 0 (by omega)
      have c1 := F5.cell 1 (by omega)
      have c2 := F5.cell 2 (by omega)
      have c3 := F5.cell 3 (by omega)
      have c4 := F5.cell 4 (by omega)
      refine bodyPost_ret (v := .agg (fiveV (hld m l h))) (by simp [results, Try.results74, go_sem, c0, c1, c2, c3, c4]) rfl ⟨rfl, ?_⟩
      rw [hn]
      exact b5
end Go.Proofs.Ytkmmojpfcklocaa
namespace Go.Proofs.Ytkmmojpfcklocaa
open Go.RowKit Go.Sort
set_option linter.unusedVariables false
theorem FiveAt.below {w w' : World} {g n : Nat} {m : Nat → Int} (h : FiveAt w g m) (hb : Below n w w') (hg : g < n) : ∀ j, j < 5 → w'.cell? ⟨g, j, none⟩ = some (.int .i64 (m j)) := fun j hj => (hb.cell (p := ⟨g, j, none⟩) hg).trans (h.cell j hj)
def likeB (m l : Nat → Int) : Bool := m 0 == l 0 && (m 1 == l 1 && (m 2 == l 2 && (m 3 == l 3 && m 4 == l 4)))
theorem like_five (m0 m1 m2 m3 m4 l0 l1 l2 l3 l4 : Int) (w : World) : (if m0 = l0 then if m1 = l1 then if m2 = l2 then if m3 = l3 then if m4 = l4 then Result.ok true w else Result.ok false w else Result.ok false w else Result.ok false w else Result.ok false w else Result.ok false w) = Result.ok (m0 == l0 && (m1 == l1 && (m2 == l2 && (m3 == l3 && m4 == l4)))) w := by
  by_cases h0 : m0 = l0
  · by_cases h1 : m1 = l1
    · by_cases h2 : m2 = l2
      · by_cases h3 : m3 = l3
        · by_cases h4 : m4 = l4 <;> simp [h0, h1, h2, h3, h4]
        · simp [h0, h1, h2, h3]
      · simp [h0, h1, h2]
    · simp [h0, h1]
  · simp [h0]
set_option maxHeartbeats 2000000 in
set_option maxRecDepth 100000 in
theorem eqFive (m l : Nat → Int) (w : World) : (Op.equalIn 10000 97 (.agg (fiveV m)) (.agg (fiveV l))).run Try.prog w = .ok (likeB m l) w := by
  have u3 := Try.underlying3
  have a3 := Try.isAgg3
  have z3 := Try.sizeOf3
  rw [show (10000 : Nat) = 9999 + 1 from rfl, Op.equalIn]
  simp only [Sem.run_bind, run_underlying Try.underlying97, Result.andThen_ok]
  simp only [Std.Legacy.Range.forIn_eq_forIn_range', Std.Legacy.Range.size, Nat.sub_zero, Nat.add_sub_cancel, Nat.div_one, List.range'_succ, List.range'_zero, List.forIn_cons, List.forIn_nil]
  go_simp
  exact like_five _ _ _ _ _ _ _ _ _ _ w
theorem eqGuardFive : Try.prog.eqGuardType Try.prog.depth 97 = false := by kernel_rfl
set_option maxHeartbeats 2000000 in
set_option maxRecDepth 100000 in
theorem iWithin (m l h : Nat → Int) (w : World) (b : Bool) (hb : likeB (hld m l h) m = b) :
    Calls Try.prog 50 #[.agg (fiveV m), .agg (fiveV l), .agg (fiveV h)] w fun e w' => e = .returned (.bool b) ∧ Below w.heap.size w w' := by
  have cH := fun W => iHeldTo m l h W
  have hE := eqFive (hld m l h) m
  have hG := eqGuardFive
  simp only [hb] at hE
  have f1 : FiveAt (((w.alloc (.cells (fiveV m) 97)).alloc (.cells (fiveV l) 97)).alloc (.cells (fiveV h) 97)) w.heap.size m := ((FiveAt.new w m).alloc _).alloc _
  have f2 : FiveAt (((w.alloc (.cells (fiveV m) 97)).alloc (.cells (fiveV l) 97)).alloc (.cells (fiveV h) 97)) (w.heap.size + 1) l := by
    have e : w.heap.size + 1 = (w.alloc (.cells (fiveV m) 97)).heap.size := by simp
    rw [e]
    exact (FiveAt.new _ l).alloc _
  have f3 : FiveAt (((w.alloc (.cells (fiveV m) 97)).alloc (.cells (fiveV l) 97)).alloc (.cells (fiveV h) 97)) (w.heap.size + 2) h := by
    have e : w.heap.size + 2 = ((w.alloc (.cells (fiveV m) 97)).alloc (.cells (fiveV l) 97)).heap.size := by simp
    rw [e]
    exact FiveAt.new _ h
  have b0 : Below w.heap.size w (((w.alloc (.cells (fiveV m) 97)).alloc (.cells (fiveV l) 97)).alloc (.cells (fiveV h) 97)) :=
    (((Below.refl _ _).alloc (Nat.le_refl _) _).alloc (by simp) _).alloc (by simp; omega) _
  have hsz : w.heap.size + 3 = (((w.alloc (.cells (fiveV m) 97)).alloc (.cells (fiveV l) 97)).alloc (.cells (fiveV h) 97)).heap.size := by simp
  obtain ⟨W0, hW0⟩ : ∃ W, (((w.alloc (.cells (fiveV m) 97)).alloc (.cells (fiveV l) 97)).alloc (.cells (fiveV h) 97)) = W := ⟨_, rfl⟩
  rw [hW0] at f1 f2 f3 b0 hsz
  have HW0 : Hid (_ = W0) := hW0
  clear hW0
  obtain ⟨n, hn⟩ : ∃ n, w.heap.size = n := ⟨_, rfl⟩
  rw [hn] at f1 f2 f3 b0 hsz
  have HX : ∀ W, Below W0.drew.heap.size W0.drew W → ∀ j, j < 5 → W.cell? ⟨n, j, none⟩ = some (.int .i64 (m j)) := fun W hW => f1.drew.below hW (by show n < W0.heap.size; omega)
  have g0 := f1.cell 0 (by omega)
  have g1 := f1.cell 1 (by omega)
  have g2 := f1.cell 2 (by omega)
  have g3 := f1.cell 3 (by omega)
  have g4 := f1.cell 4 (by omega)
  have l0 := f2.cell 0 (by omega)
  have l1 := f2.cell 1 (by omega)
  have l2 := f2.cell 2 (by omega)
  have l3 := f2.cell 3 (by omega)
  have l4 := f2.cell 4 (by omega)
  have h0 := f3.cell 0 (by omega)
  have h1 := f3.cell 1 (by omega)
  have h2 := f3.cell 2 (by omega)
  have h3 := f3.cell 3 (by omega)
  have h4 := f3.cell 4 (by omega)
  have HHX : Hid _ := HX
  have HB0 : Hid (Below w.heap.size w W0) := by show Below _ _ _; rw [hn]; exact b0
  clear f1 f2 f3 HX
  go_enter Try.func50, Try.ntmps50
  go_upto_region 1 with fail
  rw [HW0.out]
  clear HW0
  try rw [hn]
  go_region_with (go_at_call 74; refine (cH _).mono ?_; rintro e w' ⟨rfl, hbw⟩; have c0 := HHX.out w' hbw 0 (by omega); have c1 := HHX.out w' hbw 1 (by omega); have c2 := HHX.out w' hbw 2 (by omega); have c3 := HHX.out w' hbw 3 (by omega); have c4 := HHX.out w' hbw 4 (by omega))
  all_goals
    go_wp2
    go_ret
    exact ⟨rfl, chain HB0.out.drew hbw⟩
end Go.Proofs.Ytkmmojpfcklocaa
namespace Go.Proofs.Ytkmmojpfcklocaa
open Go.RowKit Go.Sort
set_option linter.unusedVariables false
def wi (m l h : Int) : Bool := (if h < (if m < l then l else m) then h else (if m < l then l else m)) == m
theorem wi_in (m l h : Int) (hl : l ≤ h) : wi m l h = inB m l h := by
  unfold wi inB
  rw [Bool.eq_iff_iff]
  simp only [beq_iff_eq, Bool.and_eq_true, decide_eq_true_eq]
  split <;> split at * <;> omega
theorem wi_0 : wi 0 0 0 = true := rfl
theorem iWithin5 (m0 m1 m2 m3 m4 l0 l1 l2 l3 l4 h0 h1 h2 h3 h4 : Int) (w : World) :
    Calls Try.prog 50 #[.agg #[.int .i64 m0, .int .i64 m1, .int .i64 m2, .int .i64 m3, .int .i64 m4], .agg #[.int .i64 l0, .int .i64 l1, .int .i64 l2, .int .i64 l3, .int .i64 l4], .agg #[.int .i64 h0, .int .i64 h1, .int .i64 h2, .int .i64 h3, .int .i64 h4]] w fun e w' => e = .returned (.bool (wi m0 l0 h0 && (wi m1 l1 h1 && (wi m2 l2 h2 && (wi m3 l3 h3 && wi m4 l4 h4))))) ∧ Below w.heap.size w w' :=
  iWithin (fun j => match j with | 0 => m0 | 1 => m1 | 2 => m2 | 3 => m3 | _ => m4) (fun j => match j with | 0 => l0 | 1 => l1 | 2 => l2 | 3 => l3 | _ => l4) (fun j => match j with | 0 => h0 | 1 => h1 | 2 => h2 | 3 => h3 | _ => h4) w _ rfl
theorem eqFiveV (m0 m1 m2 m3 m4 l0 l1 l2 l3 l4 : Int) (w : World) : (Op.equalIn 10000 97 (.agg #[.int .i64 m0, .int .i64 m1, .int .i64 m2, .int .i64 m3, .int .i64 m4]) (.agg #[.int .i64 l0, .int .i64 l1, .int .i64 l2, .int .i64 l3, .int .i64 l4])).run Try.prog w = .ok (m0 == l0 && (m1 == l1 && (m2 == l2 && (m3 == l3 && m4 == l4)))) w :=
  eqFive (fun j => match j with | 0 => m0 | 1 => m1 | 2 => m2 | 3 => m3 | _ => m4) (fun j => match j with | 0 => l0 | 1 => l1 | 2 => l2 | 3 => l3 | _ => l4) w
theorem build1 (a : Int) (w : World) : (Instr.build 97 #[(0, .int .i64 a)]).run Try.prog w = .ok (.agg #[.int .i64 a, .int .i64 0, .int .i64 0, .int .i64 0, .int .i64 0]) w := run_build w 97 _ _ (by kernel_rfl)
theorem build2 (a b : Int) (w : World) : (Instr.build 97 #[(0, .int .i64 a), (1, .int .i64 b)]).run Try.prog w = .ok (.agg #[.int .i64 a, .int .i64 b, .int .i64 0, .int .i64 0, .int .i64 0]) w := run_build w 97 _ _ (by kernel_rfl)
theorem build3 (a b c : Int) (w : World) : (Instr.build 97 #[(0, .int .i64 a), (1, .int .i64 b), (2, .int .i64 c)]).run Try.prog w = .ok (.agg #[.int .i64 a, .int .i64 b, .int .i64 c, .int .i64 0, .int .i64 0]) w := run_build w 97 _ _ (by kernel_rfl)
theorem build5 (a b c d e : Int) (w : World) : (Instr.build 97 #[(0, .int .i64 a), (1, .int .i64 b), (2, .int .i64 c), (3, .int .i64 d), (4, .int .i64 e)]).run Try.prog w = .ok (.agg #[.int .i64 a, .int .i64 b, .int .i64 c, .int .i64 d, .int .i64 e]) w := run_build w 97 _ _ (by kernel_rfl)
theorem build0 (w : World) : (Instr.build 97 #[]).run Try.prog w = .ok (.agg #[.int .i64 0, .int .i64 0, .int .i64 0, .int .i64 0, .int .i64 0]) w := run_build w 97 _ _ (by kernel_rfl)
set_option maxHeartbeats 1000000 in
set_option maxRecDepth 100000 in
theorem iCapOk (p : PCap) (w : World) :
    Calls Try.prog 77 #[.agg #[.bool p.reg, .int .i64 p.index]] w fun e w' => e = .returned (.bool (capOk p)) ∧ Below w.heap.size w w' := by
  have hF : (wi p.index 0 40 && (wi 0 0 0 && (wi 0 0 0 && (wi 0 0 0 && wi 0 0 0)))) = capOk p := by rw [wi_0, wi_in _ _ _ (by decide)]; unfold capOk; simp
  have cW := fun W => iWithin5 p.index 0 0 0 0 0 0 0 0 0 40 0 0 0 0 W
  simp only [hF] at cW
  obtain ⟨F, eF⟩ : ∃ F, capOk p = F := ⟨_, rfl⟩
  rw [eF]
  simp only [eF] at cW
  clear hF eF
  have hb1 := build1
  have b0 : ∀ cs t, Below w.heap.size w (w.alloc (.cells cs t)) := fun cs t => (Below.refl _ _).alloc (Nat.le_refl _) _
  go_enter Try.func77, Try.ntmps77
  go_wp2_with (go_at_call 50; refine (cW _).mono ?_; rintro e w' ⟨rfl, hb⟩)
  go_ret
  exact ⟨rfl, chain (b0 _ _) hb⟩
set_option maxHeartbeats 1000000 in
set_option maxRecDepth 100000 in
theorem iInsOk (p : PIns) (w : World) :
    Calls Try.prog 79 #[.agg #[.int .i64 p.op, .int .i64 p.a, .int .i64 p.b]] w fun e w' => e = .returned (.bool (insOk p)) ∧ Below w.heap.size w w' := by
  have hF : (wi p.op 1 19 && (wi p.a 0 300 && (wi p.b 0 300 && (wi 0 0 0 && wi 0 0 0)))) = insOk p := by rw [wi_0, wi_in _ 1 19 (by decide), wi_in _ 0 300 (by decide), wi_in p.b 0 300 (by decide)]; unfold insOk; simp
  have cW := fun W => iWithin5 p.op p.a p.b 0 0 1 0 0 0 0 19 300 300 0 0 W
  simp only [hF] at cW
  obtain ⟨F, eF⟩ : ∃ F, insOk p = F := ⟨_, rfl⟩
  rw [eF]
  simp only [eF] at cW
  clear hF eF
  have hb3 := build3
  have b0 : ∀ cs t, Below w.heap.size w (w.alloc (.cells cs t)) := fun cs t => (Below.refl _ _).alloc (Nat.le_refl _) _
  go_enter Try.func79, Try.ntmps79
  go_wp2_with (go_at_call 50; refine (cW _).mono ?_; rintro e w' ⟨rfl, hb⟩)
  go_ret
  exact ⟨rfl, chain (b0 _ _) hb⟩
set_option maxHeartbeats 1000000 in
set_option maxRecDepth 100000 in
theorem iHandlerOk (p : PHnd) (w : World) :
    Calls Try.prog 81 #[.agg #[.int .i64 p.lo, .int .i64 p.hi, .int .i64 p.target]] w fun e w' => e = .returned (.bool (hndOk p)) ∧ Below w.heap.size w w' := by
  have hF : (wi p.lo 0 300 && (wi p.hi 0 300 && (wi p.target 0 300 && (wi 0 0 0 && wi 0 0 0)))) = hndOk p := by rw [wi_0, wi_in _ 0 300 (by decide), wi_in _ 0 300 (by decide), wi_in p.target 0 300 (by decide)]; unfold hndOk; simp
  have cW := fun W => iWithin5 p.lo p.hi p.target 0 0 0 0 0 0 0 300 300 300 0 0 W
  simp only [hF] at cW
  obtain ⟨F, eF⟩ : ∃ F, hndOk p = F := ⟨_, rfl⟩
  rw [eF]
  simp only [eF] at cW
  clear hF eF
  have hb3 := build3
  have b0 : ∀ cs t, Below w.heap.size w (w.alloc (.cells cs t)) := fun cs t => (Below.refl _ _).alloc (Nat.le_refl _) _
  go_enter Try.func81, Try.ntmps81
  go_wp2_with (go_at_call 50; refine (cW _).mono ?_; rintro e w' ⟨rfl, hb⟩)
  go_ret
  exact ⟨rfl, chain (b0 _ _) hb⟩
set_option maxHeartbeats 1000000 in
set_option maxRecDepth 100000 in
theorem iStartsAlone (p : PFun) (x : Option Addr) (c : Nat) (kv hv : Value) (w : World) (hm : p.caps.length ≤ maxLen) :
    Calls Try.prog 55 #[.agg #[.int .i64 p.params, .int .i64 p.regs, .slice x p.caps.length c, kv, hv]] w fun e w' => e = .returned (.bool (decide (p.params = 0) && decide (p.caps.length = 0))) ∧ Below w.heap.size w w' := by
  have hE := fun (W : World) => eqFiveV p.params p.caps.length 0 0 0 0 0 0 0 0 W
  have hG := eqGuardFive
  have hF : (p.params == 0 && ((p.caps.length : Int) == 0 && ((0 : Int) == 0 && ((0 : Int) == 0 && (0 : Int) == 0)))) = (decide (p.params = 0) && decide (p.caps.length = 0)) := by
    rw [Bool.eq_iff_iff]
    simp
  obtain ⟨F, eF⟩ : ∃ F, (decide (p.params = 0) && decide (p.caps.length = 0)) = F := ⟨_, rfl⟩
  rw [eF] at hF ⊢
  simp only [hF] at hE
  clear hF eF
  unfold maxLen at hm
  have hb2 := build2
  have hb0 := build0
  have b0 : ∀ cs t, Below w.heap.size w (w.alloc (.cells cs t)) := fun cs t => (Below.refl _ _).alloc (Nat.le_refl _) _
  go_enter Try.func55, Try.ntmps55
  go_wp2
  go_ret
  exact ⟨rfl, b0 _ _⟩
end Go.Proofs.Ytkmmojpfcklocaa
