/-
  The walk of the program's division of words in place.
-/
import Derived.Test.YtcabanghegddhaaGreatDoorIWordA
import Derived.Test.YtcabanghegddhaaGreatDoorIDivG
import Derived.Test.YtcabanghegddhaaGreatDoorRangeA
namespace Go.Proofs.YtcabanghegddhaaGreatDoor
open Go.RowKit Go.Shelf
attribute [local go_sem] Oper.semAt_some
set_option linter.unusedVariables false

theorem own_kept {W W' : World} {row : Option Nat} {B D g n c : Nat} {e : TypeId} {xs : List Value} (h : W.ownsRow B e 1 (.slice (some ⟨g, 0, none⟩) n c) n xs) (hg : W.grownBy W' row) (hr : ∀ r, row = some r → D ≤ r ∧ ∃ o : Obj, W.heap[r]? = some o ∧ o.isCells = false) : W'.ownsRow B e 1 (.slice (some ⟨g, 0, none⟩) n c) n xs := by
  refine h.kept hg (.inr fun he => ?_)
  obtain ⟨_, o, ho, hc⟩ := hr g he.symm
  rcases h.2 with ⟨h', _⟩ | ⟨g', cap', cur, h', _, h2, _⟩
  · cases h'
  · cases h'
    rw [ho] at h2
    cases h2
    cases hc
theorem boxed_kept {W W' : World} {row : Option Nat} {D b : Nat} {t : TypeId} {v : Value} (h : Boxed W b t v) (hg : W.grownBy W' row) (hr : ∀ r, row = some r → D ≤ r ∧ ∃ o : Obj, W.heap[r]? = some o ∧ o.isCells = false) : Boxed W' b t v := by
  refine h.kept hg fun he => ?_
  obtain ⟨_, o, ho, hc⟩ := hr b he.symm
  rw [show W.heap[b]? = _ from h] at ho
  cases ho
  cases hc

set_option maxHeartbeats 1000000 in
theorem backwardWalk (a : Option Addr) (len cap : Nat) (w : World) :
    Calls Tryz.prog 123 #[.slice a len cap] w fun e w' => e = .returned (.func (.func 136) #[] #[.pointer (some ⟨w.heap.size, 0, none⟩)]) ∧ w' = w.alloc (.cells #[.slice a len cap] 93) := by
  have hmf : ∀ (fn : Fn) (first cap : Array Value) (w : World), (Instr.makeFunc fn first cap).run Tryz.prog w = .ok (.func fn first cap) w := fun _ _ _ _ => rfl
  go_enter Tryz.func123, Tryz.ntmps123
  go_wp2
  go_ret
  exact ⟨rfl, rfl⟩

set_option maxHeartbeats 1000000 in
set_option maxRecDepth 100000 in
theorem divideWalk (g ca b B : Nat) (xs : List Nat) (w : World) (hA : RowW w B (.slice (some ⟨g, 0, none⟩) xs.length ca) xs) (oa : WordOk xs) (hB : B ≤ w.heap.size) (hb : 0 < b) (hb2 : b < 18446744073709551616) (la : xs.length ≤ 1000) :
    Calls Tryz.prog 102 #[.slice (some ⟨g, 0, none⟩) xs.length ca, .int .u64 b] w fun e w' => ∃ ys : List Nat, e = .returned (.int .u64 ((wordV xs % b : Nat) : Int)) ∧ RowW w' B (.slice (some ⟨g, 0, none⟩) xs.length ca) ys ∧ ys.length = xs.length ∧ Below B w w' ∧ wordV ys = wordV xs / b ∧ WordOk ys := by
  refine (callsIn_wide (n := 4)).1 ?_
  refine callsIn_of_wp_marks Tryz.func102 rfl trivial ?_ rfl
  simp only [Tryz.ntmps102, List.size_toArray, List.length_cons, List.length_nil, Nat.reduceAdd, Nat.reduceSub, Array.replicate_succ, Array.replicate_zero, List.push_toArray, List.append_toArray, List.nil_append, List.cons_append]
  gi_wp2_with (refine ⟨trivial, ?_⟩; gi_at_call 123; refine (callsIn_wide.2 (backwardWalk _ _ _ _)).mono ?_; rintro e w' ⟨rfl, rfl⟩)
  obtain ⟨H, hH⟩ : ∃ H, w.heap.size = H := ⟨_, rfl⟩
  rw [hH]
  obtain ⟨L, hL⟩ : ∃ L, xs.length = L := ⟨_, rfl⟩
  have hg := World.ownsRow.lt hA g rfl
  rw [hH] at hg
  rw [hL] at hA la
  have hA' : w.ownsRow B 28 1 (.slice (some ⟨g, 0, none⟩) L ca) L (xs.map fun x => Value.int .u64 (x : Nat)) := by
    have := hA
    unfold RowW at this
    rw [hL] at this
    exact this
  rw [hL]
  obtain ⟨sv, hsv⟩ : ∃ sv, Value.slice (some ⟨g, 0, none⟩) L ca = sv := ⟨_, rfl⟩
  have b0 := Boxed.new w 93 sv
  have b1 := Boxed.new (w.alloc (.cells #[sv] 93)) 28 (.int .u64 (b : Int))
  have b2 := Boxed.new ((w.alloc (.cells #[sv] 93)).alloc (.cells #[.int .u64 (b : Int)] 28)) 28 (.int .u64 0)
  have b3 := Boxed.new (((w.alloc (.cells #[sv] 93)).alloc (.cells #[.int .u64 (b : Int)] 28)).alloc (.cells #[.int .u64 0] 28)) 93 sv
  simp only [World.size_alloc, hH] at b0 b1 b2 b3
  have b0' := ((b0.alloc (.cells #[.int .u64 (b : Int)] 28)).alloc (.cells #[.int .u64 0] 28)).alloc (.cells #[sv] 93)
  have b1' := (b1.alloc (.cells #[.int .u64 0] 28)).alloc (.cells #[sv] 93)
  have b2' := b2.alloc (.cells #[sv] 93)
  have hrow := (((hA'.alloc (.cells #[sv] 93)).alloc (.cells #[.int .u64 (b : Int)] 28)).alloc (.cells #[.int .u64 0] 28)).alloc (.cells #[sv] 93)
  have hbel := ((((Below.refl B w).alloc hB (.cells #[sv] 93)).alloc (by simp; omega) (.cells #[.int .u64 (b : Int)] 28)).alloc (by simp; omega) (.cells #[.int .u64 0] 28)).alloc (by simp; omega) (.cells #[sv] 93)
  have hsz : ((((w.alloc (.cells #[sv] 93)).alloc (.cells #[.int .u64 (b : Int)] 28)).alloc (.cells #[.int .u64 0] 28)).alloc (.cells #[sv] 93)).heap.size = H + 4 := by simp [hH]
  obtain ⟨W0, hW0⟩ : ∃ W0, (((w.alloc (.cells #[sv] 93)).alloc (.cells #[.int .u64 (b : Int)] 28)).alloc (.cells #[.int .u64 0] 28)).alloc (.cells #[sv] 93) = W0 := ⟨_, rfl⟩
  rw [hW0] at b0' b1' b2' b3 hrow hbel hsz
  rw [hsv, hW0]
  rw [hsv] at hrow
  clear b0 b1 b2 hW0 hA hA'
  refine rangeAll (α := Nat × Nat) rfl (by decide) (gf := 136) (lb := #[.pointer (some ⟨H + 1 + 1 + 1, 0, none⟩)]) rfl trivial (enters_of Tryz.func136 (by kernel_rfl) rfl)
    (encs := fun x => #[.int .i64 (x.1 : Nat), .int .u64 (x.2 : Nat)]) (fun _ => rfl)
    (fun pre W => ∃ (zs : List Nat) (r : Nat), W.ownsRow B 28 1 sv L (zs.map fun x => Value.int .u64 (x : Nat)) ∧ Boxed W H 93 sv ∧ Boxed W (H + 1) 28 (.int .u64 (b : Int)) ∧ Boxed W (H + 1 + 1) 28 (.int .u64 (r : Int)) ∧ Boxed W (H + 1 + 1 + 1) 93 sv ∧ Below B w W ∧ H + 4 ≤ W.heap.size ∧ pre.length ≤ L ∧ DivW xs b (L - pre.length) zs r)
    (fun pre x => pre.length < L ∧ x.1 = L - 1 - pre.length ∧ x.2 = xs.getD (L - 1 - pre.length) 0)
    (fun ys => ys.length = L)
    ?own ⟨xs, 0, hrow, b0', b1', b2', b3, hbel, by omega, by simp, by rw [List.length_nil, Nat.sub_zero, ← hL]; exact divW_start oa hb⟩
    (fun x => { tmps := #[sv, .int .u64 (b : Int), .pointer (some ⟨H, 0, none⟩), .pointer (some ⟨H + 1, 0, none⟩), .int .u64 0, .pointer (some ⟨H + 1 + 1, 0, none⟩), .int .i64 (x.1 : Nat), .int .u64 (x.2 : Nat), sv, .func (.func 136) #[] #[.pointer (some ⟨H + 1 + 1 + 1, 0, none⟩)], .int .i64 (x.1 : Nat), .int .u64 (x.2 : Nat), undef, undef, undef, undef, undef, undef, undef, undef, undef, undef, undef], defers := [] })
    ?assign ?body ?seq ?done
  case own =>
    rintro pre X Y row ⟨zs, r, k1, k2, k3, k4, k5, k6, k7, k8, k9⟩ hgr hr
    rw [← hsv] at k1
    refine ⟨zs, r, by rw [← hsv]; exact own_kept k1 hgr hr, boxed_kept k2 hgr hr, boxed_kept k3 hgr hr, boxed_kept k4 hgr hr, boxed_kept k5 hgr hr, k6.grown hgr (by omega) (fun k e => by have := (hr k e).1; omega), by have := hgr.size; omega, k8, k9⟩
  case assign =>
    intro l x W K hK
    gi_wp2
    exact hK
  case body =>
    subst hsv
    rintro l pre ⟨p, x⟩ W ⟨zs, r, k1, k2, k3, k4, k5, k6, k7, k8, k9⟩ ⟨hl1, hx1, hx2⟩
    dsimp only at hx1 hx2
    rw [← hx1] at hx2
    have hpl : L - pre.length = p + 1 := by omega
    rw [hpl] at k9
    have hpL : p < L := by omega
    have HX : Hid (Unit → p = L - 1 - pre.length ∧ L - pre.length = p + 1) := fun _ => ⟨hx1, hpl⟩
    clear hx1 hpl
    have dstep := divW_step k9 (by omega) oa
    rw [← hx2] at dstep
    have ox : x < 18446744073709551616 := by rw [hx2]; exact wordOk_at oa p
    obtain ⟨q, hq⟩ : ∃ q, (r * 18446744073709551616 + x) / b = q := ⟨_, rfl⟩
    obtain ⟨r', hr'⟩ : ∃ r', (r * 18446744073709551616 + x) % b = r' := ⟨_, rfl⟩
    have hcell : ∃ o, W.cell? ⟨g, p, none⟩ = some (.int .u64 o) := by
      have hzl : zs.length = L := by rw [k9.len]; exact hL
      refine ⟨(zs.getD p 0 : Nat), ?_⟩
      rw [World.ownsRow.cellAt k1 p (by omega), List.getElem?_map, List.getElem?_eq_getElem (by omega), List.getD_eq_getElem?_getD, List.getElem?_eq_getElem (by omega)]
      rfl
    obtain ⟨o, hcell⟩ := hcell
    have hfz := row_free k1 p
    have c0 := k2.cell
    have c1 := k3.cell
    have c2 := k4.cell
    have f2 := k4.frozen
    have hpL' : (p : Int) < L := by omega
    have hne : g ≠ H + 1 + 1 := by omega
    have hgH : g ≠ H := by omega
    have hgH1 : g ≠ H + 1 := by omega
    have hHH : H + 1 + 1 ≠ H := by omega
    have hHH1 : H + 1 + 1 ≠ H + 1 := by omega
    have hcd : W.drew.cell? ⟨g, p, none⟩ = some (.int .u64 o) := hcell
    have hfd : W.drew.frozen? ⟨g, p, none⟩ = false := hfz
    have c0d : W.drew.cell? ⟨H, 0, none⟩ = some (.slice (some ⟨g, 0, none⟩) L ca) := c0
    have c1d : W.drew.cell? ⟨H + 1, 0, none⟩ = some (.int .u64 (b : Int)) := c1
    have c2d : W.drew.cell? ⟨H + 1 + 1, 0, none⟩ = some (.int .u64 (r : Int)) := c2
    have f2d : W.drew.frozen? ⟨H + 1 + 1, 0, none⟩ = false := f2
    have c2s : (W.setCell ⟨g, p, none⟩ (.int .u64 (q : Int))).drew.cell? ⟨H + 1 + 1, 0, none⟩ = some (.int .u64 (r : Int)) := (World.cell?_setCell_far _ _ _ _ hne).trans c2
    have f2s : (W.setCell ⟨g, p, none⟩ (.int .u64 (q : Int))).drew.frozen? ⟨H + 1 + 1, 0, none⟩ = false := (World.frozen?_setCell _ _ _ _).trans f2
    have HS : Hid (DivW xs b p (zs.set p q) r') := by
      rw [hq, hr'] at dstep
      exact dstep
    have HK : Hid (Unit → W.ownsRow B 28 1 (.slice (some ⟨g, 0, none⟩) L ca) L (zs.map fun x => Value.int .u64 (x : Nat)) ∧ Boxed W H 93 (.slice (some ⟨g, 0, none⟩) L ca) ∧ Boxed W (H + 1) 28 (.int .u64 (b : Int)) ∧ Boxed W (H + 1 + 1) 28 (.int .u64 (r : Int)) ∧ Boxed W (H + 1 + 1 + 1) 93 (.slice (some ⟨g, 0, none⟩) L ca) ∧ Below B w W ∧ H + 4 ≤ W.heap.size) := fun _ => ⟨k1, k2, k3, k4, k5, k6, k7⟩
    have hrb := k9.lt
    have HF : Hid (Unit → ∀ V : World, (V = (W.setCell ⟨g, p, none⟩ (.int .u64 (q : Int))).setCell ⟨H + 1 + 1, 0, none⟩ (.int .u64 (r' : Int))) → KeepsFrom W0.heap.size W V ∧ ∃ (zs : List Nat) (r : Nat), V.ownsRow B 28 1 (.slice (some ⟨g, 0, none⟩) L ca) L (zs.map fun x => Value.int .u64 (x : Nat)) ∧ Boxed V H 93 (.slice (some ⟨g, 0, none⟩) L ca) ∧ Boxed V (H + 1) 28 (.int .u64 (b : Int)) ∧ Boxed V (H + 1 + 1) 28 (.int .u64 (r : Int)) ∧ Boxed V (H + 1 + 1 + 1) 93 (.slice (some ⟨g, 0, none⟩) L ca) ∧ Below B w V ∧ H + 4 ≤ V.heap.size ∧ (pre ++ [(p, x)]).length ≤ L ∧ DivW xs b (L - (pre ++ [(p, x)]).length) zs r) := fun _ V hV => by
      obtain ⟨k1, k2, k3, k4, k5, k6, k7⟩ := HK.out ()
      have g1 : W.grownBy (W.setCell ⟨g, p, none⟩ (.int .u64 (q : Int))) (some g) := (World.ownsRow.stored k1 p (.int .u64 (q : Int))).2
      have o1 := (World.ownsRow.stored k1 p (.int .u64 (q : Int))).1
      have g2 := grownBy_setCell' (W.setCell ⟨g, p, none⟩ (.int .u64 (q : Int))) (H + 1 + 1) (.int .u64 (r' : Int))
      have ne1 : ∀ j, j ≠ g → some j ≠ (some g : Option Nat) := fun j h e => h (Option.some.inj e)
      have q4 : Boxed (W.setCell ⟨g, p, none⟩ (.int .u64 (q : Int))) (H + 1 + 1) 28 (.int .u64 (r : Int)) := k4.kept g1 (ne1 _ (by omega))
      have sz1 := g1.size
      have sz2 := g2.size
      subst hV
      refine ⟨((KeepsOthers.setCell W _ _).trans (KeepsOthers.setCell _ _ _)).from _, zs.set p q, r', ?_, (k2.kept g1 (ne1 _ (by omega))).other (by omega) _, (k3.kept g1 (ne1 _ (by omega))).other (by omega) _, Boxed.set _ q4, (k5.kept g1 (ne1 _ (by omega))).other (by omega) _, (k6.setCell (p := ⟨g, p, none⟩) (by show B ≤ g; omega) _).setCell (p := ⟨H + 1 + 1, 0, none⟩) (by show B ≤ H + 1 + 1; omega) _, by omega, by simp; omega, ?_⟩
      · rw [List.map_set]
        exact o1.kept g2 (.inr fun e => absurd (Option.some.inj (show (some g : Option Nat) = some (H + 1 + 1) from e)) (by omega))
      · have e : L - (pre ++ [(p, x)]).length = p := by rw [List.length_append, List.length_singleton]; have := HX.out (); omega
        rw [e]
        exact HS.out
    by_cases h0 : r = 0
    · have cD : ∀ V : World, Calls Tryz.prog 124 #[.int .u64 (r : Int), .int .u64 (x : Int), .int .u64 (b : Int)] V fun e w' => e = .returned (.tuple #[.int .u64 (q : Int), .int .u64 (r' : Int)]) ∧ w' = V.drew := fun V => by
        have h := divSmall x b V (by omega) hb2 ox
        rw [h0, Nat.zero_mul, Nat.zero_add] at hq hr'
        rw [hq, hr'] at h
        rw [h0]
        exact h
      have c2s' : (W.setCell ⟨g, p, none⟩ (.int .u64 (q : Int))).drew.drew.cell? ⟨H + 1 + 1, 0, none⟩ = some (.int .u64 (r : Int)) := c2s
      have f2s' : (W.setCell ⟨g, p, none⟩ (.int .u64 (q : Int))).drew.drew.frozen? ⟨H + 1 + 1, 0, none⟩ = false := f2s
      have hcd' : W.drew.drew.cell? ⟨g, p, none⟩ = some (.int .u64 o) := hcell
      have hfd' : W.drew.drew.frozen? ⟨g, p, none⟩ = false := hfz
      clear hq hr' dstep k1 k2 k3 k4 k5 k6 k7 k9 ox hx2 hb hb2 b0' b1' b2' b3 hrow hbel hrb
      gi_wp2_with fail
      refine wpIn_mono (Q := fun e _ w' => e = .normal ∧ w' = ((W.setCell ⟨g, p, none⟩ (.int .u64 (q : Int))).setCell ⟨H + 1 + 1, 0, none⟩ (.int .u64 (r' : Int))).drew.drew) ?reg ?fin
      case reg =>
        clear HS HK HX HF
        clear hL la hsz hH hB oa hg hl1 k8 hpL h0
        refine held_in_round (fun w' => w'.cell? ⟨H, 0, none⟩ = some (.slice (some ⟨g, 0, none⟩) L ca) ∧ w'.cell? ⟨H + 1, 0, none⟩ = some (.int .u64 (b : Int))) (by kernel_rfl) (no_defer (by kernel_rfl)) (by rintro ⟨_, _, h, _⟩; cases h) ⟨c0d, c1d⟩ (fun hS => ?_)
        refine wpAnyH_take (i := 0) (v := .slice (some ⟨g, 0, none⟩) L ca) rfl (by kernel_rfl) (by kernel_rfl) (by kernel_rfl) (fun _ _ _ h => h) (Or.inl ⟨by rfl, ?_⟩) (by assumption) ?_
        · intro w hSw
          go_simp
        simp only [Act.put]
        refine wpAnyH_take (i := 1) (v := .int .i64 (p : Int)) rfl (by kernel_rfl) (by kernel_rfl) (by kernel_rfl) (fun _ _ _ h => h) (Or.inl ⟨by rfl, ?_⟩) (by assumption) ?_
        · intro w hSw
          go_simp
        simp only [Act.put]
        refine wpAnyH_take (i := 3) (v := .int .u64 (x : Int)) rfl (by kernel_rfl) (by kernel_rfl) (by kernel_rfl) (fun _ _ _ h => h) (Or.inl ⟨by rfl, ?_⟩) (by assumption) ?_
        · intro w hSw
          go_simp
        simp only [Act.put]
        refine wpAnyH_take (i := 4) (v := .int .u64 (b : Int)) rfl (by kernel_rfl) (by kernel_rfl) (by kernel_rfl) (fun _ _ _ h => h) (Or.inl ⟨by rfl, ?_⟩) (by assumption) ?_
        · intro w hSw
          go_simp
        simp only [Act.put]
        refine wpAnyH_ready (rs := [2]) (by kernel_rfl) (by simp) ?_
        refine AllReadyH.cons rfl (fun K hK => ?_) AllReadyH.nil
        go_simp
        refine hK.out _ _ ?_ (fun hS => ?_)
        · exact hS
        clear hK K
        refine wpAnyH_ready (rs := [5]) (by kernel_rfl) (by simp) ?_
        refine AllReadyH.cons rfl (fun K hK => ?_) AllReadyH.nil
        go_simp
        go_wp2_with (go_at_call 124; with_reducible refine (cD _).mono ?_; rintro e w' ⟨rfl, rfl⟩)
        refine hK.out _ _ ?_ (fun hS => ?_)
        · exact hS
        clear hK K
        refine wpAnyH_take (i := 6) (v := .tuple #[.int .u64 (q : Int), .int .u64 (r' : Int)]) rfl (by kernel_rfl) (by kernel_rfl) (by kernel_rfl) (fun _ _ _ h => h) (Or.inl ⟨by rfl, ?_⟩) (by assumption) ?_
        · intro w hSw
          go_simp
        simp only [Act.put]
        refine wpAnyH_take (i := 7) (v := .int .u64 (q : Int)) rfl (by kernel_rfl) (by kernel_rfl) (by kernel_rfl) (fun _ _ _ h => h) (Or.inl ⟨by rfl, ?_⟩) (by assumption) ?_
        · intro w hSw
          go_simp
        simp only [Act.put]
        refine wpAnyH_take (i := 8) (v := .int .u64 (r' : Int)) rfl (by kernel_rfl) (by kernel_rfl) (by kernel_rfl) (fun _ _ _ h => h) (Or.inl ⟨by rfl, ?_⟩) (by assumption) ?_
        · intro w hSw
          go_simp
        simp only [Act.put]
        refine wpAnyH_take (i := 9) (v := .pointer (some ⟨g, p, none⟩)) rfl (by kernel_rfl) (by kernel_rfl) (by kernel_rfl) (fun _ _ _ h => h) (Or.inl ⟨by rfl, ?_⟩) (by assumption) ?_
        · intro w hSw
          go_simp
        simp only [Act.put]
        refine wpAnyH_ready (rs := [10]) (by kernel_rfl) (by simp) ?_
        refine AllReadyH.cons rfl (fun K hK => ?_) AllReadyH.nil
        go_simp
        refine hK.out _ _ ?_ (fun hS => ?_)
        · exact ⟨(World.cell?_setCell_far _ _ _ _ hgH).trans c0, (World.cell?_setCell_far _ _ _ _ hgH1).trans c1⟩
        clear hK K
        refine wpAnyH_ready (rs := [11]) (by kernel_rfl) (by simp) ?_
        refine AllReadyH.cons rfl (fun K hK => ?_) AllReadyH.nil
        go_simp
        refine hK.out _ _ ?_ (fun hS => ?_)
        · exact ⟨((World.cell?_setCell_far _ _ _ _ hHH).trans (World.cell?_setCell_far _ _ _ _ hgH)).trans c0, ((World.cell?_setCell_far _ _ _ _ hHH1).trans (World.cell?_setCell_far _ _ _ _ hgH1)).trans c1⟩
        clear hK K
        refine wpAnyH_done (by kernel_rfl) ?_ _
        exact ⟨rfl, rfl⟩
      case fin =>
        rintro e a' W' ⟨rfl, rfl⟩
        obtain ⟨f1, zs', r1, m1, m2, m3, m4, m5, m6, m7, m8, m9⟩ := HF.out () _ rfl
        exact ⟨f1.trans (((KeepsOthers.drew _).trans (KeepsOthers.drew _)).from _), zs', r1, m1.drew.drew, m2, m3, m4, m5, m6.drew.drew, m7, m8, m9⟩
    · have cD := fun V => divGreat r x b V (by omega) hb2 ox h0 hrb
      rw [hq, hr'] at cD
      clear hq hr' dstep k1 k2 k3 k4 k5 k6 k7 k9 ox hx2 hb hb2 b0' b1' b2' b3 hrow hbel hrb
      gi_wp2_with fail
      refine wpIn_mono (Q := fun e _ w' => e = .normal ∧ w' = ((W.setCell ⟨g, p, none⟩ (.int .u64 (q : Int))).setCell ⟨H + 1 + 1, 0, none⟩ (.int .u64 (r' : Int))).drew) ?reg ?fin
      case reg =>
        clear HS HK HX HF
        clear hL la hsz hH hB oa hg hl1 k8 hpL h0
        refine held_in_round (fun w' => w'.cell? ⟨H, 0, none⟩ = some (.slice (some ⟨g, 0, none⟩) L ca) ∧ w'.cell? ⟨H + 1, 0, none⟩ = some (.int .u64 (b : Int))) (by kernel_rfl) (no_defer (by kernel_rfl)) (by rintro ⟨_, _, h, _⟩; cases h) ⟨c0d, c1d⟩ (fun hS => ?_)
        refine wpAnyH_take (i := 0) (v := .slice (some ⟨g, 0, none⟩) L ca) rfl (by kernel_rfl) (by kernel_rfl) (by kernel_rfl) (fun _ _ _ h => h) (Or.inl ⟨by rfl, ?_⟩) (by assumption) ?_
        · intro w hSw
          go_simp
        simp only [Act.put]
        refine wpAnyH_take (i := 1) (v := .int .i64 (p : Int)) rfl (by kernel_rfl) (by kernel_rfl) (by kernel_rfl) (fun _ _ _ h => h) (Or.inl ⟨by rfl, ?_⟩) (by assumption) ?_
        · intro w hSw
          go_simp
        simp only [Act.put]
        refine wpAnyH_take (i := 3) (v := .int .u64 (x : Int)) rfl (by kernel_rfl) (by kernel_rfl) (by kernel_rfl) (fun _ _ _ h => h) (Or.inl ⟨by rfl, ?_⟩) (by assumption) ?_
        · intro w hSw
          go_simp
        simp only [Act.put]
        refine wpAnyH_take (i := 4) (v := .int .u64 (b : Int)) rfl (by kernel_rfl) (by kernel_rfl) (by kernel_rfl) (fun _ _ _ h => h) (Or.inl ⟨by rfl, ?_⟩) (by assumption) ?_
        · intro w hSw
          go_simp
        simp only [Act.put]
        refine wpAnyH_ready (rs := [2]) (by kernel_rfl) (by simp) ?_
        refine AllReadyH.cons rfl (fun K hK => ?_) AllReadyH.nil
        go_simp
        refine hK.out _ _ ?_ (fun hS => ?_)
        · exact hS
        clear hK K
        refine wpAnyH_ready (rs := [5]) (by kernel_rfl) (by simp) ?_
        refine AllReadyH.cons rfl (fun K hK => ?_) AllReadyH.nil
        go_simp
        go_wp2_with (go_at_call 124; with_reducible refine (cD _).mono ?_; rintro e w' ⟨rfl, rfl⟩)
        refine hK.out _ _ ?_ (fun hS => ?_)
        · exact hS
        clear hK K
        refine wpAnyH_take (i := 6) (v := .tuple #[.int .u64 (q : Int), .int .u64 (r' : Int)]) rfl (by kernel_rfl) (by kernel_rfl) (by kernel_rfl) (fun _ _ _ h => h) (Or.inl ⟨by rfl, ?_⟩) (by assumption) ?_
        · intro w hSw
          go_simp
        simp only [Act.put]
        refine wpAnyH_take (i := 7) (v := .int .u64 (q : Int)) rfl (by kernel_rfl) (by kernel_rfl) (by kernel_rfl) (fun _ _ _ h => h) (Or.inl ⟨by rfl, ?_⟩) (by assumption) ?_
        · intro w hSw
          go_simp
        simp only [Act.put]
        refine wpAnyH_take (i := 8) (v := .int .u64 (r' : Int)) rfl (by kernel_rfl) (by kernel_rfl) (by kernel_rfl) (fun _ _ _ h => h) (Or.inl ⟨by rfl, ?_⟩) (by assumption) ?_
        · intro w hSw
          go_simp
        simp only [Act.put]
        refine wpAnyH_take (i := 9) (v := .pointer (some ⟨g, p, none⟩)) rfl (by kernel_rfl) (by kernel_rfl) (by kernel_rfl) (fun _ _ _ h => h) (Or.inl ⟨by rfl, ?_⟩) (by assumption) ?_
        · intro w hSw
          go_simp
        simp only [Act.put]
        refine wpAnyH_ready (rs := [10]) (by kernel_rfl) (by simp) ?_
        refine AllReadyH.cons rfl (fun K hK => ?_) AllReadyH.nil
        go_simp
        refine hK.out _ _ ?_ (fun hS => ?_)
        · exact ⟨(World.cell?_setCell_far _ _ _ _ hgH).trans c0, (World.cell?_setCell_far _ _ _ _ hgH1).trans c1⟩
        clear hK K
        refine wpAnyH_ready (rs := [11]) (by kernel_rfl) (by simp) ?_
        refine AllReadyH.cons rfl (fun K hK => ?_) AllReadyH.nil
        go_simp
        refine hK.out _ _ ?_ (fun hS => ?_)
        · exact ⟨((World.cell?_setCell_far _ _ _ _ hHH).trans (World.cell?_setCell_far _ _ _ _ hgH)).trans c0, ((World.cell?_setCell_far _ _ _ _ hHH1).trans (World.cell?_setCell_far _ _ _ _ hgH1)).trans c1⟩
        clear hK K
        refine wpAnyH_done (by kernel_rfl) ?_ _
        exact ⟨rfl, rfl⟩
      case fin =>
        rintro e a' W' ⟨rfl, rfl⟩
        obtain ⟨f1, zs', r1, m1, m2, m3, m4, m5, m6, m7, m8, m9⟩ := HF.out () _ rfl
        exact ⟨f1.trans ((KeepsOthers.drew _).from _), zs', r1, m1.drew, m2, m3, m4, m5, m6.drew, m7, m8, m9⟩
  case seq =>
    subst hsv
    intro l J W hJI hst hY h0
    refine callsIn_of_wp Tryz.func136 rfl trivial ?_ rfl
    simp only [Tryz.ntmps136, List.size_toArray, List.length_cons, List.length_nil, Nat.reduceAdd, Nat.reduceSub, Array.replicate_succ, Array.replicate_zero, List.push_toArray, List.append_toArray, List.nil_append, List.cons_append]
    have HJ : Hid (∀ pre W, J pre W → ∃ (zs : List Nat) (r : Nat), W.ownsRow B 28 1 (.slice (some ⟨g, 0, none⟩) L ca) L (zs.map fun x => Value.int .u64 (x : Nat)) ∧ Boxed W (H + 1 + 1 + 1) 93 (.slice (some ⟨g, 0, none⟩) L ca) ∧ pre.length ≤ L ∧ DivW xs b (L - pre.length) zs r) := fun pre W h => by
      obtain ⟨zs, r, k1, k2, k3, k4, k5, k6, k7, k8, k9⟩ := hJI pre W h
      exact ⟨zs, r, k1, k5, k8, k9⟩
    have HL : Hid (Unit → xs.length = L ∧ L ≤ 1000 ∧ WordOk xs) := fun _ => ⟨hL, la, oa⟩
    have hb3 : W.cell? ⟨H + 1 + 1 + 1, 0, none⟩ = some (.slice (some ⟨g, 0, none⟩) L ca) := by
      obtain ⟨zs, r, _, k, _⟩ := HJ.out _ _ h0
      exact k.cell
    have la' : (L : Int) ≤ 1000 := by omega
    clear hJI hst b0' b1' b2' b3 hrow hbel hsz hL la oa hb hb2
    gi_wp2
    gi_loopw [3] (fun i wr => ∃ pre : List (Nat × Nat), i = .int .i64 ((L : Int) - 1 - pre.length) ∧ (pre.length : Int) ≤ L ∧ J pre wr) (fun i _ => (intOf i + 1).toNat)
    case atStart => exact ⟨[], by simp, by simp, h0⟩
    case round =>
      obtain ⟨pre, rfl, hpl, hJp⟩ := hrel
      obtain ⟨zs, r, k1, k5, _, k9⟩ := HJ.out pre wr hJp
      have hb3' : wr.cell? ⟨H + 1 + 1 + 1, 0, none⟩ = some (.slice (some ⟨g, 0, none⟩) L ca) := k5.cell
      by_cases hlt : (pre.length : Int) < L
      · obtain ⟨p, hp⟩ : ∃ p : Nat, L - 1 - pre.length = p := ⟨_, rfl⟩
        have hp' : (L : Int) - 1 - pre.length = p := by omega
        obtain ⟨x, hx⟩ : ∃ x, xs.getD p 0 = x := ⟨_, rfl⟩
        have hcell : wr.cell? ⟨g, p, none⟩ = some (.int .u64 (x : Int)) := by
          have hzl : zs.length = L := by rw [k9.len]; exact (HL.out ()).1
          rw [World.ownsRow.cellAt k1 p (by omega), List.getElem?_map, List.getElem?_eq_getElem (by omega), ← hx, ← k9.low p (by omega), List.getD_eq_getElem?_getD, List.getElem?_eq_getElem (by omega)]
          rfl
        have hpL : (p : Int) < L := by omega
        obtain ⟨fn, tmps, assign, body, hy, hR⟩ := hY pre (p, x) wr hJp ⟨by omega, hp.symm, by rw [hp]; exact hx.symm⟩
        dsimp only at hy
        have HP : Hid (Unit → L - 1 - pre.length = p) := fun _ => hp
        clear hY k1 k5 k9 hx hb3 h0 hp
        gi_wp2
        refine hR.mono ?_
        rintro e W3 ⟨rfl, hJ3⟩
        gi_wp2
        go_roundw
        case rel => exact ⟨pre ++ [(p, x)], by go_num, by simp; omega, hJ3⟩
        case measure => simp [intOf]; omega
      · have hpe : (L : Int) - 1 - pre.length = -1 := by omega
        clear hY k1 k5 k9 hb3 h0
        gi_wp2
        go_end0
        exact ⟨⟨_, rfl⟩, pre, by omega, hJp⟩
  case done =>
    rintro D ys W hD hlen ⟨zs, r, k1, k2, k3, k4, k5, k6, k7, k8, k9⟩ hK
    rw [hlen, Nat.sub_self] at k9
    have hc := k4.cell
    gi_wp2
    obtain ⟨d1, d2⟩ := divW_end k9
    refine ⟨by simp, .inl ⟨_, _, rfl, run_takeDeferred hK, ?_⟩⟩
    refine ⟨_, results_tmp rfl _ _ _, zs, by rw [← d2]; rfl, ?_, k9.len, ?_, d1, k9.ok⟩
    · have hne : W.grownBy (W.putObj D (.deferred none)) (some D) := grownBy_putObj' _ _ _
      unfold RowW
      rw [k9.len, hL]
      rw [← hsv] at k1
      exact own_kept (D := 0) k1 hne (fun q e => by cases e; exact ⟨Nat.zero_le _, _, hK, rfl⟩)
    · exact k6.trans (belowK_b (w := w) (by omega) W D _ _ (by omega) hK rfl rfl)

end Go.Proofs.YtcabanghegddhaaGreatDoor
