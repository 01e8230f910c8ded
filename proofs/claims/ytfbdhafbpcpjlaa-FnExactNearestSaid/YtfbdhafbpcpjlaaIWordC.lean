/-
  The walks of the library's Grow of nothing and Concat of two lists of words.
-/
import Derived.Test.YtfbdhafbpcpjlaaIWordT
import Derived.Lib.AppendZerosOnto
import Derived.Lib.AppendZeros
import Derived.Lib.SliceRun
namespace Go.Proofs.Ytfbdhafbpcpjlaa
open Go.RowKit
set_option linter.unusedVariables false

set_option maxHeartbeats 1000000 in
set_option maxRecDepth 100000 in
theorem growWalk (n : Nat) (w : World) (h0 : 0 < n) (hn : n ≤ 100000) :
    Calls Try.prog 48 #[.slice none 0 0, .int .i64 n] w fun e w' => ∃ v : Value, e = .returned v ∧ w'.ownsRow w.heap.size 24 1 v 0 [] ∧ Below w.heap.size w w' := by
  obtain ⟨i0, hi, hz0, hz1, hz2⟩ := info_parts Try.infoWord
  obtain ⟨G, hG⟩ : ∃ G, G = grownCap w n 0 24 := ⟨_, rfl⟩
  have hGn : n ≤ G := by rw [hG]; exact grownCap_ge w _ _ _
  have hGm : G ≤ maxLen := by rw [hG]; exact grownCap_le_maxLen w n 0 _ (by unfold maxLen; omega)
  obtain ⟨cs, hcs⟩ : ∃ cs : Array Value, (#[] : Array Value) ++ Builtin.zeroCells (Value.int .u64 0).cells n ++ Builtin.zeroCells (Value.int .u64 0).cells (G - n) = cs := ⟨_, rfl⟩
  have hsz : cs.size = G := by
    rw [← hcs, Array.size_append, Array.size_append, size_zeroCells, size_zeroCells]
    simp [Value.cells]
    omega
  have hrz : ∀ ty, (Builtin.append_ #[46, 3] ty #[.slice none 0 0, .int .i64 (n : Int)]).run Try.prog w = .ok (.slice (some ⟨w.heap.size, 0, none⟩) n G) (w.drew.alloc (.cells cs 24)) := fun ty => by
    have h := Lib.run_append_grow_zeros (P := Try.prog) w 46 3 ty 24 i0 (.int .u64 0) .i64 .i64 Try.underlying46 Try.underlying3 hi hz0 none 0 0 [] (run_firstCells_none w.drew i0.size 0 0 0) n h0 (by omega) (by omega) (by omega) (by rw [hz2]; omega) (by
      rw [hz2]
      exact growslice_fits (by omega) (by omega))
    rw [Nat.zero_add, ← hG] at h
    rw [h, ← hcs]
  have HO : Hid ((w.drew.alloc (.cells cs 24)).ownsRow w.heap.size 24 1 (.slice (some ⟨w.heap.size, 0, none⟩) 0 G) 0 []) :=
    ⟨rfl, .inr ⟨w.heap.size, G, cs, rfl, Nat.le_refl _, heap_alloc_new w.drew _, Nat.zero_le _, hGm, by rw [hsz, Nat.mul_one], by simp⟩⟩
  have hn' : (n : Int) ≤ 100000 := by omega
  have hGi : (G : Int) ≤ 9223372036854775807 := by unfold maxLen at hGm; omega
  clear hG hcs hsz hGm
  go_enter Try.func48, Try.ntmps48
  go_wp2_with (at_builtin; refine Lib.wpList_append_run _ rfl _ _ _ _ rfl _ _ rfl rfl _ _ (hrz _) ?_)
  go_ret
  exact ⟨_, rfl, HO.out, (Below.refl _ _).drew.alloc (Nat.le_refl _) _⟩

theorem row_cells {w : World} {B : Nat} {v : Value} {xs : List Nat} (h : RowW w B v xs) : ∃ ad c, v = .slice ad xs.length c ∧ (xs = [] ∨ ∃ g, ad = some ⟨g, 0, none⟩) ∧ ∀ g, ad = some ⟨g, 0, none⟩ → ∀ j u, (xs.map fun x => Value.int .u64 (x : Nat))[j]? = some u → w.cell? ((⟨g, 0, none⟩ : Addr).add j) = some u := by
  rcases h.cells with ⟨rfl, rfl⟩ | ⟨g, cap, rfl, h1, h2, hc⟩
  · exact ⟨none, 0, rfl, .inl rfl, fun g e => by cases e⟩
  · refine ⟨_, cap, rfl, .inr ⟨g, rfl⟩, fun g' e j u hu => ?_⟩
    cases e
    exact World.ownsRow.cells h rfl j u hu

set_option maxHeartbeats 2000000 in
set_option maxRecDepth 100000 in
theorem concatWalk (q B1 B2 g1 c1 g2 c2 : Nat) (xs ys : List Nat) (w : World) (hq : w.heap[q]? = some (.cells #[.slice (some ⟨g1, 0, none⟩) xs.length c1, .slice (some ⟨g2, 0, none⟩) ys.length c2] 46 (0, 0)))
    (h1 : RowW w B1 (.slice (some ⟨g1, 0, none⟩) xs.length c1) xs) (h2 : RowW w B2 (.slice (some ⟨g2, 0, none⟩) ys.length c2) ys) (l1 : xs.length ≤ 1000) (l2 : ys.length ≤ 1000) (l0 : 0 < ys.length) :
    Calls Try.prog 21 #[.slice (some ⟨q, 0, none⟩) 2 2] w fun e w' => ∃ v : Value, e = .returned v ∧ RowW w' w.heap.size v (xs ++ ys) ∧ Below w.heap.size w w' := by
  obtain ⟨i0, hi, hz0, hz1, hz2⟩ := info_parts Try.infoWord
  obtain ⟨m1, e1⟩ : ∃ m1, xs.length = m1 := ⟨_, rfl⟩
  obtain ⟨m2, e2⟩ : ∃ m2, ys.length = m2 := ⟨_, rfl⟩
  have HR : Hid (Unit → xs.length = m1 ∧ ys.length = m2 ∧ RowW w B1 (.slice (some ⟨g1, 0, none⟩) xs.length c1) xs ∧ RowW w B2 (.slice (some ⟨g2, 0, none⟩) ys.length c2) ys) := fun _ => ⟨e1, e2, h1, h2⟩
  rw [e1, e2] at hq
  rw [e1] at l1
  rw [e2] at l2 l0
  have l1' : (m1 : Int) ≤ 1000 := by omega
  have l2' : (m2 : Int) ≤ 1000 := by omega
  have ca : w.cell? ⟨q, 0, none⟩ = some (.slice (some ⟨g1, 0, none⟩) m1 c1) := by rw [cell_of_row w q 0 _ _ _ hq]; rfl
  have cb : w.cell? ⟨q, 1, none⟩ = some (.slice (some ⟨g2, 0, none⟩) m2 c2) := by rw [cell_of_row w q 1 _ _ _ hq]; rfl
  have hql : q < w.heap.size := (Array.getElem?_eq_some_iff.1 hq).1
  obtain ⟨n, hn⟩ : ∃ n, m1 + m2 = n := ⟨_, rfl⟩
  have hn1 : (m1 : Int) + m2 = n := by omega
  have cG := growWalk n w (by omega) (by omega)
  have HB : Hid (Unit → m1 + m2 = n) := fun _ => hn
  clear e1 e2 h1 h2 hn
  go_enter Try.func21, Try.ntmps21
  go_upto_region 3 with fail
  go_loop [3, 11] (fun x y => (x = .int .i64 0 ∧ y = .int .i64 0) ∨ (x = .int .i64 m1 ∧ y = .int .i64 1) ∨ (x = .int .i64 n ∧ y = .int .i64 2)) (fun _ y => 2 - (intOf y).toNat)
  case atStart => exact .inl ⟨rfl, rfl⟩
  case round =>
    rcases hrel with ⟨rfl, rfl⟩ | ⟨rfl, rfl⟩ | ⟨rfl, rfl⟩
    · go_wp2
      go_round
      case rel => exact .inr (.inl ⟨by simp, by simp⟩)
      case measure => simp [intOf]
    · go_wp2
      go_round
      case rel => exact .inr (.inr ⟨by simp, by simp⟩)
      case measure => simp [intOf]
    · go_wp2_with fail
      with_reducible refine cG.mono ?_
      rintro e w1 ⟨v, rfl, hown, hbel⟩
      have hsz := hbel.size
      have ca1 : w1.cell? ⟨q, 0, none⟩ = some (.slice (some ⟨g1, 0, none⟩) m1 c1) := (hbel.cell (p := ⟨q, 0, none⟩) hql).trans ca
      have cb1 : w1.cell? ⟨q, 1, none⟩ = some (.slice (some ⟨g2, 0, none⟩) m2 c2) := (hbel.cell (p := ⟨q, 1, none⟩) hql).trans cb
      clear cG
      go_upto_region 11 with fail
      go_loopw [6, 27] (fun u y wr => (y = .int .i64 0 ∧ wr.ownsRow w.heap.size 24 1 u 0 [] ∧ Below w.heap.size w wr) ∨ (y = .int .i64 1 ∧ wr.ownsRow w.heap.size 24 1 u m1 (xs.map fun x => Value.int .u64 (x : Nat)) ∧ Below w.heap.size w wr) ∨ (y = .int .i64 2 ∧ wr.ownsRow w.heap.size 24 1 u (m1 + m2) (xs.map (fun x => Value.int .u64 (x : Nat)) ++ ys.map (fun x => Value.int .u64 (x : Nat))) ∧ Below w.heap.size w wr)) (fun _ y _ => 2 - (intOf y).toNat)
      case atStart => exact .inl ⟨rfl, hown, hbel⟩
      case round =>
        clear ca1 cb1 hown hbel hsz
        have HO : Hid (∀ (W : World), Below w.heap.size w W → (∀ j u, (xs.map fun x => Value.int .u64 (x : Nat))[j]? = some u → W.cell? ((⟨g1, 0, none⟩ : Addr).add j) = some u) ∧ (∀ j u, (ys.map fun x => Value.int .u64 (x : Nat))[j]? = some u → W.cell? ((⟨g2, 0, none⟩ : Addr).add j) = some u)) := fun W hW =>
          ⟨fun j u hu => World.ownsRow.cells ((HR.out ()).2.2.1.below hW) rfl j u hu, fun j u hu => World.ownsRow.cells ((HR.out ()).2.2.2.below hW) rfl j u hu⟩
        have hx1 : ∀ u ∈ (xs.map fun x => Value.int .u64 (x : Nat)), u.oneCell' = true := fun u hu => by
          obtain ⟨y, _, rfl⟩ := List.mem_map.1 hu; rfl
        have hy1 : ∀ u ∈ (ys.map fun x => Value.int .u64 (x : Nat)), u.oneCell' = true := fun u hu => by
          obtain ⟨y, _, rfl⟩ := List.mem_map.1 hu; rfl
        rcases hrel with ⟨rfl, hown, hbel⟩ | ⟨rfl, hown, hbel⟩ | ⟨rfl, hown, hbel⟩
        · have hsz := hbel.size
          have ca1 : wr.cell? ⟨q, 0, none⟩ = some (.slice (some ⟨g1, 0, none⟩) m1 c1) := (hbel.cell (p := ⟨q, 0, none⟩) hql).trans ca
          have hnews := (HO.out wr hbel).1
          go_wp2_with (at_builtin; refine wpList_append_own _ rfl _ _ 46 rfl w.heap.size 24 i0 (.int .u64 0) 1 8 Try.underlying46 hi hz0 hz1 hz2 rfl (by decide) _ _ _ rfl hown ⟨g1, 0, none⟩ m1 c1 (xs.map fun x => Value.int .u64 (x : Nat)) rfl (by simp [(HR.out ()).1]) hnews hx1 (by unfold maxLen; omega) (by omega) hsz ?_)
          intro v' w2 hown' hgrow _
          have hb2 : Below w.heap.size w w2 := hbel.grown hgrow hsz (fun k hk => (hown.lt k hk).1)
          clear hnews hgrow hown HO
          go_wp2
          go_roundw
          case rel => exact .inr (.inl ⟨by simp, hown', hb2⟩)
          case measure => simp [intOf]
        · have hsz := hbel.size
          have cb1 : wr.cell? ⟨q, 1, none⟩ = some (.slice (some ⟨g2, 0, none⟩) m2 c2) := (hbel.cell (p := ⟨q, 1, none⟩) hql).trans cb
          have hnews := (HO.out wr hbel).2
          go_wp2_with (at_builtin; refine wpList_append_own _ rfl _ _ 46 rfl w.heap.size 24 i0 (.int .u64 0) 1 8 Try.underlying46 hi hz0 hz1 hz2 rfl (by decide) _ _ _ rfl hown ⟨g2, 0, none⟩ m2 c2 (ys.map fun x => Value.int .u64 (x : Nat)) rfl (by simp [(HR.out ()).2.1]) hnews hy1 (by unfold maxLen; omega) (by omega) hsz ?_)
          intro v' w2 hown' hgrow _
          have hb2 : Below w.heap.size w w2 := hbel.grown hgrow hsz (fun k hk => (hown.lt k hk).1)
          clear hnews hgrow hown HO
          go_wp2
          go_roundw
          case rel => exact .inr (.inr ⟨by simp, hown', hb2⟩)
          case measure => simp [intOf]
        · go_wp2
          go_ret
          refine ⟨_, rfl, ?_, hbel⟩
          unfold RowW
          rw [List.length_append, (HR.out ()).1, (HR.out ()).2.1, List.map_append]
          exact hown

end Go.Proofs.Ytfbdhafbpcpjlaa
