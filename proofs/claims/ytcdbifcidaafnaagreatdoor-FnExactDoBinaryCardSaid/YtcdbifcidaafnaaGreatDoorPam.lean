/-
  Part 13 of what is proved of drawn right trees.
-/
import Derived.Test.YtcdbifcidaafnaaGreatDoorPad
import Derived.Test.YtcdbifcidaafnaaGreatDoorPak
import Derived.Test.YtcdbifcidaafnaaGreatDoorPal
import Derived.Test.YtcdbifcidaafnaaGreatDoorPaa
import Derived.Test.YtcdbifcidaafnaaGreatDoorPag
import Derived.Test.YtcdbifcidaafnaaGreatDoorPac
import Derived.Deep.QuietTactic
import Derived.BigQuiet
import Derived.Lib.QuietBelow
import Derived.Deep.RegionHeld3
import Derived.Lib.ConvBytes
import Derived.Lib.SmallJoins
import Derived.Maps.AppendAt
import Derived.Test.YtcdbifcidaafnaaGreatDoorRows
import Derived.Laws.OwnMore
import Derived.Handy

namespace Go.Proofs.YtcdbifcidaafnaaGreatDoor
open Go.RowKit Go.Sort
set_option linter.unusedVariables false
def binV (op : Int) (a b : PVal) : PVal × ByteArray :=
  if op = 10 then (boolV (valSame a b), ⟨#[]⟩)
  else if op = 11 then (boolV (!valSame a b), ⟨#[]⟩)
  else if a.kind = 3 ∧ b.kind = 3 then
    if inB op 6 9 = true then (boolV (orderB op (Op.bytesLess a.text.toList b.text.toList) (a.text.toList == b.text.toList) false), ⟨#[]⟩)
    else if op = 1 then (if 200 < a.text.size + b.text.size then (noneV, longS) else (textV (a.text ++ b.text), ⟨#[]⟩))
    else (noneV, typeS)
  else if a.kind = 2 ∧ b.kind = 2 then
    if inB op 6 9 = true then (boolV (orderB op (lessN a.num b.num) (equalN a.num b.num) (decide (kindN a.num = 1) || decide (kindN b.num = 1))), ⟨#[]⟩)
    else if op = 1 then (numV (addN a.num b.num), ⟨#[]⟩)
    else if op = 2 then (numV (subN a.num b.num), ⟨#[]⟩)
    else if op = 3 then (numV (mulN a.num b.num), ⟨#[]⟩)
    else if op = 4 then (numV (divN a.num b.num), ⟨#[]⟩)
    else if op = 5 then (numV (remN a.num b.num), ⟨#[]⟩)
    else (noneV, typeS)
  else (noneV, typeS)
def pairV (x : PVal × ByteArray) : Value := .tuple #[.agg #[.int .i64 x.1.kind, .int .u64 (x.1.num : Int), .string x.1.text, .int .i64 x.1.ref], .string x.2]
theorem specDoBinary_v (op : Int) (a b : PVal) (w : World) (ha : valW a) (hb : valW b) (la : a.text.size ≤ 1048576) (lb : b.text.size ≤ 1048576) :
    Calls Tryz.prog 11 #[.int .i64 op, .agg #[.int .i64 a.kind, .int .u64 (a.num : Int), .string a.text, .int .i64 a.ref], .agg #[.int .i64 b.kind, .int .u64 (b.num : Int), .string b.text, .int .i64 b.ref]] w fun e w' => e = .returned (pairV (binV op a b)) ∧ Below w.heap.size w w' := by
  have cS := fun W => specSameValue_any a b W ha hb
  have na := ha.2.1
  have nb := hb.2.1
  clear ha hb
  unfold binV
  obtain ⟨k, x, s, r⟩ := a
  obtain ⟨k', x', s', r'⟩ := b
  simp only at la lb na nb cS ⊢
  by_cases h10 : op = 10
  · subst h10
    rw [if_pos rfl]
    exact doB_10 k k' x x' s s' r r' w _ _ rfl cS
  rw [if_neg h10]
  by_cases h11 : op = 11
  · subst h11
    rw [if_pos rfl]
    exact doB_11 k k' x x' s s' r r' w _ _ rfl cS
  rw [if_neg h11]
  clear cS
  by_cases h3 : k = 3 ∧ k' = 3
  · rw [if_pos h3]
    obtain ⟨rfl, rfl⟩ := h3
    by_cases ho : inB op 6 9 = true
    · rw [if_pos ho]
      exact doB_text_order op h10 h11 x x' s s' r r' w ho _ rfl
    · rw [if_neg ho]
      have ho' : inB op 6 9 = false := by revert ho; cases inB op 6 9 <;> simp
      by_cases h1 : op = 1
      · subst h1
        rw [if_pos rfl]
        by_cases hl : 200 < s.size + s'.size
        · rw [if_pos hl]
          exact doB_text_long x x' s s' r r' w hl (by omega) (by omega)
        · rw [if_neg hl]
          exact doB_text_add x x' s s' r r' w hl
      · rw [if_neg h1]
        exact doB_text_type op h10 h11 h1 x x' s s' r r' w ho'
  rw [if_neg h3]
  by_cases h2 : k = 2 ∧ k' = 2
  · rw [if_pos h2]
    obtain ⟨rfl, rfl⟩ := h2
    by_cases ho : inB op 6 9 = true
    · rw [if_pos ho]
      have cL := fun W => specLess_any x x' W na nb
      have cE := fun W => specEqual_any x x' W na nb
      have cU := fun W => l03Nan_any x W na
      have cV := fun W => l03Nan_any x' W nb
      obtain ⟨u, hu⟩ : ∃ u, decide (kindN x = 1) = u := ⟨_, rfl⟩
      simp only [hu] at cU ⊢
      cases u with
      | true => exact doB_num_order_true op h10 h11 x x' s s' r r' w ho _ _ _ rfl cL cE cU
      | false => exact doB_num_order_false op h10 h11 x x' s s' r r' w ho _ _ _ _ rfl cL cE cU cV
    · rw [if_neg ho]
      have ho' : inB op 6 9 = false := by revert ho; cases inB op 6 9 <;> simp
      by_cases h1 : op = 1
      · subst h1; rw [if_pos rfl]; exact doB_num_1 x x' s s' r r' w _ (fun W => specAdd_any x x' W na nb)
      rw [if_neg h1]
      by_cases h2 : op = 2
      · subst h2; rw [if_pos rfl]; exact doB_num_2 x x' s s' r r' w _ (fun W => specSub_any x x' W na nb)
      rw [if_neg h2]
      by_cases h3 : op = 3
      · subst h3; rw [if_pos rfl]; exact doB_num_3 x x' s s' r r' w _ (fun W => specMul_any x x' W na nb)
      rw [if_neg h3]
      by_cases h4 : op = 4
      · subst h4; rw [if_pos rfl]; exact doB_num_4 x x' s s' r r' w _ (fun W => specDiv_any x x' W na nb)
      rw [if_neg h4]
      by_cases h5 : op = 5
      · subst h5; rw [if_pos rfl]; exact doB_num_5 x x' s s' r r' w _ (fun W => specRem_any x x' W na nb)
      rw [if_neg h5]
      exact doB_num_type op h10 h11 h1 h2 h3 h4 h5 x x' s s' r r' w ho'
  rw [if_neg h2]
  exact doB_type op h10 h11 k k' x x' s s' r r' w h3 h2
end Go.Proofs.YtcdbifcidaafnaaGreatDoor
namespace Go.Proofs.YtcdbifcidaafnaaGreatDoor
open Go.RowKit
set_option linter.unusedVariables false
set_option maxHeartbeats 400000 in
set_option maxRecDepth 100000 in
theorem iRank (x : Nat) (w : World) (hx : x < 18446744073709551616) :
    Calls Tryz.prog 62 #[.int .u64 x] w fun e w' => e = .returned (.int .i64 (keyN x)) ∧ w = w' := by
  have cB := fun W => iBelow x W
  have cS := fun W => iSize x W
  by_cases h : (9223372036854775808 : Int) ≤ x
  · rw [decide_eq_true (by omega : 9223372036854775808 ≤ x)] at cB
    obtain ⟨s, hs⟩ : ∃ s : Int, (x : Int) % 9223372036854775808 = s := ⟨_, rfl⟩
    rw [hs] at cS
    have HY : Hid (Unit → keyN x = -s) := fun _ => by unfold keyN; rw [if_pos (by omega)]; omega
    have s1 : 0 ≤ s := by omega
    have s2 : s < 9223372036854775808 := by omega
    clear hs h hx
    go_enter Tryz.func62, Tryz.ntmps62
    go_wp2_with (first | (go_at_call 83; refine (cB _).mono ?_; rintro e w' ⟨rfl, rfl⟩) | (go_at_call 84; refine (cS _).mono ?_; rintro e w' ⟨rfl, rfl⟩))
    go_ret
    exact ⟨by rw [HY.out ()]; rfl, rfl⟩
  · rw [decide_eq_false (by omega : ¬9223372036854775808 ≤ x)] at cB
    have HY : Hid (Unit → keyN x = x) := fun _ => by unfold keyN; rw [if_neg (by omega)]
    have h' : (x : Int) < 9223372036854775808 := by omega
    clear h hx
    go_enter Tryz.func62, Tryz.ntmps62
    go_wp2_with (go_at_call 83; refine (cB _).mono ?_; rintro e w' ⟨rfl, rfl⟩)
    go_ret
    exact ⟨by rw [HY.out ()]; rfl, rfl⟩
set_option maxHeartbeats 400000 in
set_option maxRecDepth 100000 in
theorem iCompares (a b : Nat) (w : World) :
    Calls Tryz.prog 61 #[.int .u64 a, .int .u64 b] w fun e w' => e = .returned (.bool (decide (kindN a ≠ 1 ∧ kindN b ≠ 1))) ∧ w = w' := by
  have cA := fun W => iKind a W
  have cB := fun W => iKind b W
  obtain ⟨p, hp⟩ : ∃ p, kindN a = p := ⟨_, rfl⟩
  obtain ⟨q, hq⟩ : ∃ q, kindN b = q := ⟨_, rfl⟩
  rw [hp] at cA
  rw [hq] at cB
  rw [hp, hq]
  clear hp hq
  by_cases h1 : p = 1
  · subst h1
    go_enter Tryz.func61, Tryz.ntmps61
    go_wp2_with (go_at_call 82; refine (cA _).mono ?_; rintro e w' ⟨rfl, rfl⟩)
    go_ret
    exact ⟨by simp, rfl⟩
  · have d1 : ((p : Int) != 1) = true := by simp; omega
    by_cases h2 : q = 1
    · subst h2
      go_enter Tryz.func61, Tryz.ntmps61
      go_wp2_with fail
      refine (cA _).mono ?_
      rintro e w' ⟨rfl, rfl⟩
      go_wp2_with fail
      refine (cB _).mono ?_
      rintro e w' ⟨rfl, rfl⟩
      go_wp2
      go_ret
      exact ⟨by simp, rfl⟩
    · have d2 : ((q : Int) != 1) = true := by simp; omega
      have HY : Hid (Unit → decide (p ≠ 1 ∧ q ≠ 1) = true) := fun _ => by simp [h1, h2]
      go_enter Tryz.func61, Tryz.ntmps61
      go_wp2_with fail
      refine (cA _).mono ?_
      rintro e w' ⟨rfl, rfl⟩
      go_wp2_with fail
      refine (cB _).mono ?_
      rintro e w' ⟨rfl, rfl⟩
      go_wp2
      go_ret
      exact ⟨by rw [HY.out ()]; rfl, rfl⟩
set_option maxHeartbeats 1000000 in
set_option maxRecDepth 100000 in
theorem iEqual (a b : Nat) (w : World) (ha : a < 18446744073709551616) (hb : b < 18446744073709551616) :
    Calls Tryz.prog 43 #[.int .u64 a, .int .u64 b] w fun e w' => e = .returned (.bool (equalN a b)) ∧ Below w.heap.size w w' := by
  have cC := fun W => iCompares a b W
  have cA := fun W => iRank a W ha
  have cB := fun W => iRank b W hb
  clear ha hb
  have HE : Hid (Unit → equalN a b = (decide (kindN a ≠ 1 ∧ kindN b ≠ 1) && (keyN a == keyN b))) := fun _ => by
    rw [equalN, Bool.eq_iff_iff]
    simp [and_assoc]
  rw [HE.out ()]
  clear HE
  obtain ⟨c, hc⟩ : ∃ c, decide (kindN a ≠ 1 ∧ kindN b ≠ 1) = c := ⟨_, rfl⟩
  obtain ⟨p, hp⟩ : ∃ p, keyN a = p := ⟨_, rfl⟩
  obtain ⟨q, hq⟩ : ∃ q, keyN b = q := ⟨_, rfl⟩
  rw [hc] at cC ⊢
  rw [hp] at cA ⊢
  rw [hq] at cB ⊢
  clear hc hp hq
  cases c
  · go_enter Tryz.func43, Tryz.ntmps43
    go_wp2_with (go_at_call 61; refine (cC _).mono ?_; rintro e w' ⟨rfl, rfl⟩)
    go_ret
    exact ⟨rfl, Below.refl _ _⟩
  · go_enter Tryz.func43, Tryz.ntmps43
    go_wp2_with fail
    refine (cC _).mono ?_
    rintro e w' ⟨rfl, rfl⟩
    go_wp2_with fail
    refine (cA _).mono ?_
    rintro e w' ⟨rfl, rfl⟩
    go_wp2_with fail
    refine (cB _).mono ?_
    rintro e w' ⟨rfl, rfl⟩
    go_wp2
    go_ret
    exact ⟨rfl, Below.refl _ _⟩
set_option maxHeartbeats 1000000 in
set_option maxRecDepth 100000 in
theorem iLess (a b : Nat) (w : World) (ha : a < 18446744073709551616) (hb : b < 18446744073709551616) :
    Calls Tryz.prog 95 #[.int .u64 a, .int .u64 b] w fun e w' => e = .returned (.bool (lessN a b)) ∧ Below w.heap.size w w' := by
  have cC := fun W => iCompares a b W
  have cA := fun W => iRank a W ha
  have cB := fun W => iRank b W hb
  clear ha hb
  have HE : Hid (Unit → lessN a b = (decide (kindN a ≠ 1 ∧ kindN b ≠ 1) && decide (keyN a < keyN b))) := fun _ => by
    rw [lessN, Bool.eq_iff_iff]
    simp [and_assoc]
  rw [HE.out ()]
  clear HE
  obtain ⟨c, hc⟩ : ∃ c, decide (kindN a ≠ 1 ∧ kindN b ≠ 1) = c := ⟨_, rfl⟩
  obtain ⟨p, hp⟩ : ∃ p, keyN a = p := ⟨_, rfl⟩
  obtain ⟨q, hq⟩ : ∃ q, keyN b = q := ⟨_, rfl⟩
  rw [hc] at cC ⊢
  rw [hp] at cA ⊢
  rw [hq] at cB ⊢
  clear hc hp hq
  cases c
  · go_enter Tryz.func95, Tryz.ntmps95
    go_wp2_with (go_at_call 61; refine (cC _).mono ?_; rintro e w' ⟨rfl, rfl⟩)
    go_ret
    exact ⟨rfl, Below.refl _ _⟩
  · go_enter Tryz.func95, Tryz.ntmps95
    go_wp2_with fail
    refine (cC _).mono ?_
    rintro e w' ⟨rfl, rfl⟩
    go_wp2_with fail
    refine (cA _).mono ?_
    rintro e w' ⟨rfl, rfl⟩
    go_wp2_with fail
    refine (cB _).mono ?_
    rintro e w' ⟨rfl, rfl⟩
    go_wp2
    go_ret
    exact ⟨rfl, Below.refl _ _⟩
end Go.Proofs.YtcdbifcidaafnaaGreatDoor
namespace Go.Proofs.YtcdbifcidaafnaaGreatDoor
open Go.RowKit Go.Sort
set_option linter.unusedVariables false
set_option linter.unusedSimpArgs false
theorem tri_cells {w : World} {g : Nat} {a0 a1 a2 : Value} {t : TypeId} {r : Nat × Nat} (h : w.heap[g]? = some (.cells #[a0, a1, a2] t r)) :
    w.cell? ⟨g, 0, none⟩ = some a0 ∧ w.cell? ⟨g, 1, none⟩ = some a1 ∧ w.cell? ⟨g, 2, none⟩ = some a2 := by
  refine ⟨?_, ?_, ?_⟩ <;> (rw [cell_of_row _ _ _ _ _ _ h]; rfl)
theorem tri_put {w : World} {g : Nat} {a0 a1 a2 b0 b1 b2 : Value} {t : TypeId} (h : w.heap[g]? = some (.cells #[a0, a1, a2] t)) :
    (((w.setCell ⟨g, 0, none⟩ b0).setCell ⟨g, 1, none⟩ b1).setCell ⟨g, 2, none⟩ b2).heap[g]? = some (.cells #[b0, b1, b2] t) := by
  have k0 : (w.setCell ⟨g, 0, none⟩ b0).heap[g]? = some (.cells #[b0, a1, a2] t) := heap_setCell_same _ _ _ _ _ _ h
  have k1 := heap_setCell_same _ _ 1 _ _ b1 k0
  exact heap_setCell_same _ _ 2 _ _ b2 k1
theorem tri_ready {w w1 : World} {G B : Nat} {a0 a1 a2 b0 b1 b2 : Value} {t : TypeId} (u : w1.heap[G]? = some (.cells #[a0, a1, a2] t)) (hb : Below B w w1) (hG : B ≤ G) :
    (w1.cell? ⟨G, 0, none⟩ = some a0 ∧ w1.cell? ⟨G, 1, none⟩ = some a1 ∧ w1.cell? ⟨G, 2, none⟩ = some a2) ∧ (∀ j, w1.frozen? ⟨G, j, none⟩ = false) ∧
    ((((w1.setCell ⟨G, 0, none⟩ b0).setCell ⟨G, 1, none⟩ b1).setCell ⟨G, 2, none⟩ b2).cell? ⟨G, 0, none⟩ = some b0 ∧ (((w1.setCell ⟨G, 0, none⟩ b0).setCell ⟨G, 1, none⟩ b1).setCell ⟨G, 2, none⟩ b2).cell? ⟨G, 1, none⟩ = some b1 ∧ (((w1.setCell ⟨G, 0, none⟩ b0).setCell ⟨G, 1, none⟩ b1).setCell ⟨G, 2, none⟩ b2).cell? ⟨G, 2, none⟩ = some b2) ∧
    Below B w (((w1.setCell ⟨G, 0, none⟩ b0).setCell ⟨G, 1, none⟩ b1).setCell ⟨G, 2, none⟩ b2) :=
  ⟨tri_cells u, fun j => frozen_of_row w1 G j _ _ u, tri_cells (tri_put u), ((hb.setCell (p := ⟨G, 0, none⟩) hG b0).setCell (p := ⟨G, 1, none⟩) hG b1).setCell (p := ⟨G, 2, none⟩) hG b2⟩
set_option maxHeartbeats 1000000 in
set_option maxRecDepth 100000 in
theorem iOrderText (s u : ByteArray) (w : World) :
    Calls Tryz.prog 80 #[.string s, .string u] w fun e w' => e = .returned (.agg #[.bool (Op.bytesLess s.toList u.toList), .bool (s.toList == u.toList), .bool (!Op.bytesLess s.toList u.toList && !(s.toList == u.toList))]) ∧ Below w.heap.size w w' := by
  obtain ⟨⟨c0, c1, c2⟩, fz, ⟨g0, g1, g2⟩, hbe⟩ := tri_ready (b0 := .bool (Op.bytesLess s.toList u.toList)) (b1 := .bool (s.toList == u.toList)) (b2 := .bool (!Op.bytesLess s.toList u.toList && !(s.toList == u.toList))) (heap_alloc_new w (.cells #[.bool false, .bool false, .bool false] 119)) ((Below.refl w.heap.size w).alloc (Nat.le_refl _) _) (Nat.le_refl _)
  obtain ⟨L, hL⟩ : ∃ b, Op.bytesLess s.toList u.toList = b := ⟨_, rfl⟩
  obtain ⟨E, hE⟩ : ∃ b, (s.toList == u.toList) = b := ⟨_, rfl⟩
  simp only [hL, hE] at g0 g1 g2 hbe ⊢
  have hbO : ∀ (a b c : Bool) W, (Instr.build 119 #[(0, .bool a), (1, .bool b), (2, .bool c)]).run Tryz.prog W = .ok (.agg #[.bool a, .bool b, .bool c]) W := fun a b c W => run_build W 119 _ _ (by kernel_rfl)
  go_enter Tryz.func80, Tryz.ntmps80
  go_wp2
  refine bodyPost_ret (by simp [results, Tryz.results80, go_sem, hL, hE, g0, g1, g2]; try rfl) rfl ?_
  refine ⟨?_, ?_⟩
  · first | rfl | trivial
  · exact (Below.refl _ _).alloc (Nat.le_refl _) _
set_option maxHeartbeats 1000000 in
set_option maxRecDepth 100000 in
theorem iOrderNum (x y : Nat) (w : World) (hx : x < 18446744073709551616) (hy : y < 18446744073709551616) :
    Calls Tryz.prog 78 #[.int .u64 (x : Int), .int .u64 (y : Int)] w fun e w' => e = .returned (.agg #[.bool (lessN x y), .bool (equalN x y), .bool (lessN y x)]) ∧ Below w.heap.size w w' := by
  have cL := fun W => iLess x y W hx hy
  have cG := fun W => iLess y x W hy hx
  have cE := fun W => iEqual x y W hx hy
  clear hx hy
  obtain ⟨L, hL⟩ : ∃ b, lessN x y = b := ⟨_, rfl⟩
  obtain ⟨E, hE⟩ : ∃ b, equalN x y = b := ⟨_, rfl⟩
  obtain ⟨K, hK⟩ : ∃ b, lessN y x = b := ⟨_, rfl⟩
  simp only [hL, hE, hK] at cL cG cE ⊢
  clear hL hE hK
  have h0 := heap_alloc_new w (.cells #[.bool false, .bool false, .bool false] 119)
  have b0 : Below w.heap.size w (w.alloc (.cells #[.bool false, .bool false, .bool false] 119)) := (Below.refl w.heap.size w).alloc (Nat.le_refl _) _
  have hl0 : w.heap.size < (w.alloc (.cells #[.bool false, .bool false, .bool false] 119)).heap.size := by simp
  have hbO : ∀ (a b c : Bool) W, (Instr.build 119 #[(0, .bool a), (1, .bool b), (2, .bool c)]).run Tryz.prog W = .ok (.agg #[.bool a, .bool b, .bool c]) W := fun a b c W => run_build W 119 _ _ (by kernel_rfl)
  go_enter Tryz.func78, Tryz.ntmps78
  go_wp2_with (first
    | (go_at_call 95; (with_reducible refine (cL _).mono ?_); rintro e w1 ⟨rfl, b1⟩)
    | (go_at_call 43; (with_reducible refine (cE _).mono ?_); rintro e w2 ⟨rfl, b2⟩)
    | (go_at_call 95; (with_reducible refine (cG _).mono ?_); rintro e w3 ⟨rfl, b3⟩; obtain ⟨⟨c0, c1, c2⟩, fz, ⟨g0, g1, g2⟩, hbe⟩ := tri_ready (w1 := w3) (G := w.heap.size) (b0 := .bool L) (b1 := .bool E) (b2 := .bool K) (((chain b1 (chain b2 b3)).block w.heap.size hl0).trans h0) (chain b0 (chain b1 (chain b2 b3))) (Nat.le_refl _)))
  refine bodyPost_ret (by simp [results, Tryz.results78, go_sem, g0, g1, g2]; try rfl) rfl ?_
  exact ⟨rfl, hbe⟩
def holdU (op : Int) (l s g : Bool) : Value :=
  if op = 6 then .tuple #[.iface 80 (.bool l), .nilIface]
  else if op = 7 then .tuple #[.iface 80 (.bool (l || s)), .nilIface]
  else if op = 8 then .tuple #[.iface 80 (.bool g), .nilIface]
  else if op = 9 then .tuple #[.iface 80 (.bool (g || s)), .nilIface]
  else .tuple #[.nilIface, .iface 85 (.agg #[.string typeS])]
set_option maxHeartbeats 1000000 in
set_option maxRecDepth 100000 in
theorem iHoldsFor (op : Int) (l s g : Bool) (w : World) :
    Calls Tryz.prog 79 #[.agg #[.bool l, .bool s, .bool g], .int .i64 op] w fun e w' => e = .returned (holdU op l s g) ∧ Below w.heap.size w w' := by
  have b0 : Below w.heap.size w (w.alloc (.cells #[.bool l, .bool s, .bool g] 119)) := (Below.refl w.heap.size w).alloc (Nat.le_refl _) _
  obtain ⟨c0, c1, c2⟩ := tri_cells (heap_alloc_new w (.cells #[.bool l, .bool s, .bool g] 119))
  have hbM : ∀ (t : ByteArray) W, (Instr.build 85 #[(0, .string t)]).run Tryz.prog W = .ok (.agg #[.string t]) W := fun t W => run_build W 85 _ _ (by kernel_rfl)
  unfold holdU
  by_cases h6 : op = 6
  · subst h6
    rw [if_pos rfl]
    go_enter Tryz.func79, Tryz.ntmps79
    go_wp2
    go_ret2
    exact ⟨rfl, b0⟩
  rw [if_neg h6]
  by_cases h7 : op = 7
  · subst h7
    rw [if_pos rfl]
    cases l
    all_goals
      go_enter Tryz.func79, Tryz.ntmps79
      go_wp2
      go_ret2
      exact ⟨rfl, b0⟩
  rw [if_neg h7]
  by_cases h8 : op = 8
  · subst h8
    rw [if_pos rfl]
    go_enter Tryz.func79, Tryz.ntmps79
    go_wp2
    go_ret2
    exact ⟨rfl, b0⟩
  rw [if_neg h8]
  by_cases h9 : op = 9
  · subst h9
    rw [if_pos rfl]
    cases g
    all_goals
      go_enter Tryz.func79, Tryz.ntmps79
      go_wp2
      go_ret2
      exact ⟨rfl, b0⟩
  rw [if_neg h9]
  have e6 : (op == 6) = false := by rw [beq_eq_false_iff_ne]; exact h6
  have e7 : (op == 7) = false := by rw [beq_eq_false_iff_ne]; exact h7
  have e8 : (op == 8) = false := by rw [beq_eq_false_iff_ne]; exact h8
  have e9 : (op == 9) = false := by rw [beq_eq_false_iff_ne]; exact h9
  go_enter Tryz.func79, Tryz.ntmps79
  go_wp2
  go_ret2
  exact ⟨rfl, b0⟩
def DoneIs (r : PVal × ByteArray) (u : Value) : Prop :=
  (∃ T v fv, Cont17 r.1 T v fv ∧ cvP r.1 = r.1 ∧ r.2 = ⟨#[]⟩ ∧ u = .tuple #[.iface T v, .nilIface]) ∨ (r.1 = noneV ∧ u = .tuple #[.nilIface, .iface 85 (.agg #[.string r.2])])
theorem done_truth (b : Bool) : DoneIs (boolV b, ⟨#[]⟩) (.tuple #[.iface 80 (.bool b), .nilIface]) :=
  .inl ⟨_, _, _, .inr (.inl ⟨rfl, rfl, rfl, rfl⟩), by cases b <;> rfl, rfl, by cases b <;> rfl⟩
theorem done_num (n : Nat) : DoneIs (numV n, ⟨#[]⟩) (.tuple #[.iface 64 (.int .u64 (n : Int)), .nilIface]) :=
  .inl ⟨_, _, _, .inr (.inr (.inl ⟨rfl, rfl, rfl, rfl⟩)), rfl, rfl, rfl⟩
theorem done_text (s : ByteArray) : DoneIs (textV s, ⟨#[]⟩) (.tuple #[.iface 81 (.string s), .nilIface]) :=
  .inl ⟨_, _, _, .inr (.inr (.inr (.inl ⟨rfl, rfl, rfl, rfl⟩))), rfl, rfl, rfl⟩
theorem done_no (s : ByteArray) : DoneIs (noneV, s) (.tuple #[.nilIface, .iface 85 (.agg #[.string s])]) := .inr ⟨rfl, rfl⟩
theorem in_69 {op : Int} : inB op 6 9 = true ↔ op = 6 ∨ op = 7 ∨ op = 8 ∨ op = 9 := by
  unfold inB
  simp only [Bool.and_eq_true, decide_eq_true_eq]
  omega
theorem hold_is (op : Int) (l s g n : Bool) (hg : g = (!n && (!l && !s))) (hn : n = true → l = false ∧ s = false) (hls : l = true → s = false) :
    DoneIs (if inB op 6 9 = true then (boolV (orderB op l s n), ⟨#[]⟩) else (noneV, typeS)) (holdU op l s g) := by
  unfold holdU
  by_cases h6 : op = 6
  · subst h6
    exact done_truth l
  rw [if_neg h6]
  by_cases h7 : op = 7
  · subst h7
    exact done_truth (l || s)
  rw [if_neg h7]
  by_cases h8 : op = 8
  · subst h8
    rw [hg]
    exact done_truth _
  rw [if_neg h8]
  by_cases h9 : op = 9
  · subst h9
    have e : (g || s) = (!n && !l) := by
      subst hg
      cases n with
      | true => obtain ⟨rfl, rfl⟩ := hn rfl; rfl
      | false =>
        cases l with
        | true => obtain rfl := hls rfl; rfl
        | false => cases s <;> rfl
    rw [e]
    exact done_truth _
  rw [if_neg h9, if_neg (fun h => by have := in_69.1 h; omega)]
  exact done_no typeS
end Go.Proofs.YtcdbifcidaafnaaGreatDoor
namespace Go.Proofs.YtcdbifcidaafnaaGreatDoor
open Go.RowKit Go.Sort
set_option linter.unusedVariables false
theorem stoodValue17 : Tryz.prog.stoodInHeld 26 = false := by kernel_rfl
end Go.Proofs.YtcdbifcidaafnaaGreatDoor
namespace Go.Proofs.YtcdbifcidaafnaaGreatDoor
open Go.RowKit Go.Sort
set_option linter.unusedVariables false
set_option linter.unusedSimpArgs false
theorem same17 (a b : PVal) : (isNum a && isNum b) = true ∧ valSame a b = equalN (numP a) (numP b) ∨ (isNum a && isNum b) = false ∧ valSame a b = eqP a b := by
  obtain ⟨ak, ax, sa, ra⟩ := a
  obtain ⟨bk, bx, sb, rb⟩ := b
  unfold isNum numP valSame eqP
  by_cases h1 : ak = 2
  · by_cases h2 : bk = 2
    · left
      simp [h1, h2]
    · right
      simp [h1, h2, Ne.symm h2]
  · right
    by_cases h3 : ak = bk
    · subst h3
      simp [h1]
    · simp [h1, h3]
set_option maxHeartbeats 1000000 in
set_option maxRecDepth 100000 in
theorem iSameValue_any (a b : PVal) (w : World) (ha : valW a) (hb : valW b) :
    Calls Tryz.prog 13 #[.agg #[.int .i64 a.kind, .int .u64 (a.num : Int), .string a.text, .int .i64 a.ref], .agg #[.int .i64 b.kind, .int .u64 (b.num : Int), .string b.text, .int .i64 b.ref]] w fun e w' => e = .returned (.bool (valSame a b)) ∧ Below w.heap.size w w' := by
  have cN := fun W => iNumbersIn a b W
  have hA : numP a < 18446744073709551616 := by
    have := ha.2.1
    unfold N64 at this
    unfold numP
    split <;> omega
  have hB : numP b < 18446744073709551616 := by
    have := hb.2.1
    unfold N64 at this
    unfold numP
    split <;> omega
  have cE := fun W => iEqual (numP a) (numP b) W hA hB
  have hE := fun W => eqFour a b W
  have hs := same17 a b
  clear hA hB ha hb
  obtain ⟨N, hN⟩ : ∃ N, (isNum a && isNum b) = N := ⟨_, rfl⟩
  obtain ⟨F, hF⟩ : ∃ F, valSame a b = F := ⟨_, rfl⟩
  obtain ⟨Q, hQ⟩ : ∃ F, equalN (numP a) (numP b) = F := ⟨_, rfl⟩
  obtain ⟨P, hP⟩ : ∃ F, eqP a b = F := ⟨_, rfl⟩
  obtain ⟨NA, hNA⟩ : ∃ A, numP a = A := ⟨_, rfl⟩
  obtain ⟨NB, hNB⟩ : ∃ B, numP b = B := ⟨_, rfl⟩
  simp only [hN, hF, hQ, hP] at hs
  simp only [hN, hNA, hNB] at cN
  simp only [hQ] at cE
  simp only [hNA, hNB] at cE
  simp only [hP] at hE
  rw [hF]
  clear hN hF hQ hP hNA hNB
  obtain ⟨ak, ax, sa, ra⟩ := a
  obtain ⟨bk, bx, sb, rb⟩ := b
  simp only at cN hE ⊢
  obtain ⟨t0, t1, tz, tb⟩ := two_made w (.cells #[.int .i64 ak, .int .u64 (ax : Int), .string sa, .int .i64 ra] 26) (.cells #[.int .i64 bk, .int .u64 (bx : Int), .string sb, .int .i64 rb] 26)
  obtain ⟨W2, hW2⟩ : ∃ W, ((w.alloc (.cells #[.int .i64 ak, .int .u64 (ax : Int), .string sa, .int .i64 ra] 26)).alloc (.cells #[.int .i64 bk, .int .u64 (bx : Int), .string sb, .int .i64 rb] 26)) = W := ⟨_, rfl⟩
  rw [hW2] at t0 t1 tz tb
  have HW : Hid (_ = W2) := hW2
  clear hW2
  obtain ⟨G, hG⟩ : ∃ G, w.heap.size = G := ⟨_, rfl⟩
  rw [hG] at t0 t1 tz
  have HK : Hid (∀ W, Below W2.heap.size W2 W → (W.cell? ⟨G, 0, none⟩ = some (.int .i64 ak) ∧ W.cell? ⟨G, 1, none⟩ = some (.int .u64 (ax : Int)) ∧ W.cell? ⟨G, 2, none⟩ = some (.string sa) ∧ W.cell? ⟨G, 3, none⟩ = some (.int .i64 ra)) ∧ (W.cell? ⟨G + 1, 0, none⟩ = some (.int .i64 bk) ∧ W.cell? ⟨G + 1, 1, none⟩ = some (.int .u64 (bx : Int)) ∧ W.cell? ⟨G + 1, 2, none⟩ = some (.string sb) ∧ W.cell? ⟨G + 1, 3, none⟩ = some (.int .i64 rb))) := fun W h =>
    ⟨four_cells ((h.block G (by omega)).trans t0), four_cells ((h.block (G + 1) (by omega)).trans t1)⟩
  have HTB : Hid (Below w.heap.size w W2) := tb
  have hst := stoodValue17
  clear t0 t1 tz tb
  go_enter Tryz.func13, Tryz.ntmps13
  go_upto_region 1 with fail
  rw [HW.out]
  clear HW
  try simp only [hG]
  obtain ⟨⟨a0, a1, a2, a3⟩, d0, d1, d2, d3⟩ := HK.out W2 (Below.refl _ _)
  go_wp2_with fail
  refine (cN _).mono ?_
  rintro e w1 ⟨rfl, b1⟩
  clear a0 a1 a2 a3 d0 d1 d2 d3 cN
  rcases hs with ⟨rfl, rfl⟩ | ⟨rfl, rfl⟩
  · clear hE HK
    go_wp2_with fail
    refine (cE _).mono ?_
    rintro e w2 ⟨rfl, b2⟩
    go_wp2
    go_ret
    exact ⟨rfl, chain HTB.out (chain b1 b2)⟩
  · obtain ⟨⟨a0, a1, a2, a3⟩, d0, d1, d2, d3⟩ := HK.out w1 b1
    clear HK cE
    have HB1 : Hid (Below w.heap.size w w1) := chain HTB.out b1
    clear b1
    go_wp2
    go_ret
    exact ⟨rfl, HB1.out⟩
end Go.Proofs.YtcdbifcidaafnaaGreatDoor
namespace Go.Proofs.YtcdbifcidaafnaaGreatDoor
open Go.RowKit
set_option linter.unusedVariables false
set_option maxHeartbeats 1000000 in
set_option maxRecDepth 100000 in
theorem bld_used (b : Nat) (w : World) (h0 : w.cell? ⟨b, 0, none⟩ = some (.pointer (some ⟨b, 0, none⟩))) :
    Calls Tryz.prog 106 #[.pointer (some ⟨b, 0, none⟩)] w fun e w' => e = .returned (.tuple #[]) ∧ w = w' := by
  obtain ⟨j, hj, _⟩ := Option.map_eq_some_iff.1 (Tryz.Builder_Extra_169).sizeBuilder
  go_enter Tryz.func106, Tryz.ntmps106
  go_wp2
  rw [Lib.run_neq_ptr_same w _ Tryz.underlying147 hj]
  go_wp2
  go_end0
  exact ⟨rfl, rfl⟩
set_option maxHeartbeats 1000000 in
set_option maxRecDepth 100000 in
theorem bld_fresh (b : Nat) (w : World) (h0 : w.cell? ⟨b, 0, none⟩ = some (.pointer none)) (hsh : w.shape? b = some (149, 2)) (hfz : w.frozen? ⟨b, 0, none⟩ = false) :
    Calls Tryz.prog 106 #[.pointer (some ⟨b, 0, none⟩)] w fun e w' => e = .returned (.tuple #[]) ∧ w' = w.setCell ⟨b, 0, none⟩ (.pointer (some ⟨b, 0, none⟩)) := by
  obtain ⟨j, hj, hjs⟩ := Option.map_eq_some_iff.1 (Tryz.Builder_Extra_169).sizeBuilder
  go_enter Tryz.func106, Tryz.ntmps106
  go_wp2
  rw [Lib.run_to_unsafe w ⟨b, 0, none⟩ Tryz.underlying147 Tryz.underlying106 hj (by rw [hjs]; decide) hsh (Nat.zero_lt_succ 1)]
  simp only [Result.andThen]
  rw [Oper.upon_value]
  go_wp2
  rw [run_callFunc_extern Tryz.func112 (by kernel_rfl) (by kernel_rfl) (by kernel_rfl) (e := Extern.AbiNoEscape.same) (by kernel_rfl)]
  rw [Lib.run_noEscape]
  simp only [Result.andThen]
  rw [Oper.upon_value]
  go_wp2
  rw [Lib.run_from_unsafe w ⟨b, 0, none⟩ Tryz.underlying106 Tryz.underlying147 hj hsh (Tryz.Builder_Extra_169).liesBuilder]
  simp only [Result.andThen]
  rw [Oper.upon_value]
  go_wp2
  go_end0
  exact ⟨rfl, rfl⟩
def Bld (B b : Nat) (s : ByteArray) (w : World) : Prop := Lib.IsBuilder 149 5 B b (Lib.strCells s) w
theorem bld_check (B b : Nat) (s : ByteArray) (w : World) (h : Bld B b s w) :
    Calls Tryz.prog 106 #[.pointer (some ⟨b, 0, none⟩)] w fun e w' => e = .returned (.tuple #[]) ∧ (Lib.BuilderAt 149 5 B b (.pointer (some ⟨b, 0, none⟩)) (Lib.strCells s) w' ∧ Below B w w') := by
  rcases h with h | h
  · refine (bld_fresh b w h.cell0 h.shape h.frozen0).mono ?_
    rintro e w' ⟨rfl, rfl⟩
    exact ⟨rfl, h.used _, (Below.refl B w).setCell (p := ⟨b, 0, none⟩) h.1 _⟩
  · refine (bld_used b w h.cell0).mono ?_
    rintro e w' ⟨rfl, rfl⟩
    exact ⟨rfl, h, Below.refl B _⟩
theorem strCells_append (s t : ByteArray) : Lib.strCells s ++ Lib.strCells t = Lib.strCells (s ++ t) := by
  unfold Lib.strCells
  rw [← List.map_append]
  congr 1
set_option maxHeartbeats 2000000 in
set_option maxRecDepth 100000 in
theorem bld_write (B b : Nat) (s t : ByteArray) (w : World) (h : Bld B b s w) (hlen : s.size + t.size ≤ 140737488355328) (hBw : B ≤ w.heap.size) :
    Calls Tryz.prog 97 #[.pointer (some ⟨b, 0, none⟩), .string t] w fun e w' => e = .returned (.tuple #[.int .i64 t.size, .nilIface]) ∧ (Bld B b (s ++ t) w' ∧ Below B w w') := by
  obtain ⟨i0, hi, hz0, hz1, hz2⟩ := info_parts Tryz.infoByte
  go_enter Tryz.func97, Tryz.ntmps97
  go_wp2_with (go_at_call 106; refine (bld_check B b s _ h).mono ?_)
  rintro e w1 ⟨rfl, h1, hb1⟩
  obtain ⟨hB, v, hbk, hown, hne⟩ := h1
  have c0 : w1.cell? ⟨b, 0, none⟩ = some (.pointer (some ⟨b, 0, none⟩)) := by rw [Lib.cell_of_heap hbk]; rfl
  have c1 : w1.cell? ⟨b, 1, none⟩ = some v := by rw [Lib.cell_of_heap hbk]; rfl
  rw [Lib.strCells_length] at hown
  go_wp2_with (at_builtin; refine Lib.wpList_append_own_string _ rfl _ _ 22 9 rfl B 5 i0 Tryz.underlying22 Tryz.underlying9 hi hz0 hz1 hz2 _ _ _ rfl hown t rfl ?c3 ?c4 ?c5 ?_)
  case c3 => unfold maxLen; omega
  case c4 => omega
  case c5 => have := hb1.size; omega
  intro v' w2 hown' hgrow _
  have hlt : b < w1.heap.size := by
    rcases Nat.lt_or_ge b w1.heap.size with h' | h'
    · exact h'
    · simp [Array.getElem?_eq_none h'] at hbk
  have hb2 : w2.heap[b]? = some (.cells #[.pointer (some ⟨b, 0, none⟩), v] 149 (0, 0)) := by
    rw [hgrow.block b hlt (fun e => hne e.symm)]
    exact hbk
  have d0 : w2.cell? ⟨b, 0, none⟩ = some (.pointer (some ⟨b, 0, none⟩)) := by rw [Lib.cell_of_heap hb2]; rfl
  have d1 : w2.cell? ⟨b, 1, none⟩ = some v := by rw [Lib.cell_of_heap hb2]; rfl
  have f1 : w2.frozen? ⟨b, 1, none⟩ = false := Lib.frozen_of_heap hb2 1
  obtain ⟨ao, n', cap, rfl⟩ : ∃ ao n' cap, v' = .slice ao n' cap := by
    rcases hown'.2 with ⟨hv, _⟩ | ⟨g, cap, cur, hv, _⟩
    · exact ⟨_, _, _, hv⟩
    · exact ⟨_, _, _, hv⟩
  rw [strCells_append] at hown'
  go_wp2
  go_ret2
  refine ⟨rfl, ?_, ?_⟩
  · exact .inr (Lib.BuilderAt.put (T := 149) (e := 5) hB hb2 (bs' := Lib.strCells (s ++ t)) (by rw [Lib.strCells_length, ByteArray.size_append]; exact hown') (by decide))
  · exact (hb1.grown hgrow (by have := hb1.size; omega) (fun k hk => (hown.lt k hk).1)).setCell (p := ⟨b, 1, none⟩) hB _
theorem bld_string (B b : Nat) (s : ByteArray) (w : World) (h : Bld B b s w) (hBw : B ≤ w.heap.size) :
    Calls Tryz.prog 98 #[.pointer (some ⟨b, 0, none⟩)] w fun e w' => e = .returned (.string s) ∧ Below B w w' := by
  refine (Tryz.Builder_String_any B b s.data.toList w h hBw).mono ?_
  rintro e w' ⟨rfl, hb⟩
  exact ⟨rfl, hb⟩
end Go.Proofs.YtcdbifcidaafnaaGreatDoor
namespace Go.Proofs.YtcdbifcidaafnaaGreatDoor
open Go.RowKit
set_option linter.unusedVariables false
theorem bytes_nil (s : ByteArray) : s ++ (⟨#[]⟩ : ByteArray) = s := by
  apply ByteArray.ext
  simp
theorem nil_bytes (s : ByteArray) : (⟨#[]⟩ : ByteArray) ++ s = s := by
  apply ByteArray.ext
  simp
set_option maxHeartbeats 2000000 in
set_option maxRecDepth 100000 in
theorem iJoin2 (b : Nat) (s u : ByteArray) (w : World) (h0 : w.cell? ⟨b, 0, none⟩ = some (.string s)) (h1 : w.cell? ⟨b, 1, none⟩ = some (.string u)) (hl : s.size + u.size ≤ 200) :
    Calls Tryz.prog 81 #[.slice (some ⟨b, 0, none⟩) 2 2, .string ⟨#[]⟩] w fun e w' => e = .returned (.string (s ++ u)) ∧ Below w.heap.size w w' := by
  have hbl : b < w.heap.size := World.block_lt_of_cell? w _ h0
  have HC : Hid (∀ W, Below w.heap.size w W → W.cell? ⟨b, 0, none⟩ = some (.string s) ∧ W.cell? ⟨b, 1, none⟩ = some (.string u)) := fun W hW => ⟨(hW.cell hbl).trans h0, (hW.cell hbl).trans h1⟩
  have hG : Hid (∀ k : Nat, k ≤ 200 → Calls Tryz.prog 96 #[.pointer (some ⟨w.heap.size, 0, none⟩), .int .i64 k] (w.alloc (.cells #[.pointer none, .slice none 0 0] 149)) fun e w' => e = .returned (.tuple #[]) ∧ Hid (Bld w.heap.size w.heap.size ⟨#[]⟩ w') ∧ Hid (Below w.heap.size w w')) := fun k hk => (Tryz.Builder_Grow_fresh w.heap.size w.heap.size k _ (Nat.le_refl _) (heap_alloc_new w _) (by simp) (by omega)).mono (fun e w' hh => ⟨hh.1, .inr hh.2.1, ((Below.refl _ _).alloc (Nat.le_refl _) _).trans hh.2.2⟩)
  have cW := fun (x y : ByteArray) (W : World) (hx : Bld w.heap.size w.heap.size x W) (hxy : x.size + y.size ≤ 1000) (hW : Below w.heap.size w W) => (bld_write w.heap.size w.heap.size x y W hx (by omega) hW.size).mono (fun e w' (hh : e = .returned (.tuple #[.int .i64 y.size, .nilIface]) ∧ (Bld w.heap.size w.heap.size (x ++ y) w' ∧ Below w.heap.size W w')) => show e = .returned (.tuple #[.int .i64 y.size, .nilIface]) ∧ Hid (Bld w.heap.size w.heap.size (x ++ y) w') ∧ Hid (Below w.heap.size w w') from ⟨hh.1, hh.2.1, hW.trans hh.2.2⟩)
  have cS := fun (x : ByteArray) (W : World) (hx : Bld w.heap.size w.heap.size x W) (hW : Below w.heap.size w W) => bld_string w.heap.size w.heap.size x W hx hW.size
  have e2 : IntKind.i64.wrap ((9223372036854775807 : Int) - (s.size : Int)) = 9223372036854775807 - (s.size : Int) := by rw [IntKind.wrap_i64]; omega
  have e3 : IntKind.i64.wrap ((s.size : Int) + (u.size : Int)) = (s.size : Int) + (u.size : Int) := by rw [IntKind.wrap_i64]; omega
  have g1 : ¬ (9223372036854775807 : Int) < (s.size : Int) := by omega
  have g2 : ¬ (9223372036854775807 - (s.size : Int)) < (u.size : Int) := by omega
  have hG2 := hG.out (s.size + u.size) hl
  rw [show ((s.size + u.size : Nat) : Int) = (s.size : Int) + (u.size : Int) by omega] at hG2
  clear h0 h1 hG
  obtain ⟨k0, k1⟩ := HC.out w (Below.refl _ _)
  go_enter Tryz.func81, Tryz.ntmps81
  go_wp2
  go_loop [5, 7, 41] (fun y z i => (y = .int .i64 0 ∧ i = .int .i64 0) ∨ (y = .int .i64 s.size ∧ i = .int .i64 1) ∨ (y = .int .i64 ((s.size : Int) + (u.size : Int)) ∧ i = .int .i64 2)) (fun _ _ i => 2 - (intOf i).toNat)
  case atStart => exact .inl ⟨rfl, rfl⟩
  case round =>
    obtain ⟨rfl, rfl⟩ | ⟨rfl, rfl⟩ | ⟨rfl, rfl⟩ := hrel
    · go_wp2
      go_round
      case rel => exact .inr (.inl ⟨rfl, rfl⟩)
      case measure => decide
    · go_wp2
      go_round
      case rel => exact .inr (.inr ⟨rfl, rfl⟩)
      case measure => decide
    · clear g1 g2 e2 e3
      go_upto_region 20 with (go_at_call 96; (with_reducible refine hG2.mono ?_); rintro e w1 ⟨rfl, HB1, HW1⟩)
      obtain ⟨q0, q1⟩ := HC.out w1 HW1.out
      have cW1 := cW ⟨#[]⟩ s w1 HB1.out (by show 0 + s.size ≤ 1000; omega) HW1.out
      rw [nil_bytes] at cW1
      clear k0 k1 HB1 HW1 hG2
      go_upto_region 21 with (go_at_call 97; (with_reducible refine cW1.mono ?_); rintro e w2 ⟨rfl, HB2, HW2⟩)
      clear cW1 q0 q1
      go_wp2
      go_loopw [10, 65] (fun z i wr => (i = .int .i64 0 ∧ Hid (Bld w.heap.size w.heap.size s wr) ∧ Hid (Below w.heap.size w wr)) ∨ (i = .int .i64 1 ∧ Hid (Bld w.heap.size w.heap.size (s ++ u) wr) ∧ Hid (Below w.heap.size w wr))) (fun _ i _ => 1 - (intOf i).toNat)
      case atStart => exact .inl ⟨rfl, HB2, HW2⟩
      case round =>
        clear HB2 HW2
        obtain ⟨rfl, HB2, HW2⟩ | ⟨rfl, HB2, HW2⟩ := hrel
        · obtain ⟨q0, q1⟩ := HC.out wr HW2.out
          have cW1 := cW s ⟨#[]⟩ wr HB2.out (by show s.size + 0 ≤ 1000; omega) HW2.out
          rw [bytes_nil] at cW1
          go_upto_region 25 with (go_at_call 97; (with_reducible refine cW1.mono ?_); rintro e w3 ⟨rfl, HB3, HW3⟩)
          have cW3 := cW s u w3 HB3.out (by omega) HW3.out
          clear cW1 HB2 HW2 q0 q1
          go_wp2_with (go_at_call 97; (with_reducible refine cW3.mono ?_); rintro e w4 ⟨rfl, HB4, HW4⟩)
          clear cW3 HB3 HW3
          go_roundw
          case rel => exact .inr ⟨rfl, HB4, HW4⟩
          case measure => decide
        · have cS1 := cS (s ++ u) wr HB2.out HW2.out
          go_wp2_with (go_at_call 98; (with_reducible refine cS1.mono ?_); rintro e w5 ⟨rfl, b5⟩)
          go_ret
          exact ⟨rfl, HW2.out.trans b5⟩
end Go.Proofs.YtcdbifcidaafnaaGreatDoor
