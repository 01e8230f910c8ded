/-
  Part 12 of what is proved of drawn right trees.
-/
import Derived.Test.YtcdbifcidaafnaaGreatDoorPag
import Derived.Test.YtcdbifcidaafnaaGreatDoorPak
import Derived.Test.YtcdbifcidaafnaaGreatDoorPaa
import Derived.Test.YtcdbifcidaafnaaGreatDoorPaj

namespace Go.Proofs.YtcdbifcidaafnaaGreatDoor
open Go.RowKit Go.Sort
set_option linter.unusedVariables false
def bin17V (op : Int) (a b : PVal) : PVal × ByteArray :=
  if op = 10 then (boolV (valSame a b), ⟨#[]⟩)
  else if op = 11 then (boolV (!valSame a b), ⟨#[]⟩)
  else if a.kind = 3 ∧ b.kind = 3 then
    if inB op 6 9 = true then (boolV (orderB op (Op.bytesLess a.text.toList b.text.toList) (a.text.toList == b.text.toList) false), ⟨#[]⟩)
    else if op = 1 then (if 200 < a.text.size + b.text.size then (noneV, longS) else (textV (a.text ++ b.text), ⟨#[]⟩))
    else (noneV, typeS)
  else if a.kind = 2 ∧ b.kind = 2 then
    if inB op 6 9 = true then (boolV (orderB op (lessN a.num b.num) (equalN a.num b.num) (decide (kindN a.num = 1) || decide (kindN b.num = 1))), ⟨#[]⟩)
    else if op = 1 then (numV (addN a.num b.num), ⟨#[]⟩)
    else if op = 2 then (numV (subN a.num b.num), ⟨#[]⟩)
    else if op = 3 then (numV (mulN a.num b.num), ⟨#[]⟩)
    else if op = 4 then (numV (divN a.num b.num), ⟨#[]⟩)
    else if op = 5 then (numV (remN a.num b.num), ⟨#[]⟩)
    else (noneV, typeS)
  else (noneV, typeS)
def pairV (x : PVal × ByteArray) : Value := .tuple #[.agg #[.int .i64 x.1.kind, .int .u64 (x.1.num : Int), .string x.1.text, .int .i64 x.1.ref], .string x.2]
end Go.Proofs.YtcdbifcidaafnaaGreatDoor
namespace Go.Proofs.YtcdbifcidaafnaaGreatDoor
open Go.RowKit
set_option linter.unusedVariables false
set_option maxHeartbeats 400000 in
set_option maxRecDepth 100000 in
theorem iTruthy (x : Nat) (w : World) (hx : x < 18446744073709551616) :
    Calls Tryz.prog 135 #[.int .u64 x] w fun e w' => e = .returned (.bool (truthyN x)) ∧ Below w.heap.size w w' := by
  have cK := fun W => iKind x W
  have HK := kindN_cases x
  obtain ⟨k, hk⟩ : ∃ k, kindN x = k := ⟨_, rfl⟩
  have HT : Hid (Unit → truthyN x = decide (k ≠ 1 ∧ k ≠ 3)) := fun _ => by unfold truthyN; rw [hk]
  rw [hk] at HK cK
  clear hk hx
  rcases HK with rfl | rfl | rfl | rfl
  all_goals
    go_enter Tryz.func135, Tryz.ntmps135
    go_wp2_with (go_at_call 82; refine (cK _).mono ?_; rintro e w' ⟨rfl, rfl⟩)
    go_ret
    exact ⟨by rw [HT.out ()]; rfl, Below.refl _ _⟩
set_option maxHeartbeats 400000 in
set_option maxRecDepth 100000 in
theorem iRank (x : Nat) (w : World) (hx : x < 18446744073709551616) :
    Calls Tryz.prog 62 #[.int .u64 x] w fun e w' => e = .returned (.int .i64 (keyN x)) ∧ w = w' := by
  have cB := fun W => iBelow x W
  have cS := fun W => iSize x W
  by_cases h : (9223372036854775808 : Int) ≤ x
  · rw [decide_eq_true (by omega : 9223372036854775808 ≤ x)] at cB
    obtain ⟨s, hs⟩ : ∃ s : Int, (x : Int) % 9223372036854775808 = s := ⟨_, rfl⟩
    rw [hs] at cS
    have HY : Hid (Unit → keyN x = -s) := fun _ => by unfold keyN; rw [if_pos (by omega)]; omega
    have s1 : 0 ≤ s := by omega
    have s2 : s < 9223372036854775808 := by omega
    clear hs h hx
    go_enter Tryz.func62, Tryz.ntmps62
    go_wp2_with (first | (go_at_call 83; refine (cB _).mono ?_; rintro e w' ⟨rfl, rfl⟩) | (go_at_call 84; refine (cS _).mono ?_; rintro e w' ⟨rfl, rfl⟩))
    go_ret
    exact ⟨by rw [HY.out ()]; rfl, rfl⟩
  · rw [decide_eq_false (by omega : ¬9223372036854775808 ≤ x)] at cB
    have HY : Hid (Unit → keyN x = x) := fun _ => by unfold keyN; rw [if_neg (by omega)]
    have h' : (x : Int) < 9223372036854775808 := by omega
    clear h hx
    go_enter Tryz.func62, Tryz.ntmps62
    go_wp2_with (go_at_call 83; refine (cB _).mono ?_; rintro e w' ⟨rfl, rfl⟩)
    go_ret
    exact ⟨by rw [HY.out ()]; rfl, rfl⟩
set_option maxHeartbeats 400000 in
set_option maxRecDepth 100000 in
theorem iCompares (a b : Nat) (w : World) :
    Calls Tryz.prog 61 #[.int .u64 a, .int .u64 b] w fun e w' => e = .returned (.bool (decide (kindN a ≠ 1 ∧ kindN b ≠ 1))) ∧ w = w' := by
  have cA := fun W => iKind a W
  have cB := fun W => iKind b W
  obtain ⟨p, hp⟩ : ∃ p, kindN a = p := ⟨_, rfl⟩
  obtain ⟨q, hq⟩ : ∃ q, kindN b = q := ⟨_, rfl⟩
  rw [hp] at cA
  rw [hq] at cB
  rw [hp, hq]
  clear hp hq
  by_cases h1 : p = 1
  · subst h1
    go_enter Tryz.func61, Tryz.ntmps61
    go_wp2_with (go_at_call 82; refine (cA _).mono ?_; rintro e w' ⟨rfl, rfl⟩)
    go_ret
    exact ⟨by simp, rfl⟩
  · have d1 : ((p : Int) != 1) = true := by simp; omega
    by_cases h2 : q = 1
    · subst h2
      go_enter Tryz.func61, Tryz.ntmps61
      go_wp2_with fail
      refine (cA _).mono ?_
      rintro e w' ⟨rfl, rfl⟩
      go_wp2_with fail
      refine (cB _).mono ?_
      rintro e w' ⟨rfl, rfl⟩
      go_wp2
      go_ret
      exact ⟨by simp, rfl⟩
    · have d2 : ((q : Int) != 1) = true := by simp; omega
      have HY : Hid (Unit → decide (p ≠ 1 ∧ q ≠ 1) = true) := fun _ => by simp [h1, h2]
      go_enter Tryz.func61, Tryz.ntmps61
      go_wp2_with fail
      refine (cA _).mono ?_
      rintro e w' ⟨rfl, rfl⟩
      go_wp2_with fail
      refine (cB _).mono ?_
      rintro e w' ⟨rfl, rfl⟩
      go_wp2
      go_ret
      exact ⟨by rw [HY.out ()]; rfl, rfl⟩
set_option maxHeartbeats 1000000 in
set_option maxRecDepth 100000 in
theorem iEqual (a b : Nat) (w : World) (ha : a < 18446744073709551616) (hb : b < 18446744073709551616) :
    Calls Tryz.prog 43 #[.int .u64 a, .int .u64 b] w fun e w' => e = .returned (.bool (equalN a b)) ∧ Below w.heap.size w w' := by
  have cC := fun W => iCompares a b W
  have cA := fun W => iRank a W ha
  have cB := fun W => iRank b W hb
  clear ha hb
  have HE : Hid (Unit → equalN a b = (decide (kindN a ≠ 1 ∧ kindN b ≠ 1) && (keyN a == keyN b))) := fun _ => by
    rw [equalN, Bool.eq_iff_iff]
    simp [and_assoc]
  rw [HE.out ()]
  clear HE
  obtain ⟨c, hc⟩ : ∃ c, decide (kindN a ≠ 1 ∧ kindN b ≠ 1) = c := ⟨_, rfl⟩
  obtain ⟨p, hp⟩ : ∃ p, keyN a = p := ⟨_, rfl⟩
  obtain ⟨q, hq⟩ : ∃ q, keyN b = q := ⟨_, rfl⟩
  rw [hc] at cC ⊢
  rw [hp] at cA ⊢
  rw [hq] at cB ⊢
  clear hc hp hq
  cases c
  · go_enter Tryz.func43, Tryz.ntmps43
    go_wp2_with (go_at_call 61; refine (cC _).mono ?_; rintro e w' ⟨rfl, rfl⟩)
    go_ret
    exact ⟨rfl, Below.refl _ _⟩
  · go_enter Tryz.func43, Tryz.ntmps43
    go_wp2_with fail
    refine (cC _).mono ?_
    rintro e w' ⟨rfl, rfl⟩
    go_wp2_with fail
    refine (cA _).mono ?_
    rintro e w' ⟨rfl, rfl⟩
    go_wp2_with fail
    refine (cB _).mono ?_
    rintro e w' ⟨rfl, rfl⟩
    go_wp2
    go_ret
    exact ⟨rfl, Below.refl _ _⟩
set_option maxHeartbeats 1000000 in
set_option maxRecDepth 100000 in
theorem iLess (a b : Nat) (w : World) (ha : a < 18446744073709551616) (hb : b < 18446744073709551616) :
    Calls Tryz.prog 95 #[.int .u64 a, .int .u64 b] w fun e w' => e = .returned (.bool (lessN a b)) ∧ Below w.heap.size w w' := by
  have cC := fun W => iCompares a b W
  have cA := fun W => iRank a W ha
  have cB := fun W => iRank b W hb
  clear ha hb
  have HE : Hid (Unit → lessN a b = (decide (kindN a ≠ 1 ∧ kindN b ≠ 1) && decide (keyN a < keyN b))) := fun _ => by
    rw [lessN, Bool.eq_iff_iff]
    simp [and_assoc]
  rw [HE.out ()]
  clear HE
  obtain ⟨c, hc⟩ : ∃ c, decide (kindN a ≠ 1 ∧ kindN b ≠ 1) = c := ⟨_, rfl⟩
  obtain ⟨p, hp⟩ : ∃ p, keyN a = p := ⟨_, rfl⟩
  obtain ⟨q, hq⟩ : ∃ q, keyN b = q := ⟨_, rfl⟩
  rw [hc] at cC ⊢
  rw [hp] at cA ⊢
  rw [hq] at cB ⊢
  clear hc hp hq
  cases c
  · go_enter Tryz.func95, Tryz.ntmps95
    go_wp2_with (go_at_call 61; refine (cC _).mono ?_; rintro e w' ⟨rfl, rfl⟩)
    go_ret
    exact ⟨rfl, Below.refl _ _⟩
  · go_enter Tryz.func95, Tryz.ntmps95
    go_wp2_with fail
    refine (cC _).mono ?_
    rintro e w' ⟨rfl, rfl⟩
    go_wp2_with fail
    refine (cA _).mono ?_
    rintro e w' ⟨rfl, rfl⟩
    go_wp2_with fail
    refine (cB _).mono ?_
    rintro e w' ⟨rfl, rfl⟩
    go_wp2
    go_ret
    exact ⟨rfl, Below.refl _ _⟩
end Go.Proofs.YtcdbifcidaafnaaGreatDoor
namespace Go.Proofs.YtcdbifcidaafnaaGreatDoor
open Go.RowKit Go.Sort
set_option linter.unusedVariables false
set_option linter.unusedSimpArgs false
theorem tri_cells {w : World} {g : Nat} {a0 a1 a2 : Value} {t : TypeId} {r : Nat × Nat} (h : w.heap[g]? = some (.cells #[a0, a1, a2] t r)) :
    w.cell? ⟨g, 0, none⟩ = some a0 ∧ w.cell? ⟨g, 1, none⟩ = some a1 ∧ w.cell? ⟨g, 2, none⟩ = some a2 := by
  refine ⟨?_, ?_, ?_⟩ <;> (rw [cell_of_row _ _ _ _ _ _ h]; rfl)
theorem tri_put {w : World} {g : Nat} {a0 a1 a2 b0 b1 b2 : Value} {t : TypeId} (h : w.heap[g]? = some (.cells #[a0, a1, a2] t)) :
    (((w.setCell ⟨g, 0, none⟩ b0).setCell ⟨g, 1, none⟩ b1).setCell ⟨g, 2, none⟩ b2).heap[g]? = some (.cells #[b0, b1, b2] t) := by
  have k0 : (w.setCell ⟨g, 0, none⟩ b0).heap[g]? = some (.cells #[b0, a1, a2] t) := heap_setCell_same _ _ _ _ _ _ h
  have k1 := heap_setCell_same _ _ 1 _ _ b1 k0
  exact heap_setCell_same _ _ 2 _ _ b2 k1
theorem tri_ready {w w1 : World} {G B : Nat} {a0 a1 a2 b0 b1 b2 : Value} {t : TypeId} (u : w1.heap[G]? = some (.cells #[a0, a1, a2] t)) (hb : Below B w w1) (hG : B ≤ G) :
    (w1.cell? ⟨G, 0, none⟩ = some a0 ∧ w1.cell? ⟨G, 1, none⟩ = some a1 ∧ w1.cell? ⟨G, 2, none⟩ = some a2) ∧ (∀ j, w1.frozen? ⟨G, j, none⟩ = false) ∧
    ((((w1.setCell ⟨G, 0, none⟩ b0).setCell ⟨G, 1, none⟩ b1).setCell ⟨G, 2, none⟩ b2).cell? ⟨G, 0, none⟩ = some b0 ∧ (((w1.setCell ⟨G, 0, none⟩ b0).setCell ⟨G, 1, none⟩ b1).setCell ⟨G, 2, none⟩ b2).cell? ⟨G, 1, none⟩ = some b1 ∧ (((w1.setCell ⟨G, 0, none⟩ b0).setCell ⟨G, 1, none⟩ b1).setCell ⟨G, 2, none⟩ b2).cell? ⟨G, 2, none⟩ = some b2) ∧
    Below B w (((w1.setCell ⟨G, 0, none⟩ b0).setCell ⟨G, 1, none⟩ b1).setCell ⟨G, 2, none⟩ b2) :=
  ⟨tri_cells u, fun j => frozen_of_row w1 G j _ _ u, tri_cells (tri_put u), ((hb.setCell (p := ⟨G, 0, none⟩) hG b0).setCell (p := ⟨G, 1, none⟩) hG b1).setCell (p := ⟨G, 2, none⟩) hG b2⟩
set_option maxHeartbeats 1000000 in
set_option maxRecDepth 100000 in
theorem iOrderText (s u : ByteArray) (w : World) :
    Calls Tryz.prog 80 #[.string s, .string u] w fun e w' => e = .returned (.agg #[.bool (Op.bytesLess s.toList u.toList), .bool (s.toList == u.toList), .bool (!Op.bytesLess s.toList u.toList && !(s.toList == u.toList))]) ∧ Below w.heap.size w w' := by
  obtain ⟨⟨c0, c1, c2⟩, fz, ⟨g0, g1, g2⟩, hbe⟩ := tri_ready (b0 := .bool (Op.bytesLess s.toList u.toList)) (b1 := .bool (s.toList == u.toList)) (b2 := .bool (!Op.bytesLess s.toList u.toList && !(s.toList == u.toList))) (heap_alloc_new w (.cells #[.bool false, .bool false, .bool false] 119)) ((Below.refl w.heap.size w).alloc (Nat.le_refl _) _) (Nat.le_refl _)
  obtain ⟨L, hL⟩ : ∃ b, Op.bytesLess s.toList u.toList = b := ⟨_, rfl⟩
  obtain ⟨E, hE⟩ : ∃ b, (s.toList == u.toList) = b := ⟨_, rfl⟩
  simp only [hL, hE] at g0 g1 g2 hbe ⊢
  have hbO : ∀ (a b c : Bool) W, (Instr.build 119 #[(0, .bool a), (1, .bool b), (2, .bool c)]).run Tryz.prog W = .ok (.agg #[.bool a, .bool b, .bool c]) W := fun a b c W => run_build W 119 _ _ (by kernel_rfl)
  go_enter Tryz.func80, Tryz.ntmps80
  go_wp2
  refine bodyPost_ret (by simp [results, Tryz.results80, go_sem, hL, hE, g0, g1, g2]; try rfl) rfl ?_
  refine ⟨?_, ?_⟩
  · first | rfl | trivial
  · exact (Below.refl _ _).alloc (Nat.le_refl _) _
set_option maxHeartbeats 1000000 in
set_option maxRecDepth 100000 in
theorem iOrderNum (x y : Nat) (w : World) (hx : x < 18446744073709551616) (hy : y < 18446744073709551616) :
    Calls Tryz.prog 78 #[.int .u64 (x : Int), .int .u64 (y : Int)] w fun e w' => e = .returned (.agg #[.bool (lessN x y), .bool (equalN x y), .bool (lessN y x)]) ∧ Below w.heap.size w w' := by
  have cL := fun W => iLess x y W hx hy
  have cG := fun W => iLess y x W hy hx
  have cE := fun W => iEqual x y W hx hy
  clear hx hy
  obtain ⟨L, hL⟩ : ∃ b, lessN x y = b := ⟨_, rfl⟩
  obtain ⟨E, hE⟩ : ∃ b, equalN x y = b := ⟨_, rfl⟩
  obtain ⟨K, hK⟩ : ∃ b, lessN y x = b := ⟨_, rfl⟩
  simp only [hL, hE, hK] at cL cG cE ⊢
  clear hL hE hK
  have h0 := heap_alloc_new w (.cells #[.bool false, .bool false, .bool false] 119)
  have b0 : Below w.heap.size w (w.alloc (.cells #[.bool false, .bool false, .bool false] 119)) := (Below.refl w.heap.size w).alloc (Nat.le_refl _) _
  have hl0 : w.heap.size < (w.alloc (.cells #[.bool false, .bool false, .bool false] 119)).heap.size := by simp
  have hbO : ∀ (a b c : Bool) W, (Instr.build 119 #[(0, .bool a), (1, .bool b), (2, .bool c)]).run Tryz.prog W = .ok (.agg #[.bool a, .bool b, .bool c]) W := fun a b c W => run_build W 119 _ _ (by kernel_rfl)
  go_enter Tryz.func78, Tryz.ntmps78
  go_wp2_with (first
    | (go_at_call 95; (with_reducible refine (cL _).mono ?_); rintro e w1 ⟨rfl, b1⟩)
    | (go_at_call 43; (with_reducible refine (cE _).mono ?_); rintro e w2 ⟨rfl, b2⟩)
    | (go_at_call 95; (with_reducible refine (cG _).mono ?_); rintro e w3 ⟨rfl, b3⟩; obtain ⟨⟨c0, c1, c2⟩, fz, ⟨g0, g1, g2⟩, hbe⟩ := tri_ready (w1 := w3) (G := w.heap.size) (b0 := .bool L) (b1 := .bool E) (b2 := .bool K) (((chain b1 (chain b2 b3)).block w.heap.size hl0).trans h0) (chain b0 (chain b1 (chain b2 b3))) (Nat.le_refl _)))
  refine bodyPost_ret (by simp [results, Tryz.results78, go_sem, g0, g1, g2]; try rfl) rfl ?_
  exact ⟨rfl, hbe⟩
def holdU (op : Int) (l s g : Bool) : Value :=
  if op = 6 then .tuple #[.iface 80 (.bool l), .nilIface]
  else if op = 7 then .tuple #[.iface 80 (.bool (l || s)), .nilIface]
  else if op = 8 then .tuple #[.iface 80 (.bool g), .nilIface]
  else if op = 9 then .tuple #[.iface 80 (.bool (g || s)), .nilIface]
  else .tuple #[.nilIface, .iface 85 (.agg #[.string typeS])]
set_option maxHeartbeats 1000000 in
set_option maxRecDepth 100000 in
theorem iHoldsFor (op : Int) (l s g : Bool) (w : World) :
    Calls Tryz.prog 79 #[.agg #[.bool l, .bool s, .bool g], .int .i64 op] w fun e w' => e = .returned (holdU op l s g) ∧ Below w.heap.size w w' := by
  have b0 : Below w.heap.size w (w.alloc (.cells #[.bool l, .bool s, .bool g] 119)) := (Below.refl w.heap.size w).alloc (Nat.le_refl _) _
  obtain ⟨c0, c1, c2⟩ := tri_cells (heap_alloc_new w (.cells #[.bool l, .bool s, .bool g] 119))
  have hbM : ∀ (t : ByteArray) W, (Instr.build 85 #[(0, .string t)]).run Tryz.prog W = .ok (.agg #[.string t]) W := fun t W => run_build W 85 _ _ (by kernel_rfl)
  unfold holdU
  by_cases h6 : op = 6
  · subst h6
    rw [if_pos rfl]
    go_enter Tryz.func79, Tryz.ntmps79
    go_wp2
    go_ret2
    exact ⟨rfl, b0⟩
  rw [if_neg h6]
  by_cases h7 : op = 7
  · subst h7
    rw [if_pos rfl]
    cases l
    all_goals
      go_enter Tryz.func79, Tryz.ntmps79
      go_wp2
      go_ret2
      exact ⟨rfl, b0⟩
  rw [if_neg h7]
  by_cases h8 : op = 8
  · subst h8
    rw [if_pos rfl]
    go_enter Tryz.func79, Tryz.ntmps79
    go_wp2
    go_ret2
    exact ⟨rfl, b0⟩
  rw [if_neg h8]
  by_cases h9 : op = 9
  · subst h9
    rw [if_pos rfl]
    cases g
    all_goals
      go_enter Tryz.func79, Tryz.ntmps79
      go_wp2
      go_ret2
      exact ⟨rfl, b0⟩
  rw [if_neg h9]
  have e6 : (op == 6) = false := by rw [beq_eq_false_iff_ne]; exact h6
  have e7 : (op == 7) = false := by rw [beq_eq_false_iff_ne]; exact h7
  have e8 : (op == 8) = false := by rw [beq_eq_false_iff_ne]; exact h8
  have e9 : (op == 9) = false := by rw [beq_eq_false_iff_ne]; exact h9
  go_enter Tryz.func79, Tryz.ntmps79
  go_wp2
  go_ret2
  exact ⟨rfl, b0⟩
def DoneIs (r : PVal × ByteArray) (u : Value) : Prop :=
  (∃ T v fv, Cont17 r.1 T v fv ∧ cvP r.1 = r.1 ∧ r.2 = ⟨#[]⟩ ∧ u = .tuple #[.iface T v, .nilIface]) ∨ (r.1 = noneV ∧ u = .tuple #[.nilIface, .iface 85 (.agg #[.string r.2])])
theorem done_truth (b : Bool) : DoneIs (boolV b, ⟨#[]⟩) (.tuple #[.iface 80 (.bool b), .nilIface]) :=
  .inl ⟨_, _, _, .inr (.inl ⟨rfl, rfl, rfl, rfl⟩), by cases b <;> rfl, rfl, by cases b <;> rfl⟩
theorem done_num (n : Nat) : DoneIs (numV n, ⟨#[]⟩) (.tuple #[.iface 64 (.int .u64 (n : Int)), .nilIface]) :=
  .inl ⟨_, _, _, .inr (.inr (.inl ⟨rfl, rfl, rfl, rfl⟩)), rfl, rfl, rfl⟩
theorem done_text (s : ByteArray) : DoneIs (textV s, ⟨#[]⟩) (.tuple #[.iface 81 (.string s), .nilIface]) :=
  .inl ⟨_, _, _, .inr (.inr (.inr (.inl ⟨rfl, rfl, rfl, rfl⟩))), rfl, rfl, rfl⟩
theorem done_no (s : ByteArray) : DoneIs (noneV, s) (.tuple #[.nilIface, .iface 85 (.agg #[.string s])]) := .inr ⟨rfl, rfl⟩
theorem in_69 {op : Int} : inB op 6 9 = true ↔ op = 6 ∨ op = 7 ∨ op = 8 ∨ op = 9 := by
  unfold inB
  simp only [Bool.and_eq_true, decide_eq_true_eq]
  omega
theorem hold_is (op : Int) (l s g n : Bool) (hg : g = (!n && (!l && !s))) (hn : n = true → l = false ∧ s = false) (hls : l = true → s = false) :
    DoneIs (if inB op 6 9 = true then (boolV (orderB op l s n), ⟨#[]⟩) else (noneV, typeS)) (holdU op l s g) := by
  unfold holdU
  by_cases h6 : op = 6
  · subst h6
    exact done_truth l
  rw [if_neg h6]
  by_cases h7 : op = 7
  · subst h7
    exact done_truth (l || s)
  rw [if_neg h7]
  by_cases h8 : op = 8
  · subst h8
    rw [hg]
    exact done_truth _
  rw [if_neg h8]
  by_cases h9 : op = 9
  · subst h9
    have e : (g || s) = (!n && !l) := by
      subst hg
      cases n with
      | true => obtain ⟨rfl, rfl⟩ := hn rfl; rfl
      | false =>
        cases l with
        | true => obtain rfl := hls rfl; rfl
        | false => cases s <;> rfl
    rw [e]
    exact done_truth _
  rw [if_neg h9, if_neg (fun h => by have := in_69.1 h; omega)]
  exact done_no typeS
end Go.Proofs.YtcdbifcidaafnaaGreatDoor
