/-
  Part 11 of what is proved of drawn right trees.
-/
import Derived.Test.YtedhfdgcofboeaaPaj
import Derived.Test.YtedhfdgcofboeaaPac
import Derived.Deep.RegionHeld3
import Derived.Deep.QuietTactic
import Derived.BigQuiet
import Derived.Laws.BitsAllLaws

namespace Go.Proofs.Ytedhfdgcofboeaa
open Go.RowKit Go.Sort
set_option linter.unusedVariables false
def atU (s : ByteArray) (r : RS) : Nat := if r.bad then s.size else r.pos
def UAt (w : World) (C : Nat) (s : ByteArray) (r : RS) : Prop := w.heap[C]? = some (.cells #[.string s, .int .i64 (atU s r : Nat), .bool r.bad] 52 (0, 0))
theorem UAt.lt {w : World} {C : Nat} {s : ByteArray} {r : RS} (h : UAt w C s r) : C < w.heap.size := by
  rcases Nat.lt_or_ge C w.heap.size with x | x
  · exact x
  · unfold UAt at h
    rw [Array.getElem?_eq_none x] at h
    cases h
theorem UAt.c0 {w : World} {C : Nat} {s : ByteArray} {r : RS} (h : UAt w C s r) : w.cell? ⟨C, 0, none⟩ = some (.string s) := by rw [cell_of_row _ _ 0 _ _ _ h]; rfl
theorem UAt.c1 {w : World} {C : Nat} {s : ByteArray} {r : RS} (h : UAt w C s r) : w.cell? ⟨C, 1, none⟩ = some (.int .i64 (atU s r : Nat)) := by rw [cell_of_row _ _ 1 _ _ _ h]; rfl
theorem UAt.c2 {w : World} {C : Nat} {s : ByteArray} {r : RS} (h : UAt w C s r) : w.cell? ⟨C, 2, none⟩ = some (.bool r.bad) := by rw [cell_of_row _ _ 2 _ _ _ h]; rfl
theorem UAt.free {w : World} {C : Nat} {s : ByteArray} {r : RS} (h : UAt w C s r) (j : Nat) : w.frozen? ⟨C, j, none⟩ = false := frozen_of_row _ _ _ _ _ h
theorem UAt.below {w w' : World} {C : Nat} {s : ByteArray} {r : RS} (h : UAt w C s r) (hb : Below w.heap.size w w') : UAt w' C s r := (hb.block C h.lt).trans h
theorem UAt.spoilt {w : World} {C : Nat} {s : ByteArray} {r : RS} (h : UAt w C s r) : UAt ((w.setCell ⟨C, 1, none⟩ (.int .i64 s.size)).setCell ⟨C, 2, none⟩ (.bool true)) C s ⟨r.pos, true⟩ :=
  heap_setCell_same _ _ _ _ _ _ (heap_setCell_same _ _ _ _ _ _ h)
theorem UAt.gone {w : World} {C : Nat} {s : ByteArray} {p : Nat} (h : UAt w C s ⟨p, false⟩) (j : Nat) : UAt (w.setCell ⟨C, 1, none⟩ (.int .i64 j)) C s ⟨j, false⟩ :=
  heap_setCell_same _ _ _ _ _ _ h
set_option maxHeartbeats 1000000 in
set_option maxRecDepth 100000 in
theorem iSpoil (s : ByteArray) (r : RS) (C : Nat) (w : World) (hC : UAt w C s r) (hs : s.size ≤ 1048576) :
    Calls Try.prog 74 #[.pointer (some ⟨C, 0, none⟩)] w fun e w' => e = .returned (.tuple #[]) ∧ UAt w' C s ⟨r.pos, true⟩ ∧ w.grownBy w' (some C) := by
  have c0 := hC.c0
  have c1 := hC.c1
  have c2 := hC.c2
  have f1 := hC.free 1
  have f2 := hC.free 2
  have HC2 : Hid (UAt _ C s ⟨r.pos, true⟩) := hC.spoilt
  have HG2 : Hid (w.grownBy _ (some C)) := grown_set (o := 2) (v := .bool true) (grown_set (o := 1) (v := .int .i64 s.size) (grown_lo (C := some C) (Below.refl w.heap.size w)))
  have hz := hC.lt
  clear hC
  go_enter Try.func74, Try.ntmps74
  go_wp2
  go_returns
  exact ⟨rfl, HC2.out, HG2.out⟩
set_option maxHeartbeats 1000000 in
set_option maxRecDepth 100000 in
theorem iGoOn_no (s : ByteArray) (r : RS) (C : Nat) (x : Int) (w : World) (hC : UAt w C s r) (hs : s.size ≤ 1048576) :
    Calls Try.prog 76 #[.pointer (some ⟨C, 0, none⟩), .int .i64 x, .bool false] w fun e w' => e = .returned (.tuple #[]) ∧ UAt w' C s ⟨r.pos, true⟩ ∧ w.grownBy w' (some C) := by
  have cS := fun W h => iSpoil s r C W h hs
  have c0 := cS w hC
  clear cS hC
  go_enter Try.func76, Try.ntmps76
  go_wp2_with (go_at_call 74; (with_reducible refine c0.mono ?_); rintro e w1 ⟨rfl, h1, h2⟩)
  go_returns
  exact ⟨rfl, h1, h2⟩
set_option maxHeartbeats 1000000 in
set_option maxRecDepth 100000 in
theorem iGoOn_yes (s : ByteArray) (p j C : Nat) (w : World) (hC : UAt w C s ⟨p, false⟩) (hs : s.size ≤ 1048576) :
    Calls Try.prog 76 #[.pointer (some ⟨C, 0, none⟩), .int .i64 (j : Int), .bool true] w fun e w' => e = .returned (.tuple #[]) ∧ UAt w' C s ⟨j, false⟩ ∧ w.grownBy w' (some C) := by
  have c1 := hC.c1
  have f1 := hC.free 1
  have HC2 : Hid (UAt _ C s ⟨j, false⟩) := hC.gone j
  have HG2 : Hid (w.grownBy _ (some C)) := grown_set (o := 1) (v := .int .i64 (j : Int)) (grown_lo (C := some C) (Below.refl w.heap.size w))
  have hz := hC.lt
  clear hC
  go_enter Try.func76, Try.ntmps76
  go_wp2
  go_returns
  exact ⟨rfl, HC2.out, HG2.out⟩
theorem atU_le {s : ByteArray} {r : RS} (h : r.pos ≤ s.size) : atU s r ≤ s.size := by unfold atU; split <;> omega
theorem rVar_at {s : ByteArray} {r : RS} : (rdV s (atU s r) 5 (atU s r) 0 1 = none ∧ rVar s r = (0, ⟨r.pos, true⟩)) ∨ ∃ n j, r.bad = false ∧ rdV s (atU s r) 5 (atU s r) 0 1 = some (n, j) ∧ rVar s r = (n, ⟨j, false⟩) := by
  obtain ⟨p, b⟩ := r
  cases b with
  | true => exact .inl ⟨rdV_end (by show ¬ s.size < s.size; omega), rfl⟩
  | false =>
    have e : atU s ⟨p, false⟩ = p := rfl
    rw [e]
    cases h : rdV s p 5 p 0 1 with
    | none => exact .inl ⟨rfl, rVar_none h⟩
    | some x =>
      obtain ⟨n, j⟩ := x
      exact .inr ⟨n, j, rfl, rfl, rVar_some h⟩
set_option maxHeartbeats 1000000 in
set_option maxRecDepth 100000 in
theorem iReadNumber (s : ByteArray) (r : RS) (C : Nat) (w : World) (hC : UAt w C s r) (hs : s.size ≤ 1048576) (hp : r.pos ≤ s.size) :
    Calls Try.prog 46 #[.pointer (some ⟨C, 0, none⟩)] w fun e w' => e = .returned (.int .i64 (rVar s r).1) ∧ UAt w' C s (rVar s r).2 ∧ w.grownBy w' (some C) := by
  have hA0 := atU_le hp
  have HCB : Hid (∀ W, Below w.heap.size w W → UAt W C s r) := fun W hW => hC.below hW
  have cR := fun W => implReadVar_in s (atU s r) W hs (atU_le hp)
  have hk : ∀ W, Below w.heap.size w W → W.cell? ⟨C, 0, none⟩ = some (.string s) ∧ W.cell? ⟨C, 1, none⟩ = some (.int .i64 (atU s r : Nat)) := fun W hW => ⟨(hC.below hW).c0, (hC.below hW).c1⟩
  have HN : Hid (∀ W (n : Int), UAt W C s r → Calls Try.prog 76 #[.pointer (some ⟨C, 0, none⟩), .int .i64 n, .bool false] W fun e w' => e = .returned (.tuple #[]) ∧ UAt w' C s ⟨r.pos, true⟩ ∧ W.grownBy w' (some C)) := fun W n h => iGoOn_no s r C n W h hs
  have HY : Hid (∀ W (j : Nat), r.bad = false → UAt W C s r → Calls Try.prog 76 #[.pointer (some ⟨C, 0, none⟩), .int .i64 (j : Int), .bool true] W fun e w' => e = .returned (.tuple #[]) ∧ UAt w' C s ⟨j, false⟩ ∧ W.grownBy w' (some C)) := fun W j hb h => by
    obtain ⟨p, b⟩ := r
    simp only at hb
    subst hb
    exact iGoOn_yes s p j C W h hs
  have HV := @rVar_at s r
  obtain ⟨A, hA⟩ : ∃ A, atU s r = A := ⟨_, rfl⟩
  simp only [hA] at cR hk HV hA0
  have HK : Hid (∀ W, Below w.heap.size w W → W.cell? ⟨C, 0, none⟩ = some (.string s) ∧ W.cell? ⟨C, 1, none⟩ = some (.int .i64 (A : Nat))) := hk
  clear hA hC hk
  have hq : A ≤ 1048576 := by omega
  clear hp hA0
  rcases HV with ⟨h1, h2⟩ | ⟨n, j, h0, h1, h2⟩
  · rw [h2]
    simp only [h1, rdOut] at cR
    have HX : Hid (∀ W, UAt W C s r → Calls Try.prog 76 #[.pointer (some ⟨C, 0, none⟩), .int .i64 0, .bool false] W fun e w' => e = .returned (.tuple #[]) ∧ UAt w' C s ⟨r.pos, true⟩ ∧ W.grownBy w' (some C)) := fun W h => HN.out W 0 h
    clear HN HY h1 h2
    go_enter Try.func46, Try.ntmps46
    go_upto_region 1 with fail
    go_region_held3 (fun W => W.cell? ⟨C, 0, none⟩ = some (.string s) ∧ W.cell? ⟨C, 1, none⟩ = some (.int .i64 (A : Nat))) (first | exact HK.out _ (Below.refl _ _).drew | exact HK.out _ HM.out | go_keep) (first
      | (go_at_call 77; (with_reducible refine (cR _).mono ?_); rintro e w1 ⟨rfl, rfl⟩; have HM : Hid (Below w.heap.size w _) := (Below.refl _ _).drew))
    all_goals
      have cN := HX.out _ (HCB.out _ HM.out)
      have hg := grown_lo (C := some C) HM.out
      go_wp2_with (go_at_call 76; (with_reducible refine cN.mono ?_); rintro e w2 ⟨rfl, k1, k2⟩)
      go_ret
      exact ⟨rfl, k1, hg.trans k2⟩
  · rw [h2]
    simp only [h1, rdOut] at cR
    have HX : Hid (∀ W, UAt W C s r → Calls Try.prog 76 #[.pointer (some ⟨C, 0, none⟩), .int .i64 (j : Int), .bool true] W fun e w' => e = .returned (.tuple #[]) ∧ UAt w' C s ⟨j, false⟩ ∧ W.grownBy w' (some C)) := fun W h => HY.out W j h0 h
    clear HN HY h1 h2 h0
    go_enter Try.func46, Try.ntmps46
    go_upto_region 1 with fail
    go_region_held3 (fun W => W.cell? ⟨C, 0, none⟩ = some (.string s) ∧ W.cell? ⟨C, 1, none⟩ = some (.int .i64 (A : Nat))) (first | exact HK.out _ (Below.refl _ _).drew | exact HK.out _ HM.out | go_keep) (first
      | (go_at_call 77; (with_reducible refine (cR _).mono ?_); rintro e w1 ⟨rfl, rfl⟩; have HM : Hid (Below w.heap.size w _) := (Below.refl _ _).drew))
    all_goals
      have cN := HX.out _ (HCB.out _ HM.out)
      have hg := grown_lo (C := some C) HM.out
      go_wp2_with (go_at_call 76; (with_reducible refine cN.mono ?_); rintro e w2 ⟨rfl, k1, k2⟩)
      go_ret
      exact ⟨rfl, k1, hg.trans k2⟩
theorem rShort_at {s : ByteArray} {r : RS} : (rsOut s (rdV s (atU s r) 5 (atU s r) 0 1) = .tuple #[.string ⟨#[]⟩, .int .i64 0, .bool false] ∧ jShort s r = (⟨#[]⟩, ⟨r.pos, true⟩)) ∨ ∃ n j, r.bad = false ∧ rsOut s (rdV s (atU s r) 5 (atU s r) 0 1) = .tuple #[.string n, .int .i64 (j : Nat), .bool true] ∧ jShort s r = (n, ⟨j, false⟩) := by
  obtain ⟨p, b⟩ := r
  cases b with
  | true =>
    refine .inl ⟨?_, rfl⟩
    rw [rdV_end (by show ¬ s.size < s.size; omega)]
    rfl
  | false =>
    have e : atU s ⟨p, false⟩ = p := rfl
    rw [e]
    unfold jShort jShortO
    simp only [Bool.false_eq_true, if_false]
    cases h : rdV s p 5 p 0 1 with
    | none => exact .inl ⟨rfl, rfl⟩
    | some x =>
      obtain ⟨n, j⟩ := x
      simp only [rsOut]
      by_cases hx : n ≤ 12000 ∧ j + n ≤ s.size
      · rw [if_pos hx, if_pos hx]
        exact .inr ⟨_, _, trivial, rfl, rfl⟩
      · rw [if_neg hx, if_neg hx]
        exact .inl ⟨rfl, rfl⟩
set_option maxHeartbeats 1000000 in
set_option maxRecDepth 100000 in
theorem iReadText (s : ByteArray) (r : RS) (C : Nat) (w : World) (hC : UAt w C s r) (hs : s.size ≤ 1048576) (hp : r.pos ≤ s.size) :
    Calls Try.prog 45 #[.pointer (some ⟨C, 0, none⟩)] w fun e w' => e = .returned (.string (jShort s r).1) ∧ UAt w' C s (jShort s r).2 ∧ w.grownBy w' (some C) := by
  have hA0 := atU_le hp
  have HCB : Hid (∀ W, Below w.heap.size w W → UAt W C s r) := fun W hW => hC.below hW
  have cR := fun W => implReadShort_in s (atU s r) W hs (atU_le hp)
  have hk : ∀ W, Below w.heap.size w W → W.cell? ⟨C, 0, none⟩ = some (.string s) ∧ W.cell? ⟨C, 1, none⟩ = some (.int .i64 (atU s r : Nat)) := fun W hW => ⟨(hC.below hW).c0, (hC.below hW).c1⟩
  have HN : Hid (∀ W (n : Int), UAt W C s r → Calls Try.prog 76 #[.pointer (some ⟨C, 0, none⟩), .int .i64 n, .bool false] W fun e w' => e = .returned (.tuple #[]) ∧ UAt w' C s ⟨r.pos, true⟩ ∧ W.grownBy w' (some C)) := fun W n h => iGoOn_no s r C n W h hs
  have HY : Hid (∀ W (j : Nat), r.bad = false → UAt W C s r → Calls Try.prog 76 #[.pointer (some ⟨C, 0, none⟩), .int .i64 (j : Int), .bool true] W fun e w' => e = .returned (.tuple #[]) ∧ UAt w' C s ⟨j, false⟩ ∧ W.grownBy w' (some C)) := fun W j hb h => by
    obtain ⟨p, b⟩ := r
    simp only at hb
    subst hb
    exact iGoOn_yes s p j C W h hs
  have HV := @rShort_at s r
  obtain ⟨A, hA⟩ : ∃ A, atU s r = A := ⟨_, rfl⟩
  simp only [hA] at cR hk HV hA0
  have HK : Hid (∀ W, Below w.heap.size w W → W.cell? ⟨C, 0, none⟩ = some (.string s) ∧ W.cell? ⟨C, 1, none⟩ = some (.int .i64 (A : Nat))) := hk
  clear hA hC hk
  have hq : A ≤ 1048576 := by omega
  clear hp hA0
  rcases HV with ⟨h1, h2⟩ | ⟨n, j, h0, h1, h2⟩
  · rw [h2]
    simp only [h1] at cR
    have HX : Hid (∀ W, UAt W C s r → Calls Try.prog 76 #[.pointer (some ⟨C, 0, none⟩), .int .i64 0, .bool false] W fun e w' => e = .returned (.tuple #[]) ∧ UAt w' C s ⟨r.pos, true⟩ ∧ W.grownBy w' (some C)) := fun W h => HN.out W 0 h
    clear HN HY h1 h2
    go_enter Try.func45, Try.ntmps45
    go_upto_region 1 with fail
    go_region_held3 (fun W => W.cell? ⟨C, 0, none⟩ = some (.string s) ∧ W.cell? ⟨C, 1, none⟩ = some (.int .i64 (A : Nat))) (first | exact HK.out _ (Below.refl _ _).drew | exact HK.out _ HM.out | go_keep) (first
      | (go_at_call 75; (with_reducible refine (cR _).mono ?_); rintro e w1 ⟨rfl, h1⟩; have HM : Hid (Below w.heap.size w w1) := chain (Below.refl _ _).drew h1))
    all_goals
      have cN := HX.out _ (HCB.out _ HM.out)
      have hg := grown_lo (C := some C) HM.out
      go_wp2_with (go_at_call 76; (with_reducible refine cN.mono ?_); rintro e w2 ⟨rfl, k1, k2⟩)
      go_ret
      exact ⟨rfl, k1, hg.trans k2⟩
  · rw [h2]
    simp only [h1] at cR
    have HX : Hid (∀ W, UAt W C s r → Calls Try.prog 76 #[.pointer (some ⟨C, 0, none⟩), .int .i64 (j : Int), .bool true] W fun e w' => e = .returned (.tuple #[]) ∧ UAt w' C s ⟨j, false⟩ ∧ W.grownBy w' (some C)) := fun W h => HY.out W j h0 h
    clear HN HY h1 h2 h0
    go_enter Try.func45, Try.ntmps45
    go_upto_region 1 with fail
    go_region_held3 (fun W => W.cell? ⟨C, 0, none⟩ = some (.string s) ∧ W.cell? ⟨C, 1, none⟩ = some (.int .i64 (A : Nat))) (first | exact HK.out _ (Below.refl _ _).drew | exact HK.out _ HM.out | go_keep) (first
      | (go_at_call 75; (with_reducible refine (cR _).mono ?_); rintro e w1 ⟨rfl, h1⟩; have HM : Hid (Below w.heap.size w w1) := chain (Below.refl _ _).drew h1))
    all_goals
      have cN := HX.out _ (HCB.out _ HM.out)
      have hg := grown_lo (C := some C) HM.out
      go_wp2_with (go_at_call 76; (with_reducible refine cN.mono ?_); rintro e w2 ⟨rfl, k1, k2⟩)
      go_ret
      exact ⟨rfl, k1, hg.trans k2⟩
end Go.Proofs.Ytedhfdgcofboeaa
namespace Go.Proofs.Ytedhfdgcofboeaa
open Go.RowKit Go.Sort
set_option linter.unusedVariables false
theorem rByte_end {s : ByteArray} {r : RS} (h : s.size ≤ atU s r) (hp : r.pos ≤ s.size) : rByte s r = (0, ⟨r.pos, true⟩) := by
  unfold rByte
  rw [if_pos]
  unfold rTakeB
  unfold atU at h
  cases hb : r.bad with
  | true => rfl
  | false =>
    rw [hb] at h
    simp at h ⊢
    omega
theorem rByte_in {s : ByteArray} {r : RS} (h : atU s r < s.size) : r.bad = false ∧ r.pos = atU s r ∧ rByte s r = ((((s[atU s r]'h).toNat : Nat) : Int), (⟨atU s r + 1, false⟩ : RS)) := by
  obtain ⟨p, b⟩ := r
  cases b with
  | true => unfold atU at h; simp at h
  | false =>
    have e : atU s ⟨p, false⟩ = p := rfl
    refine ⟨rfl, rfl, ?_⟩
    simp only [e] at h ⊢
    unfold rByte
    rw [if_neg (by unfold rTakeB; simp; omega)]
    simp only
    have : s.data.toList.getD p 0 = s[p] := by
      rw [List.getD_eq_getElem?_getD, List.getElem?_eq_getElem (by simpa using h)]
      rfl
    rw [this]
set_option maxHeartbeats 1000000 in
set_option maxRecDepth 100000 in
theorem iReadByte (s : ByteArray) (r : RS) (C : Nat) (w : World) (hC : UAt w C s r) (hs : s.size ≤ 1048576) (hp : r.pos ≤ s.size) :
    Calls Try.prog 43 #[.pointer (some ⟨C, 0, none⟩)] w fun e w' => e = .returned (.int .i64 (rByte s r).1) ∧ UAt w' C s (rByte s r).2 ∧ w.grownBy w' (some C) := by
  have HCB : Hid (∀ W, Below w.heap.size w W → UAt W C s r) := fun W hW => hC.below hW
  have hz := hC.lt
  have c0 := hC.c0
  have c1 := hC.c1
  have hA1 := atU_le hp
  by_cases he : s.size ≤ atU s r
  · have e : atU s r = s.size := by omega
    have HV : Hid (rByte s r = (0, ⟨r.pos, true⟩)) := rByte_end he hp
    have HS : Hid (∀ W, UAt W C s r → Calls Try.prog 74 #[.pointer (some ⟨C, 0, none⟩)] W fun e w' => e = .returned (.tuple #[]) ∧ UAt w' C s ⟨r.pos, true⟩ ∧ W.grownBy w' (some C)) := fun W h => iSpoil s r C W h hs
    rw [e] at c1
    clear hC hp he e hA1
    go_enter Try.func43, Try.ntmps43
    go_upto_region 1 with fail
    go_quiet (fail)
    have hb : Below w.heap.size w (w.drewN nq) := below_drewN (Below.refl _ _) nq
    have cS := HS.out _ (HCB.out _ hb)
    have hg := grown_lo (C := some C) hb
    go_wp2_with (go_at_call 74; (with_reducible refine cS.mono ?_); rintro e w2 ⟨rfl, k1, k2⟩)
    go_ret
    rw [HV.out]
    exact ⟨rfl, k1, hg.trans k2⟩
  · have hlt : atU s r < s.size := by omega
    obtain ⟨e1, e2, HV0⟩ := rByte_in hlt
    obtain ⟨A, hA⟩ : ∃ A, atU s r = A := ⟨_, rfl⟩
    simp only [hA] at HV0 c1 hlt
    have HV : Hid (rByte s r = ((((s[A]'hlt).toNat : Nat) : Int), (⟨A + 1, false⟩ : RS))) := HV0
    have HG : Hid (∀ W, UAt W C s r → UAt (W.setCell ⟨C, 1, none⟩ (.int .i64 ((A + 1 : Nat) : Int))) C s ⟨A + 1, false⟩) := fun W h => by
      obtain ⟨p, b⟩ := r
      simp only at e1
      subst e1
      exact h.gone (A + 1)
    have hne : ((A : Int) == (s.size : Int)) = false := by simp; omega
    have hli : (A : Int) < (s.size : Int) := by omega
    have hq : A ≤ 1048576 := by omega
    have h0 : (0 : Int) ≤ (A : Int) := by omega
    have HC1 : Hid (∀ W, Below w.heap.size w W → W.cell? ⟨C, 0, none⟩ = some (.string s) ∧ W.cell? ⟨C, 1, none⟩ = some (.int .i64 (A : Nat)) ∧ W.frozen? ⟨C, 1, none⟩ = false) := fun W hW => ⟨(hC.below hW).c0, by rw [← hA]; exact (hC.below hW).c1, (hC.below hW).free 1⟩
    clear hC hp he hA1 hA e1 e2 HV0
    go_enter Try.func43, Try.ntmps43
    go_upto_region 1 with fail
    go_quiet (fail)
    have hb : Below w.heap.size w (w.drewN nq) := below_drewN (Below.refl _ _) nq
    obtain ⟨d0, d1, d2⟩ := HC1.out _ hb
    obtain ⟨W1, hW1⟩ : ∃ W, w.drewN nq = W := ⟨_, rfl⟩
    simp only [hW1] at hb d0 d1 d2 ⊢
    clear hW1 nq c0 c1
    go_upto_region 4 with fail
    go_quiet (fail)
    have hb2 : Below w.heap.size w (W1.drewN nq) := below_drewN hb nq
    obtain ⟨W2, hW2⟩ : ∃ W, W1.drewN nq = W := ⟨_, rfl⟩
    simp only [hW2] at hb2 ⊢
    clear hW2 nq d0 d1 d2 hb
    obtain ⟨d0, d1, d2⟩ := HC1.out _ hb2
    have hu := HG.out _ (HCB.out _ hb2)
    have hg : Hid (w.grownBy _ (some C)) := grown_set (o := 1) (v := .int .i64 ((A + 1 : Nat) : Int)) (grown_lo (C := some C) hb2)
    have HU : Hid (UAt _ C s ⟨A + 1, false⟩) := hu
    have h256 : ((s[A]).toNat : Int) < 256 := by have := (s[A]).toNat_lt; omega
    obtain ⟨y, hy⟩ : ∃ y, (s[A]).toNat = y := ⟨_, rfl⟩
    have HY : Hid ((s[A]).toNat = y) := hy
    simp only [hy] at h256 ⊢
    clear hy hu hb2
    go_wp2
    go_ret
    rw [HV.out, HY.out]
    exact ⟨rfl, HU.out, hg.out⟩
end Go.Proofs.Ytedhfdgcofboeaa
namespace Go.Proofs.Ytedhfdgcofboeaa
open Go.RowKit Go.Sort
set_option linter.unusedVariables false
theorem jNum_split (s : ByteArray) : ∀ (k j x : Nat) (r : RS), jNum s (k + j) x r = jNum s j (jNum s k x r).1 (jNum s k x r).2
  | 0, j, x, r => by rw [Nat.zero_add]; rfl
  | k + 1, j, x, r => by
    rw [show k + 1 + j = (k + j) + 1 by omega, jNum, jNum, jNum_split s k j]
theorem jNum_next (s : ByteArray) (k x : Nat) (r : RS) : jNum s (k + 1) x r = (((jNum s k x r).1 * 256 + (rByte s (jNum s k x r).2).1.toNat) % 18446744073709551616, (rByte s (jNum s k x r).2).2) := by
  rw [jNum_split s k 1 x r]
  rfl
theorem jNum_lt (s : ByteArray) (k x : Nat) (r : RS) (hx : x < 18446744073709551616) : (jNum s k x r).1 < 18446744073709551616 := by
  cases k with
  | zero => exact hx
  | succ k => rw [jNum_next]; exact Nat.mod_lt _ (by decide)
theorem shl_or {X y : Nat} (hX : X < 18446744073709551616) (hy : y < 256) : bits .or .u64 (IntKind.u64.wrap ((X : Int) * 256)) (y : Int) = (((X * 256 + y) % 18446744073709551616 : Nat) : Int) := by
  have e : IntKind.u64.wrap ((X : Int) * 256) = ((X * 256 % 18446744073709551616 : Nat) : Int) := by
    show (X : Int) * 256 % 18446744073709551616 = _
    omega
  rw [e, u64_or_nat _ _ (Nat.mod_lt _ (by decide)) (by omega)]
  have h1 : X * 256 % 18446744073709551616 = X % 72057594037927936 * 2 ^ 8 := by omega
  have h2 : X % 72057594037927936 * 2 ^ 8 ||| y = X % 72057594037927936 * 2 ^ 8 + y := by
    rw [Nat.mul_comm]
    exact (Nat.two_pow_add_eq_or_of_lt (by omega) _).symm
  rw [h1, h2]
  omega
theorem rByte_byte (s : ByteArray) (r : RS) (hp : r.pos ≤ s.size) : ∃ y : Nat, (rByte s r).1 = (y : Int) ∧ y < 256 := by
  have h := rByte_pos s r hp
  exact ⟨(rByte s r).1.toNat, by omega, by omega⟩
set_option maxHeartbeats 1000000 in
set_option maxRecDepth 100000 in
theorem iReadNum (s : ByteArray) (r : RS) (C : Nat) (w : World) (hC : UAt w C s r) (hs : s.size ≤ 1048576) (hp : r.pos ≤ s.size) :
    Calls Try.prog 44 #[.pointer (some ⟨C, 0, none⟩)] w fun e w' => e = .returned (.int .u64 (jNum s 8 0 r).1) ∧ UAt w' C s (jNum s 8 0 r).2 ∧ w.grownBy w' (some C) := by
  have HS : Hid (∀ k W, UAt W C s (jNum s k 0 r).2 → Calls Try.prog 43 #[.pointer (some ⟨C, 0, none⟩)] W fun e w' => e = .returned (.int .i64 (rByte s (jNum s k 0 r).2).1) ∧ UAt w' C s (jNum s (k + 1) 0 r).2 ∧ W.grownBy w' (some C)) := fun k W h => by
    rw [jNum_next]
    exact iReadByte s _ C W h hs (jNum_pos s k 0 r hp)
  have HB : Hid (∀ k, ∃ y : Nat, (rByte s (jNum s k 0 r).2).1 = (y : Int) ∧ y < 256 ∧ (jNum s (k + 1) 0 r).1 = ((jNum s k 0 r).1 * 256 + y) % 18446744073709551616) := fun k => by
    obtain ⟨y, h1, h2⟩ := rByte_byte s (jNum s k 0 r).2 (jNum_pos s k 0 r hp)
    exact ⟨y, h1, h2, by rw [jNum_next, h1]; rfl⟩
  have HX : Hid (∀ k, (jNum s k 0 r).1 < 18446744073709551616) := fun k => jNum_lt s k 0 r (by decide)
  have H0 : Hid (UAt w C s (jNum s 0 0 r).2) := hC
  clear hC hp
  go_enter Try.func44, Try.ntmps44
  go_wp2
  go_loopw [3, 4] (fun x i wr => ∃ k : Nat, k ≤ 8 ∧ x = .int .u64 (jNum s k 0 r).1 ∧ i = .int .i64 k ∧ Hid (UAt wr C s (jNum s k 0 r).2) ∧ w.grownBy wr (some C)) (fun _ i _ => 8 - (intOf i).toNat)
  case atStart => exact ⟨0, by omega, rfl, rfl, H0, grown_lo (Below.refl _ _)⟩
  case round =>
    obtain ⟨k, hk, rfl, rfl, HU, hg⟩ := hrel
    clear H0
    by_cases hk8 : k < 8
    · obtain ⟨y, h1, h2, h3⟩ := HB.out k
      have cB := HS.out k wr HU.out
      rw [h1] at cB
      obtain ⟨X, hX⟩ : ∃ X, (jNum s k 0 r).1 = X := ⟨_, rfl⟩
      have hXlt := HX.out k
      rw [hX] at h3 hXlt ⊢
      have HXl : Hid (Unit → X < 18446744073709551616) := fun _ => hXlt
      have H3 : Hid (_ = _) := h3
      have hki : (k : Int) < 8 := by omega
      clear h3 hXlt hX h1
      go_wp2_with (go_at_call 43; (with_reducible refine cB.mono ?_); rintro e w2 ⟨rfl, k1, k2⟩)
      case roundEnd =>
        rw [shl_or (HXl.out ()) h2, ← H3.out]
        exact ⟨⟨k + 1, by omega, rfl, rfl, k1, hg.trans k2⟩, by simp [intOf]; omega⟩
    · have ek : k = 8 := by omega
      subst ek
      have hk2 : ((8 : Nat) : Int) < 8 ↔ False := by decide
      clear hk8
      obtain ⟨X, hX⟩ : ∃ X, (jNum s 8 0 r).1 = X := ⟨_, rfl⟩
      rw [hX]
      have HE : Hid (_ = X) := hX
      clear hX HB HX
      go_wp2
      go_ret
      rw [HE.out]
      exact ⟨rfl, HU.out, hg⟩
end Go.Proofs.Ytedhfdgcofboeaa
