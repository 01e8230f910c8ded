/-
  Part 12 of what is proved of drawn right trees.
-/
import Derived.Test.YtedhfdgcofboeaaPak
import Derived.Test.YtedhfdgcofboeaaPad

namespace Go.Proofs.Ytedhfdgcofboeaa
open Go.RowKit Go.Sort
set_option linter.unusedVariables false
theorem uat_put {w : World} {C X o : Nat} {s : ByteArray} {r : RS} {v : Value} (h : UAt w C s r) (hX : C ≠ X) : UAt (w.setCell ⟨X, o, none⟩ v) C s r := (heap_setCell_other w ⟨X, o, none⟩ C v hX).trans h
theorem two_put15 {W : World} {R : Nat} {x y a b : Value} {t : TypeId} (h : W.heap[R]? = some (.cells #[x, y] t (0, 0))) : ((W.setCell ⟨R, 0, none⟩ a).setCell ⟨R, 1, none⟩ b).heap[R]? = some (.cells #[a, b] t (0, 0)) :=
  heap_setCell_same _ _ _ _ _ _ (heap_setCell_same _ _ _ _ _ _ h)
set_option maxHeartbeats 1000000 in
set_option maxRecDepth 100000 in
theorem iReadIns (s : ByteArray) (r : RS) (C : Nat) (w : World) (hC : UAt w C s r) (hs : s.size ≤ 1048576) (hp : r.pos ≤ s.size) :
    Calls Try.prog 49 #[.pointer (some ⟨C, 0, none⟩)] w fun e w' => e = .returned (.agg #[.int .i64 (rIns s r).1.op, .int .i64 (rIns s r).1.a, .int .i64 (rIns s r).1.b]) ∧ UAt w' C s (rIns s r).2 ∧ w.grownBy w' (some C) := by
  have hzC := hC.lt
  have hb0 : Below w.heap.size w (w.alloc (.cells #[.int .i64 0, .int .i64 0, .int .i64 0] 75)) := (Below.refl _ _).alloc (Nat.le_refl _) _
  have hR0 := heap_alloc_new w (.cells #[.int .i64 0, .int .i64 0, .int .i64 0] 75)
  have hu0 := hC.below hb0
  have hg0 := grown_lo (C := some C) hb0
  obtain ⟨R, hR⟩ : ∃ R, w.heap.size = R := ⟨_, rfl⟩
  have HR : Hid (w.heap.size = R) := hR
  obtain ⟨W0, hW0⟩ : ∃ W, w.alloc (.cells #[.int .i64 0, .int .i64 0, .int .i64 0] 75) = W := ⟨_, rfl⟩
  have HW0 : Hid (_ = W0) := hW0
  rw [hW0] at hR0 hu0 hg0
  rw [hR] at hR0 hzC
  clear hW0 hR hC hb0
  have hCR : C ≠ R := by omega
  have hp1 := (rByte_pos s r hp).1
  have cB := iReadByte s r C W0 hu0 hs hp
  obtain ⟨x1, hx1⟩ : ∃ x, rByte s r = x := ⟨_, rfl⟩
  obtain ⟨n1, r1⟩ := x1
  rw [hx1] at cB hp1
  have HX1 : Hid (_ = _) := hx1
  clear hx1
  go_enter Try.func49, Try.ntmps49
  go_upto_region 1 with fail
  rw [HW0.out, HR.out]
  go_wp2_with (go_at_call 43; (with_reducible refine cB.mono ?_); rintro e w1 ⟨rfl, hu1, hk1⟩; have hR1 := box_grown hR0 hk1 (by omega))
  have hg1 := hg0.trans hk1
  clear hu0 hk1 hR0 hg0 cB
  have hp2 := (rVar_pos s r1 hp1).1
  have cB := iReadNumber s r1 C w1 hu1 hs hp1
  obtain ⟨x2, hx2⟩ : ∃ x, rVar s r1 = x := ⟨_, rfl⟩
  obtain ⟨n2, r2⟩ := x2
  rw [hx2] at cB hp2
  have HX2 : Hid (_ = _) := hx2
  clear hx2
  go_wp2_with (go_at_call 46; (with_reducible refine cB.mono ?_); rintro e w2 ⟨rfl, hu2, hk2⟩; have hR2 := box_grown hR1 hk2 (by omega))
  have hg2 := hg1.trans hk2
  clear hu1 hk2 hR1 hg1 cB
  have hp3 := (rVar_pos s r2 hp2).1
  have cB := iReadNumber s r2 C w2 hu2 hs hp2
  obtain ⟨x3, hx3⟩ : ∃ x, rVar s r2 = x := ⟨_, rfl⟩
  obtain ⟨n3, r3⟩ := x3
  rw [hx3] at cB hp3
  have HX3 : Hid (_ = _) := hx3
  clear hx3
  go_wp2_with (go_at_call 46; (with_reducible refine cB.mono ?_); rintro e w3 ⟨rfl, hu3, hk3⟩; have hR3 := box_grown hR2 hk3 (by omega); have z0 := box_at hR3 0 _ rfl; have y0 := frozen_of_row _ _ 0 _ _ hR3; have z1 := box_at hR3 1 _ rfl; have y1 := frozen_of_row _ _ 1 _ _ hR3; have z2 := box_at hR3 2 _ rfl; have y2 := frozen_of_row _ _ 2 _ _ hR3)
  have hg3 := hg2.trans hk3
  clear hu2 hk3 hR2 hg2 cB
  have HV : Hid (rIns s r = (⟨n1, n2, n3⟩, r3)) := by
    show _ = _
    unfold rIns
    simp only [HX1.out, HX2.out, HX3.out]
  have HP : Hid _ := three_put (a := .int .i64 n1) (b := .int .i64 (n2 : Nat)) (c := .int .i64 (n3 : Nat)) hR3
  have HU : Hid _ := uat_put (o := 2) (v := .int .i64 (n3 : Nat)) (uat_put (o := 1) (v := .int .i64 (n2 : Nat)) (uat_put (o := 0) (v := .int .i64 n1) (hu3) hCR) hCR) hCR
  have HG : Hid _ := grown_put (X := R) (o := 2) (v := .int .i64 (n3 : Nat)) (grown_put (X := R) (o := 1) (v := .int .i64 (n2 : Nat)) (grown_put (X := R) (o := 0) (v := .int .i64 n1) (hg3) (by have := HR.out; omega)) (by have := HR.out; omega)) (by have := HR.out; omega)
  clear hu3 hg3 hR3
  have e0 := box_at HP.out 0 _ rfl
  have e1 := box_at HP.out 1 _ rfl
  have e2 := box_at HP.out 2 _ rfl
  refine bodyPost_ret (v := .agg #[.int .i64 n1, .int .i64 (n2 : Nat), .int .i64 (n3 : Nat)]) (by simp [results, Try.results49, go_sem, e0, e1, e2]) rfl ⟨?_, ?_, HG.out⟩
  · first | (rw [HV.out]; done) | (rw [HV.out]; rfl)
  · rw [HV.out]
    exact HU.out
set_option maxHeartbeats 1000000 in
set_option maxRecDepth 100000 in
theorem iReadHandler (s : ByteArray) (r : RS) (C : Nat) (w : World) (hC : UAt w C s r) (hs : s.size ≤ 1048576) (hp : r.pos ≤ s.size) :
    Calls Try.prog 51 #[.pointer (some ⟨C, 0, none⟩)] w fun e w' => e = .returned (.agg #[.int .i64 (rHnd s r).1.lo, .int .i64 (rHnd s r).1.hi, .int .i64 (rHnd s r).1.target]) ∧ UAt w' C s (rHnd s r).2 ∧ w.grownBy w' (some C) := by
  have hzC := hC.lt
  have hb0 : Below w.heap.size w (w.alloc (.cells #[.int .i64 0, .int .i64 0, .int .i64 0] 77)) := (Below.refl _ _).alloc (Nat.le_refl _) _
  have hR0 := heap_alloc_new w (.cells #[.int .i64 0, .int .i64 0, .int .i64 0] 77)
  have hu0 := hC.below hb0
  have hg0 := grown_lo (C := some C) hb0
  obtain ⟨R, hR⟩ : ∃ R, w.heap.size = R := ⟨_, rfl⟩
  have HR : Hid (w.heap.size = R) := hR
  obtain ⟨W0, hW0⟩ : ∃ W, w.alloc (.cells #[.int .i64 0, .int .i64 0, .int .i64 0] 77) = W := ⟨_, rfl⟩
  have HW0 : Hid (_ = W0) := hW0
  rw [hW0] at hR0 hu0 hg0
  rw [hR] at hR0 hzC
  clear hW0 hR hC hb0
  have hCR : C ≠ R := by omega
  have hp1 := (rVar_pos s r hp).1
  have cB := iReadNumber s r C W0 hu0 hs hp
  obtain ⟨x1, hx1⟩ : ∃ x, rVar s r = x := ⟨_, rfl⟩
  obtain ⟨n1, r1⟩ := x1
  rw [hx1] at cB hp1
  have HX1 : Hid (_ = _) := hx1
  clear hx1
  go_enter Try.func51, Try.ntmps51
  go_upto_region 1 with fail
  rw [HW0.out, HR.out]
  go_wp2_with (go_at_call 46; (with_reducible refine cB.mono ?_); rintro e w1 ⟨rfl, hu1, hk1⟩; have hR1 := box_grown hR0 hk1 (by omega))
  have hg1 := hg0.trans hk1
  clear hu0 hk1 hR0 hg0 cB
  have hp2 := (rVar_pos s r1 hp1).1
  have cB := iReadNumber s r1 C w1 hu1 hs hp1
  obtain ⟨x2, hx2⟩ : ∃ x, rVar s r1 = x := ⟨_, rfl⟩
  obtain ⟨n2, r2⟩ := x2
  rw [hx2] at cB hp2
  have HX2 : Hid (_ = _) := hx2
  clear hx2
  go_wp2_with (go_at_call 46; (with_reducible refine cB.mono ?_); rintro e w2 ⟨rfl, hu2, hk2⟩; have hR2 := box_grown hR1 hk2 (by omega))
  have hg2 := hg1.trans hk2
  clear hu1 hk2 hR1 hg1 cB
  have hp3 := (rVar_pos s r2 hp2).1
  have cB := iReadNumber s r2 C w2 hu2 hs hp2
  obtain ⟨x3, hx3⟩ : ∃ x, rVar s r2 = x := ⟨_, rfl⟩
  obtain ⟨n3, r3⟩ := x3
  rw [hx3] at cB hp3
  have HX3 : Hid (_ = _) := hx3
  clear hx3
  go_wp2_with (go_at_call 46; (with_reducible refine cB.mono ?_); rintro e w3 ⟨rfl, hu3, hk3⟩; have hR3 := box_grown hR2 hk3 (by omega); have z0 := box_at hR3 0 _ rfl; have y0 := frozen_of_row _ _ 0 _ _ hR3; have z1 := box_at hR3 1 _ rfl; have y1 := frozen_of_row _ _ 1 _ _ hR3; have z2 := box_at hR3 2 _ rfl; have y2 := frozen_of_row _ _ 2 _ _ hR3)
  have hg3 := hg2.trans hk3
  clear hu2 hk3 hR2 hg2 cB
  have HV : Hid (rHnd s r = (⟨n1, n2, n3⟩, r3)) := by
    show _ = _
    unfold rHnd
    simp only [HX1.out, HX2.out, HX3.out]
  have HP : Hid _ := three_put (a := .int .i64 (n1 : Nat)) (b := .int .i64 (n2 : Nat)) (c := .int .i64 (n3 : Nat)) hR3
  have HU : Hid _ := uat_put (o := 2) (v := .int .i64 (n3 : Nat)) (uat_put (o := 1) (v := .int .i64 (n2 : Nat)) (uat_put (o := 0) (v := .int .i64 (n1 : Nat)) (hu3) hCR) hCR) hCR
  have HG : Hid _ := grown_put (X := R) (o := 2) (v := .int .i64 (n3 : Nat)) (grown_put (X := R) (o := 1) (v := .int .i64 (n2 : Nat)) (grown_put (X := R) (o := 0) (v := .int .i64 (n1 : Nat)) (hg3) (by have := HR.out; omega)) (by have := HR.out; omega)) (by have := HR.out; omega)
  clear hu3 hg3 hR3
  have e0 := box_at HP.out 0 _ rfl
  have e1 := box_at HP.out 1 _ rfl
  have e2 := box_at HP.out 2 _ rfl
  refine bodyPost_ret (v := .agg #[.int .i64 (n1 : Nat), .int .i64 (n2 : Nat), .int .i64 (n3 : Nat)]) (by simp [results, Try.results51, go_sem, e0, e1, e2]) rfl ⟨?_, ?_, HG.out⟩
  · first | (rw [HV.out]; done) | (rw [HV.out]; rfl)
  · rw [HV.out]
    exact HU.out
set_option maxHeartbeats 1000000 in
set_option maxRecDepth 100000 in
theorem iReadCap (s : ByteArray) (r : RS) (C : Nat) (w : World) (hC : UAt w C s r) (hs : s.size ≤ 1048576) (hp : r.pos ≤ s.size) :
    Calls Try.prog 47 #[.pointer (some ⟨C, 0, none⟩)] w fun e w' => e = .returned (.agg #[.bool (jCap s r).1.reg, .int .i64 (jCap s r).1.index]) ∧ UAt w' C s (jCap s r).2 ∧ w.grownBy w' (some C) := by
  have hzC := hC.lt
  have hb0 : Below w.heap.size w (w.alloc (.cells #[.bool false, .int .i64 0] 73)) := (Below.refl _ _).alloc (Nat.le_refl _) _
  have hR0 := heap_alloc_new w (.cells #[.bool false, .int .i64 0] 73)
  have hu0 := hC.below hb0
  have hg0 := grown_lo (C := some C) hb0
  obtain ⟨R, hR⟩ : ∃ R, w.heap.size = R := ⟨_, rfl⟩
  have HR : Hid (w.heap.size = R) := hR
  obtain ⟨W0, hW0⟩ : ∃ W, w.alloc (.cells #[.bool false, .int .i64 0] 73) = W := ⟨_, rfl⟩
  have HW0 : Hid (_ = W0) := hW0
  rw [hW0] at hR0 hu0 hg0
  rw [hR] at hR0 hzC
  clear hW0 hR hC hb0
  have hCR : C ≠ R := by omega
  have hp1 := (rByte_pos s r hp).1
  have cB := iReadByte s r C W0 hu0 hs hp
  obtain ⟨x1, hx1⟩ : ∃ x, rByte s r = x := ⟨_, rfl⟩
  obtain ⟨n1, r1⟩ := x1
  rw [hx1] at cB hp1
  have HX1 : Hid (_ = _) := hx1
  clear hx1
  obtain ⟨b, hb1⟩ : ∃ b, (n1 == 1) = b := ⟨_, rfl⟩
  have hb2 : decide (n1 = 1) = b := hb1
  have HB : Hid (decide (n1 = 1) = b) := hb1
  have HS : Hid (∀ W, UAt W C s r1 → Calls Try.prog 74 #[.pointer (some ⟨C, 0, none⟩)] W fun e w' => e = .returned (.tuple #[]) ∧ UAt w' C s ⟨r1.pos, true⟩ ∧ W.grownBy w' (some C)) := fun W h => iSpoil s r1 C W h hs
  by_cases h1 : 1 < n1
  · go_enter Try.func47, Try.ntmps47
    go_upto_region 1 with fail
    rw [HW0.out, HR.out]
    go_wp2_with (go_at_call 43; (with_reducible refine cB.mono ?_); rintro e w1 ⟨rfl, hu1, hk1⟩; have hR1 := box_grown hR0 hk1 (by omega))
    have hg1 := hg0.trans hk1
    clear hu0 hk1 hR0 hg0 cB
    have cB := HS.out w1 hu1
    go_wp2_with (go_at_call 74; (with_reducible refine cB.mono ?_); rintro e w2 ⟨rfl, hu2, hk2⟩)
    have hR2 := box_grown hR1 hk2 (by omega)
    have hg2 := hg1.trans hk2
    clear hu1 hk2 hR1 hg1 cB
    have hp3 := (rVar_pos s (⟨r1.pos, true⟩ : RS) hp1).1
    have cB := iReadNumber s (⟨r1.pos, true⟩ : RS) C w2 hu2 hs hp1
    obtain ⟨x3, hx3⟩ : ∃ x, rVar s (⟨r1.pos, true⟩ : RS) = x := ⟨_, rfl⟩
    obtain ⟨n3, r3⟩ := x3
    rw [hx3] at cB hp3
    have HX3 : Hid (_ = _) := hx3
    clear hx3
    go_wp2_with (go_at_call 46; (with_reducible refine cB.mono ?_); rintro e w3 ⟨rfl, hu3, hk3⟩; have hR3 := box_grown hR2 hk3 (by omega); have z0 := box_at hR3 0 _ rfl; have y0 := frozen_of_row _ _ 0 _ _ hR3; have z1 := box_at hR3 1 _ rfl; have y1 := frozen_of_row _ _ 1 _ _ hR3)
    have hg3 := hg2.trans hk3
    clear hu2 hk3 hR2 hg2 cB
    have HV : Hid (jCap s r = (⟨b, n3⟩, r3)) := by
      show _ = _
      unfold jCap jFlag
      simp only [HX1.out, if_pos h1, HX3.out, HB.out]
    have HP : Hid _ := two_put15 (a := .bool b) (b := .int .i64 (n3 : Nat)) hR3
    have HU : Hid _ := uat_put (o := 1) (v := .int .i64 (n3 : Nat)) (uat_put (o := 0) (v := .bool b) (hu3) hCR) hCR
    have HG : Hid _ := grown_put (X := R) (o := 1) (v := .int .i64 (n3 : Nat)) (grown_put (X := R) (o := 0) (v := .bool b) (hg3) (by have := HR.out; omega)) (by have := HR.out; omega)
    clear hu3 hg3 hR3
    have e0 := box_at HP.out 0 _ rfl
    have e1 := box_at HP.out 1 _ rfl
    refine bodyPost_ret (v := .agg #[.bool b, .int .i64 (n3 : Nat)]) (by simp [results, Try.results47, go_sem, e0, e1]) rfl ⟨?_, ?_, HG.out⟩
    · first | (rw [HV.out]; done) | (rw [HV.out]; rfl)
    · rw [HV.out]
      exact HU.out
  · go_enter Try.func47, Try.ntmps47
    go_upto_region 1 with fail
    rw [HW0.out, HR.out]
    go_wp2_with (go_at_call 43; (with_reducible refine cB.mono ?_); rintro e w1 ⟨rfl, hu1, hk1⟩; have hR1 := box_grown hR0 hk1 (by omega))
    have hg1 := hg0.trans hk1
    clear hu0 hk1 hR0 hg0 cB
    have hp2 := (rVar_pos s r1 hp1).1
    have cB := iReadNumber s r1 C w1 hu1 hs hp1
    obtain ⟨x2, hx2⟩ : ∃ x, rVar s r1 = x := ⟨_, rfl⟩
    obtain ⟨n2, r2⟩ := x2
    rw [hx2] at cB hp2
    have HX2 : Hid (_ = _) := hx2
    clear hx2
    go_wp2_with (go_at_call 46; (with_reducible refine cB.mono ?_); rintro e w2 ⟨rfl, hu2, hk2⟩; have hR2 := box_grown hR1 hk2 (by omega); have z0 := box_at hR2 0 _ rfl; have y0 := frozen_of_row _ _ 0 _ _ hR2; have z1 := box_at hR2 1 _ rfl; have y1 := frozen_of_row _ _ 1 _ _ hR2)
    have hg2 := hg1.trans hk2
    clear hu1 hk2 hR1 hg1 cB
    have HV : Hid (jCap s r = (⟨b, n2⟩, r2)) := by
      show _ = _
      unfold jCap jFlag
      simp only [HX1.out, if_neg (show ¬ 1 < n1 by omega), HX2.out, HB.out]
    have HP : Hid _ := two_put15 (a := .bool b) (b := .int .i64 (n2 : Nat)) hR2
    have HU : Hid _ := uat_put (o := 1) (v := .int .i64 (n2 : Nat)) (uat_put (o := 0) (v := .bool b) (hu2) hCR) hCR
    have HG : Hid _ := grown_put (X := R) (o := 1) (v := .int .i64 (n2 : Nat)) (grown_put (X := R) (o := 0) (v := .bool b) (hg2) (by have := HR.out; omega)) (by have := HR.out; omega)
    clear hu2 hg2 hR2
    have e0 := box_at HP.out 0 _ rfl
    have e1 := box_at HP.out 1 _ rfl
    refine bodyPost_ret (v := .agg #[.bool b, .int .i64 (n2 : Nat)]) (by simp [results, Try.results47, go_sem, e0, e1]) rfl ⟨?_, ?_, HG.out⟩
    · first | (rw [HV.out]; done) | (rw [HV.out]; rfl)
    · rw [HV.out]
      exact HU.out
set_option maxHeartbeats 1000000 in
set_option maxRecDepth 100000 in
theorem iReadConst (s : ByteArray) (r : RS) (C : Nat) (w : World) (hC : UAt w C s r) (hs : s.size ≤ 1048576) (hp : r.pos ≤ s.size) :
    Calls Try.prog 18 #[.pointer (some ⟨C, 0, none⟩)] w fun e w' => e = .returned (.agg #[.int .i64 (jConst s r).1.kind, .int .u64 ((jConst s r).1.num : Int), .string (jConst s r).1.text]) ∧ UAt w' C s (jConst s r).2 ∧ w.grownBy w' (some C) := by
  have hzC := hC.lt
  have hb0 : Below w.heap.size w (w.alloc (.cells #[.int .i64 0, .int .u64 0, .string ⟨#[]⟩] 40)) := (Below.refl _ _).alloc (Nat.le_refl _) _
  have hR0 := heap_alloc_new w (.cells #[.int .i64 0, .int .u64 0, .string ⟨#[]⟩] 40)
  have hu0 := hC.below hb0
  have hg0 := grown_lo (C := some C) hb0
  obtain ⟨R, hR⟩ : ∃ R, w.heap.size = R := ⟨_, rfl⟩
  have HR : Hid (w.heap.size = R) := hR
  obtain ⟨W0, hW0⟩ : ∃ W, w.alloc (.cells #[.int .i64 0, .int .u64 0, .string ⟨#[]⟩] 40) = W := ⟨_, rfl⟩
  have HW0 : Hid (_ = W0) := hW0
  rw [hW0] at hR0 hu0 hg0
  rw [hR] at hR0 hzC
  clear hW0 hR hC hb0
  have hCR : C ≠ R := by omega
  have hlR := box_lt hR0
  have hp1 := (rByte_pos s r hp).1
  have cB := iReadByte s r C W0 hu0 hs hp
  obtain ⟨x1, hx1⟩ : ∃ x, rByte s r = x := ⟨_, rfl⟩
  obtain ⟨n1, r1⟩ := x1
  rw [hx1] at cB hp1
  have HX1 : Hid (_ = _) := hx1
  clear hx1
  go_enter Try.func18, Try.ntmps18
  go_upto_region 1 with fail
  rw [HW0.out, HR.out]
  go_wp2_with fail
  refine cB.mono ?_
  rintro e w1 ⟨rfl, hu1, hk1⟩
  have hR1 := box_grown hR0 hk1 (by omega)
  have hg1 := hg0.trans hk1
  have hl1 : R < w1.heap.size := box_lt hR1
  clear hk1 hR0 hg0 cB hu0
  have hX := heap_alloc_new w1 (.cells #[.int .i64 n1, .int .u64 0, .string ⟨#[]⟩] 40)
  have hbX : Below w1.heap.size w1 (w1.alloc (.cells #[.int .i64 n1, .int .u64 0, .string ⟨#[]⟩] 40)) := (Below.refl _ _).alloc (Nat.le_refl _) _
  have hu2 := hu1.below hbX
  have hg2 := hg1.trans (grown_lo (C := some C) hbX)
  have hR2 := box_alloc (o' := .cells #[.int .i64 n1, .int .u64 0, .string ⟨#[]⟩] 40) hR1
  obtain ⟨X, hXe⟩ : ∃ X, w1.heap.size = X := ⟨_, rfl⟩
  obtain ⟨w2, hw2⟩ : ∃ W, w1.alloc (.cells #[.int .i64 n1, .int .u64 0, .string ⟨#[]⟩] 40) = W := ⟨_, rfl⟩
  have HXe : Hid (w1.heap.size = X) := hXe
  have HW2 : Hid (_ = w2) := hw2
  rw [hw2] at hX hu2 hg2 hR2
  rw [hXe] at hX hl1
  clear hw2 hXe hbX hu1 hg1 hR1
  go_upto_region 2 with fail
  rw [HW2.out, HXe.out]
  clear HW2 HXe
  have hCX : C ≠ X := by omega
  have nXR : X ≠ R := by omega
  have nRX : R ≠ X := by omega
  have HRs : Hid (w.heap.size ≤ X) := by show _ ≤ _; have := HR.out; omega
  by_cases q1' : n1 = 1
  · subst q1'
    have c0 := box_at hX 0 _ rfl
    have cB := iReadNum s r1 C w2 hu2 hs hp1
    obtain ⟨x3, hx3⟩ : ∃ x, jNum s 8 0 r1 = x := ⟨_, rfl⟩
    obtain ⟨n3, r3⟩ := x3
    rw [hx3] at cB
    have HX3 : Hid (_ = _) := hx3
    clear hx3
    go_wp2_with (go_at_call 44; (with_reducible refine cB.mono ?_); rintro e w3 ⟨rfl, hu3, hk3⟩; have hX3 := box_grown hX hk3 (by omega); have hR3 := box_grown hR2 hk3 (by omega); have z0 := box_at hR3 0 _ rfl; have y0 := frozen_of_row _ _ 0 _ _ hR3; have z1 := box_at hR3 1 _ rfl; have y1 := frozen_of_row _ _ 1 _ _ hR3; have z2 := box_at hR3 2 _ rfl; have y2 := frozen_of_row _ _ 2 _ _ hR3; have q0 := box_at hX3 0 _ rfl; have q1 := box_at hX3 1 _ rfl; have q2 := box_at hX3 2 _ rfl; have p1 := frozen_of_row _ _ 1 _ _ hX3; have p2 := frozen_of_row _ _ 2 _ _ hX3)
    have hg3 := hg2.trans hk3
    have hR4 : (w3.setCell ⟨X, 1, none⟩ (.int .u64 (n3 : Nat))).heap[R]? = _ := (heap_setCell_other w3 ⟨X, 1, none⟩ R (.int .u64 (n3 : Nat)) nRX).trans hR3
    have hu4 := uat_put (o := 1) (v := .int .u64 (n3 : Nat)) hu3 hCX
    have hg4 := grown_put (X := X) (o := 1) (v := .int .u64 (n3 : Nat)) hg3 HRs.out
    have HP : Hid _ := three_put (a := .int .i64 1) (b := .int .u64 (n3 : Nat)) (c := .string ⟨#[]⟩) hR4
    have HU : Hid _ := uat_put (o := 2) (v := .string ⟨#[]⟩) (uat_put (o := 1) (v := .int .u64 (n3 : Nat)) (uat_put (o := 0) (v := .int .i64 1) (hu4) hCR) hCR) hCR
    have HG : Hid _ := grown_put (X := R) (o := 2) (v := .string ⟨#[]⟩) (grown_put (X := R) (o := 1) (v := .int .u64 (n3 : Nat)) (grown_put (X := R) (o := 0) (v := .int .i64 1) (hg4) (by have := HR.out; omega)) (by have := HR.out; omega)) (by have := HR.out; omega)
    have HV : Hid (jConst s r = (⟨1, n3, ⟨#[]⟩⟩, r3)) := by
      show _ = _
      unfold jConst
      simp only [HX1.out, if_true, HX3.out]
    clear hu4 hg4 hR4 hu2 hg2 hR2 hX
    have e0 := box_at HP.out 0 _ rfl
    have e1 := box_at HP.out 1 _ rfl
    have e2 := box_at HP.out 2 _ rfl
    refine bodyPost_ret (v := .agg #[.int .i64 1, .int .u64 (n3 : Nat), .string ⟨#[]⟩]) (by simp [results, Try.results18, go_sem, e0, e1, e2]) rfl ⟨?_, ?_, HG.out⟩
    · first | (rw [HV.out]; done) | (rw [HV.out]; rfl)
    · rw [HV.out]
      exact HU.out
  · by_cases q2' : n1 = 2
    · subst q2'
      have c0 := box_at hX 0 _ rfl
      have cB := iReadText s r1 C w2 hu2 hs hp1
      obtain ⟨x3, hx3⟩ : ∃ x, jShort s r1 = x := ⟨_, rfl⟩
      obtain ⟨n3, r3⟩ := x3
      rw [hx3] at cB
      have HX3 : Hid (_ = _) := hx3
      clear hx3
      go_wp2_with (go_at_call 45; (with_reducible refine cB.mono ?_); rintro e w3 ⟨rfl, hu3, hk3⟩; have hX3 := box_grown hX hk3 (by omega); have hR3 := box_grown hR2 hk3 (by omega); have z0 := box_at hR3 0 _ rfl; have y0 := frozen_of_row _ _ 0 _ _ hR3; have z1 := box_at hR3 1 _ rfl; have y1 := frozen_of_row _ _ 1 _ _ hR3; have z2 := box_at hR3 2 _ rfl; have y2 := frozen_of_row _ _ 2 _ _ hR3; have q0 := box_at hX3 0 _ rfl; have q1 := box_at hX3 1 _ rfl; have q2 := box_at hX3 2 _ rfl; have p1 := frozen_of_row _ _ 1 _ _ hX3; have p2 := frozen_of_row _ _ 2 _ _ hX3)
      have hg3 := hg2.trans hk3
      have hR4 : (w3.setCell ⟨X, 2, none⟩ (.string n3)).heap[R]? = _ := (heap_setCell_other w3 ⟨X, 2, none⟩ R (.string n3) nRX).trans hR3
      have hu4 := uat_put (o := 2) (v := .string n3) hu3 hCX
      have hg4 := grown_put (X := X) (o := 2) (v := .string n3) hg3 HRs.out
      have HP : Hid _ := three_put (a := .int .i64 2) (b := .int .u64 0) (c := .string n3) hR4
      have HU : Hid _ := uat_put (o := 2) (v := .string n3) (uat_put (o := 1) (v := .int .u64 0) (uat_put (o := 0) (v := .int .i64 2) (hu4) hCR) hCR) hCR
      have HG : Hid _ := grown_put (X := R) (o := 2) (v := .string n3) (grown_put (X := R) (o := 1) (v := .int .u64 0) (grown_put (X := R) (o := 0) (v := .int .i64 2) (hg4) (by have := HR.out; omega)) (by have := HR.out; omega)) (by have := HR.out; omega)
      have HV : Hid (jConst s r = (⟨2, 0, n3⟩, r3)) := by
        show _ = _
        unfold jConst
        simp only [HX1.out, if_true, if_neg (show ¬ (2 : Int) = 1 by decide), HX3.out]
      clear hu4 hg4 hR4 hu2 hg2 hR2 hX
      have e0 := box_at HP.out 0 _ rfl
      have e1 := box_at HP.out 1 _ rfl
      have e2 := box_at HP.out 2 _ rfl
      refine bodyPost_ret (v := .agg #[.int .i64 2, .int .u64 0, .string n3]) (by simp [results, Try.results18, go_sem, e0, e1, e2]) rfl ⟨?_, ?_, HG.out⟩
      · first | (rw [HV.out]; done) | (rw [HV.out]; rfl)
      · rw [HV.out]
        exact HU.out
    · have hR4 := hR2
      have hu4 := hu2
      have hg4 := hg2
      have z0 := box_at hR2 0 _ rfl
      have y0 := frozen_of_row _ _ 0 _ _ hR2
      have q0 := box_at hX 0 _ rfl
      have z1 := box_at hR2 1 _ rfl
      have y1 := frozen_of_row _ _ 1 _ _ hR2
      have q1 := box_at hX 1 _ rfl
      have z2 := box_at hR2 2 _ rfl
      have y2 := frozen_of_row _ _ 2 _ _ hR2
      have q2 := box_at hX 2 _ rfl
      have HP : Hid _ := three_put (a := .int .i64 n1) (b := .int .u64 0) (c := .string ⟨#[]⟩) hR4
      have HU : Hid _ := uat_put (o := 2) (v := .string ⟨#[]⟩) (uat_put (o := 1) (v := .int .u64 0) (uat_put (o := 0) (v := .int .i64 n1) (hu4) hCR) hCR) hCR
      have HG : Hid _ := grown_put (X := R) (o := 2) (v := .string ⟨#[]⟩) (grown_put (X := R) (o := 1) (v := .int .u64 0) (grown_put (X := R) (o := 0) (v := .int .i64 n1) (hg4) (by have := HR.out; omega)) (by have := HR.out; omega)) (by have := HR.out; omega)
      have HV : Hid (jConst s r = (⟨n1, 0, ⟨#[]⟩⟩, r1)) := by
        show _ = _
        unfold jConst
        simp only [HX1.out, if_neg q1', if_neg q2']
      clear hu4 hg4 hR4 hu2 hg2 hR2 hX
      go_wp2
      have e0 := box_at HP.out 0 _ rfl
      have e1 := box_at HP.out 1 _ rfl
      have e2 := box_at HP.out 2 _ rfl
      refine bodyPost_ret (v := .agg #[.int .i64 n1, .int .u64 0, .string ⟨#[]⟩]) (by simp [results, Try.results18, go_sem, e0, e1, e2]) rfl ⟨?_, ?_, HG.out⟩
      · first | (rw [HV.out]; done) | (rw [HV.out]; rfl)
      · rw [HV.out]
        exact HU.out
end Go.Proofs.Ytedhfdgcofboeaa
