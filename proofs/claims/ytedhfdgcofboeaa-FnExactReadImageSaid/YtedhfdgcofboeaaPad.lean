/-
  Part 4 of what is proved of drawn right trees.
-/
import Derived.Test.YtedhfdgcofboeaaPac
import Derived.Test.YtedhfdgcofboeaaRows
import Derived.Test.YtedhfdgcofboeaaPaa
import Derived.Laws.OwnMore
import Derived.Handy
import Derived.Deep.DeepCutAuto
import Derived.Maps.AppendAt

namespace Go.Proofs.Ytedhfdgcofboeaa
open Go.RowKit Go.Sort
set_option linter.unusedVariables false
theorem box_at {w : World} {X : Nat} {cs : Array Value} {t : TypeId} (h : w.heap[X]? = some (.cells cs t (0, 0))) (j : Nat) (u : Value) (hj : cs[j]? = some u) : w.cell? ⟨X, j, none⟩ = some u := by
  rw [cell_of_row _ _ j _ _ _ h]
  exact hj
theorem box_lt {w : World} {X : Nat} {o : Obj} (h : w.heap[X]? = some o) : X < w.heap.size := by
  rcases Nat.lt_or_ge X w.heap.size with x | x
  · exact x
  · rw [Array.getElem?_eq_none x] at h
    cases h
theorem box_grown {w w' : World} {X C : Nat} {o : Obj} (h : w.heap[X]? = some o) (hg : w.grownBy w' (some C)) (hne : X ≠ C) : w'.heap[X]? = some o := (hg.block X (box_lt h) (fun e => hne (by simpa using e))).trans h
theorem box_alloc {w : World} {X : Nat} {o o' : Obj} (h : w.heap[X]? = some o) : (w.alloc o').heap[X]? = some o := by
  rw [Below.heap_alloc w o' X (box_lt h)]
  exact h
theorem grown_alloc {w w' : World} {C : Option Nat} {o : Obj} (h : w.grownBy w' C) : w.grownBy (w'.alloc o) C := ⟨h.os, h.tape, h.output, Nat.le_trans h.size (by simp), fun i hi hne => (Below.heap_alloc w' o i (Nat.lt_of_lt_of_le hi h.size)).trans (h.block i hi hne)⟩
theorem grown_put {w w' : World} {C : Option Nat} {X o : Nat} {v : Value} (h : w.grownBy w' C) (hX : w.heap.size ≤ X) : w.grownBy (w'.setCell ⟨X, o, none⟩ v) C :=
  ⟨h.os, h.tape, h.output, Nat.le_trans h.size (by simp [World.setCell]), fun i hi hne => (heap_setCell_other w' ⟨X, o, none⟩ i v (fun e => by have e2 : i = X := e; omega)).trans (h.block i hi hne)⟩
theorem cur_put {w : World} {C X o : Nat} {s : ByteArray} {r : RS} {v : Value} (h : CurAt w C s r) (hX : C ≠ X) : CurAt (w.setCell ⟨X, o, none⟩ v) C s r := (heap_setCell_other w ⟨X, o, none⟩ C v hX).trans h
theorem three_put {W : World} {R : Nat} {x y z a b c : Value} {t : TypeId} (h : W.heap[R]? = some (.cells #[x, y, z] t (0, 0))) : (((W.setCell ⟨R, 0, none⟩ a).setCell ⟨R, 1, none⟩ b).setCell ⟨R, 2, none⟩ c).heap[R]? = some (.cells #[a, b, c] t (0, 0)) :=
  heap_setCell_same _ _ _ _ _ _ (heap_setCell_same _ _ _ _ _ _ (heap_setCell_same _ _ _ _ _ _ h))
theorem rConst_num {s : ByteArray} {r r1 : RS} (h : rByte s r = (1, r1)) : rConst s r = (⟨1, numOf (rTake s r1 8).1.data.toList, ⟨#[]⟩⟩, (rTake s r1 8).2) := by
  unfold rConst
  rw [h]
  rfl
theorem rConst_text {s : ByteArray} {r r1 : RS} (h : rByte s r = (2, r1)) : rConst s r = (⟨2, 0, (rTake s (rVar s r1).2 (rVar s r1).1).1⟩, (rTake s (rVar s r1).2 (rVar s r1).1).2) := by
  unfold rConst
  rw [h]
  rfl
theorem rConst_none {s : ByteArray} {r r1 : RS} {k : Int} (h : rByte s r = (k, r1)) (h1 : ¬ k = 1) (h2 : ¬ k = 2) : rConst s r = (⟨k, 0, ⟨#[]⟩⟩, r1) := by
  unfold rConst
  rw [h]
  simp only [if_neg h1, if_neg h2]
  rfl
theorem rTake_size (s : ByteArray) (r : RS) (n : Nat) : (rTake s r n).1.size ≤ n := by
  unfold rTake
  split
  · exact Nat.zero_le _
  · simp only [ByteArray.size_extract]
    omega
theorem numOf_lt (l : List UInt8) : numOf l < 18446744073709551616 := by
  unfold numOf
  rw [← List.reverse_reverse l]
  rw [List.foldl_reverse]
  cases l.reverse with
  | nil => decide
  | cons a t => simp only [List.foldr_cons]; omega
theorem u64_step (x b : Nat) (hb : b < 256) : IntKind.u64.wrap (IntKind.u64.wrap ((x : Int) * 256) + IntKind.u64.wrap (b : Int)) = (((x * 256 + b) % 18446744073709551616 : Nat) : Int) := by
  rw [IntKind.wrap_u64, IntKind.wrap_u64, IntKind.wrap_u64]
  omega
theorem byte_is {T : ByteArray} {j : Nat} {b : UInt8} (h : T.data.toList[j]? = some b) (hj : j < T.size) : T[j] = b := by
  have h2 : j < T.data.toList.length := hj
  rw [List.getElem?_eq_getElem h2] at h
  injection h
theorem numOf_more (l : List UInt8) (j : Nat) (b : UInt8) (h : l[j]? = some b) : numOf (l.take (j + 1)) = (numOf (l.take j) * 256 + b.toNat) % 18446744073709551616 := by
  unfold numOf
  rw [List.take_add_one, h, List.foldl_append]
  rfl
set_option maxHeartbeats 2000000 in
set_option maxRecDepth 100000 in
theorem l15Const_any (s : ByteArray) (r : RS) (C : Nat) (w : World) (hC : CurAt w C s r) (hs : s.size ≤ 1048576) (hp : r.pos ≤ s.size) :
    Calls Try.prog 12 #[.pointer (some ⟨C, 0, none⟩)] w fun e w' => e = .returned (.agg #[.int .i64 (rConst s r).1.kind, .int .u64 ((rConst s r).1.num : Int), .string (rConst s r).1.text]) ∧ CurAt w' C s (rConst s r).2 ∧ w.grownBy w' (some C) := by
  have hzC := hC.lt
  have hb0 : Below w.heap.size w (w.alloc (.cells #[.int .i64 0, .int .u64 0, .string ⟨#[]⟩] 40)) := (Below.refl _ _).alloc (Nat.le_refl _) _
  have cB := l15Byte_any s r C _ (hC.below hb0) hs hp
  have hB := rByte_pos s r hp
  obtain ⟨k1, hk1⟩ : ∃ k, rByte s r = k := ⟨_, rfl⟩
  obtain ⟨k, r1⟩ := k1
  rw [hk1] at cB hB
  have hR0 := heap_alloc_new w (.cells #[.int .i64 0, .int .u64 0, .string ⟨#[]⟩] 40)
  go_enter Try.func12, Try.ntmps12
  go_wp2_with fail
  refine cB.mono ?_
  rintro e w1 ⟨rfl, hc1, hg1⟩
  have hg1' : w.grownBy w1 (some C) := (grown_lo hb0).trans hg1
  have hR1 := box_grown hR0 hg1 (by omega)
  have hsz1 := hg1'.size
  have hlt1 := box_lt hR1
  obtain ⟨R, hRR⟩ : ∃ R, w.heap.size = R := ⟨_, rfl⟩
  rw [hRR] at hR1 hzC hsz1 hlt1
  have hX1 := heap_alloc_new w1 (.cells #[.int .i64 k, .int .u64 0, .string ⟨#[]⟩] 40)
  have hc2 : CurAt (w1.alloc (.cells #[.int .i64 k, .int .u64 0, .string ⟨#[]⟩] 40)) C s r1 := hc1.below ((Below.refl _ _).alloc (Nat.le_refl _) _)
  have hg2 := grown_alloc (o := .cells #[.int .i64 k, .int .u64 0, .string ⟨#[]⟩] 40) hg1'
  have hR2 := box_alloc (o' := .cells #[.int .i64 k, .int .u64 0, .string ⟨#[]⟩] 40) hR1
  obtain ⟨W2, hW2⟩ : ∃ W, w1.alloc (.cells #[.int .i64 k, .int .u64 0, .string ⟨#[]⟩] 40) = W := ⟨_, rfl⟩
  rw [hW2] at hX1 hc2 hg2 hR2
  have HW2 : Hid (_ = W2) := hW2
  obtain ⟨X, hX⟩ : ∃ X, w1.heap.size = X := ⟨_, rfl⟩
  have HX : Hid (w1.heap.size = X) := hX
  rw [hX] at hX1 hlt1
  clear hW2 hX hR1 hc1 hg1 hg1' hb0 hR0 cB
  go_upto_region 2 with fail
  rw [HW2.out, HX.out]
  have hCR : C ≠ R := by omega
  have hCX : C ≠ X := by omega
  have hXC : X ≠ C := by omega
  clear HW2 HX hC hp
  by_cases q1 : k = 1
  · subst q1
    have HV : Hid (rConst s r = _) := rConst_num hk1
    have hT8 := rTake_size s r1 8
    have cT := l15Take_any s r1 8 C W2 hc2 hs hB.1 (by omega)
    obtain ⟨tr, htr⟩ : ∃ t, rTake s r1 8 = t := ⟨_, rfl⟩
    obtain ⟨T, r2⟩ := tr
    rw [htr] at cT HV hT8
    have c0 := box_at hX1 0 _ rfl
    clear htr hk1
    go_wp2_with fail
    refine cT.mono ?_
    rintro e w3 ⟨rfl, hc3, hg3⟩
    have hX3 := box_grown hX1 hg3 hXC
    have hR3 := box_grown hR2 hg3 (Ne.symm hCR)
    have hg33 := hg2.trans hg3
    obtain ⟨nT, hnT⟩ : ∃ n, T.size = n := ⟨_, rfl⟩
    have HT : Hid (T.data.toList.length = nT) := hnT
    have hT8' : nT ≤ 8 := by rw [← hnT]; exact hT8
    clear hX1 hR2 hc2 hg2 hg3 c0 hT8 cT
    go_wp2
    go_loopw [5] (fun i wr => ∃ j : Nat, j ≤ nT ∧ i = .int .i64 j ∧ wr.heap[X]? = some (.cells #[.int .i64 1, .int .u64 (numOf (T.data.toList.take j) : Nat), .string ⟨#[]⟩] 40 (0, 0)) ∧ wr.heap[R]? = some (.cells #[.int .i64 0, .int .u64 0, .string ⟨#[]⟩] 40 (0, 0)) ∧ CurAt wr C s r2 ∧ w.grownBy wr (some C)) (fun i _ => nT - (intOf i).toNat)
    case atStart => exact ⟨0, Nat.zero_le _, rfl, hX3, hR3, hc3, hg33⟩
    case round =>
      clear hX3 hR3 hc3 hg33
      obtain ⟨j, hj, rfl, hX3, hR3, hc3, hg33⟩ := hrel
      by_cases hjn : j < nT
      · have hjl : j < T.data.toList.length := by have := HT.out; omega
        obtain ⟨b, hb⟩ : ∃ b, T.data.toList[j]? = some b := ⟨_, List.getElem?_eq_getElem hjl⟩
        have HN : Hid _ := numOf_more T.data.toList j b hb
        have hlt := numOf_lt (T.data.toList.take j)
        obtain ⟨x, hx⟩ : ∃ x, numOf (T.data.toList.take j) = x := ⟨_, rfl⟩
        rw [hx] at hX3 hlt
        have HXx : Hid (numOf (T.data.toList.take j) = x) := hx
        have c0 := box_at hX3 0 _ rfl
        have c1 := box_at hX3 1 _ rfl
        have f1 := frozen_of_row _ _ 1 _ _ hX3
        have hji : (j : Int) < (T.size : Int) := by rw [hnT]; omega
        have hj0 : (0 : Int) ≤ (j : Int) := by omega
        have HX3 : Hid _ := hX3
        have HR3 : Hid _ := hR3
        have HC3 : Hid _ := hc3
        have HG3 : Hid _ := hg33
        clear hX3 hR3 hc3 hg33 hx
        have hbe := byte_is hb (by rw [hnT]; exact hjn)
        have HU : Hid _ := u64_step x b.toNat b.toNat_lt
        go_wp2
        go_region
        all_goals go_wp2
        all_goals
          go_roundw
          case rel =>
            refine ⟨j + 1, by omega, by go_num, ?_, ?_, ?_, ?_⟩
            · rw [HN.out, HXx.out]
              have h5 := heap_setCell_same (w := wr) X 1 _ 40 (.int .u64 (((x * 256 + b.toNat) % 18446744073709551616 : Nat) : Int)) HX3.out
              rw [← HU.out] at h5 ⊢
              exact h5
            · exact (heap_setCell_other wr ⟨X, 1, none⟩ R _ (by show R ≠ X; omega)).trans HR3.out
            · exact cur_put (w := wr) HC3.out hCX
            · exact (fun (h : w.grownBy (wr.setCell ⟨X, 1, none⟩ _) (some C)) => ⟨h.os, h.tape, h.output, h.size, h.block⟩) (grown_put HG3.out (by omega))
          case measure => simp [intOf]; omega
      · have ej : j = nT := by omega
        subst ej
        have hdj : decide ((j : Int) < (T.size : Int)) = false := decide_eq_false (by rw [hnT]; omega)
        rw [List.take_of_length_le (by have := HT.out; omega)] at hX3
        obtain ⟨x, hx⟩ : ∃ x, numOf T.data.toList = x := ⟨_, rfl⟩
        rw [hx] at hX3 HV
        clear hx
        have c0 := box_at hX3 0 _ rfl
        have c1 := box_at hX3 1 _ rfl
        have c2 := box_at hX3 2 _ rfl
        have z0 := box_at hR3 0 _ rfl
        have z1 := box_at hR3 1 _ rfl
        have z2 := box_at hR3 2 _ rfl
        have y0 := frozen_of_row _ _ 0 _ _ hR3
        have y1 := frozen_of_row _ _ 1 _ _ hR3
        have y2 := frozen_of_row _ _ 2 _ _ hR3
        have HP : Hid _ := three_put (a := .int .i64 1) (b := .int .u64 (x : Int)) (c := .string ⟨#[]⟩) hR3
        have HCf : Hid _ := cur_put (o := 2) (v := .string ⟨#[]⟩) (cur_put (o := 1) (v := .int .u64 (x : Int)) (cur_put (o := 0) (v := .int .i64 1) hc3 hCR) hCR) hCR
        have HGf : Hid _ := grown_put (X := R) (o := 2) (v := .string ⟨#[]⟩) (grown_put (X := R) (o := 1) (v := .int .u64 (x : Int)) (grown_put (X := R) (o := 0) (v := .int .i64 1) hg33 (by omega)) (by omega)) (by omega)
        have n1 : X ≠ R := by omega
        have n2 : R ≠ X := by omega
        clear hX3 hR3 hc3 hg33
        go_wp2
        have e0 := box_at HP.out 0 _ rfl
        have e1 := box_at HP.out 1 _ rfl
        have e2 := box_at HP.out 2 _ rfl
        refine bodyPost_ret (v := .agg #[.int .i64 1, .int .u64 (x : Int), .string ⟨#[]⟩]) (by simp [results, Try.results12, go_sem, e0, e1, e2]) rfl ⟨?_, ?_, HGf.out⟩
        · first | (rw [HV.out]; done) | (rw [HV.out]; rfl)
        · rw [HV.out]
          exact HCf.out
  · by_cases q2 : k = 2
    · subst q2
      have HV : Hid (rConst s r = _) := rConst_text hk1
      have hv1 := rVar_pos s r1 hB.1
      have cV := l15Var_any s r1 C W2 hc2 hs hB.1
      obtain ⟨vr, hvr⟩ : ∃ t, rVar s r1 = t := ⟨_, rfl⟩
      obtain ⟨n, r2⟩ := vr
      rw [hvr] at cV HV hv1
      have c0 := box_at hX1 0 _ rfl
      clear hvr hk1
      go_wp2_with fail
      refine cV.mono ?_
      rintro e w3 ⟨rfl, hc3, hg3⟩
      have hX3 := box_grown hX1 hg3 hXC
      have hR3 := box_grown hR2 hg3 (Ne.symm hCR)
      have hg33 := hg2.trans hg3
      have cT := l15Take_any s r2 n C w3 hc3 hs hv1.1 hv1.2.2
      obtain ⟨tr, htr⟩ : ∃ t, rTake s r2 n = t := ⟨_, rfl⟩
      obtain ⟨T, r3⟩ := tr
      try simp only at HV
      rw [htr] at cT HV
      clear hX1 hR2 hc2 hg2 hg3 c0 htr cV
      go_wp2_with fail
      refine cT.mono ?_
      rintro e w4 ⟨rfl, hc4, hg4⟩
      have hX4 := box_grown hX3 hg4 hXC
      have hR4 := box_grown hR3 hg4 (Ne.symm hCR)
      have hg44 := hg33.trans hg4
      have d0 := box_at hX4 0 _ rfl
      have d2 := box_at hX4 2 _ rfl
      have d3 := frozen_of_row _ _ 2 _ _ hX4
      have hX5 := heap_setCell_same w4 X 2 _ 40 (.string T) hX4
      have hR5 := (heap_setCell_other w4 ⟨X, 2, none⟩ R (.string T) (by show R ≠ X; omega)).trans hR4
      have hc5 := cur_put (o := 2) (v := .string T) hc4 hCX
      have hg5 := grown_put (X := X) (o := 2) (v := .string T) hg44 (by omega)
      obtain ⟨W5, hW5⟩ : ∃ W, w4.setCell ⟨X, 2, none⟩ (.string T) = W := ⟨_, rfl⟩
      rw [hW5] at hX5 hR5 hc5 hg5
      have HW5 : Hid (_ = W5) := hW5
      clear hX3 hR3 hc3 hg33 hg4 cT hX4 hR4 hc4 hg44 hW5
      go_upto_region 10 with fail
      rw [HW5.out]
      clear d0 d2 d3
      have c0 := box_at hX5 0 _ rfl
      have c1 := box_at hX5 1 _ rfl
      have c2 := box_at hX5 2 _ rfl
      have z0 := box_at hR5 0 _ rfl
      have z1 := box_at hR5 1 _ rfl
      have z2 := box_at hR5 2 _ rfl
      have y0 := frozen_of_row _ _ 0 _ _ hR5
      have y1 := frozen_of_row _ _ 1 _ _ hR5
      have y2 := frozen_of_row _ _ 2 _ _ hR5
      have HP : Hid _ := three_put (a := .int .i64 2) (b := .int .u64 0) (c := .string T) hR5
      have HCf : Hid _ := cur_put (o := 2) (v := .string T) (cur_put (o := 1) (v := .int .u64 0) (cur_put (o := 0) (v := .int .i64 2) hc5 hCR) hCR) hCR
      have HGf : Hid _ := grown_put (X := R) (o := 2) (v := .string T) (grown_put (X := R) (o := 1) (v := .int .u64 0) (grown_put (X := R) (o := 0) (v := .int .i64 2) hg5 (by omega)) (by omega)) (by omega)
      have n1 : X ≠ R := by omega
      have n2 : R ≠ X := by omega
      clear hX5 hR5 hc5 hg5
      go_wp2
      have e0 := box_at HP.out 0 _ rfl
      have e1 := box_at HP.out 1 _ rfl
      have e2 := box_at HP.out 2 _ rfl
      refine bodyPost_ret (v := .agg #[.int .i64 2, .int .u64 0, .string T]) (by simp [results, Try.results12, go_sem, e0, e1, e2]) rfl ⟨?_, ?_, HGf.out⟩
      · first | (rw [HV.out]; done) | (rw [HV.out]; rfl)
      · rw [HV.out]
        exact HCf.out
    · have HV : Hid (rConst s r = (⟨k, 0, ⟨#[]⟩⟩, r1)) := rConst_none hk1 q1 q2
      clear hk1
      have c0 := box_at hX1 0 _ rfl
      have c1 := box_at hX1 1 _ rfl
      have c2 := box_at hX1 2 _ rfl
      have z0 := box_at hR2 0 _ rfl
      have z1 := box_at hR2 1 _ rfl
      have z2 := box_at hR2 2 _ rfl
      have y0 := frozen_of_row _ _ 0 _ _ hR2
      have y1 := frozen_of_row _ _ 1 _ _ hR2
      have y2 := frozen_of_row _ _ 2 _ _ hR2
      have HP : Hid _ := three_put (a := .int .i64 k) (b := .int .u64 0) (c := .string ⟨#[]⟩) hR2
      have HCf : Hid _ := cur_put (o := 2) (v := .string ⟨#[]⟩) (cur_put (o := 1) (v := .int .u64 0) (cur_put (o := 0) (v := .int .i64 k) hc2 hCR) hCR) hCR
      have HGf : Hid _ := grown_put (X := R) (o := 2) (v := .string ⟨#[]⟩) (grown_put (X := R) (o := 1) (v := .int .u64 0) (grown_put (X := R) (o := 0) (v := .int .i64 k) hg2 (by omega)) (by omega)) (by omega)
      have n1 : X ≠ R := by omega
      have n2 : R ≠ X := by omega
      clear hX1 hR2 hc2 hg2
      go_wp2
      have e0 := box_at HP.out 0 _ rfl
      have e1 := box_at HP.out 1 _ rfl
      have e2 := box_at HP.out 2 _ rfl
      refine bodyPost_ret (v := .agg #[.int .i64 k, .int .u64 0, .string ⟨#[]⟩]) (by simp [results, Try.results12, go_sem, e0, e1, e2]) rfl ⟨?_, ?_, HGf.out⟩
      · first | (rw [HV.out]; done) | (rw [HV.out]; rfl)
      · rw [HV.out]
        exact HCf.out
end Go.Proofs.Ytedhfdgcofboeaa
namespace Go.Proofs.Ytedhfdgcofboeaa
open Go.RowKit
set_option linter.unusedVariables false
theorem info_in {P : Program} {t : TypeId} {z : Value} {n b : Nat} (h : (P.info? t).map (fun i => (i.zero, i.size, i.bytes)) = some (some z, n, b)) : ∃ i, P.info? t = some i ∧ i.zero = some z ∧ i.size = n ∧ i.bytes = b := by
  cases hi : P.info? t with
  | none => rw [hi] at h; cases h
  | some i =>
    rw [hi] at h
    simp only [Option.map_some, Option.some.injEq, Prod.mk.injEq] at h
    exact ⟨i, rfl, h.1, h.2.1, h.2.2⟩
theorem row_keep {w w' : World} {B : Nat} {e : TypeId} {size : Nat} {v : Value} {n : Nat} {xs : List Value} (h : w.ownsRow B e size v n xs) (hb : Below w.heap.size w w') : w'.ownsRow B e size v n xs :=
  h.kept (row := none) ⟨hb.os, hb.tape, hb.output, hb.size, fun k hk _ => hb.block k hk⟩ (by cases h2 : v.ownBlock <;> simp)
theorem row_low {w : World} {B B' : Nat} {e : TypeId} {size : Nat} {v : Value} {n : Nat} {xs : List Value} (h : w.ownsRow B e size v n xs) (hb : B' ≤ B) : w.ownsRow B' e size v n xs := by
  obtain ⟨e1, e2⟩ := h
  refine ⟨e1, e2.imp id ?_⟩
  rintro ⟨g, cap, cur, h1, h2, h3⟩
  exact ⟨g, cap, cur, h1, Nat.le_trans hb h2, h3⟩
theorem row_slice {w : World} {B : Nat} {e : TypeId} {size : Nat} {v : Value} {n : Nat} {xs : List Value} (h : w.ownsRow B e size v n xs) : ∃ x c, v = .slice x n c := by
  obtain ⟨_, ⟨rfl, rfl⟩ | ⟨g, cap, cur, rfl, _⟩⟩ := h
  · exact ⟨_, _, rfl⟩
  · exact ⟨_, _, rfl⟩
theorem row_cell {w : World} {H : Nat} {e : TypeId} {size g n c : Nat} {xs : List Value} (h : w.ownsRow H e size (.slice (some ⟨g, 0, none⟩) n c) n xs) (j : Nat) (hj : j < n * size) : (∃ u, w.cell? ⟨g, j, none⟩ = some u) ∧ w.frozen? ⟨g, j, none⟩ = false :=
  ⟨⟨_, (h.cellAt j hj).trans (List.getElem?_eq_getElem (by rw [h.1]; exact hj))⟩, h.frozenAt j⟩
theorem Try.infoIns13 : (Try.prog.info? 75).map (fun i => (i.zero, i.size, i.bytes)) = some (some (.agg #[.int .i64 0, .int .i64 0, .int .i64 0]), 3, 24) := by kernel_rfl
theorem Try.infoCap13 : (Try.prog.info? 73).map (fun i => (i.zero, i.size, i.bytes)) = some (some (.agg #[.bool false, .int .i64 0]), 2, 16) := by kernel_rfl
theorem Try.infoHandler13 : (Try.prog.info? 77).map (fun i => (i.zero, i.size, i.bytes)) = some (some (.agg #[.int .i64 0, .int .i64 0, .int .i64 0]), 3, 24) := by kernel_rfl
theorem Try.infoConst13 : (Try.prog.info? 40).map (fun i => (i.zero, i.size, i.bytes)) = some (some (.agg #[.int .i64 0, .int .u64 0, .string ByteArray.empty]), 3, 32) := by kernel_rfl
end Go.Proofs.Ytedhfdgcofboeaa
namespace Go.Proofs.Ytedhfdgcofboeaa
open Go.RowKit
set_option linter.unusedVariables false
theorem cells_five {w : World} {g : Nat} {a0 a1 a2 a3 a4 : Value} {t : TypeId} {r : Nat × Nat} (h : w.heap[g]? = some (.cells #[a0, a1, a2, a3, a4] t r)) :
    w.cell? ⟨g, 0, none⟩ = some a0 ∧ w.cell? ⟨g, 1, none⟩ = some a1 ∧ w.cell? ⟨g, 2, none⟩ = some a2 ∧ w.cell? ⟨g, 3, none⟩ = some a3 ∧ w.cell? ⟨g, 4, none⟩ = some a4 := by
  refine ⟨?_, ?_, ?_, ?_, ?_⟩ <;> (rw [cell_of_row _ _ _ _ _ _ h]; rfl)
theorem five_put {w : World} {g : Nat} {a0 a1 a2 a3 a4 b0 b1 b2 b3 b4 : Value} {t : TypeId} (h : w.heap[g]? = some (.cells #[a0, a1, a2, a3, a4] t)) :
    (((((w.setCell ⟨g, 0, none⟩ b0).setCell ⟨g, 1, none⟩ b1).setCell ⟨g, 2, none⟩ b2).setCell ⟨g, 3, none⟩ b3).setCell ⟨g, 4, none⟩ b4).heap[g]? = some (.cells #[b0, b1, b2, b3, b4] t) := by
  have k0 : (w.setCell ⟨g, 0, none⟩ b0).heap[g]? = some (.cells #[b0, a1, a2, a3, a4] t) := heap_setCell_same _ _ _ _ _ _ h
  have k1 := heap_setCell_same _ _ 1 _ _ b1 k0
  have k2 : _ = some (Obj.cells #[b0, b1, b2, a3, a4] t) := heap_setCell_same _ _ 2 _ _ b2 k1
  have k3 := heap_setCell_same _ _ 3 _ _ b3 k2
  exact heap_setCell_same _ _ 4 _ _ b4 k3
end Go.Proofs.Ytedhfdgcofboeaa
namespace Go.Proofs.Ytedhfdgcofboeaa
open Go.RowKit
set_option linter.unusedVariables false
theorem Try.infoFunc13 : (Try.prog.info? 46).map (fun i => (i.zero, i.size, i.bytes)) = some (some (.agg #[.int .i64 0, .int .i64 0, .slice none 0 0, .slice none 0 0, .slice none 0 0]), 5, 88) := by kernel_rfl
def FunIn (w : World) (B : Nat) (xs : List Value) (q : Nat) (p : PFun) : Prop := ∃ cv kv hv, (∀ c u, (funC p cv kv hv)[c]? = some u → xs[q * 5 + c]? = some u) ∧ w.ownsRow B 73 2 cv p.caps.length (p.caps.flatMap capC) ∧ w.ownsRow B 75 3 kv p.code.length (p.code.flatMap insC) ∧ w.ownsRow B 77 3 hv p.hnds.length (p.hnds.flatMap hndC)
def FunsIn (w : World) (B : Nat) (v : Value) (l : List PFun) : Prop := ∃ xs, w.ownsRow B 46 5 v l.length xs ∧ ∀ q p, l[q]? = some p → FunIn w B xs q p
theorem FunIn.below {w w' : World} {B : Nat} {xs : List Value} {q : Nat} {p : PFun} (h : FunIn w B xs q p) (hb : Below w.heap.size w w') : FunIn w' B xs q p := by
  obtain ⟨cv, kv, hv, h1, h2, h3, h4⟩ := h
  exact ⟨cv, kv, hv, h1, row_keep h2 hb, row_keep h3 hb, row_keep h4 hb⟩
theorem FunsIn.arg {w : World} {B : Nat} {v : Value} {l : List PFun} (h : FunsIn w B v l) : ArgFuns w v l := by
  obtain ⟨xs, h1, h2⟩ := h
  obtain ⟨x, c, e, hm, hl, hc⟩ := ArgFlat.of_own h1
  refine ⟨x, c, e, hm, fun h0 => ?_⟩
  obtain ⟨b, o, e1, hb, hcell⟩ := hc h0
  refine ⟨b, o, e1, hb, fun j p hj => ?_⟩
  obtain ⟨cv, kv, hv, k1, k2, k3, k4⟩ := h2 j p hj
  have k : ∀ c u, (funC p cv kv hv)[c]? = some u → w.cell? ⟨b, o + j * 5 + c, none⟩ = some u := fun c u hu => by
    rw [Nat.add_assoc]
    exact hcell _ _ (k1 c u hu)
  exact ⟨cv, kv, hv, ArgFlat.of_own k2, ArgFlat.of_own k3, ArgFlat.of_own k4, k 0 _ rfl, k 1 _ rfl, k 2 _ rfl, k 3 _ rfl, k 4 _ rfl⟩
end Go.Proofs.Ytedhfdgcofboeaa
namespace Go.Proofs.Ytedhfdgcofboeaa
open Go.RowKit Go.Sort
set_option linter.unusedVariables false
theorem row_apart {w : World} {B k n X : Nat} {e T : TypeId} {v : Value} {xs : List Value} {cs : Array Value} {fr : Nat × Nat} (h : w.ownsRow B e k v n xs) (hX : w.heap[X]? = some (.cells cs T fr)) (hT : T ≠ e) : v.ownBlock ≠ some X := by
  rcases h.2 with ⟨rfl, _⟩ | ⟨g, cap, cur, rfl, _, hg, _⟩
  · simp [Value.ownBlock]
  · intro e1
    simp [Value.ownBlock] at e1
    subst e1
    rw [hg] at hX
    injection hX with hX
    injection hX with _ h2 _
    exact hT h2.symm
theorem row_apart' {w : World} {B k n : Nat} {e : TypeId} {v : Value} {xs : List Value} (h : w.ownsRow B e k v n xs) : v.ownBlock ≠ some w.heap.size := by
  rcases h.2 with ⟨rfl, _⟩ | ⟨g, cap, cur, rfl, _, hg, _⟩
  · simp [Value.ownBlock]
  · intro e1
    simp [Value.ownBlock] at e1
    have := box_lt hg
    omega
theorem row_grown {w w' : World} {B k n C : Nat} {e : TypeId} {v : Value} {xs : List Value} (h : w.ownsRow B e k v n xs) (hg : w.grownBy w' (some C)) (hC : C < B) : w'.ownsRow B e k v n xs := h.kept hg (by
  rcases h.2 with ⟨rfl, _⟩ | ⟨g, cap, cur, rfl, hb, _⟩
  · exact .inl rfl
  · refine .inr ?_
    intro e1
    simp [Value.ownBlock] at e1
    omega)
theorem row_put15 {w : World} {B k n X o : Nat} {e : TypeId} {v u : Value} {xs : List Value} (h : w.ownsRow B e k v n xs) (hX : v.ownBlock ≠ some X) : (w.setCell ⟨X, o, none⟩ u).ownsRow B e k v n xs :=
  h.kept (row := some X) ⟨rfl, rfl, rfl, by simp [World.setCell], fun i _ hne => heap_setCell_other w ⟨X, o, none⟩ i u (fun e => hne (by show some i = some X; rw [show i = X from e]))⟩ (.inr hX)
theorem append_elem {P : Program} {w : World} {ops : Array Oper} {rest : List Oper} {o : Oper} {a : Act} {Q : Exit → Act → World → Prop} (hgd : o.guard = none) (s x : Operand) (t : TypeId)
    (ho : o.op = .call { callee := .builtin .append, args := #[s, x], argTypes := #[t, t] })
    (base : Nat) (e : TypeId) (i : TypeInfo) (z : Value) (size bytes : Nat) (ht : P.underlying t = some (.slice e)) (hi : P.info? e = some i) (hz : i.zero = some z)
    (hsize : i.size = size) (hby : i.bytes = bytes) (hzs : z.cells.size = size) (hsz : 0 < size) (hb64 : bytes ≤ 128)
    (v : Value) (n : Nat) (xs : List Value) (hs : a.eval s = v) (hown : w.ownsRow base e size v n xs)
    (cs : Array Value) (hcs : cs.toList.length = size) (h1 : ∀ u ∈ cs.toList, u.oneCell' = true) (hx : a.eval x = .slice (some ⟨w.heap.size, 0, none⟩) 1 1)
    (hn : n < 1000000000) (hbase : base ≤ w.heap.size)
    (h : ∀ v' w', w'.ownsRow base e size v' (n + 1) (xs ++ cs.toList) → (w.alloc (.cells cs e)).grownBy w' v.ownBlock → (v'.ownBlock = v.ownBlock ∨ v'.ownBlock = some (w.heap.size + 1)) → wpList P ops Q rest (a.put o.dst v') w') :
    wpList P ops Q (o :: rest) a (w.alloc (.cells cs e)) := by
  have hal : (w.alloc (.cells cs e)).heap.size = w.heap.size + 1 := by simp
  have hbn : (n + 1) * bytes ≤ 1000000000 * 128 := Nat.mul_le_mul (by omega) hb64
  refine wpList_append_own_at (w.alloc (.cells cs e)) hgd s x t ho base e i z size bytes ht hi hz hsize hby hzs hsz v n xs hs (hown.alloc _) ⟨w.heap.size, 0, none⟩ 1 1 cs.toList hx (by rw [hcs, Nat.one_mul]) (fun j u hj => ?_) h1 (by unfold maxLen; omega) (by omega) (by rw [hal]; omega) (fun v' w' k1 k2 _ k4 => h v' w' k1 k2 (by rw [hal] at k4; exact k4))
  have hadd : (⟨w.heap.size, 0, none⟩ : Addr).add j = ⟨w.heap.size, j, none⟩ := by unfold Addr.add; split <;> simp_all
  rw [hadd, cell_of_row _ _ j _ _ _ (heap_alloc_new w (.cells cs e))]
  simpa using hj
structure FRd (w0 : World) (C X R : Nat) (s : ByteArray) (w : World) (st : RS) (p g : Int) (cv kv hv : Value) (lc : List PCap) (lk : List PIns) (lh : List PHnd) : Prop where
  cur : CurAt w C s st
  box : w.heap[X]? = some (.cells #[.int .i64 p, .int .i64 g, cv, kv, hv] 46 (0, 0))
  res : w.heap[R]? = some (.cells #[.int .i64 0, .int .i64 0, .slice none 0 0, .slice none 0 0, .slice none 0 0] 46 (0, 0))
  rc : w.ownsRow w0.heap.size 73 2 cv lc.length (lc.flatMap capC)
  rk : w.ownsRow w0.heap.size 75 3 kv lk.length (lk.flatMap insC)
  rh : w.ownsRow w0.heap.size 77 3 hv lh.length (lh.flatMap hndC)
  gr : w0.grownBy w (some C)
  lo : C < w0.heap.size ∧ w0.heap.size ≤ R ∧ R < X
variable {w0 w w' : World} {C X R : Nat} {s : ByteArray} {st st' : RS} {p g : Int} {cv kv hv : Value} {lc : List PCap} {lk : List PIns} {lh : List PHnd}
theorem FRd.call (h : FRd w0 C X R s w st p g cv kv hv lc lk lh) (hc : CurAt w' C s st') (hg : w.grownBy w' (some C)) : FRd w0 C X R s w' st' p g cv kv hv lc lk lh := by
  have hl := h.lo
  exact ⟨hc, box_grown h.box hg (by omega), box_grown h.res hg (by omega), row_grown h.rc hg hl.1, row_grown h.rk hg hl.1, row_grown h.rh hg hl.1, h.gr.trans hg, hl⟩
theorem FRd.below (h : FRd w0 C X R s w st p g cv kv hv lc lk lh) (hb : Below w.heap.size w w') : FRd w0 C X R s w' st p g cv kv hv lc lk lh := h.call (h.cur.below hb) (grown_lo hb)
theorem FRd.alloc (h : FRd w0 C X R s w st p g cv kv hv lc lk lh) (o : Obj) : FRd w0 C X R s (w.alloc o) st p g cv kv hv lc lk lh := h.below ((Below.refl _ _).alloc (Nat.le_refl _) o)
theorem FRd.apc (h : FRd w0 C X R s w st p g cv kv hv lc lk lh) : cv.ownBlock ≠ some X ∧ cv.ownBlock ≠ some R := ⟨row_apart h.rc h.box (by decide), row_apart h.rc h.res (by decide)⟩
theorem FRd.apk (h : FRd w0 C X R s w st p g cv kv hv lc lk lh) : kv.ownBlock ≠ some X ∧ kv.ownBlock ≠ some R := ⟨row_apart h.rk h.box (by decide), row_apart h.rk h.res (by decide)⟩
theorem FRd.aph (h : FRd w0 C X R s w st p g cv kv hv lc lk lh) : hv.ownBlock ≠ some X ∧ hv.ownBlock ≠ some R := ⟨row_apart h.rh h.box (by decide), row_apart h.rh h.res (by decide)⟩
theorem FRd.other (h : FRd w0 C X R s w st p g cv kv hv lc lk lh) {E o : Nat} {u : Value} (hE : w0.heap.size ≤ E) (hX : X ≠ E) (hR : R ≠ E) (hc : cv.ownBlock ≠ some E) (hk : kv.ownBlock ≠ some E) (hh : hv.ownBlock ≠ some E) : FRd w0 C X R s (w.setCell ⟨E, o, none⟩ u) st p g cv kv hv lc lk lh := by
  have hl := h.lo
  exact ⟨cur_put h.cur (by omega), (heap_setCell_other w ⟨E, o, none⟩ X u hX).trans h.box, (heap_setCell_other w ⟨E, o, none⟩ R u hR).trans h.res, row_put15 h.rc hc, row_put15 h.rk hk, row_put15 h.rh hh, grown_put h.gr hE, hl⟩
theorem FRd.setP (h : FRd w0 C X R s w st p g cv kv hv lc lk lh) (n : Int) : FRd w0 C X R s (w.setCell ⟨X, 0, none⟩ (.int .i64 n)) st n g cv kv hv lc lk lh := by
  have hl := h.lo
  exact ⟨cur_put h.cur (by omega), heap_setCell_same _ _ _ _ _ _ h.box, (heap_setCell_other w ⟨X, 0, none⟩ R _ (by show R ≠ X; omega)).trans h.res, row_put15 h.rc h.apc.1, row_put15 h.rk h.apk.1, row_put15 h.rh h.aph.1, grown_put h.gr (by omega), hl⟩
theorem FRd.setG (h : FRd w0 C X R s w st p g cv kv hv lc lk lh) (n : Int) : FRd w0 C X R s (w.setCell ⟨X, 1, none⟩ (.int .i64 n)) st p n cv kv hv lc lk lh := by
  have hl := h.lo
  exact ⟨cur_put h.cur (by omega), heap_setCell_same _ _ _ _ _ _ h.box, (heap_setCell_other w ⟨X, 1, none⟩ R _ (by show R ≠ X; omega)).trans h.res, row_put15 h.rc h.apc.1, row_put15 h.rk h.apk.1, row_put15 h.rh h.aph.1, grown_put h.gr (by omega), hl⟩
theorem own_type {w : World} {B k n : Nat} {e : TypeId} {v : Value} {xs : List Value} (h : w.ownsRow B e k v n xs) {G : Nat} (hG : v.ownBlock = some G) : B ≤ G ∧ ∃ cs fr, w.heap[G]? = some (.cells cs e fr) := by
  rcases h.2 with ⟨rfl, _⟩ | ⟨g, cap, cur, rfl, hb, hg, _⟩
  · simp [Value.ownBlock] at hG
  · simp [Value.ownBlock] at hG
    subst hG
    exact ⟨hb, _, _, hg⟩
theorem FRd.row {e : TypeId} {v : Value} {k n : Nat} {xs : List Value} (h : FRd w0 C X R s w st p g cv kv hv lc lk lh) (hv0 : w.ownsRow w0.heap.size e k v n xs) (he : e ≠ 46) (hg : w.grownBy w' v.ownBlock) :
    CurAt w' C s st ∧ w'.heap[X]? = some (.cells #[.int .i64 p, .int .i64 g, cv, kv, hv] 46 (0, 0)) ∧ w'.heap[R]? = some (.cells #[.int .i64 0, .int .i64 0, .slice none 0 0, .slice none 0 0, .slice none 0 0] 46 (0, 0)) ∧ w0.grownBy w' (some C) ∧ (e ≠ 73 → w'.ownsRow w0.heap.size 73 2 cv lc.length (lc.flatMap capC)) ∧ (e ≠ 75 → w'.ownsRow w0.heap.size 75 3 kv lk.length (lk.flatMap insC)) ∧ (e ≠ 77 → w'.ownsRow w0.heap.size 77 3 hv lh.length (lh.flatMap hndC)) := by
  have hl := h.lo
  have nX : some X ≠ v.ownBlock := fun e1 => row_apart hv0 h.box (Ne.symm he) e1.symm
  have nR : some R ≠ v.ownBlock := fun e1 => row_apart hv0 h.res (Ne.symm he) e1.symm
  have nC : some C ≠ v.ownBlock := fun e1 => by have := (own_type hv0 e1.symm).1; omega
  have keepRow : ∀ {e2 : TypeId} {k2 n2 : Nat} {v2 : Value} {xs2 : List Value}, w.ownsRow w0.heap.size e2 k2 v2 n2 xs2 → e ≠ e2 → w'.ownsRow w0.heap.size e2 k2 v2 n2 xs2 := fun {e2 k2 n2 v2 xs2} h2 hne => h2.kept hg (by
    cases hb : v2.ownBlock with
    | none => exact .inl rfl
    | some G =>
      refine .inr fun e1 => ?_
      obtain ⟨_, cs, fr, hG⟩ := own_type h2 hb
      exact row_apart hv0 hG (Ne.symm hne) e1.symm)
  refine ⟨(hg.block C h.cur.lt nC).trans h.cur, (hg.block X (box_lt h.box) nX).trans h.box, (hg.block R (box_lt h.res) nR).trans h.res, ?_, keepRow h.rc, keepRow h.rk, keepRow h.rh⟩
  refine ⟨hg.os.trans h.gr.os, hg.tape.trans h.gr.tape, hg.output.trans h.gr.output, Nat.le_trans h.gr.size hg.size, fun i hi hne => (hg.block i (Nat.lt_of_lt_of_le hi h.gr.size) (fun e1 => ?_)).trans (h.gr.block i hi hne)⟩
  have := (own_type hv0 e1.symm).1
  omega
theorem FRd.addC {v' : Value} (h : FRd w0 C X R s w st p g cv kv hv lc lk lh) (hg : w.grownBy w' cv.ownBlock) (c : PCap) (ho : w'.ownsRow w0.heap.size 73 2 v' (lc.length + 1) (lc.flatMap capC ++ capC c)) :
    w'.heap[X]? = some (.cells #[.int .i64 p, .int .i64 g, cv, kv, hv] 46 (0, 0)) ∧ FRd w0 C X R s (w'.setCell ⟨X, 2, none⟩ v') st p g v' kv hv (lc ++ [c]) lk lh := by
  have hl := h.lo
  have r := h.row h.rc (by decide) hg
  have hvX : v'.ownBlock ≠ some X := row_apart ho r.2.1 (by decide)
  exact ⟨r.2.1, cur_put r.1 (by omega), heap_setCell_same _ _ _ _ _ _ r.2.1, (heap_setCell_other w' ⟨X, 2, none⟩ R _ (by show R ≠ X; omega)).trans r.2.2.1, row_put15 (by rw [List.length_append, List.flatMap_append]; simpa using ho) hvX, row_put15 (r.2.2.2.2.2.1 (by decide)) (row_apart (r.2.2.2.2.2.1 (by decide)) r.2.1 (by decide)), row_put15 (r.2.2.2.2.2.2 (by decide)) (row_apart (r.2.2.2.2.2.2 (by decide)) r.2.1 (by decide)), grown_put r.2.2.2.1 (by omega), hl⟩
theorem FRd.addK {v' : Value} (h : FRd w0 C X R s w st p g cv kv hv lc lk lh) (hg : w.grownBy w' kv.ownBlock) (c : PIns) (ho : w'.ownsRow w0.heap.size 75 3 v' (lk.length + 1) (lk.flatMap insC ++ insC c)) :
    w'.heap[X]? = some (.cells #[.int .i64 p, .int .i64 g, cv, kv, hv] 46 (0, 0)) ∧ FRd w0 C X R s (w'.setCell ⟨X, 3, none⟩ v') st p g cv v' hv lc (lk ++ [c]) lh := by
  have hl := h.lo
  have r := h.row h.rk (by decide) hg
  have hvX : v'.ownBlock ≠ some X := row_apart ho r.2.1 (by decide)
  exact ⟨r.2.1, cur_put r.1 (by omega), heap_setCell_same _ _ _ _ _ _ r.2.1, (heap_setCell_other w' ⟨X, 3, none⟩ R _ (by show R ≠ X; omega)).trans r.2.2.1, row_put15 (r.2.2.2.2.1 (by decide)) (row_apart (r.2.2.2.2.1 (by decide)) r.2.1 (by decide)), row_put15 (by rw [List.length_append, List.flatMap_append]; simpa using ho) hvX, row_put15 (r.2.2.2.2.2.2 (by decide)) (row_apart (r.2.2.2.2.2.2 (by decide)) r.2.1 (by decide)), grown_put r.2.2.2.1 (by omega), hl⟩
theorem FRd.addH {v' : Value} (h : FRd w0 C X R s w st p g cv kv hv lc lk lh) (hg : w.grownBy w' hv.ownBlock) (c : PHnd) (ho : w'.ownsRow w0.heap.size 77 3 v' (lh.length + 1) (lh.flatMap hndC ++ hndC c)) :
    w'.heap[X]? = some (.cells #[.int .i64 p, .int .i64 g, cv, kv, hv] 46 (0, 0)) ∧ FRd w0 C X R s (w'.setCell ⟨X, 4, none⟩ v') st p g cv kv v' lc lk (lh ++ [c]) := by
  have hl := h.lo
  have r := h.row h.rh (by decide) hg
  have hvX : v'.ownBlock ≠ some X := row_apart ho r.2.1 (by decide)
  exact ⟨r.2.1, cur_put r.1 (by omega), heap_setCell_same _ _ _ _ _ _ r.2.1, (heap_setCell_other w' ⟨X, 4, none⟩ R _ (by show R ≠ X; omega)).trans r.2.2.1, row_put15 (r.2.2.2.2.1 (by decide)) (row_apart (r.2.2.2.2.1 (by decide)) r.2.1 (by decide)), row_put15 (r.2.2.2.2.2.1 (by decide)) (row_apart (r.2.2.2.2.2.1 (by decide)) r.2.1 (by decide)), row_put15 (by rw [List.length_append, List.flatMap_append]; simpa using ho) hvX, grown_put r.2.2.2.1 (by omega), hl⟩
theorem FRd.ends (h : FRd w0 C X R s w st p g cv kv hv lc lk lh) (a b c d e : Value) : (((((w.setCell ⟨R, 0, none⟩ a).setCell ⟨R, 1, none⟩ b).setCell ⟨R, 2, none⟩ c).setCell ⟨R, 3, none⟩ d).setCell ⟨R, 4, none⟩ e).heap[R]? = some (.cells #[a, b, c, d, e] 46 (0, 0)) ∧ CurAt (((((w.setCell ⟨R, 0, none⟩ a).setCell ⟨R, 1, none⟩ b).setCell ⟨R, 2, none⟩ c).setCell ⟨R, 3, none⟩ d).setCell ⟨R, 4, none⟩ e) C s st ∧ w0.grownBy (((((w.setCell ⟨R, 0, none⟩ a).setCell ⟨R, 1, none⟩ b).setCell ⟨R, 2, none⟩ c).setCell ⟨R, 3, none⟩ d).setCell ⟨R, 4, none⟩ e) (some C) ∧ (((((w.setCell ⟨R, 0, none⟩ a).setCell ⟨R, 1, none⟩ b).setCell ⟨R, 2, none⟩ c).setCell ⟨R, 3, none⟩ d).setCell ⟨R, 4, none⟩ e).ownsRow w0.heap.size 73 2 cv lc.length (lc.flatMap capC) ∧ (((((w.setCell ⟨R, 0, none⟩ a).setCell ⟨R, 1, none⟩ b).setCell ⟨R, 2, none⟩ c).setCell ⟨R, 3, none⟩ d).setCell ⟨R, 4, none⟩ e).ownsRow w0.heap.size 75 3 kv lk.length (lk.flatMap insC) ∧ (((((w.setCell ⟨R, 0, none⟩ a).setCell ⟨R, 1, none⟩ b).setCell ⟨R, 2, none⟩ c).setCell ⟨R, 3, none⟩ d).setCell ⟨R, 4, none⟩ e).ownsRow w0.heap.size 77 3 hv lh.length (lh.flatMap hndC) := by
  have hl := h.lo
  exact ⟨five_put h.res, cur_put (cur_put (cur_put (cur_put (cur_put (h.cur) (by omega)) (by omega)) (by omega)) (by omega)) (by omega), grown_put (grown_put (grown_put (grown_put (grown_put (h.gr) (by omega)) (by omega)) (by omega)) (by omega)) (by omega), row_put15 (row_put15 (row_put15 (row_put15 (row_put15 (h.rc) h.apc.2) h.apc.2) h.apc.2) h.apc.2) h.apc.2, row_put15 (row_put15 (row_put15 (row_put15 (row_put15 (h.rk) h.apk.2) h.apk.2) h.apk.2) h.apk.2) h.apk.2, row_put15 (row_put15 (row_put15 (row_put15 (row_put15 (h.rh) h.aph.2) h.aph.2) h.aph.2) h.aph.2) h.aph.2⟩
end Go.Proofs.Ytedhfdgcofboeaa
