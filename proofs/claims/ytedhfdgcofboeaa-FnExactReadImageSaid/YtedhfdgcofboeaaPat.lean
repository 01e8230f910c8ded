/-
  Part 20 of what is proved of drawn right trees.
-/
import Derived.Test.YtedhfdgcofboeaaPap
import Derived.Test.YtedhfdgcofboeaaPah
import Derived.Test.YtedhfdgcofboeaaPaq
import Derived.Test.YtedhfdgcofboeaaPas

namespace Go.Proofs.Ytedhfdgcofboeaa
open Go.RowKit Go.Sort
set_option linter.unusedVariables false
theorem iUnsealed_v (t : ByteArray) (w : World) (ht : t.size ≤ 1048576) : Calls Try.prog 16 #[.string t] w fun e w' => e = .returned (.tuple #[.string (unsS t), .bool (unsB t)]) ∧ Below w.heap.size w w' := by
  by_cases h : t.size < 4 ∨ 12004 < t.size
  · have hb : unsB t = false := by
      unfold unsB
      rcases h with h | h
      · rw [decide_eq_false (by omega)]; rfl
      · rw [decide_eq_false (p := t.size ≤ 12004) (by omega)]; simp
    unfold unsS
    rw [hb]
    exact iUnsealed_out t w h (by omega)
  · have h1 : 4 ≤ t.size := by omega
    have h2 : t.size ≤ 12004 := by omega
    have hs := iUnsealed_in t w h1 h2
    have hb : unsB t = sealOk t := by unfold unsB; rw [decide_eq_true h1, decide_eq_true h2]; simp
    unfold unsS
    rw [hb]
    cases hk : sealOk t with
    | true => rw [unsealedV_yes hk] at hs; exact hs
    | false => rw [unsealedV_no hk] at hs; exact hs
theorem mark_of (l : List UInt8) : Lib.hasPrefix l [83, 67, 49] = (decide (3 ≤ l.length) && decide (ints ((l.drop 0).take (3 - 0)) = [83, 67, 49])) := by
  unfold Lib.hasPrefix ints
  match l with
  | [] => rfl
  | [a] => simp [List.isPrefixOf]
  | [a, b] => simp [List.isPrefixOf]
  | a :: b :: c :: r =>
    have e : ∀ (x : UInt8) (n : Nat), n < 256 → ((UInt8.ofNat n == x) = decide ((x.toNat : Int) = (n : Int))) := fun x n hn => by
      rw [Bool.eq_iff_iff, beq_iff_eq, decide_eq_true_eq]
      constructor
      · intro h
        rw [← h]
        simp
        omega
      · intro h
        have h2 : x.toNat = n := by omega
        rw [← h2]
        simp
    have e1 := e a 83 (by decide)
    have e2 := e b 67 (by decide)
    have e3 := e c 49 (by decide)
    simp only [List.isPrefixOf, List.drop_zero, List.take_succ_cons, List.take_zero, List.map_cons, List.map_nil, List.length_cons, Nat.sub_zero]
    rw [show (83 : UInt8) = UInt8.ofNat 83 from rfl, show (67 : UInt8) = UInt8.ofNat 67 from rfl, show (49 : UInt8) = UInt8.ofNat 49 from rfl, e1, e2, e3]
    rw [Bool.eq_iff_iff]
    simp only [Bool.and_eq_true, decide_eq_true_eq, List.cons.injEq, and_true]
    constructor
    · intro h
      exact ⟨by omega, h.1, h.2.1, h.2.2⟩
    · intro h
      exact ⟨h.2.1, h.2.2.1, h.2.2.2⟩
theorem mark_is (s : ByteArray) : Lib.hasPrefix s.data.toList (⟨#[83, 67, 49]⟩ : ByteArray).data.toList = markB s := by
  have h := mark_of s.data.toList
  unfold markB sl
  rw [Lib.size_eq]
  exact h
theorem mark_size {s : ByteArray} (h : markB s = true) : 3 ≤ s.size := by
  unfold markB at h
  simp only [Bool.and_eq_true, decide_eq_true_eq] at h
  exact h.1
theorem img_none (w : World) (B : Nat) : ImgOwn w B (.slice none 0 0) (.slice none 0 0) ⟨[], []⟩ [] :=
  ⟨rfl, fun q1 q2 f1 f2 h => by simp at h, World.ownsRow_nil _ _ _ _, [], World.ownsRow_nil _ _ _ _, fun q f r h => by simp at h⟩
theorem FunsOwn.low {w : World} {B B' : Nat} {v : Value} {l : List PFun} {fs : List FSh} {xs : List Value} (h : FunsOwn w B v l fs xs) (hB : B' ≤ B) : FunsOwn w B' v l fs xs :=
  ⟨h.len, h.ap, row_low h.row hB, fun q f r hq hr => by
    obtain ⟨a, b, c, d, e1, e2, e3⟩ := h.each q f r hq hr
    exact ⟨a, b, c, d, row_low e1 hB, row_low e2 hB, row_low e3 hB⟩⟩
theorem FunsOwn.img {w : World} {B : Nat} {v cv : Value} {p : PImg} {fs : List FSh} {xs : List Value} (h : FunsOwn w B v p.funcs fs xs) (hc : w.ownsRow B 40 3 cv p.consts.length (p.consts.flatMap conC)) : ImgOwn w B v cv p fs :=
  ⟨h.len, h.ap, hc, xs, h.row, h.each⟩
set_option maxHeartbeats 2000000 in
set_option maxRecDepth 100000 in
theorem iReadImage_any (t : ByteArray) (w : World) (ht : t.size ≤ 1048576) :
    Calls Try.prog 5 #[.string t] w fun e w' => ∃ fv cv fs, e = .returned (.tuple #[.agg #[fv, cv], .bool (rdB t)]) ∧ ImgOwn w' w.heap.size fv cv (rdP t) fs ∧ Below w.heap.size w w' := by
  obtain ⟨hj1, hj2⟩ := j_is ht
  have HZ : Hid (jB t = false → rdB t = false ∧ rdP t = ⟨[], []⟩) := fun h => by
    rw [← hj1, ← hj2]
    refine ⟨h, ?_⟩
    unfold jP
    rw [if_neg (by rw [h]; decide)]
  have HY : Hid (jB t = true → rdB t = true ∧ rdP t = (jImage (unsS t) ⟨3, false⟩).1) := fun h => by
    rw [← hj1, ← hj2]
    refine ⟨h, ?_⟩
    unfold jP
    rw [if_pos h]
  have HJ : Hid (jB t = (decide (t.size ≤ 12000) && (unsB t && (markB (unsS t) && (!(jImage (unsS t) ⟨3, false⟩).2.bad && (decide ((jImage (unsS t) ⟨3, false⟩).2.pos = (unsS t).size) && imgOk (jImage (unsS t) ⟨3, false⟩).1)))))) := rfl
  clear hj1 hj2
  have hb0 : Below w.heap.size w (w.alloc (.cells #[.slice none 0 0, .slice none 0 0] 25)) := (Below.refl _ _).alloc (Nat.le_refl _) _
  have hR0 := heap_alloc_new w (.cells #[.slice none 0 0, .slice none 0 0] 25)
  obtain ⟨R, hR⟩ : ∃ R, w.heap.size = R := ⟨_, rfl⟩
  have HR : Hid (w.heap.size = R) := hR
  obtain ⟨W0, hW0⟩ : ∃ W, w.alloc (.cells #[.slice none 0 0, .slice none 0 0] 25) = W := ⟨_, rfl⟩
  have HW0 : Hid (_ = W0) := hW0
  rw [hW0] at hR0 hb0
  rw [hR] at hR0
  clear hW0 hR
  by_cases hbig : 12000 < t.size
  · have hbi : (12000 : Int) < (t.size : Int) := by omega
    go_enter Try.func5, Try.ntmps5
    go_upto_region 1 with fail
    rw [HW0.out, HR.out]
    have HF : Hid (rdB t = false ∧ rdP t = ⟨[], []⟩) := HZ.out (by rw [HJ.out]; rw [decide_eq_false (by omega)]; rfl)
    have z0 := box_at hR0 0 _ rfl
    have z1 := box_at hR0 1 _ rfl
    have y0 := frozen_of_row _ _ 0 _ _ hR0
    have y1 := frozen_of_row _ _ 1 _ _ hR0
    have HBf : Hid (Below w.heap.size w ((W0.setCell ⟨R, 0, none⟩ (.slice none 0 0)).setCell ⟨R, 1, none⟩ (.slice none 0 0))) := ((hb0).setCell (by show w.heap.size ≤ R; have := HR.out; omega) _).setCell (by show w.heap.size ≤ R; have := HR.out; omega) _
    have HPR : Hid _ := two_put15 (a := .slice none 0 0) (b := .slice none 0 0) hR0
    clear HZ HY HJ hR0 
    go_wp2
    have e0 := box_at HPR.out 0 _ rfl
    have e1 := box_at HPR.out 1 _ rfl
    have HA : Ending.returned (Value.tuple #[.agg #[.slice none 0 0, .slice none 0 0], .bool false]) = .returned (.tuple #[.agg #[.slice none 0 0, .slice none 0 0], .bool (rdB t)]) := by rw [HF.out.1]
    have HI : ImgOwn ((W0.setCell ⟨R, 0, none⟩ (.slice none 0 0)).setCell ⟨R, 1, none⟩ (.slice none 0 0)) w.heap.size (.slice none 0 0) (.slice none 0 0) (rdP t) [] := by
      rw [HF.out.2]
      exact img_none _ _
    first
      | exact bodyPost_ret (v := .tuple #[.agg #[.slice none 0 0, .slice none 0 0], .bool false]) (by simp [results, Try.results5, go_sem, e0, e1]) rfl ⟨.slice none 0 0, .slice none 0 0, [], HA, HI, HBf.out⟩
      | exact bodyPost_ret (v := .tuple #[.agg #[.slice none 0 0, .slice none 0 0], .bool false]) (by simp [results, Try.results5, go_sem, e0, e1]) rfl ⟨.slice none 0 0, .slice none 0 0, HA, ⟨[], HI⟩, HBf.out⟩
  · have hbi : decide ((12000 : Int) < (t.size : Int)) = false := decide_eq_false (by omega)
    have HS : Hid (t.size ≤ 12000) := by show t.size ≤ 12000; omega
    have cU := iUnsealed_v t W0 ht
    have hsz := unsS_size t ht
    obtain ⟨S, hS⟩ : ∃ S, unsS t = S := ⟨_, rfl⟩
    obtain ⟨ub, hub⟩ : ∃ b, unsB t = b := ⟨_, rfl⟩
    rw [hS] at hsz
    simp only [hS, hub] at cU
    have HSe : Hid (unsS t = S) := hS
    have HUb : Hid (unsB t = ub) := hub
    have hmk := mark_is S
    have cP := fun W => Try.strings_HasPrefix S ⟨#[83, 67, 49]⟩ W
    simp only [hmk] at cP
    obtain ⟨mb, hmb⟩ : ∃ b, markB S = b := ⟨_, rfl⟩
    simp only [hmb] at cP
    have HMb : Hid (markB S = mb) := hmb
    clear hS hub hmk hmb
    go_enter Try.func5, Try.ntmps5
    go_upto_region 1 with fail
    rw [HW0.out, HR.out]
    go_wp2_with fail
    refine cU.mono ?_
    rintro e w1 ⟨rfl, hb1⟩
    have hR1 := (hb1.block _ (box_lt hR0)).trans hR0
    have hB1 := chain hb0 hb1
    clear cU hR0 hb0 hb1
    cases ub with
    | false =>
      have HF : Hid (rdB t = false ∧ rdP t = ⟨[], []⟩) := HZ.out (by rw [HJ.out]; rw [HUb.out]; simp)
      have z0 := box_at hR1 0 _ rfl
      have z1 := box_at hR1 1 _ rfl
      have y0 := frozen_of_row _ _ 0 _ _ hR1
      have y1 := frozen_of_row _ _ 1 _ _ hR1
      have HBf : Hid (Below w.heap.size w ((w1.setCell ⟨R, 0, none⟩ (.slice none 0 0)).setCell ⟨R, 1, none⟩ (.slice none 0 0))) := ((hB1).setCell (by show w.heap.size ≤ R; have := HR.out; omega) _).setCell (by show w.heap.size ≤ R; have := HR.out; omega) _
      have HPR : Hid _ := two_put15 (a := .slice none 0 0) (b := .slice none 0 0) hR1
      clear HZ HY HJ hR1 
      go_wp2
      have e0 := box_at HPR.out 0 _ rfl
      have e1 := box_at HPR.out 1 _ rfl
      have HA : Ending.returned (Value.tuple #[.agg #[.slice none 0 0, .slice none 0 0], .bool false]) = .returned (.tuple #[.agg #[.slice none 0 0, .slice none 0 0], .bool (rdB t)]) := by rw [HF.out.1]
      have HI : ImgOwn ((w1.setCell ⟨R, 0, none⟩ (.slice none 0 0)).setCell ⟨R, 1, none⟩ (.slice none 0 0)) w.heap.size (.slice none 0 0) (.slice none 0 0) (rdP t) [] := by
        rw [HF.out.2]
        exact img_none _ _
      first
        | exact bodyPost_ret (v := .tuple #[.agg #[.slice none 0 0, .slice none 0 0], .bool false]) (by simp [results, Try.results5, go_sem, e0, e1]) rfl ⟨.slice none 0 0, .slice none 0 0, [], HA, HI, HBf.out⟩
        | exact bodyPost_ret (v := .tuple #[.agg #[.slice none 0 0, .slice none 0 0], .bool false]) (by simp [results, Try.results5, go_sem, e0, e1]) rfl ⟨.slice none 0 0, .slice none 0 0, HA, ⟨[], HI⟩, HBf.out⟩
    | true =>
      go_wp2_with fail
      refine (cP _).mono ?_
      rintro e w2 ⟨rfl, rfl⟩
      clear cP
      cases mb with
      | false =>
        have HF : Hid (rdB t = false ∧ rdP t = ⟨[], []⟩) := HZ.out (by rw [HJ.out]; rw [HSe.out, HMb.out]; simp)
        have z0 := box_at hR1 0 _ rfl
        have z1 := box_at hR1 1 _ rfl
        have y0 := frozen_of_row _ _ 0 _ _ hR1
        have y1 := frozen_of_row _ _ 1 _ _ hR1
        have HBf : Hid (Below w.heap.size w ((w2.setCell ⟨R, 0, none⟩ (.slice none 0 0)).setCell ⟨R, 1, none⟩ (.slice none 0 0))) := ((hB1).setCell (by show w.heap.size ≤ R; have := HR.out; omega) _).setCell (by show w.heap.size ≤ R; have := HR.out; omega) _
        have HPR : Hid _ := two_put15 (a := .slice none 0 0) (b := .slice none 0 0) hR1
        clear HZ HY HJ hR1 
        go_wp2
        have e0 := box_at HPR.out 0 _ rfl
        have e1 := box_at HPR.out 1 _ rfl
        have HA : Ending.returned (Value.tuple #[.agg #[.slice none 0 0, .slice none 0 0], .bool false]) = .returned (.tuple #[.agg #[.slice none 0 0, .slice none 0 0], .bool (rdB t)]) := by rw [HF.out.1]
        have HI : ImgOwn ((w2.setCell ⟨R, 0, none⟩ (.slice none 0 0)).setCell ⟨R, 1, none⟩ (.slice none 0 0)) w.heap.size (.slice none 0 0) (.slice none 0 0) (rdP t) [] := by
          rw [HF.out.2]
          exact img_none _ _
        first
          | exact bodyPost_ret (v := .tuple #[.agg #[.slice none 0 0, .slice none 0 0], .bool false]) (by simp [results, Try.results5, go_sem, e0, e1]) rfl ⟨.slice none 0 0, .slice none 0 0, [], HA, HI, HBf.out⟩
          | exact bodyPost_ret (v := .tuple #[.agg #[.slice none 0 0, .slice none 0 0], .bool false]) (by simp [results, Try.results5, go_sem, e0, e1]) rfl ⟨.slice none 0 0, .slice none 0 0, HA, ⟨[], HI⟩, HBf.out⟩
      | true =>
        have hp3 : 3 ≤ S.size := mark_size HMb.out
        have hlR := box_lt hR1
        have hu2 : UAt (w2.alloc (.cells #[.string S, .int .i64 3, .bool false] 52)) w2.heap.size S ⟨3, false⟩ := heap_alloc_new w2 _
        have hal : Below w2.heap.size w2 (w2.alloc (.cells #[.string S, .int .i64 3, .bool false] 52)) := (Below.refl _ _).alloc (Nat.le_refl _) _
        have hR2 := box_alloc (o' := .cells #[.string S, .int .i64 3, .bool false] 52) hR1
        have hB2 := chain hB1 hal
        obtain ⟨C, hC⟩ : ∃ C, w2.heap.size = C := ⟨_, rfl⟩
        have HC : Hid (w2.heap.size = C) := hC
        obtain ⟨W2, hW2⟩ : ∃ W, w2.alloc (.cells #[.string S, .int .i64 3, .bool false] 52) = W := ⟨_, rfl⟩
        have HW2 : Hid (_ = W2) := hW2
        rw [hW2] at hu2 hR2 hB2
        rw [hC] at hu2 hlR
        have hsw : w.heap.size ≤ C := by rw [← hC]; exact hB1.size
        clear hW2 hC hal hR1 hB1
        go_upto_region 7 with fail
        rw [HW2.out, HC.out]
        clear HW2 HC
        have hlC := hu2.lt
        have hX3 := heap_alloc_new W2 (.cells #[.slice none 0 0, .slice none 0 0] 25)
        have hal : Below W2.heap.size W2 (W2.alloc (.cells #[.slice none 0 0, .slice none 0 0] 25)) := (Below.refl _ _).alloc (Nat.le_refl _) _
        have hu3 := hu2.below hal
        have hR3 := box_alloc (o' := .cells #[.slice none 0 0, .slice none 0 0] 25) hR2
        have hB3 := chain hB2 hal
        obtain ⟨X, hX⟩ : ∃ X, W2.heap.size = X := ⟨_, rfl⟩
        have HX : Hid (W2.heap.size = X) := hX
        obtain ⟨W3, hW3⟩ : ∃ W, W2.alloc (.cells #[.slice none 0 0, .slice none 0 0] 25) = W := ⟨_, rfl⟩
        have HW3 : Hid (_ = W3) := hW3
        rw [hW3] at hu3 hR3 hB3 hX3
        rw [hX] at hX3 hlC
        have hCX : C ≠ X := by omega
        have hRX : R ≠ X := by omega
        have hCR : C ≠ R := by omega
        clear hW3 hX hal hR2 hB2 hu2
        go_upto_region 8 with fail
        rw [HW3.out, HX.out]
        clear HW3 HX
        have HJI : Hid (jImage S ⟨3, false⟩ = (⟨(jList jFunc S (jList jConst S ⟨3, false⟩).2).1, (jList jConst S ⟨3, false⟩).1⟩, (jList jFunc S (jList jConst S ⟨3, false⟩).2).2)) := rfl
        have hW : imgW (jImage S ⟨3, false⟩).1 := jImage_ok S ⟨3, false⟩ hsz hp3
        have hp1 := list_pos (f := jConst) S (fun r hr => jConst_pos S r hr) ⟨3, false⟩ hp3
        have cB := iReadConsts S ⟨3, false⟩ C W3 hu3 hsz hp3
        have hp2 := list_pos (f := jFunc) S (fun r hr => jFunc_pos S r hr) _ hp1
        obtain ⟨q1, hq1⟩ : ∃ q, jList jConst S ⟨3, false⟩ = q := ⟨_, rfl⟩
        obtain ⟨l1, r1⟩ := q1
        have HJ2 : Hid (jImage S ⟨3, false⟩ = (⟨(jList jFunc S r1).1, l1⟩, (jList jFunc S r1).2)) := by
          show _ = _
          rw [HJI.out, hq1]
        simp only [hq1] at cB hp1 hp2
        clear hq1 HJI
        go_wp2_with fail
        refine cB.mono ?_
        rintro e w4 ⟨v1, rfl, hu4, hk4, ow1⟩
        obtain ⟨s1, t1, rfl⟩ := row_slice ow1
        have hlW3 : C < W3.heap.size := hu3.lt
        have hX4 := box_grown hX3 hk4 (by omega)
        have hR4 := box_grown hR3 hk4 (by omega)
        have hB4 := hB3.grown hk4 hB3.size (fun Y hY => by injection hY with hY; omega)
        obtain ⟨n1, hn1⟩ : ∃ n, l1.length = n := ⟨_, rfl⟩
        have HN1 : Hid (l1.length = n1) := hn1
        rw [hn1] at ow1 ⊢
        have z1 := box_at hX4 1 _ rfl
        have y1 := frozen_of_row _ _ 1 _ _ hX4
        have hX5 := heap_setCell_same w4 X 1 _ 25 (.slice s1 n1 t1) hX4
        have hR5 := (heap_setCell_other w4 ⟨X, 1, none⟩ R (.slice s1 n1 t1) hRX).trans hR4
        have hu5 := uat_put (o := 1) (v := .slice s1 n1 t1) hu4 hCX
        have ow5 := row_put15 (X := X) (o := 1) (u := .slice s1 n1 t1) ow1 (row_apart ow1 hX4 (by decide))
        have hB5 := hB4.setCell (p := ⟨X, 1, none⟩) (by show w.heap.size ≤ X; omega) (.slice s1 n1 t1)
        have hs34 : W3.heap.size ≤ w4.heap.size := hk4.size
        have hs5 : W3.heap.size ≤ (w4.setCell ⟨X, 1, none⟩ (.slice s1 n1 t1)).heap.size := by simpa [World.setCell] using hs34
        obtain ⟨W5, hW5⟩ : ∃ W, w4.setCell ⟨X, 1, none⟩ (.slice s1 n1 t1) = W := ⟨_, rfl⟩
        have HW5 : Hid (_ = W5) := hW5
        rw [hW5] at hX5 hR5 hu5 ow5 hB5 hs5
        clear hW5 hX4 hR4 hu4 ow1 hB4 hX3 hR3 hu3 hk4 cB hn1 hB3 hs34
        go_upto_region 9 with fail
        rw [HW5.out]
        clear HW5 z1 y1
        have cB := iReadFuncs S r1 C W5 hu5 hsz hp1
        obtain ⟨q2, hq2⟩ : ∃ q, jList jFunc S r1 = q := ⟨_, rfl⟩
        obtain ⟨l2, r2⟩ := q2
        have HJ3 : Hid (jImage S ⟨3, false⟩ = (⟨l2, l1⟩, r2)) := by
          show _ = _
          rw [HJ2.out, hq2]
        simp only [hq2] at cB hp2
        clear hq2 HJ2
        go_wp2_with fail
        refine cB.mono ?_
        rintro e w6 ⟨v2, fs, xs, rfl, hu6, hk6, HO6⟩
        obtain ⟨s2, t2, rfl⟩ := row_slice HO6.row
        have hX6 := box_grown hX5 hk6 (by omega)
        have hR6 := box_grown hR5 hk6 (by omega)
        have hB6 := hB5.grown hk6 hB5.size (fun Y hY => by injection hY with hY; omega)
        have ow6 := row_grown ow5 hk6 hlW3
        obtain ⟨n2, hn2⟩ : ∃ n, l2.length = n := ⟨_, rfl⟩
        have HN2 : Hid (l2.length = n2) := hn2
        rw [hn2] at HO6 ⊢
        have z0 := box_at hX6 0 _ rfl
        have y0 := frozen_of_row _ _ 0 _ _ hX6
        have hX7 := heap_setCell_same w6 X 0 _ 25 (.slice s2 n2 t2) hX6
        have hR7 := (heap_setCell_other w6 ⟨X, 0, none⟩ R (.slice s2 n2 t2) hRX).trans hR6
        have hu7 := uat_put (o := 0) (v := .slice s2 n2 t2) hu6 hCX
        have ow7 := row_put15 (X := X) (o := 0) (u := .slice s2 n2 t2) ow6 (row_apart ow6 hX6 (by decide))
        have hO7 := HO6.put (o := 0) (u := .slice s2 n2 t2) hX6 (by decide)
        have hB7 := hB6.setCell (p := ⟨X, 0, none⟩) (by show w.heap.size ≤ X; omega) (.slice s2 n2 t2)
        obtain ⟨W7, hW7⟩ : ∃ W, w6.setCell ⟨X, 0, none⟩ (.slice s2 n2 t2) = W := ⟨_, rfl⟩
        have HW7 : Hid (_ = W7) := hW7
        rw [hW7] at hX7 hR7 hu7 ow7 hO7 hB7
        have hI7 : Hid (ImgOwn W7 W3.heap.size (.slice s2 n2 t2) (.slice s1 n1 t1) ⟨l2, l1⟩ fs) := FunsOwn.img (p := ⟨l2, l1⟩) (hO7.low hs5) (by show World.ownsRow _ _ _ _ _ l1.length _; rw [HN1.out]; exact ow7)
        have HS3 : Hid (w.heap.size ≤ W3.heap.size) := by show _ ≤ _; omega
        clear hW7 hX6 hR6 hu6 ow6 HO6 hB6 hX5 hR5 hu5 ow5 hB5 hk6 cB hn2 ow7 hO7 hs5
        go_upto_region 10 with fail
        rw [HW7.out]
        clear HW7 z0 y0
        rw [HJ3.out] at hW
        have c2 := hu7.c2
        have c1 := hu7.c1
        cases hbd : r2.bad with
        | true =>
          rw [hbd] at c2
          clear hu7 c1 hI7
          have HF : Hid (rdB t = false ∧ rdP t = ⟨[], []⟩) := HZ.out (by rw [HJ.out]; rw [HSe.out, HJ3.out]; simp only [hbd]; simp)
          have z0 := box_at hR7 0 _ rfl
          have z1 := box_at hR7 1 _ rfl
          have y0 := frozen_of_row _ _ 0 _ _ hR7
          have y1 := frozen_of_row _ _ 1 _ _ hR7
          have HBf : Hid (Below w.heap.size w ((W7.setCell ⟨R, 0, none⟩ (.slice none 0 0)).setCell ⟨R, 1, none⟩ (.slice none 0 0))) := ((hB7).setCell (by show w.heap.size ≤ R; have := HR.out; omega) _).setCell (by show w.heap.size ≤ R; have := HR.out; omega) _
          have HPR : Hid _ := two_put15 (a := .slice none 0 0) (b := .slice none 0 0) hR7
          clear HZ HY HJ hR7 
          go_wp2
          have e0 := box_at HPR.out 0 _ rfl
          have e1 := box_at HPR.out 1 _ rfl
          have HA : Ending.returned (Value.tuple #[.agg #[.slice none 0 0, .slice none 0 0], .bool false]) = .returned (.tuple #[.agg #[.slice none 0 0, .slice none 0 0], .bool (rdB t)]) := by rw [HF.out.1]
          have HI : ImgOwn ((W7.setCell ⟨R, 0, none⟩ (.slice none 0 0)).setCell ⟨R, 1, none⟩ (.slice none 0 0)) w.heap.size (.slice none 0 0) (.slice none 0 0) (rdP t) [] := by
            rw [HF.out.2]
            exact img_none _ _
          first
            | exact bodyPost_ret (v := .tuple #[.agg #[.slice none 0 0, .slice none 0 0], .bool false]) (by simp [results, Try.results5, go_sem, e0, e1]) rfl ⟨.slice none 0 0, .slice none 0 0, [], HA, HI, HBf.out⟩
            | exact bodyPost_ret (v := .tuple #[.agg #[.slice none 0 0, .slice none 0 0], .bool false]) (by simp [results, Try.results5, go_sem, e0, e1]) rfl ⟨.slice none 0 0, .slice none 0 0, HA, ⟨[], HI⟩, HBf.out⟩
        | false =>
          rw [hbd] at c2
          have eA : atU S r2 = r2.pos := by unfold atU; rw [hbd]; rfl
          rw [eA] at c1
          obtain ⟨P, hP⟩ : ∃ P, r2.pos = P := ⟨_, rfl⟩
          rw [hP] at c1
          have HP : Hid (r2.pos = P) := hP
          have HBD : Hid (r2.bad = false) := hbd
          clear hu7 eA hP hbd
          by_cases hpe : P = S.size
          · subst hpe
            have x0 := box_at hX7 0 _ rfl
            have x1 := box_at hX7 1 _ rfl
            have cI := iImageOk_any ⟨l2, l1⟩ (.slice s2 n2 t2) (.slice s1 n1 t1) W7 hI7.out.isIn.arg hW
            obtain ⟨ok, hok⟩ : ∃ b, imgOk ⟨l2, l1⟩ = b := ⟨_, rfl⟩
            rw [hok] at cI
            have HOK : Hid (imgOk ⟨l2, l1⟩ = ok) := hok
            clear hok hW
            go_wp2_with fail
            refine cI.mono ?_
            rintro e w8 ⟨rfl, hb8⟩
            have hR8 := (hb8.block _ (box_lt hR7)).trans hR7
            have hX8 := (hb8.block _ (box_lt hX7)).trans hX7
            have hB8 := chain hB7 hb8
            have hI8 := hI7.out.below hb8
            clear cI hR7 hX7 hB7 hb8 hI7 x0 x1 c1 c2
            cases ok with
            | false =>
              clear hI8 hX8
              have HF : Hid (rdB t = false ∧ rdP t = ⟨[], []⟩) := HZ.out (by rw [HJ.out]; rw [HSe.out, HJ3.out]; simp only [HOK.out]; simp)
              have z0 := box_at hR8 0 _ rfl
              have z1 := box_at hR8 1 _ rfl
              have y0 := frozen_of_row _ _ 0 _ _ hR8
              have y1 := frozen_of_row _ _ 1 _ _ hR8
              have HBf : Hid (Below w.heap.size w ((w8.setCell ⟨R, 0, none⟩ (.slice none 0 0)).setCell ⟨R, 1, none⟩ (.slice none 0 0))) := ((hB8).setCell (by show w.heap.size ≤ R; have := HR.out; omega) _).setCell (by show w.heap.size ≤ R; have := HR.out; omega) _
              have HPR : Hid _ := two_put15 (a := .slice none 0 0) (b := .slice none 0 0) hR8
              clear HZ HY HJ hR8 
              go_wp2
              have e0 := box_at HPR.out 0 _ rfl
              have e1 := box_at HPR.out 1 _ rfl
              have HA : Ending.returned (Value.tuple #[.agg #[.slice none 0 0, .slice none 0 0], .bool false]) = .returned (.tuple #[.agg #[.slice none 0 0, .slice none 0 0], .bool (rdB t)]) := by rw [HF.out.1]
              have HI : ImgOwn ((w8.setCell ⟨R, 0, none⟩ (.slice none 0 0)).setCell ⟨R, 1, none⟩ (.slice none 0 0)) w.heap.size (.slice none 0 0) (.slice none 0 0) (rdP t) [] := by
                rw [HF.out.2]
                exact img_none _ _
              first
                | exact bodyPost_ret (v := .tuple #[.agg #[.slice none 0 0, .slice none 0 0], .bool false]) (by simp [results, Try.results5, go_sem, e0, e1]) rfl ⟨.slice none 0 0, .slice none 0 0, [], HA, HI, HBf.out⟩
                | exact bodyPost_ret (v := .tuple #[.agg #[.slice none 0 0, .slice none 0 0], .bool false]) (by simp [results, Try.results5, go_sem, e0, e1]) rfl ⟨.slice none 0 0, .slice none 0 0, HA, ⟨[], HI⟩, HBf.out⟩
            | true =>
              have HF : Hid (rdB t = true ∧ rdP t = ⟨l2, l1⟩) := by
                have h := HY.out (by rw [HJ.out, HSe.out, HUb.out, HMb.out, HJ3.out]; simp only [HBD.out, HP.out, HOK.out]; simp; exact HS.out)
                rw [HSe.out, HJ3.out] at h
                exact h
              have x0 := box_at hX8 0 _ rfl
              have x1 := box_at hX8 1 _ rfl
              have z0 := box_at hR8 0 _ rfl
              have z1 := box_at hR8 1 _ rfl
              have y0 := frozen_of_row _ _ 0 _ _ hR8
              have y1 := frozen_of_row _ _ 1 _ _ hR8
              have nRX : R ≠ X := hRX
              have nXR : X ≠ R := Ne.symm hRX
              have HBf : Hid (Below w.heap.size w ((w8.setCell ⟨R, 0, none⟩ (.slice s2 n2 t2)).setCell ⟨R, 1, none⟩ (.slice s1 n1 t1))) := ((hB8).setCell (by show w.heap.size ≤ R; have := HR.out; omega) _).setCell (by show w.heap.size ≤ R; have := HR.out; omega) _
              have HPR : Hid _ := two_put15 (a := .slice s2 n2 t2) (b := .slice s1 n1 t1) hR8
              have HI : Hid (ImgOwn ((w8.setCell ⟨R, 0, none⟩ (.slice s2 n2 t2)).setCell ⟨R, 1, none⟩ (.slice s1 n1 t1)) w.heap.size (.slice s2 n2 t2) (.slice s1 n1 t1) ⟨l2, l1⟩ fs) := by
                obtain ⟨m1, m2, m3, xs, m4, m5⟩ := hI8
                have F8 : FunsOwn w8 W3.heap.size (.slice s2 n2 t2) l2 fs xs := ⟨m1, m2, m4, m5⟩
                have hR9 := heap_setCell_same w8 R 0 _ 25 (.slice s2 n2 t2) hR8
                have F9 := F8.put (o := 0) (u := .slice s2 n2 t2) hR8 (by decide)
                have F10 := F9.put (o := 1) (u := .slice s1 n1 t1) hR9 (by decide)
                have k9 := row_put15 (X := R) (o := 0) (u := .slice s2 n2 t2) m3 (row_apart m3 hR8 (by decide))
                have k10 := row_put15 (X := R) (o := 1) (u := .slice s1 n1 t1) k9 (row_apart k9 hR9 (by decide))
                exact FunsOwn.img (p := ⟨l2, l1⟩) (F10.low HS3.out) (row_low k10 HS3.out)
              clear hI8 hR8 hX8 hB8 HZ HY HJ
              go_wp2
              have e0 := box_at HPR.out 0 _ rfl
              have e1 := box_at HPR.out 1 _ rfl
              have HA : Ending.returned (Value.tuple #[.agg #[.slice s2 n2 t2, .slice s1 n1 t1], .bool true]) = .returned (.tuple #[.agg #[.slice s2 n2 t2, .slice s1 n1 t1], .bool (rdB t)]) := by rw [HF.out.1]
              have HI2 : ImgOwn ((w8.setCell ⟨R, 0, none⟩ (.slice s2 n2 t2)).setCell ⟨R, 1, none⟩ (.slice s1 n1 t1)) w.heap.size (.slice s2 n2 t2) (.slice s1 n1 t1) (rdP t) fs := by
                rw [HF.out.2]
                exact HI.out
              first
                | exact bodyPost_ret (v := .tuple #[.agg #[.slice s2 n2 t2, .slice s1 n1 t1], .bool true]) (by simp [results, Try.results5, go_sem, e0, e1]) rfl ⟨.slice s2 n2 t2, .slice s1 n1 t1, fs, HA, HI2, HBf.out⟩
                | exact bodyPost_ret (v := .tuple #[.agg #[.slice s2 n2 t2, .slice s1 n1 t1], .bool true]) (by simp [results, Try.results5, go_sem, e0, e1]) rfl ⟨.slice s2 n2 t2, .slice s1 n1 t1, HA, ⟨fs, HI2⟩, HBf.out⟩
          · have hpi : ((P : Int) == (S.size : Int)) = false := by simp; omega
            have HPE : Hid (¬ P = S.size) := hpe
            clear hpe
            have HF : Hid (rdB t = false ∧ rdP t = ⟨[], []⟩) := HZ.out (by rw [HJ.out]; rw [HSe.out, HJ3.out]; simp only [HP.out, decide_eq_false HPE.out]; simp)
            have z0 := box_at hR7 0 _ rfl
            have z1 := box_at hR7 1 _ rfl
            have y0 := frozen_of_row _ _ 0 _ _ hR7
            have y1 := frozen_of_row _ _ 1 _ _ hR7
            have HBf : Hid (Below w.heap.size w ((W7.setCell ⟨R, 0, none⟩ (.slice none 0 0)).setCell ⟨R, 1, none⟩ (.slice none 0 0))) := ((hB7).setCell (by show w.heap.size ≤ R; have := HR.out; omega) _).setCell (by show w.heap.size ≤ R; have := HR.out; omega) _
            have HPR : Hid _ := two_put15 (a := .slice none 0 0) (b := .slice none 0 0) hR7
            clear HZ HY HJ hR7 
            go_wp2
            have e0 := box_at HPR.out 0 _ rfl
            have e1 := box_at HPR.out 1 _ rfl
            have HA : Ending.returned (Value.tuple #[.agg #[.slice none 0 0, .slice none 0 0], .bool false]) = .returned (.tuple #[.agg #[.slice none 0 0, .slice none 0 0], .bool (rdB t)]) := by rw [HF.out.1]
            have HI : ImgOwn ((W7.setCell ⟨R, 0, none⟩ (.slice none 0 0)).setCell ⟨R, 1, none⟩ (.slice none 0 0)) w.heap.size (.slice none 0 0) (.slice none 0 0) (rdP t) [] := by
              rw [HF.out.2]
              exact img_none _ _
            first
              | exact bodyPost_ret (v := .tuple #[.agg #[.slice none 0 0, .slice none 0 0], .bool false]) (by simp [results, Try.results5, go_sem, e0, e1]) rfl ⟨.slice none 0 0, .slice none 0 0, [], HA, HI, HBf.out⟩
              | exact bodyPost_ret (v := .tuple #[.agg #[.slice none 0 0, .slice none 0 0], .bool false]) (by simp [results, Try.results5, go_sem, e0, e1]) rfl ⟨.slice none 0 0, .slice none 0 0, HA, ⟨[], HI⟩, HBf.out⟩
end Go.Proofs.Ytedhfdgcofboeaa
