/-
  Part 10 of what is proved of drawn right trees.
-/
import Derived.Test.YtkmmojpfcklocaaPai
import Derived.Test.YtkmmojpfcklocaaPad
import Derived.Test.YtkmmojpfcklocaaPah
import Derived.Deep.RegionHeld3

namespace Go.Proofs.Ytkmmojpfcklocaa
open Go.RowKit Go.Sort
set_option linter.unusedVariables false
theorem three_box20j {W : World} {G : Nat} {a b c : Value} {t : TypeId} {r : Nat × Nat} (h : W.heap[G]? = some (.cells #[a, b, c] t r)) : W.cell? ⟨G, 0, none⟩ = some a ∧ W.cell? ⟨G, 1, none⟩ = some b ∧ W.cell? ⟨G, 2, none⟩ = some c := by
  refine ⟨?_, ?_, ?_⟩ <;> (rw [cell_of_row _ _ _ _ _ _ h]; rfl)
set_option maxHeartbeats 1000000 in
set_option maxRecDepth 100000 in
theorem iMayJump20 (op a b : Int) (w : World) :
    Calls Try.prog 20 #[.agg #[.int .i64 op, .int .i64 a, .int .i64 b]] w fun e w' => e = .returned (.bool (decide (12 ≤ op) && decide (op ≤ 14))) ∧ Below w.heap.size w w' := by
  obtain ⟨F, hF⟩ : ∃ F, (decide (12 ≤ op) && decide (op ≤ 14)) = F := ⟨_, rfl⟩
  have HF : Hid ((decide (12 ≤ op) && decide (op ≤ 14)) = F) := hF
  rw [hF]
  have b0 : Below w.heap.size w (w.alloc (.cells #[.int .i64 op, .int .i64 a, .int .i64 b] 49)) := (Below.refl _ _).alloc (Nat.le_refl _) _
  have z0 := heap_alloc_new w (.cells #[.int .i64 op, .int .i64 a, .int .i64 b] 49)
  obtain ⟨W0, hW0⟩ : ∃ W, w.alloc (.cells #[.int .i64 op, .int .i64 a, .int .i64 b] 49) = W := ⟨_, rfl⟩
  rw [hW0] at b0 z0
  have HW0 : Hid (_ = W0) := hW0
  obtain ⟨G, hG⟩ : ∃ G, w.heap.size = G := ⟨_, rfl⟩
  have HG : Hid (w.heap.size = G) := hG
  rw [hG] at z0
  have HB : Hid (Below w.heap.size w W0) := b0
  obtain ⟨c0, c1, c2⟩ := three_box20j z0
  clear hF hW0 z0 hG b0
  go_enter Try.func20, Try.ntmps20
  go_upto_region 1 with fail
  rw [HW0.out]
  try simp only [HG.out]
  by_cases h12 : op = 12
  · subst h12
    have hT : F = true := by rw [← HF.out]; decide
    subst hT
    go_wp2
    go_ret
    exact ⟨rfl, by first | exact HB.out | (rw [← HG.out]; exact HB.out)⟩
  by_cases h14 : op = 14
  · subst h14
    have hT : F = true := by rw [← HF.out]; decide
    subst hT
    go_wp2
    go_ret
    exact ⟨rfl, by first | exact HB.out | (rw [← HG.out]; exact HB.out)⟩
  by_cases h13 : op = 13
  · subst h13
    have hT : F = true := by rw [← HF.out]; decide
    subst hT
    go_wp2
    go_ret
    exact ⟨rfl, by first | exact HB.out | (rw [← HG.out]; exact HB.out)⟩
  have hT : F = false := by
    rw [← HF.out]
    rcases Int.lt_or_le op 12 with h | h
    · rw [decide_eq_false (by omega)]; rfl
    · rw [decide_eq_true h, decide_eq_false (by omega)]; rfl
  subst hT
  have e12 : (op == 12) = false := by rw [beq_eq_false_iff_ne]; exact h12
  have e14 : (op == 14) = false := by rw [beq_eq_false_iff_ne]; exact h14
  have e13 : (op == 13) = false := by rw [beq_eq_false_iff_ne]; exact h13
  go_wp2
  go_ret
  exact ⟨rfl, by first | exact HB.out | (rw [← HG.out]; exact HB.out)⟩
set_option maxHeartbeats 2000000 in
set_option maxRecDepth 100000 in
theorem iJumpsOf_any (p : PImg) (k : Int) (fv cv : Value) (w : World) (h : ArgImg w fv cv p) (hw : imgW p) :
    Calls Try.prog 7 #[.agg #[fv, cv], .int .i64 k] w fun e w' => ∃ v, e = .returned v ∧ OwnI w' w.heap.size v (jumpsL p k) ∧ Below w.heap.size w w' := by
  obtain ⟨i0, hi, hz0, hz1, hz2⟩ := info_in Try.info13I
  have b0 : Below w.heap.size w (w.alloc (.cells #[fv, cv] 32)) := (Below.refl _ _).alloc (Nat.le_refl _) _
  have hG : (w.alloc (.cells #[fv, cv] 32)).heap[w.heap.size]? = some (.cells #[fv, cv] 32 (0, 0)) := heap_alloc_new w _
  obtain ⟨W0, hW0⟩ : ∃ W, w.alloc (.cells #[fv, cv] 32) = W := ⟨_, rfl⟩
  have lt0 : w.heap.size < W0.heap.size := by rw [← hW0]; simp
  rw [hW0] at b0 hG
  have HW0 : Hid (_ = W0) := hW0
  clear hW0
  have q0 := own_begin20 W0 w.heap.size 3 1 (Nat.le_of_lt lt0)
  have b1 : Below W0.heap.size W0 (W0.alloc (.cells #[] 3)) := (Below.refl _ _).alloc (Nat.le_refl _) _
  obtain ⟨W1, hW1⟩ : ∃ W, W0.alloc (.cells #[] 3) = W := ⟨_, rfl⟩
  rw [hW1] at q0 b1
  have HW1 : Hid (_ = W1) := hW1
  clear hW1
  obtain ⟨g0, g1⟩ := two_cells20 ((b1.block _ lt0).trans hG)
  have cC := iCodeOf_any p k fv cv w W1 h (chain b0 b1) hw
  have HB1 : Hid (Below w.heap.size w W1) := chain b0 b1
  obtain ⟨L, hL⟩ : ∃ L, codeL p k = L := ⟨_, rfl⟩
  have hfew : L.length ≤ 300 := by rw [← hL]; exact jump_few20 p k
  obtain ⟨F, hF⟩ : ∃ F, jumpsL p k = F := ⟨_, rfl⟩
  have HF : Hid (Lib.compact (sortJ (tellJ L)) = F) := by rw [← hL, ← hF]; exact jumps_of20 p k
  rw [hF]
  rw [hL] at cC
  clear hF hL h hw hG b0 b1
  obtain ⟨n, hn⟩ : ∃ n, L.length = n := ⟨_, rfl⟩
  rw [hn] at hfew cC
  have cC' := cC.mono (fun e w' (hh : ∃ v, e = .returned v ∧ ArgFlat w v 3 n (L.flatMap insC) ∧ Below W1.heap.size W1 w') => show ∃ x c, e = .returned (.slice x n c) ∧ n ≤ maxLen ∧ Hid (0 < n → ∃ b o, x = some ⟨b, o, none⟩ ∧ b < w.heap.size ∧ ∀ j q, L[j]? = some q → ∀ c u, (insC q)[c]? = some u → w.cell? ⟨b, o + j * 3 + c, none⟩ = some u) ∧ Below W1.heap.size W1 w' by
    obtain ⟨v, e1, e2, e3⟩ := hh
    rw [← hn] at e2
    obtain ⟨x, c, rfl, hm, ho⟩ := ArgFlat.opened e2 insC_len
    rw [hn] at hm ho e1
    exact ⟨x, c, e1, hm, ho, e3⟩)
  have HN : Hid (L.length = n) := hn
  clear hn cC
  obtain ⟨G, hGe⟩ : ∃ G, w.heap.size = G := ⟨_, rfl⟩
  have HG : Hid (w.heap.size = G) := hGe
  have Q0 : Hid (OwnI W1 G (.slice (some ⟨W0.heap.size, 0, none⟩) 0 0) (tellJ (L.take 0))) := by rw [← hGe]; exact q0
  have HS1 : Hid (G ≤ W1.heap.size) := by rw [← hGe]; exact HB1.out.size
  rw [hGe] at g0 g1 lt0
  clear hGe q0
  obtain ⟨X, hX⟩ : ∃ X, W0.heap.size = X := ⟨_, rfl⟩
  have HX : Hid (W0.heap.size = X) := hX
  rw [hX] at lt0 Q0
  clear hX
  go_enter Try.func7, Try.ntmps7
  go_upto_region 1 with fail
  rw [HW0.out]
  try simp only [HG.out]
  go_upto_region 2 with fail
  rw [HW1.out]
  try simp only [HX.out]
  go_upto_region 3 with (go_at_call 19; (with_reducible refine cC'.mono ?_); rintro e w2 ⟨x, c, rfl, hm, HO, hb2⟩)
  unfold maxLen at hm
  have HQ2 : Hid (OwnI w2 G (.slice (some ⟨X, 0, none⟩) 0 0) (tellJ (L.take 0))) := Q0.out.below hb2
  have HB2 : Hid (Below w.heap.size w w2 ∧ G ≤ w2.heap.size) := ⟨chain HB1.out hb2, Nat.le_trans HS1.out hb2.size⟩
  clear Q0 hb2 cC' g0 g1 lt0
  go_loopw [5, 13] (fun v i wr => ∃ j : Nat, j ≤ n ∧ i = .int .i64 j ∧ Hid (OwnI wr G v (tellJ (L.take j))) ∧ Hid (v ≠ .slice none 0 0) ∧ Below w.heap.size w wr ∧ G ≤ wr.heap.size) (fun _ i _ => n - (intOf i).toNat)
  case atStart => exact ⟨0, Nat.zero_le _, rfl, HQ2, fun e => (by cases e), HB2.out.1, HB2.out.2⟩
  case round =>
    obtain ⟨j, hj, rfl, HO2, HV, hb, hS⟩ := hrel
    clear HQ2 HB2
    obtain ⟨vx, vc, rfl⟩ := row_slice HO2.out
    by_cases hjn : j < n
    · obtain ⟨b, o, rfl, hbz, hcell⟩ := HO.out (by omega)
      obtain ⟨q, hq⟩ : ∃ q, L[j]? = some q := ⟨_, List.getElem?_eq_getElem (by have := HN.out; omega)⟩
      have e0 : wr.cell? ⟨b, o + j * 3, none⟩ = some (.int .i64 q.op) := (hb.cell hbz).trans (hcell j q hq 0 _ rfl)
      have e1 : wr.cell? ⟨b, o + j * 3 + 1, none⟩ = some (.int .i64 q.a) := (hb.cell hbz).trans (hcell j q hq 1 _ rfl)
      have e2 : wr.cell? ⟨b, o + j * 3 + 2, none⟩ = some (.int .i64 q.b) := (hb.cell hbz).trans (hcell j q hq 2 _ rfl)
      have hji : (j : Int) < (n : Int) := by omega
      have hj0 : (0 : Int) ≤ (j : Int) := by omega
      obtain ⟨M, hM⟩ : ∃ M, (tellJ (L.take j)).length = M := ⟨_, rfl⟩
      rw [hM] at HO2 HV ⊢
      have HM : Hid ((tellJ (L.take j)).length = M) := hM
      have HML : Hid (M ≤ n) := by
        have h1 := tellJ_len (L.take j)
        rw [List.length_take] at h1
        show _ ≤ _
        omega
      clear hM
      have z5 := heap_alloc_new wr (.cells #[.int .i64 q.op, .int .i64 q.a, .int .i64 q.b] 49)
      have b5 : Below wr.heap.size wr (wr.alloc (.cells #[.int .i64 q.op, .int .i64 q.a, .int .i64 q.b] 49)) := (Below.refl _ _).alloc (Nat.le_refl _) _
      obtain ⟨W5, hW5⟩ : ∃ W, wr.alloc (.cells #[.int .i64 q.op, .int .i64 q.a, .int .i64 q.b] 49) = W := ⟨_, rfl⟩
      have lt5 : wr.heap.size < W5.heap.size := by rw [← hW5]; simp
      rw [hW5] at z5 b5
      have HW5 : Hid (_ = W5) := hW5
      obtain ⟨Y, hY⟩ : ∃ Y, wr.heap.size = Y := ⟨_, rfl⟩
      have HY : Hid (wr.heap.size = Y) := hY
      rw [hY] at z5 lt5
      have HK5 : Hid (∀ V, Below W5.heap.size W5 V → V.cell? ⟨Y, 0, none⟩ = some (.int .i64 q.op) ∧ V.cell? ⟨Y, 1, none⟩ = some (.int .i64 q.a) ∧ V.cell? ⟨Y, 2, none⟩ = some (.int .i64 q.b)) := fun V hV => three_box20j ((hV.block Y lt5).trans z5)
      have HB5 : Hid (Below w.heap.size w W5 ∧ G ≤ W5.heap.size) := ⟨chain hb b5, Nat.le_trans hS b5.size⟩
      have HO5 : Hid (OwnI W5 G (.slice vx M vc) (tellJ (L.take j))) := HO2.out.below b5
      have cM := fun W => iMayJump20 q.op q.a q.b W
      clear hW5 z5 lt5 hY
      go_upto_region 5 with fail
      rw [HW5.out]
      try simp only [HY.out]
      clear e0 e1 e2 hb hS HO2 b5
      obtain ⟨c0, c1, c2⟩ := HK5.out W5 (Below.refl _ _)
      obtain ⟨J, hJ⟩ : ∃ J, isJ20 q = J := ⟨_, rfl⟩
      have eJ : (decide (12 ≤ q.op) && decide (q.op ≤ 14)) = J := hJ
      simp only [eJ] at cM
      cases J with
      | true =>
        have HT : Hid (tellJ (L.take (j + 1)) = tellJ (L.take j) ++ [q.a]) := tellJ_yes hq hJ
        clear hJ eJ hq hcell
        go_upto_region 6 with (go_at_call 20; (with_reducible refine (cM _).mono ?_); rintro e w6 ⟨rfl, hb6⟩)
        obtain ⟨d0, d1, d2⟩ := HK5.out w6 hb6
        have hown : w6.ownsRow G 3 1 (.slice vx M vc) M ((tellJ (L.take j)).flatMap intC) := by
          have h := HO5.out.below hb6
          unfold OwnI at h
          rw [HM.out] at h
          exact h
        have hMb : M < 1000000000000 := by have := HML.out; omega
        have hB6 : Below G w w6 := by rw [← HG.out]; exact chain HB5.out.1 hb6
        have hS6 : G ≤ w6.heap.size := Nat.le_trans HB5.out.2 hb6.size
        clear cM c0 c1 c2 hb6
        go_wp2_with (at_builtin; refine append_one (w0 := w) rfl _ _ 27 rfl G 3 i0 (.int .i64 0) 8 Try.underlying27 hi hz0 hz1 hz2 rfl _ _ _ rfl hown (.int .i64 q.a) rfl rfl hMb (by decide) hB6 hS6 ?_; intro v' w' ho' hb')
        go_roundw
        case rel => exact ⟨j + 1, by omega, by go_num, by
          show OwnI _ _ _ _
          rw [HT.out]
          unfold OwnI
          rw [List.length_append, HM.out, List.flatMap_append]
          exact ho', own_snoc20 ho', by rw [HG.out]; exact hb', by rw [← HG.out]; exact hb'.size⟩
        case measure => simp [intOf]; omega
      | false =>
        have HT : Hid (tellJ (L.take (j + 1)) = tellJ (L.take j)) := tellJ_no hq hJ
        clear hJ eJ hq hcell
        go_wp2_with (go_at_call 20; (with_reducible refine (cM _).mono ?_); rintro e w6 ⟨rfl, hb6⟩)
        go_roundw
        case rel => exact ⟨j + 1, by omega, by go_num, by
          show OwnI _ _ _ _
          rw [HT.out]
          exact HO5.out.below hb6, HV.out, chain HB5.out.1 hb6, Nat.le_trans HB5.out.2 hb6.size⟩
        case measure => simp [intOf]; omega
    · have hje : j = n := by omega
      subst hje
      have hL : L.take j = L := List.take_of_length_le (by have := HN.out; omega)
      rw [hL] at HO2 HV ⊢
      obtain ⟨T, hT⟩ : ∃ T, tellJ L = T := ⟨_, rfl⟩
      have hTl : T.length ≤ 300 := by rw [← hT]; have := tellJ_len L; have := HN.out; omega
      rw [hT] at HO2 HV HF ⊢
      obtain ⟨g, cap, e, hBg, hgl, hcap, hH⟩ := own_at_row20 HO2.out HV.out
      cases e
      have hd : decide ((j : Int) < (j : Int)) = false := decide_eq_false (by omega)
      have cS := (Try.slices_Sort_int g 0 vc T wr hH hgl (by omega)).mono (fun e w' (hh : e = .returned (.tuple #[]) ∧ ∃ n os, w' = grow (putRow (Value.int .i64) (Sort.ahead wr n) g 0 (T.mergeSort fun x y => decide (x ≤ y)).toArray) os) => show e = .returned (.tuple #[]) ∧ Hid (OwnI w' G (.slice (some ⟨g, 0, none⟩) (sortJ T).length vc) (sortJ T)) ∧ Hid (Holds (Value.int .i64) w' g 0 (sortJ T).toArray) ∧ Hid (Below w.heap.size w w') by
        obtain ⟨e1, nn, os, rfl⟩ := hh
        obtain ⟨k1, k2, _⟩ := own_sorted20 (q := nn) (os := os) HO2.out hgl hH
        exact ⟨e1, k1, k2, below_sorted20 hb (by rw [HG.out]; exact hBg) (by rw [HG.out]; exact hS)⟩)
      have HTL : Hid ((sortJ T).length = T.length) := sortJ_len T
      obtain ⟨N, hN⟩ : ∃ N, T.length = N := ⟨_, rfl⟩
      rw [hN] at cS hTl hcap HTL ⊢
      have hcap' : Hid ((sortJ T).length ≤ vc) := by rw [HTL.out]; exact hcap
      clear hN hH hgl hT hL HO2 HV hcap
      go_wp2_with (go_at_call 21; (with_reducible refine cS.mono ?_); rintro e w7 ⟨rfl, HO7, HH7, HB7⟩)
      have cK := Try.slices_Compact_int g 0 vc (sortJ T) w7 HH7.out (by have := HTL.out; omega) hcap'.out
      rw [HTL.out] at cK
      have cK' := cK.mono (fun e w' (hh : e = .returned (.slice (some ⟨g, 0, none⟩) (Lib.compact (sortJ T)).length vc) ∧ ∃ q, w' = putRow (Value.int .i64) (Sort.ahead w7 q) g 0 (Lib.compact (sortJ T) ++ List.replicate (N - (Lib.compact (sortJ T)).length) 0).toArray) => show ∃ v, e = .returned v ∧ Hid (OwnI w' G v F) ∧ Hid (Below w.heap.size w w') by
        obtain ⟨e1, qq, rfl⟩ := hh
        refine ⟨_, e1, ?_, Lib.below_putRow HB7.out (by rw [HG.out]; exact hBg)⟩
        show OwnI _ _ _ _
        rw [← HF.out, ← HTL.out]
        exact own_compact20 HO7.out)
      clear cK cS
      go_wp2_with (go_at_call 22; (with_reducible refine cK'.mono ?_); rintro e w8 ⟨v, rfl, HO8, HB8⟩)
      go_ret
      exact ⟨_, rfl, by rw [HG.out]; exact HO8.out, HB8.out⟩
end Go.Proofs.Ytkmmojpfcklocaa
