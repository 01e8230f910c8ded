/-
  Part 5 of what is proved of drawn right trees.
-/
import Derived.Test.YtedhfdgcofboeaaPad

namespace Go.Proofs.Ytedhfdgcofboeaa
open Go.RowKit Go.Sort
set_option linter.unusedVariables false
theorem rCap_pos (s : ByteArray) (r : RS) (h : r.pos ≤ s.size) : (rCap s r).2.pos ≤ s.size := (rVar_pos s _ (rByte_pos s r h).1).1
theorem rIns_pos (s : ByteArray) (r : RS) (h : r.pos ≤ s.size) : (rIns s r).2.pos ≤ s.size := (rVar_pos s _ (rVar_pos s _ (rByte_pos s r h).1).1).1
theorem rHnd_pos (s : ByteArray) (r : RS) (h : r.pos ≤ s.size) : (rHnd s r).2.pos ≤ s.size := (rVar_pos s _ (rVar_pos s _ (rVar_pos s r h).1).1).1
def Left {α : Type} (f : RS → α × RS) (m j : Nat) (l : List α) (st : RS) (full : List α × RS) : Prop := l ++ (rMany f (m - j) st).1 = full.1 ∧ (rMany f (m - j) st).2 = full.2
theorem Left.begin {α : Type} (f : RS → α × RS) (m : Nat) (st : RS) : Left f m 0 [] st (rMany f m st) := ⟨rfl, rfl⟩
theorem Left.more {α : Type} {f : RS → α × RS} {m j : Nat} {l : List α} {st : RS} {full : List α × RS} (h : Left f m j l st full) (hj : j < m) (hb : st.bad = false) : Left f m (j + 1) (l ++ [(f st).1]) (f st).2 full := by
  obtain ⟨h1, h2⟩ := h
  have e : m - j = (m - (j + 1)) + 1 := by omega
  rw [e, rMany_more f _ _ hb] at h1 h2
  exact ⟨by rw [List.append_assoc]; exact h1, h2⟩
theorem Left.done {α : Type} {f : RS → α × RS} {m j : Nat} {l : List α} {st : RS} {full : List α × RS} (h : Left f m j l st full) (hj : (decide (j < m) && !st.bad) = false) : full = (l, st) := by
  obtain ⟨h1, h2⟩ := h
  have e : rMany f (m - j) st = ([], st) := by
    cases hb : st.bad with
    | true => exact rMany_bad f _ _ hb
    | false =>
      rw [hb] at hj
      have : ¬ j < m := by simpa using hj
      have e : m - j = 0 := by omega
      rw [e]
      rfl
  rw [e] at h1 h2
  rw [List.append_nil] at h1
  rw [← Prod.eta full, ← h1, ← h2]
set_option maxHeartbeats 4000000 in
set_option maxRecDepth 100000 in
theorem l15Func_any (s : ByteArray) (r : RS) (C : Nat) (w : World) (hC : CurAt w C s r) (hs : s.size ≤ 1048576) (hp : r.pos ≤ s.size) :
    Calls Try.prog 13 #[.pointer (some ⟨C, 0, none⟩)] w fun e w' => ∃ cv kv hv, e = .returned (.agg #[.int .i64 (rFunc s r).1.params, .int .i64 (rFunc s r).1.regs, cv, kv, hv]) ∧ CurAt w' C s (rFunc s r).2 ∧ w.grownBy w' (some C) ∧ w'.ownsRow w.heap.size 73 2 cv (rFunc s r).1.caps.length ((rFunc s r).1.caps.flatMap capC) ∧ w'.ownsRow w.heap.size 75 3 kv (rFunc s r).1.code.length ((rFunc s r).1.code.flatMap insC) ∧ w'.ownsRow w.heap.size 77 3 hv (rFunc s r).1.hnds.length ((rFunc s r).1.hnds.flatMap hndC) := by
  obtain ⟨i1, hi1, hz10, hz11, hz12⟩ := info_parts Try.infoCap13
  obtain ⟨i2, hi2, hz20, hz21, hz22⟩ := info_parts Try.infoIns13
  obtain ⟨i3, hi3, hz30, hz31, hz32⟩ := info_parts Try.infoHandler13
  have hzC := hC.lt
  have F0 : FRd w C (w.heap.size + 1) w.heap.size s ((w.alloc (.cells #[.int .i64 0, .int .i64 0, .slice none 0 0, .slice none 0 0, .slice none 0 0] 46)).alloc (.cells #[.int .i64 0, .int .i64 0, .slice none 0 0, .slice none 0 0, .slice none 0 0] 46)) r 0 0 (.slice none 0 0) (.slice none 0 0) (.slice none 0 0) [] [] [] := by
    have e1 : (w.alloc (.cells #[.int .i64 0, .int .i64 0, .slice none 0 0, .slice none 0 0, .slice none 0 0] 46)).heap.size = w.heap.size + 1 := by simp
    have hb : Below w.heap.size w ((w.alloc (.cells #[.int .i64 0, .int .i64 0, .slice none 0 0, .slice none 0 0, .slice none 0 0] 46)).alloc (.cells #[.int .i64 0, .int .i64 0, .slice none 0 0, .slice none 0 0, .slice none 0 0] 46)) := ((Below.refl _ _).alloc (Nat.le_refl _) _).alloc (by rw [e1]; omega) _
    have hX := heap_alloc_new (w.alloc (.cells #[.int .i64 0, .int .i64 0, .slice none 0 0, .slice none 0 0, .slice none 0 0] 46)) (.cells #[.int .i64 0, .int .i64 0, .slice none 0 0, .slice none 0 0, .slice none 0 0] 46)
    rw [e1] at hX
    exact ⟨hC.below hb, hX, box_alloc (heap_alloc_new w _), World.ownsRow_nil _ _ _ _, World.ownsRow_nil _ _ _ _, World.ownsRow_nil _ _ _ _, grown_lo hb, hzC, Nat.le_refl _, Nat.lt_succ_self _⟩
  obtain ⟨W2, hW2⟩ : ∃ W, (w.alloc (.cells #[.int .i64 0, .int .i64 0, .slice none 0 0, .slice none 0 0, .slice none 0 0] 46)).alloc (.cells #[.int .i64 0, .int .i64 0, .slice none 0 0, .slice none 0 0, .slice none 0 0] 46) = W := ⟨_, rfl⟩
  rw [hW2] at F0
  have HW2 : Hid (_ = W2) := hW2
  obtain ⟨R, hR⟩ : ∃ R, w.heap.size = R := ⟨_, rfl⟩
  have HR : Hid (w.heap.size = R) := hR
  rw [hR] at F0
  obtain ⟨X, hX⟩ : ∃ X, R + 1 = X := ⟨_, rfl⟩
  have HX : Hid (R + 1 = X) := hX
  rw [hX] at F0
  clear hW2 hX hC hR
  go_enter Try.func13, Try.ntmps13
  go_upto_region 2 with fail
  rw [HW2.out]
  try rw [HR.out]
  rw [HX.out]
  clear HW2
  have hva := rVar_pos s r hp
  have cVa := l15Var_any s r C _ F0.cur hs hp
  obtain ⟨qa, hqa⟩ : ∃ q, rVar s r = q := ⟨_, rfl⟩
  obtain ⟨PP, ra⟩ := qa
  rw [hqa] at cVa hva
  have HQa : Hid (rVar s r = (PP, ra)) := hqa
  clear hqa
  go_wp2_with fail
  refine cVa.mono ?_
  rintro e wa ⟨rfl, hca, hga⟩
  have F1 := F0.call hca hga
  have pa := hva.1
  have lva := hva.2.2
  clear cVa hva hca hga F0
  have x0 := box_at F1.box 0 _ rfl
  have y0 := frozen_of_row _ _ 0 _ _ F1.box
  have F2 := F1.setP PP
  obtain ⟨Wa, hWa⟩ : ∃ W, wa.setCell ⟨X, 0, none⟩ (.int .i64 PP) = W := ⟨_, rfl⟩
  rw [hWa] at F2
  have HWa : Hid (_ = Wa) := hWa
  clear F1 hWa
  go_upto_region 3 with fail
  rw [HWa.out]
  clear HWa x0 y0
  have hvb := rVar_pos s ra pa
  have cVb := l15Var_any s ra C _ F2.cur hs pa
  obtain ⟨qb, hqb⟩ : ∃ q, rVar s ra = q := ⟨_, rfl⟩
  obtain ⟨GG, rb⟩ := qb
  rw [hqb] at cVb hvb
  have HQb : Hid (rVar s ra = (GG, rb)) := hqb
  clear hqb
  go_wp2_with fail
  refine cVb.mono ?_
  rintro e wb ⟨rfl, hcb, hgb⟩
  have F3 := F2.call hcb hgb
  have pb := hvb.1
  have lvb := hvb.2.2
  clear cVb hvb hcb hgb F2
  have x1 := box_at F3.box 1 _ rfl
  have y1 := frozen_of_row _ _ 1 _ _ F3.box
  have F4 := F3.setG GG
  obtain ⟨Wb, hWb⟩ : ∃ W, wb.setCell ⟨X, 1, none⟩ (.int .i64 GG) = W := ⟨_, rfl⟩
  rw [hWb] at F4
  have HWb : Hid (_ = Wb) := hWb
  clear F3 hWb
  go_upto_region 4 with fail
  rw [HWb.out]
  clear HWb x1 y1
  have hvc := rVar_pos s rb pb
  have cVc := l15Var_any s rb C _ F4.cur hs pb
  obtain ⟨qc, hqc⟩ : ∃ q, rVar s rb = q := ⟨_, rfl⟩
  obtain ⟨NN, rc⟩ := qc
  rw [hqc] at cVc hvc
  have HQc : Hid (rVar s rb = (NN, rc)) := hqc
  clear hqc
  go_wp2_with fail
  refine cVc.mono ?_
  rintro e wc ⟨rfl, hcc, hgc⟩
  have F5 := F4.call hcc hgc
  have pc := hvc.1
  have lvc := hvc.2.2
  clear cVc hvc hcc hgc F4
  obtain ⟨m1, hm1⟩ : ∃ m, min NN 1000 = m := ⟨_, rfl⟩
  have HM1 : Hid (min NN 1000 = m1) := hm1
  obtain ⟨full1, hf1⟩ : ∃ f, rMany (rCap s) m1 rc = f := ⟨_, rfl⟩
  have HF1 : Hid (rMany (rCap s) m1 rc = full1) := hf1
  clear hm1 hf1
  go_wp2
  go_loopw [5] (fun i wr => ∃ (j : Nat) (lc : List PCap) (st : RS) (cv : Value), j ≤ m1 ∧ i = .int .i64 j ∧ lc.length = j ∧ FRd w C X R s wr st PP GG cv (.slice none 0 0) (.slice none 0 0) lc [] [] ∧ st.pos ≤ s.size ∧ Hid (Left (rCap s) m1 j lc st full1)) (fun i _ => m1 - (intOf i).toNat)
  case atStart => exact ⟨0, [], rc, _, Nat.zero_le _, rfl, rfl, F5, pc, by rw [← HF1.out]; exact Left.begin _ _ _⟩
  case round =>
    clear F5
    obtain ⟨j, lc, st, cv, hj, rfl, hll, F5, ps, HL⟩ := hrel
    have HLL : Hid (lc.length = j) := hll
    clear hll
    have c2 := F5.cur.c2
    go_upto_region 6 with fail
    go_cut [33] from 20 to 48 (fun c wx => wx = wr ∧ c = .bool (decide (j < m1) && !st.bad))
    case first =>
      have hmm := HM1.out
      by_cases h1 : j < NN
      · by_cases h2 : j < 1000
        · have E1 : Hid (decide (j < m1) = true) := decide_eq_true (by omega)
          have h1i : (j : Int) < (NN : Int) := by omega
          have h2i : (j : Int) < 1000 := by omega
          obtain ⟨bd, hbd⟩ : ∃ b, st.bad = b := ⟨_, rfl⟩
          have HB : Hid (st.bad = bd) := hbd
          rw [hbd] at c2
          clear hmm hbd
          go_wp2
          go_meet
          case rel => exact ⟨rfl, by rw [E1.out, HB.out]; cases bd <;> rfl⟩
        · have E1 : Hid (decide (j < m1) = false) := decide_eq_false (by omega)
          have h1i : (j : Int) < (NN : Int) := by omega
          have h2i : decide ((j : Int) < 1000) = false := decide_eq_false (by omega)
          clear hmm
          go_wp2
          go_meet
          case rel => exact ⟨rfl, by rw [E1.out]; rfl⟩
      · have E1 : Hid (decide (j < m1) = false) := decide_eq_false (by omega)
        have h1i : decide ((j : Int) < (NN : Int)) = false := decide_eq_false (by omega)
        clear hmm
        go_wp2
        go_meet
        case rel => exact ⟨rfl, by rw [E1.out]; rfl⟩
    case rest =>
      obtain ⟨rfl, rfl⟩ := hcut
      clear c2
      cases hcnd : (decide (j < m1) && !st.bad) with
      | true =>
        have hjm : j < m1 := by
          have := (Bool.and_eq_true_iff.1 hcnd).1
          exact of_decide_eq_true this
        have hbad : st.bad = false := by
          have := (Bool.and_eq_true_iff.1 hcnd).2
          simpa using this
        have HLM : Hid (Left (rCap s) m1 (j + 1) (lc ++ [(rCap s st).1]) (rCap s st).2 full1) := HL.out.more hjm hbad
        have HJM : Hid (j < m1) := hjm
        have hmm := HM1.out
        have hlt : lc.length < 1000000000 := by have := HLL.out; omega
        have hm1k : m1 ≤ 1000 := by omega
        clear hbad hmm
        have hB := rByte_pos s st ps
        have cB := l15Byte_any s st C _ F5.cur hs ps
        obtain ⟨kq, hkq⟩ : ∃ q, rByte s st = q := ⟨_, rfl⟩
        obtain ⟨k, s1⟩ := kq
        rw [hkq] at cB hB
        go_wp2_with fail
        refine cB.mono ?_
        rintro e v1 ⟨rfl, hc, hg⟩
        have F6 := F5.call hc hg
        have p1 := hB.1
        clear cB hc hg F5
        have apc := row_apart' F6.rc
        have apk := row_apart' F6.rk
        have aph := row_apart' F6.rh
        have bE := heap_alloc_new v1 (.cells #[.bool (k == 1), .int .i64 0] 73)
        have F7 := F6.alloc (.cells #[.bool (k == 1), .int .i64 0] 73)
        have lX := box_lt F6.box
        have lR := box_lt F6.res
        have lC := F6.cur.lt
        have l0 := F6.gr.size
        obtain ⟨WE, hWE⟩ : ∃ W, v1.alloc (.cells #[.bool (k == 1), .int .i64 0] 73) = W := ⟨_, rfl⟩
        rw [hWE] at bE F7
        have HWE : Hid (_ = WE) := hWE
        obtain ⟨E, hE⟩ : ∃ E, v1.heap.size = E := ⟨_, rfl⟩
        have HE : Hid (v1.heap.size = E) := hE
        rw [hE] at bE apc apk aph lX lR lC l0
        clear F6 hWE hE
        go_upto_region 9 with fail
        rw [HWE.out, HE.out]
        clear HWE HE
        have hva := rVar_pos s s1 p1
        have cVa := l15Var_any s s1 C _ F7.cur hs p1
        obtain ⟨vqa, hvqa⟩ : ∃ q, rVar s s1 = q := ⟨_, rfl⟩
        obtain ⟨I1, ta⟩ := vqa
        rw [hvqa] at cVa hva
        go_wp2_with fail
        refine cVa.mono ?_
        rintro e xa ⟨rfl, hc, hg⟩
        have Ga := F7.call hc hg
        have bGa := box_grown bE hg (by omega)
        have pa1 := hva.1
        have lva1 := hva.2.2
        have da := box_at bGa 1 _ rfl
        have fa := frozen_of_row _ _ 1 _ _ bGa
        have Ka := Ga.other (o := 1) (u := .int .i64 I1) (E := E) (by omega) (by omega) (by omega) apc apk aph
        have bKa := heap_setCell_same xa E 1 _ 73 (.int .i64 I1) bGa
        obtain ⟨Ya, hYa⟩ : ∃ W, xa.setCell ⟨E, 1, none⟩ (.int .i64 I1) = W := ⟨_, rfl⟩
        rw [hYa] at Ka bKa
        have HYa : Hid (_ = Ya) := hYa
        clear cVa hc hg Ga bGa hva hYa F7 bE
        go_upto_region 10 with fail
        rw [HYa.out]
        clear HYa da fa
        have HRE : Hid (rCap s st = (⟨decide (k = 1), I1⟩, ta)) := by
          show _ = _
          unfold rCap; rw [hkq]; simp only []; rw [hvqa]
        have hbE : Ya.heap[E]? = some (.cells #[.bool (k == 1), .int .i64 I1] 73 (0, 0)) := bKa
        have e0 := box_at hbE 0 _ rfl
        have e1 := box_at hbE 1 _ rfl
        have bx := box_at Ka.box 2 _ rfl
        have hone : ∀ u ∈ (#[.bool (k == 1), .int .i64 I1] : Array Value).toList, u.oneCell' = true := fun u hu => by
          simp only [List.mem_cons, List.not_mem_nil, or_false] at hu
          rcases hu with rfl | rfl <;> rfl
        have hro := Ka.rc
        have hsz := Ka.gr.size
        go_wp2_with (at_builtin; refine append_elem rfl _ _ 42 rfl w.heap.size 73 i1 _ 2 16 Try.underlying42 hi1 hz10 hz11 hz12 rfl (by decide) (by decide) cv lc.length _ rfl hro #[.bool (k == 1), .int .i64 I1] rfl hone rfl (by omega) hsz ?_)
        intro v5 w5 o5 g5 _
        obtain ⟨vx, vc, rfl⟩ := row_slice o5
        have hF := (Ka.alloc (.cells #[.bool (k == 1), .int .i64 I1] 73)).addC g5 ⟨decide (k = 1), I1⟩ o5
        have bx5 := box_at hF.1 2 _ rfl
        have fx5 := frozen_of_row _ _ 2 _ _ hF.1
        have HF9 : Hid _ := hF.2
        clear hF Ka hbE bx e0 e1 o5 g5 hro
        go_wp2
        go_roundw
        case rel =>
          have hjm2 := HJM.out
          have hlm : Left (rCap s) m1 (j + 1) (lc ++ [(rCap s st).1]) (rCap s st).2 full1 := HLM.out
          rw [HRE.out] at hlm
          exact ⟨j + 1, lc ++ [(⟨decide (k = 1), I1⟩ : PCap)], ta, _, hjm2, by go_num, by rw [List.length_append, HLL.out]; rfl, HF9.out, pa1, hlm⟩
        case measure =>
          have hjm2 := HJM.out
          simp [intOf]
          omega
      | false =>
        have HD1 : Hid (full1 = (lc, st)) := HL.out.done hcnd
        clear HL hcnd
        have psA := ps
        have hvk := rVar_pos s st psA
        have cVk := l15Var_any s st C _ F5.cur hs psA
        obtain ⟨qk, hqk⟩ : ∃ q, rVar s st = q := ⟨_, rfl⟩
        obtain ⟨NK, rk⟩ := qk
        rw [hqk] at cVk hvk
        have HQk : Hid (rVar s st = (NK, rk)) := hqk
        clear hqk
        go_wp2_with fail
        refine cVk.mono ?_
        rintro e wk ⟨rfl, hck, hgk⟩
        have F5k := F5.call hck hgk
        have pk := hvk.1
        have lvk := hvk.2.2
        clear cVk hvk hck hgk F5
        obtain ⟨m2, hm2⟩ : ∃ m, min NK 1000 = m := ⟨_, rfl⟩
        have HM2 : Hid (min NK 1000 = m2) := hm2
        obtain ⟨full2, hf2⟩ : ∃ f, rMany (rIns s) m2 rk = f := ⟨_, rfl⟩
        have HF2 : Hid (rMany (rIns s) m2 rk = full2) := hf2
        clear hm2 hf2
        go_wp2
        go_loopw [7] (fun i wr => ∃ (j : Nat) (lk : List PIns) (st : RS) (kv : Value), j ≤ m2 ∧ i = .int .i64 j ∧ lk.length = j ∧ FRd w C X R s wr st PP GG cv kv (.slice none 0 0) lc lk [] ∧ st.pos ≤ s.size ∧ Hid (Left (rIns s) m2 j lk st full2)) (fun i _ => m2 - (intOf i).toNat)
        case atStart => exact ⟨0, [], rk, _, Nat.zero_le _, rfl, rfl, F5k, pk, by rw [← HF2.out]; exact Left.begin _ _ _⟩
        case round =>
          clear F5k
          obtain ⟨j, lk, st, kv, hj, rfl, hll, F5, ps, HL⟩ := hrel
          have HLL : Hid (lk.length = j) := hll
          clear hll
          have c2 := F5.cur.c2
          go_upto_region 13 with fail
          go_cut [64] from 51 to 81 (fun c wx => wx = wr ∧ c = .bool (decide (j < m2) && !st.bad))
          case first =>
            have hmm := HM2.out
            by_cases h1 : j < NK
            · by_cases h2 : j < 1000
              · have E1 : Hid (decide (j < m2) = true) := decide_eq_true (by omega)
                have h1i : (j : Int) < (NK : Int) := by omega
                have h2i : (j : Int) < 1000 := by omega
                obtain ⟨bd, hbd⟩ : ∃ b, st.bad = b := ⟨_, rfl⟩
                have HB : Hid (st.bad = bd) := hbd
                rw [hbd] at c2
                clear hmm hbd
                go_wp2
                go_meet
                case rel => exact ⟨rfl, by rw [E1.out, HB.out]; cases bd <;> rfl⟩
              · have E1 : Hid (decide (j < m2) = false) := decide_eq_false (by omega)
                have h1i : (j : Int) < (NK : Int) := by omega
                have h2i : decide ((j : Int) < 1000) = false := decide_eq_false (by omega)
                clear hmm
                go_wp2
                go_meet
                case rel => exact ⟨rfl, by rw [E1.out]; rfl⟩
            · have E1 : Hid (decide (j < m2) = false) := decide_eq_false (by omega)
              have h1i : decide ((j : Int) < (NK : Int)) = false := decide_eq_false (by omega)
              clear hmm
              go_wp2
              go_meet
              case rel => exact ⟨rfl, by rw [E1.out]; rfl⟩
          case rest =>
            obtain ⟨rfl, rfl⟩ := hcut
            clear c2
            cases hcnd : (decide (j < m2) && !st.bad) with
            | true =>
              have hjm : j < m2 := by
                have := (Bool.and_eq_true_iff.1 hcnd).1
                exact of_decide_eq_true this
              have hbad : st.bad = false := by
                have := (Bool.and_eq_true_iff.1 hcnd).2
                simpa using this
              have HLM : Hid (Left (rIns s) m2 (j + 1) (lk ++ [(rIns s st).1]) (rIns s st).2 full2) := HL.out.more hjm hbad
              have HJM : Hid (j < m2) := hjm
              have hmm := HM2.out
              have hlt : lk.length < 1000000000 := by have := HLL.out; omega
              have hm1k : m2 ≤ 1000 := by omega
              clear hbad hmm
              have hB := rByte_pos s st ps
              have cB := l15Byte_any s st C _ F5.cur hs ps
              obtain ⟨kq, hkq⟩ : ∃ q, rByte s st = q := ⟨_, rfl⟩
              obtain ⟨k, s1⟩ := kq
              rw [hkq] at cB hB
              go_wp2_with fail
              refine cB.mono ?_
              rintro e v1 ⟨rfl, hc, hg⟩
              have F6 := F5.call hc hg
              have p1 := hB.1
              clear cB hc hg F5
              have apc := row_apart' F6.rc
              have apk := row_apart' F6.rk
              have aph := row_apart' F6.rh
              have bE := heap_alloc_new v1 (.cells #[.int .i64 k, .int .i64 0, .int .i64 0] 75)
              have F7 := F6.alloc (.cells #[.int .i64 k, .int .i64 0, .int .i64 0] 75)
              have lX := box_lt F6.box
              have lR := box_lt F6.res
              have lC := F6.cur.lt
              have l0 := F6.gr.size
              obtain ⟨WE, hWE⟩ : ∃ W, v1.alloc (.cells #[.int .i64 k, .int .i64 0, .int .i64 0] 75) = W := ⟨_, rfl⟩
              rw [hWE] at bE F7
              have HWE : Hid (_ = WE) := hWE
              obtain ⟨E, hE⟩ : ∃ E, v1.heap.size = E := ⟨_, rfl⟩
              have HE : Hid (v1.heap.size = E) := hE
              rw [hE] at bE apc apk aph lX lR lC l0
              clear F6 hWE hE
              go_upto_region 16 with fail
              rw [HWE.out, HE.out]
              clear HWE HE
              have hva := rVar_pos s s1 p1
              have cVa := l15Var_any s s1 C _ F7.cur hs p1
              obtain ⟨vqa, hvqa⟩ : ∃ q, rVar s s1 = q := ⟨_, rfl⟩
              obtain ⟨I1, ta⟩ := vqa
              rw [hvqa] at cVa hva
              go_wp2_with fail
              refine cVa.mono ?_
              rintro e xa ⟨rfl, hc, hg⟩
              have Ga := F7.call hc hg
              have bGa := box_grown bE hg (by omega)
              have pa1 := hva.1
              have lva1 := hva.2.2
              have da := box_at bGa 1 _ rfl
              have fa := frozen_of_row _ _ 1 _ _ bGa
              have Ka := Ga.other (o := 1) (u := .int .i64 I1) (E := E) (by omega) (by omega) (by omega) apc apk aph
              have bKa := heap_setCell_same xa E 1 _ 75 (.int .i64 I1) bGa
              obtain ⟨Ya, hYa⟩ : ∃ W, xa.setCell ⟨E, 1, none⟩ (.int .i64 I1) = W := ⟨_, rfl⟩
              rw [hYa] at Ka bKa
              have HYa : Hid (_ = Ya) := hYa
              clear cVa hc hg Ga bGa hva hYa F7 bE
              go_upto_region 17 with fail
              rw [HYa.out]
              clear HYa da fa
              have hvb := rVar_pos s ta pa1
              have cVb := l15Var_any s ta C _ Ka.cur hs pa1
              obtain ⟨vqb, hvqb⟩ : ∃ q, rVar s ta = q := ⟨_, rfl⟩
              obtain ⟨I2, tb⟩ := vqb
              rw [hvqb] at cVb hvb
              go_wp2_with fail
              refine cVb.mono ?_
              rintro e xb ⟨rfl, hc, hg⟩
              have Gb := Ka.call hc hg
              have bGb := box_grown bKa hg (by omega)
              have pb1 := hvb.1
              have lvb1 := hvb.2.2
              have db := box_at bGb 2 _ rfl
              have fb := frozen_of_row _ _ 2 _ _ bGb
              have Kb := Gb.other (o := 2) (u := .int .i64 I2) (E := E) (by omega) (by omega) (by omega) apc apk aph
              have bKb := heap_setCell_same xb E 2 _ 75 (.int .i64 I2) bGb
              obtain ⟨Yb, hYb⟩ : ∃ W, xb.setCell ⟨E, 2, none⟩ (.int .i64 I2) = W := ⟨_, rfl⟩
              rw [hYb] at Kb bKb
              have HYb : Hid (_ = Yb) := hYb
              clear cVb hc hg Gb bGb hvb hYb Ka bKa
              go_upto_region 18 with fail
              rw [HYb.out]
              clear HYb db fb
              have HRE : Hid (rIns s st = (⟨k, I1, I2⟩, tb)) := by
                show _ = _
                unfold rIns; rw [hkq]; simp only []; rw [hvqa]; simp only []; rw [hvqb]
              have hbE : Yb.heap[E]? = some (.cells #[.int .i64 k, .int .i64 I1, .int .i64 I2] 75 (0, 0)) := bKb
              have e0 := box_at hbE 0 _ rfl
              have e1 := box_at hbE 1 _ rfl
              have e2 := box_at hbE 2 _ rfl
              have bx := box_at Kb.box 3 _ rfl
              have hone : ∀ u ∈ (#[.int .i64 k, .int .i64 I1, .int .i64 I2] : Array Value).toList, u.oneCell' = true := fun u hu => by
                simp only [List.mem_cons, List.not_mem_nil, or_false] at hu
                rcases hu with rfl | rfl | rfl <;> rfl
              have hro := Kb.rk
              have hsz := Kb.gr.size
              go_wp2_with (at_builtin; refine append_elem rfl _ _ 43 rfl w.heap.size 75 i2 _ 3 24 Try.underlying43 hi2 hz20 hz21 hz22 rfl (by decide) (by decide) kv lk.length _ rfl hro #[.int .i64 k, .int .i64 I1, .int .i64 I2] rfl hone rfl (by omega) hsz ?_)
              intro v5 w5 o5 g5 _
              obtain ⟨vx, vc, rfl⟩ := row_slice o5
              have hF := (Kb.alloc (.cells #[.int .i64 k, .int .i64 I1, .int .i64 I2] 75)).addK g5 ⟨k, I1, I2⟩ o5
              have bx5 := box_at hF.1 3 _ rfl
              have fx5 := frozen_of_row _ _ 3 _ _ hF.1
              have HF9 : Hid _ := hF.2
              clear hF Kb hbE bx e0 e1 e2 o5 g5 hro
              go_wp2
              go_roundw
              case rel =>
                have hjm2 := HJM.out
                have hlm : Left (rIns s) m2 (j + 1) (lk ++ [(rIns s st).1]) (rIns s st).2 full2 := HLM.out
                rw [HRE.out] at hlm
                exact ⟨j + 1, lk ++ [(⟨k, I1, I2⟩ : PIns)], tb, _, hjm2, by go_num, by rw [List.length_append, HLL.out]; rfl, HF9.out, pb1, hlm⟩
              case measure =>
                have hjm2 := HJM.out
                simp [intOf]
                omega
            | false =>
              have HD2 : Hid (full2 = (lk, st)) := HL.out.done hcnd
              clear HL hcnd
              have psB := ps
              have hvh := rVar_pos s st psB
              have cVh := l15Var_any s st C _ F5.cur hs psB
              obtain ⟨qh, hqh⟩ : ∃ q, rVar s st = q := ⟨_, rfl⟩
              obtain ⟨NH, rh⟩ := qh
              rw [hqh] at cVh hvh
              have HQh : Hid (rVar s st = (NH, rh)) := hqh
              clear hqh
              go_wp2_with fail
              refine cVh.mono ?_
              rintro e wh ⟨rfl, hch, hgh⟩
              have F5h := F5.call hch hgh
              have ph := hvh.1
              have lvh := hvh.2.2
              clear cVh hvh hch hgh F5
              obtain ⟨m3, hm3⟩ : ∃ m, min NH 1000 = m := ⟨_, rfl⟩
              have HM3 : Hid (min NH 1000 = m3) := hm3
              obtain ⟨full3, hf3⟩ : ∃ f, rMany (rHnd s) m3 rh = f := ⟨_, rfl⟩
              have HF3 : Hid (rMany (rHnd s) m3 rh = full3) := hf3
              clear hm3 hf3
              go_wp2
              go_loopw [9] (fun i wr => ∃ (j : Nat) (lh : List PHnd) (st : RS) (hv : Value), j ≤ m3 ∧ i = .int .i64 j ∧ lh.length = j ∧ FRd w C X R s wr st PP GG cv kv hv lc lk lh ∧ st.pos ≤ s.size ∧ Hid (Left (rHnd s) m3 j lh st full3)) (fun i _ => m3 - (intOf i).toNat)
              case atStart => exact ⟨0, [], rh, _, Nat.zero_le _, rfl, rfl, F5h, ph, by rw [← HF3.out]; exact Left.begin _ _ _⟩
              case round =>
                clear F5h
                obtain ⟨j, lh, st, hv, hj, rfl, hll, F5, ps, HL⟩ := hrel
                have HLL : Hid (lh.length = j) := hll
                clear hll
                have c2 := F5.cur.c2
                go_upto_region 21 with fail
                go_cut [97] from 84 to 115 (fun c wx => wx = wr ∧ c = .bool (decide (j < m3) && !st.bad))
                case first =>
                  have hmm := HM3.out
                  by_cases h1 : j < NH
                  · by_cases h2 : j < 1000
                    · have E1 : Hid (decide (j < m3) = true) := decide_eq_true (by omega)
                      have h1i : (j : Int) < (NH : Int) := by omega
                      have h2i : (j : Int) < 1000 := by omega
                      obtain ⟨bd, hbd⟩ : ∃ b, st.bad = b := ⟨_, rfl⟩
                      have HB : Hid (st.bad = bd) := hbd
                      rw [hbd] at c2
                      clear hmm hbd
                      go_wp2
                      go_meet
                      case rel => exact ⟨rfl, by rw [E1.out, HB.out]; cases bd <;> rfl⟩
                    · have E1 : Hid (decide (j < m3) = false) := decide_eq_false (by omega)
                      have h1i : (j : Int) < (NH : Int) := by omega
                      have h2i : decide ((j : Int) < 1000) = false := decide_eq_false (by omega)
                      clear hmm
                      go_wp2
                      go_meet
                      case rel => exact ⟨rfl, by rw [E1.out]; rfl⟩
                  · have E1 : Hid (decide (j < m3) = false) := decide_eq_false (by omega)
                    have h1i : decide ((j : Int) < (NH : Int)) = false := decide_eq_false (by omega)
                    clear hmm
                    go_wp2
                    go_meet
                    case rel => exact ⟨rfl, by rw [E1.out]; rfl⟩
                case rest =>
                  obtain ⟨rfl, rfl⟩ := hcut
                  clear c2
                  cases hcnd : (decide (j < m3) && !st.bad) with
                  | true =>
                    have hjm : j < m3 := by
                      have := (Bool.and_eq_true_iff.1 hcnd).1
                      exact of_decide_eq_true this
                    have hbad : st.bad = false := by
                      have := (Bool.and_eq_true_iff.1 hcnd).2
                      simpa using this
                    have HLM : Hid (Left (rHnd s) m3 (j + 1) (lh ++ [(rHnd s st).1]) (rHnd s st).2 full3) := HL.out.more hjm hbad
                    have HJM : Hid (j < m3) := hjm
                    have hmm := HM3.out
                    have hlt : lh.length < 1000000000 := by have := HLL.out; omega
                    have hm1k : m3 ≤ 1000 := by omega
                    clear hbad hmm
                    have F6 := F5
                    have apc := row_apart' F6.rc
                    have apk := row_apart' F6.rk
                    have aph := row_apart' F6.rh
                    have bE := heap_alloc_new wc (.cells #[.int .i64 0, .int .i64 0, .int .i64 0] 77)
                    have F7 := F6.alloc (.cells #[.int .i64 0, .int .i64 0, .int .i64 0] 77)
                    have lX := box_lt F6.box
                    have lR := box_lt F6.res
                    have lC := F6.cur.lt
                    have l0 := F6.gr.size
                    obtain ⟨WE, hWE⟩ : ∃ W, wc.alloc (.cells #[.int .i64 0, .int .i64 0, .int .i64 0] 77) = W := ⟨_, rfl⟩
                    rw [hWE] at bE F7
                    have HWE : Hid (_ = WE) := hWE
                    obtain ⟨E, hE⟩ : ∃ E, wc.heap.size = E := ⟨_, rfl⟩
                    have HE : Hid (wc.heap.size = E) := hE
                    rw [hE] at bE apc apk aph lX lR lC l0
                    clear F6 hWE hE
                    go_upto_region 24 with fail
                    rw [HWE.out, HE.out]
                    clear HWE HE
                    have hva := rVar_pos s st ps
                    have cVa := l15Var_any s st C _ F7.cur hs ps
                    obtain ⟨vqa, hvqa⟩ : ∃ q, rVar s st = q := ⟨_, rfl⟩
                    obtain ⟨I0, ta⟩ := vqa
                    rw [hvqa] at cVa hva
                    go_wp2_with fail
                    refine cVa.mono ?_
                    rintro e xa ⟨rfl, hc, hg⟩
                    have Ga := F7.call hc hg
                    have bGa := box_grown bE hg (by omega)
                    have pa1 := hva.1
                    have lva1 := hva.2.2
                    have da := box_at bGa 0 _ rfl
                    have fa := frozen_of_row _ _ 0 _ _ bGa
                    have Ka := Ga.other (o := 0) (u := .int .i64 I0) (E := E) (by omega) (by omega) (by omega) apc apk aph
                    have bKa := heap_setCell_same xa E 0 _ 77 (.int .i64 I0) bGa
                    obtain ⟨Ya, hYa⟩ : ∃ W, xa.setCell ⟨E, 0, none⟩ (.int .i64 I0) = W := ⟨_, rfl⟩
                    rw [hYa] at Ka bKa
                    have HYa : Hid (_ = Ya) := hYa
                    clear cVa hc hg Ga bGa hva hYa F7 bE
                    go_upto_region 25 with fail
                    rw [HYa.out]
                    clear HYa da fa
                    have hvb := rVar_pos s ta pa1
                    have cVb := l15Var_any s ta C _ Ka.cur hs pa1
                    obtain ⟨vqb, hvqb⟩ : ∃ q, rVar s ta = q := ⟨_, rfl⟩
                    obtain ⟨I1, tb⟩ := vqb
                    rw [hvqb] at cVb hvb
                    go_wp2_with fail
                    refine cVb.mono ?_
                    rintro e xb ⟨rfl, hc, hg⟩
                    have Gb := Ka.call hc hg
                    have bGb := box_grown bKa hg (by omega)
                    have pb1 := hvb.1
                    have lvb1 := hvb.2.2
                    have db := box_at bGb 1 _ rfl
                    have fb := frozen_of_row _ _ 1 _ _ bGb
                    have Kb := Gb.other (o := 1) (u := .int .i64 I1) (E := E) (by omega) (by omega) (by omega) apc apk aph
                    have bKb := heap_setCell_same xb E 1 _ 77 (.int .i64 I1) bGb
                    obtain ⟨Yb, hYb⟩ : ∃ W, xb.setCell ⟨E, 1, none⟩ (.int .i64 I1) = W := ⟨_, rfl⟩
                    rw [hYb] at Kb bKb
                    have HYb : Hid (_ = Yb) := hYb
                    clear cVb hc hg Gb bGb hvb hYb Ka bKa
                    go_upto_region 26 with fail
                    rw [HYb.out]
                    clear HYb db fb
                    have hvc := rVar_pos s tb pb1
                    have cVc := l15Var_any s tb C _ Kb.cur hs pb1
                    obtain ⟨vqc, hvqc⟩ : ∃ q, rVar s tb = q := ⟨_, rfl⟩
                    obtain ⟨I2, tc⟩ := vqc
                    rw [hvqc] at cVc hvc
                    go_wp2_with fail
                    refine cVc.mono ?_
                    rintro e xc ⟨rfl, hc, hg⟩
                    have Gc := Kb.call hc hg
                    have bGc := box_grown bKb hg (by omega)
                    have pc1 := hvc.1
                    have lvc1 := hvc.2.2
                    have dc := box_at bGc 2 _ rfl
                    have fc := frozen_of_row _ _ 2 _ _ bGc
                    have Kc := Gc.other (o := 2) (u := .int .i64 I2) (E := E) (by omega) (by omega) (by omega) apc apk aph
                    have bKc := heap_setCell_same xc E 2 _ 77 (.int .i64 I2) bGc
                    obtain ⟨Yc, hYc⟩ : ∃ W, xc.setCell ⟨E, 2, none⟩ (.int .i64 I2) = W := ⟨_, rfl⟩
                    rw [hYc] at Kc bKc
                    have HYc : Hid (_ = Yc) := hYc
                    clear cVc hc hg Gc bGc hvc hYc Kb bKb
                    go_upto_region 27 with fail
                    rw [HYc.out]
                    clear HYc dc fc
                    have HRE : Hid (rHnd s st = (⟨I0, I1, I2⟩, tc)) := by
                      show _ = _
                      unfold rHnd; rw [hvqa]; simp only []; rw [hvqb]; simp only []; rw [hvqc]
                    have hbE : Yc.heap[E]? = some (.cells #[.int .i64 I0, .int .i64 I1, .int .i64 I2] 77 (0, 0)) := bKc
                    have e0 := box_at hbE 0 _ rfl
                    have e1 := box_at hbE 1 _ rfl
                    have e2 := box_at hbE 2 _ rfl
                    have bx := box_at Kc.box 4 _ rfl
                    have hone : ∀ u ∈ (#[.int .i64 I0, .int .i64 I1, .int .i64 I2] : Array Value).toList, u.oneCell' = true := fun u hu => by
                      simp only [List.mem_cons, List.not_mem_nil, or_false] at hu
                      rcases hu with rfl | rfl | rfl <;> rfl
                    have hro := Kc.rh
                    have hsz := Kc.gr.size
                    go_wp2_with (at_builtin; refine append_elem rfl _ _ 44 rfl w.heap.size 77 i3 _ 3 24 Try.underlying44 hi3 hz30 hz31 hz32 rfl (by decide) (by decide) hv lh.length _ rfl hro #[.int .i64 I0, .int .i64 I1, .int .i64 I2] rfl hone rfl (by omega) hsz ?_)
                    intro v5 w5 o5 g5 _
                    obtain ⟨vx, vc, rfl⟩ := row_slice o5
                    have hF := (Kc.alloc (.cells #[.int .i64 I0, .int .i64 I1, .int .i64 I2] 77)).addH g5 ⟨I0, I1, I2⟩ o5
                    have bx5 := box_at hF.1 4 _ rfl
                    have fx5 := frozen_of_row _ _ 4 _ _ hF.1
                    have HF9 : Hid _ := hF.2
                    clear hF Kc hbE bx e0 e1 e2 o5 g5 hro
                    go_wp2
                    go_roundw
                    case rel =>
                      have hjm2 := HJM.out
                      have hlm : Left (rHnd s) m3 (j + 1) (lh ++ [(rHnd s st).1]) (rHnd s st).2 full3 := HLM.out
                      rw [HRE.out] at hlm
                      exact ⟨j + 1, lh ++ [(⟨I0, I1, I2⟩ : PHnd)], tc, _, hjm2, by go_num, by rw [List.length_append, HLL.out]; rfl, HF9.out, pc1, hlm⟩
                    case measure =>
                      have hjm2 := HJM.out
                      simp [intOf]
                      omega
                  | false =>
                    have HD3 : Hid (full3 = (lh, st)) := HL.out.done hcnd
                    clear HL hcnd
                    obtain ⟨x1, d1, rfl⟩ := row_slice F5.rc
                    obtain ⟨x2, d2, rfl⟩ := row_slice F5.rk
                    obtain ⟨x3, d3, rfl⟩ := row_slice F5.rh
                    have HV : Hid (rFunc s r = (⟨PP, GG, lc, lk, lh⟩, st)) := by
                      show _ = _
                      unfold rFunc rCount
                      rw [HQa.out]
                      simp only []
                      rw [HQb.out]
                      simp only []
                      rw [HQc.out]
                      simp only []
                      rw [HM1.out, HF1.out, HD1.out]
                      simp only []
                      rw [HQk.out]
                      simp only []
                      rw [HM2.out, HF2.out, HD2.out]
                      simp only []
                      rw [HQh.out]
                      simp only []
                      rw [HM3.out, HF3.out, HD3.out]
                    have c0 := box_at F5.box 0 _ rfl
                    have c1 := box_at F5.box 1 _ rfl
                    have c2 := box_at F5.box 2 _ rfl
                    have c3 := box_at F5.box 3 _ rfl
                    have c4 := box_at F5.box 4 _ rfl
                    have z0 := box_at F5.res 0 _ rfl
                    have z1 := box_at F5.res 1 _ rfl
                    have z2 := box_at F5.res 2 _ rfl
                    have z3 := box_at F5.res 3 _ rfl
                    have z4 := box_at F5.res 4 _ rfl
                    have y0 := frozen_of_row _ _ 0 _ _ F5.res
                    have y1 := frozen_of_row _ _ 1 _ _ F5.res
                    have y2 := frozen_of_row _ _ 2 _ _ F5.res
                    have y3 := frozen_of_row _ _ 3 _ _ F5.res
                    have y4 := frozen_of_row _ _ 4 _ _ F5.res
                    have HE : Hid _ := F5.ends (.int .i64 PP) (.int .i64 GG) (.slice x1 lc.length d1) (.slice x2 lk.length d2) (.slice x3 lh.length d3)
                    have n1 : X ≠ R := by have := F5.lo; omega
                    have n2 : R ≠ X := by omega
                    clear F5
                    go_wp2
                    have he := HE.out
                    have e0 := box_at he.1 0 _ rfl
                    have e1 := box_at he.1 1 _ rfl
                    have e2 := box_at he.1 2 _ rfl
                    have e3 := box_at he.1 3 _ rfl
                    have e4 := box_at he.1 4 _ rfl
                    refine bodyPost_ret (v := .agg #[.int .i64 PP, .int .i64 GG, .slice x1 lc.length d1, .slice x2 lk.length d2, .slice x3 lh.length d3]) (by simp [results, Try.results13, go_sem, e0, e1, e2, e3, e4]) rfl ?_
                    rw [HV.out]
                    exact ⟨_, _, _, rfl, he.2.1, he.2.2.1, he.2.2.2.1, he.2.2.2.2.1, he.2.2.2.2.2⟩
end Go.Proofs.Ytedhfdgcofboeaa
