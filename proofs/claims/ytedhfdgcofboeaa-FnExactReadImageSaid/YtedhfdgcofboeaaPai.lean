/-
  Part 9 of what is proved of drawn right trees.
-/
import Derived.Test.YtedhfdgcofboeaaPah
import Derived.Deep.RegionLaw
import Derived.Laws.ResultCell

namespace Go.Proofs.Ytedhfdgcofboeaa
open Go.RowKit Go.Sort
set_option linter.unusedVariables false
theorem RdI.img {w0 w : World} {C X R : Nat} {s : ByteArray} {st : RS} {fv cv : Value} {l : List PFun} {xs : List Value} {k : List PCon} (h : RdI w0 C X R s w st fv cv l xs k) : ImgIn w w0.heap.size fv cv ⟨l, k⟩ := ⟨⟨xs, h.rf, h.ff⟩, h.rk⟩
theorem ImgIn.low {w : World} {B B' : Nat} {fv cv : Value} {p : PImg} (h : ImgIn w B fv cv p) (hB : B' ≤ B) : ImgIn w B' fv cv p := by
  obtain ⟨⟨xs, h1, h2⟩, h3⟩ := h
  refine ⟨⟨xs, row_low h1 hB, fun q f hq => ?_⟩, row_low h3 hB⟩
  obtain ⟨a, b, c, k1, k2, k3, k4⟩ := h2 q f hq
  exact ⟨a, b, c, k1, row_low k2 hB, row_low k3 hB, row_low k4 hB⟩
theorem ImgIn.put {w : World} {B X o : Nat} {fv cv u : Value} {p : PImg} {cs : Array Value} {fr : Nat × Nat} (h : ImgIn w B fv cv p) (hX : w.heap[X]? = some (.cells cs 25 fr)) : ImgIn (w.setCell ⟨X, o, none⟩ u) B fv cv p := by
  obtain ⟨⟨xs, h1, h2⟩, h3⟩ := h
  refine ⟨⟨xs, row_put15 h1 (row_apart h1 hX (by decide)), fun q f hq => ?_⟩, row_put15 h3 (row_apart h3 hX (by decide))⟩
  obtain ⟨a, b, c, k1, k2, k3, k4⟩ := h2 q f hq
  exact ⟨a, b, c, k1, row_put15 k2 (row_apart k2 hX (by decide)), row_put15 k3 (row_apart k3 hX (by decide)), row_put15 k4 (row_apart k4 hX (by decide))⟩
theorem ImgIn.none (w : World) (B : Nat) : ImgIn w B (.slice none 0 0) (.slice none 0 0) ⟨[], []⟩ := ⟨⟨[], World.ownsRow_nil _ _ _ _, fun q f hq => by simp at hq⟩, World.ownsRow_nil _ _ _ _⟩
theorem text_ne {a b : ByteArray} (h : ¬ a = b) : (a.toList == b.toList) = false := by
  rw [beq_eq_false_iff_ne]
  intro e
  apply h
  obtain ⟨x⟩ := a
  obtain ⟨y⟩ := b
  rw [ByteArray.toList_eq, ByteArray.toList_eq] at e
  congr 1
  exact Array.ext' e
set_option maxHeartbeats 4000000 in
set_option maxRecDepth 100000 in
theorem specReadImage_any (t : ByteArray) (w : World) (ht : t.size ≤ 1048576) :
    Calls Try.prog 4 #[.string t] w fun e w' => ∃ fv cv, e = .returned (.tuple #[.agg #[fv, cv], .bool (rdB t)]) ∧ ImgIn w' w.heap.size fv cv (rdP t) ∧ Below w.heap.size w w' := by
  obtain ⟨i0, hi0, hz00, hz01, hz02⟩ := info_in Try.infoConst13
  obtain ⟨i4, hi4, hz40, hz41, hz42⟩ := info_in Try.infoFunc13
  have hbI : ∀ (W : World), (Instr.build 25 #[]).run Try.prog W = .ok (.agg #[.slice none 0 0, .slice none 0 0]) W := fun W => run_build W 25 _ _ (by kernel_rfl)
  have hbC : ∀ (a : ByteArray) (b : Bool) (W : World), (Instr.build 35 #[(0, .string a), (2, .bool b)]).run Try.prog W = .ok (.agg #[.string a, .int .i64 0, .bool b]) W := fun a b W => run_build W 35 _ _ (by kernel_rfl)
  have cU := fun W => specUnsealed_v t W ht
  have hs := unsS_size t ht
  have hok := rImage_ok (unsS t) (!unsB t) hs
  have hrb : rdB t = (!(rImage (unsS t) (!unsB t)).2.bad && (imgTB (rImage (unsS t) (!unsB t)).1 && decide (sealedS (strOfNums (imgT (rImage (unsS t) (!unsB t)).1)) = t))) := rfl
  have hrp : rdP t = if rdB t then (rImage (unsS t) (!unsB t)).1 else ⟨[], []⟩ := rfl
  obtain ⟨s, hss⟩ : ∃ s, unsS t = s := ⟨_, rfl⟩
  obtain ⟨ub, hub⟩ : ∃ b, unsB t = b := ⟨_, rfl⟩
  rw [hss, hub] at hok hrb hrp
  rw [hss] at hs
  simp only [hss, hub] at cU
  clear hss hub
  obtain ⟨full, hfull⟩ : ∃ f, rImage s (!ub) = f := ⟨_, rfl⟩
  have HFU : Hid (rImage s (!ub) = full) := hfull
  rw [hfull] at hok hrb hrp
  have HOK : Hid _ := hok
  have HRB : Hid _ := hrb
  have HRP : Hid _ := hrp
  clear hfull hok hrb hrp
  have hR0 := heap_alloc_new w (.cells #[.slice none 0 0, .slice none 0 0] 25)
  have hb0 : Below w.heap.size w (w.alloc (.cells #[.slice none 0 0, .slice none 0 0] 25)) := (Below.refl _ _).alloc (Nat.le_refl _) _
  go_enter Try.func4, Try.ntmps4
  go_wp2_with fail
  refine (cU _).mono ?_
  rintro e w1 ⟨rfl, hb1⟩
  have hlR : w.heap.size < (w.alloc (.cells #[.slice none 0 0, .slice none 0 0] 25)).heap.size := by simp
  have hR1 := (hb1.block _ hlR).trans hR0
  have hlt1 := box_lt hR1
  have F0 : RdI w w1.heap.size (w1.heap.size + 1) w.heap.size s ((w1.alloc (.cells #[.string s, .int .i64 0, .bool (!ub)] 35)).alloc (.cells #[.slice none 0 0, .slice none 0 0] 25)) ⟨0, !ub⟩ (.slice none 0 0) (.slice none 0 0) [] [] [] := by
    have e1 : (w1.alloc (.cells #[.string s, .int .i64 0, .bool (!ub)] 35)).heap.size = w1.heap.size + 1 := by simp
    have hX := heap_alloc_new (w1.alloc (.cells #[.string s, .int .i64 0, .bool (!ub)] 35)) (.cells #[.slice none 0 0, .slice none 0 0] 25)
    rw [e1] at hX
    have hb2 : Below w1.heap.size w1 ((w1.alloc (.cells #[.string s, .int .i64 0, .bool (!ub)] 35)).alloc (.cells #[.slice none 0 0, .slice none 0 0] 25)) := ((Below.refl _ _).alloc (Nat.le_refl _) _).alloc (by rw [e1]; omega) _
    exact ⟨box_alloc (heap_alloc_new w1 _), hX, (hb2.block _ hlt1).trans hR1, World.ownsRow_nil _ _ _ _, fun q f hq => by simp at hq, World.ownsRow_nil _ _ _ _, (chain hb0 hb1).trans (hb2.mono (by omega)), Nat.le_refl _, hlt1, Nat.lt_succ_self _⟩
  obtain ⟨W2, hW2⟩ : ∃ W, (w1.alloc (.cells #[.string s, .int .i64 0, .bool (!ub)] 35)).alloc (.cells #[.slice none 0 0, .slice none 0 0] 25) = W := ⟨_, rfl⟩
  rw [hW2] at F0
  have HW2 : Hid (_ = W2) := hW2
  obtain ⟨R, hR⟩ : ∃ R, w.heap.size = R := ⟨_, rfl⟩
  obtain ⟨C, hC⟩ : ∃ C, w1.heap.size = C := ⟨_, rfl⟩
  obtain ⟨X, hX⟩ : ∃ X, C + 1 = X := ⟨_, rfl⟩
  rw [hC, hX, hR] at F0
  have HR : Hid (w.heap.size = R) := hR
  have HC : Hid (w1.heap.size = C) := hC
  have HX : Hid (C + 1 = X) := hX
  clear hW2 hR hC hX hR0 hb0 hb1 hlR hR1 hlt1 cU
  go_upto_region 4 with fail
  rw [HW2.out]
  try rw [HR.out]
  rw [HC.out, HX.out]
  clear HW2 hbI hbC
  have ct := l15Take_any s ⟨0, !ub⟩ 3 C _ F0.cur hs (Nat.zero_le _) (by omega)
  have ht3 := rTake_pos s ⟨0, !ub⟩ 3 (Nat.zero_le _)
  obtain ⟨⟨tb, r0⟩, htk⟩ : ∃ q, rTake s ⟨0, !ub⟩ 3 = q := ⟨_, rfl⟩
  rw [htk] at ct ht3
  have HT3 : Hid (rTake s ⟨0, !ub⟩ 3 = (tb, r0)) := htk
  go_wp2_with fail
  refine ct.mono ?_
  rintro e w2 ⟨rfl, hc2, hg2⟩
  have F1 := F0.call hc2 hg2
  have p0 := ht3.1
  clear ct ht3 htk hc2 hg2 F0
  have hva := rVar_pos s r0 p0
  have cVa := l15Var_any s r0 C _ F1.cur hs p0
  obtain ⟨qa, hqa⟩ : ∃ q, rVar s r0 = q := ⟨_, rfl⟩
  obtain ⟨NA, ra⟩ := qa
  rw [hqa] at cVa hva
  have HQa : Hid (rVar s r0 = (NA, ra)) := hqa
  clear hqa
  go_wp2_with fail
  refine cVa.mono ?_
  rintro e wa ⟨rfl, hca, hga⟩
  have F2 := F1.call hca hga
  have pa := hva.1
  have lva := hva.2.2
  clear cVa hva hca hga F1
  obtain ⟨m1, hm1⟩ : ∃ m, min NA 1000 = m := ⟨_, rfl⟩
  have HM1 : Hid (min NA 1000 = m1) := hm1
  obtain ⟨full1, hf1⟩ : ∃ f, rMany (rConst s) m1 ra = f := ⟨_, rfl⟩
  have HF1 : Hid (rMany (rConst s) m1 ra = full1) := hf1
  clear hm1 hf1
  go_wp2
  go_loopw [9] (fun i wr => ∃ (j : Nat) (lc : List PCon) (st : RS) (cv : Value), j ≤ m1 ∧ i = .int .i64 j ∧ lc.length = j ∧ RdI w C X R s wr st (.slice none 0 0) cv [] [] lc ∧ st.pos ≤ s.size ∧ Hid (Left (rConst s) m1 j lc st full1)) (fun i _ => m1 - (intOf i).toNat)
  case atStart => exact ⟨0, [], ra, _, Nat.zero_le _, rfl, rfl, F2, pa, by rw [← HF1.out]; exact Left.begin _ _ _⟩
  case round =>
    clear F2
    obtain ⟨j, lc, st, cv, hj, rfl, hll, F5, ps, HL⟩ := hrel
    have HLL : Hid (lc.length = j) := hll
    clear hll
    have c2 := F5.cur.c2
    go_upto_region 7 with fail
    go_cut [41] from 28 to 50 (fun c wx => wx = wr ∧ c = .bool (decide (j < m1) && !st.bad))
    case first =>
      have hmm := HM1.out
      by_cases h1 : j < NA
      · by_cases h2 : j < 1000
        · have E1 : Hid (decide (j < m1) = true) := decide_eq_true (by omega)
          have h1i : (j : Int) < (NA : Int) := by omega
          have h2i : (j : Int) < 1000 := by omega
          obtain ⟨bd, hbd⟩ : ∃ b, st.bad = b := ⟨_, rfl⟩
          have HB : Hid (st.bad = bd) := hbd
          rw [hbd] at c2
          clear hmm hbd
          go_wp2
          go_meet
          case rel => exact ⟨rfl, by rw [E1.out, HB.out]; cases bd <;> rfl⟩
        · have E1 : Hid (decide (j < m1) = false) := decide_eq_false (by omega)
          have h1i : (j : Int) < (NA : Int) := by omega
          have h2i : decide ((j : Int) < 1000) = false := decide_eq_false (by omega)
          clear hmm
          go_wp2
          go_meet
          case rel => exact ⟨rfl, by rw [E1.out]; rfl⟩
      · have E1 : Hid (decide (j < m1) = false) := decide_eq_false (by omega)
        have h1i : decide ((j : Int) < (NA : Int)) = false := decide_eq_false (by omega)
        clear hmm
        go_wp2
        go_meet
        case rel => exact ⟨rfl, by rw [E1.out]; rfl⟩
    case rest =>
      obtain ⟨rfl, rfl⟩ := hcut
      clear c2
      cases hcnd : (decide (j < m1) && !st.bad) with
      | true =>
        have hjm : j < m1 := by
          have := (Bool.and_eq_true_iff.1 hcnd).1
          exact of_decide_eq_true this
        have hbad : st.bad = false := by
          have := (Bool.and_eq_true_iff.1 hcnd).2
          simpa using this
        have HLM : Hid (Left (rConst s) m1 (j + 1) (lc ++ [(rConst s st).1]) (rConst s st).2 full1) := HL.out.more hjm hbad
        have HJM : Hid (j < m1) := hjm
        have hmm := HM1.out
        have hlt : lc.length < 1000000000 := by have := HLL.out; omega
        have hm1k : m1 ≤ 1000 := by omega
        clear hbad hmm
        obtain ⟨cx, cc, rfl⟩ := row_slice F5.rk
        have hcb := (rConst_ok s st hs ps).2
        have HCO : Hid (∀ W : World, W.heap = wc.heap → CurAt W C s st) := fun W hW => by unfold CurAt; rw [hW]; exact F5.cur
        have cK := fun W (hW : W.heap = wc.heap) => l15Const_any s st C W (HCO.out W hW) hs ps
        obtain ⟨⟨q, s2⟩, hq⟩ : ∃ q, rConst s st = q := ⟨_, rfl⟩
        rw [hq] at HLM hcb
        simp only [hq] at cK
        have bx : wc.cell? ⟨X, 1, none⟩ = some (.slice cx lc.length cc) := box_at F5.box 1 _ rfl
        have HF5 : Hid (RdI _ _ _ _ _ _ _ _ _ _ _ _) := F5
        have cK1 := cK wc.drew rfl
        have hone : ∀ u ∈ (#[.int .i64 q.kind, .int .u64 (q.num : Int), .string q.text] : Array Value).toList, u.oneCell' = true := fun u hu => by
          simp only [List.mem_cons, List.not_mem_nil, or_false] at hu
          rcases hu with rfl | rfl | rfl <;> rfl
        clear hq F5 cK
        go_upto_region 9 with fail
        go_region_law (first
          | (go_simp; go_at_call 12; (with_reducible refine cK1.mono ?_); rintro e w3 ⟨rfl, hc3, hg3⟩; have HI3 : Hid (RdI w C X R s w3 s2 (.slice none 0 0) (.slice cx lc.length cc) [] [] lc) := (HF5.out.keep (Below.refl _ _).drew).call hc3 hg3; have bx3 : w3.cell? ⟨X, 1, none⟩ = some (.slice cx lc.length cc) := box_at HI3.out.box 1 _ rfl; have lt3 := box_lt HI3.out.box)
          | (refine step_append_elem rfl _ _ 23 rfl w.heap.size 40 i0 _ 3 32 Try.underlying23 hi0 hz00 hz01 hz02 rfl (by decide) (by decide) (.slice cx lc.length cc) lc.length _ rfl HI3.out.rk #[.int .i64 q.kind, .int .u64 (q.num : Int), .string q.text] rfl hone rfl (some 49) rfl hlt HI3.out.bel.size ?_; intro v5 w5 o5 g5; obtain ⟨x5, c5, rfl⟩ := row_slice o5; have HA : Hid (_ ∧ RdI w C X R s _ s2 _ _ _ _ (lc ++ [q])) := (HI3.out.keep ((Below.refl _ _).alloc (Nat.le_refl _) _)).addC (c := q) g5 o5; have fx := frozen_of_row _ _ 1 _ _ HA.out.1; have cx5 : w5.cell? ⟨X, 1, none⟩ = some (.slice cx lc.length cc) := box_at HA.out.1 1 _ rfl))
        all_goals go_wp2
        all_goals
          go_roundw
          case rel => exact ⟨j + 1, lc ++ [q], s2, _, HJM.out, by go_num, by rw [List.length_append, HLL.out]; rfl, HA.out.2, hcb, HLM.out⟩
          case measure =>
            have hjm2 := HJM.out
            simp [intOf]
            omega
      | false =>
        have HD1 : Hid (full1 = (lc, st)) := HL.out.done hcnd
        clear HL hcnd
        have psA := ps
        have hvk := rVar_pos s st psA
        have cVk := l15Var_any s st C _ F5.cur hs psA
        obtain ⟨qk, hqk⟩ : ∃ q, rVar s st = q := ⟨_, rfl⟩
        obtain ⟨NK, rk⟩ := qk
        rw [hqk] at cVk hvk
        have HQk : Hid (rVar s st = (NK, rk)) := hqk
        clear hqk
        go_wp2_with fail
        refine cVk.mono ?_
        rintro e wk ⟨rfl, hck, hgk⟩
        have F5k := F5.call hck hgk
        have pk := hvk.1
        have lvk := hvk.2.2
        clear cVk hvk hck hgk F5
        obtain ⟨m2, hm2⟩ : ∃ m, min NK 1000 = m := ⟨_, rfl⟩
        have HM2 : Hid (min NK 1000 = m2) := hm2
        obtain ⟨full2, hf2⟩ : ∃ f, rMany (rFunc s) m2 rk = f := ⟨_, rfl⟩
        have HF2 : Hid (rMany (rFunc s) m2 rk = full2) := hf2
        clear hm2 hf2
        go_wp2
        go_loopw [10] (fun i wr => ∃ (j : Nat) (lf : List PFun) (st : RS) (fv : Value) (xs : List Value), j ≤ m2 ∧ i = .int .i64 j ∧ lf.length = j ∧ RdI w C X R s wr st fv cv lf xs lc ∧ st.pos ≤ s.size ∧ Hid (Left (rFunc s) m2 j lf st full2)) (fun i _ => m2 - (intOf i).toNat)
        case atStart => exact ⟨0, [], rk, _, _, Nat.zero_le _, rfl, rfl, F5k, pk, by rw [← HF2.out]; exact Left.begin _ _ _⟩
        case round =>
          clear F5k
          obtain ⟨j, lf, st, fv, xs, hj, rfl, hll, F5, ps, HL⟩ := hrel
          have HLL : Hid (lf.length = j) := hll
          clear hll
          have c2 := F5.cur.c2
          go_upto_region 12 with fail
          go_cut [66] from 53 to 75 (fun c wx => wx = wr ∧ c = .bool (decide (j < m2) && !st.bad))
          case first =>
            have hmm := HM2.out
            by_cases h1 : j < NK
            · by_cases h2 : j < 1000
              · have E1 : Hid (decide (j < m2) = true) := decide_eq_true (by omega)
                have h1i : (j : Int) < (NK : Int) := by omega
                have h2i : (j : Int) < 1000 := by omega
                obtain ⟨bd, hbd⟩ : ∃ b, st.bad = b := ⟨_, rfl⟩
                have HB : Hid (st.bad = bd) := hbd
                rw [hbd] at c2
                clear hmm hbd
                go_wp2
                go_meet
                case rel => exact ⟨rfl, by rw [E1.out, HB.out]; cases bd <;> rfl⟩
              · have E1 : Hid (decide (j < m2) = false) := decide_eq_false (by omega)
                have h1i : (j : Int) < (NK : Int) := by omega
                have h2i : decide ((j : Int) < 1000) = false := decide_eq_false (by omega)
                clear hmm
                go_wp2
                go_meet
                case rel => exact ⟨rfl, by rw [E1.out]; rfl⟩
            · have E1 : Hid (decide (j < m2) = false) := decide_eq_false (by omega)
              have h1i : decide ((j : Int) < (NK : Int)) = false := decide_eq_false (by omega)
              clear hmm
              go_wp2
              go_meet
              case rel => exact ⟨rfl, by rw [E1.out]; rfl⟩
          case rest =>
            obtain ⟨rfl, rfl⟩ := hcut
            clear c2
            cases hcnd : (decide (j < m2) && !st.bad) with
            | true =>
              have hjm : j < m2 := by
                have := (Bool.and_eq_true_iff.1 hcnd).1
                exact of_decide_eq_true this
              have hbad : st.bad = false := by
                have := (Bool.and_eq_true_iff.1 hcnd).2
                simpa using this
              have HLM : Hid (Left (rFunc s) m2 (j + 1) (lf ++ [(rFunc s st).1]) (rFunc s st).2 full2) := HL.out.more hjm hbad
              have HJM : Hid (j < m2) := hjm
              have hmm := HM2.out
              have hlt : lf.length < 1000000000 := by have := HLL.out; omega
              have hm1k : m2 ≤ 1000 := by omega
              clear hbad hmm
              obtain ⟨fx, fc, rfl⟩ := row_slice F5.rf
              have hcb := (rFunc_ok s st ps).2
              have HCO : Hid (∀ W : World, W.heap = wc.heap → CurAt W C s st) := fun W hW => by unfold CurAt; rw [hW]; exact F5.cur
              have cK := fun W (hW : W.heap = wc.heap) => l15Func_any s st C W (HCO.out W hW) hs ps
              obtain ⟨⟨q, s2⟩, hq⟩ : ∃ q, rFunc s st = q := ⟨_, rfl⟩
              rw [hq] at HLM hcb
              simp only [hq] at cK
              have bx : wc.cell? ⟨X, 0, none⟩ = some (.slice fx lf.length fc) := box_at F5.box 0 _ rfl
              have HF5 : Hid (RdI _ _ _ _ _ _ _ _ _ _ _ _) := F5
              have cK1 := cK wc.drew rfl
              have hszc := F5.bel.size
              clear hq F5 cK
              go_upto_region 14 with fail
              go_region_law (first
                | (go_simp; go_at_call 13; (with_reducible refine cK1.mono ?_); rintro e w3 ⟨v1, v2, v3, rfl, hc3, hg3, hr1, hr2, hr3⟩; obtain ⟨a1, d1, rfl⟩ := row_slice hr1; obtain ⟨a2, d2, rfl⟩ := row_slice hr2; obtain ⟨a3, d3, rfl⟩ := row_slice hr3; have HR1 : Hid (_ ∧ _ ∧ _) := ⟨row_low hr1 hszc, row_low hr2 hszc, row_low hr3 hszc⟩; have HI3 : Hid (RdI w C X R s w3 s2 (.slice fx lf.length fc) cv lf xs lc) := (HF5.out.keep (Below.refl _ _).drew).call hc3 hg3; have bx3 : w3.cell? ⟨X, 0, none⟩ = some (.slice fx lf.length fc) := box_at HI3.out.box 0 _ rfl; have lt3 := box_lt HI3.out.box; clear hr1 hr2 hr3)
                | (refine step_append_elem rfl _ _ 22 rfl w.heap.size 46 i4 _ 5 88 Try.underlying22 hi4 hz40 hz41 hz42 rfl (by decide) (by decide) (.slice fx lf.length fc) lf.length xs rfl HI3.out.rf #[.int .i64 q.params, .int .i64 q.regs, .slice a1 q.caps.length d1, .slice a2 q.code.length d2, .slice a3 q.hnds.length d3] rfl (fun u hu => by simp only [List.mem_cons, List.not_mem_nil, or_false] at hu; rcases hu with rfl | rfl | rfl | rfl | rfl <;> rfl) rfl (some 74) rfl hlt HI3.out.bel.size ?_; intro v5 w5 o5 g5; obtain ⟨x5, c5, rfl⟩ := row_slice o5; have HA : Hid (_ ∧ ∃ xs', RdI w C X R s _ s2 _ _ (lf ++ [q]) xs' lc) := (HI3.out.keep ((Below.refl _ _).alloc (Nat.le_refl _) _)).addF (p := q) g5 o5 (row_keep HR1.out.1 ((Below.refl _ _).alloc (Nat.le_refl _) _)) (row_keep HR1.out.2.1 ((Below.refl _ _).alloc (Nat.le_refl _) _)) (row_keep HR1.out.2.2 ((Below.refl _ _).alloc (Nat.le_refl _) _)); have fx5 := frozen_of_row _ _ 0 _ _ HA.out.1; have cx5 : w5.cell? ⟨X, 0, none⟩ = some (.slice fx lf.length fc) := box_at HA.out.1 0 _ rfl))
              all_goals go_wp2
              all_goals
                go_roundw
                case rel =>
                  obtain ⟨xs9, h9⟩ := HA.out.2
                  exact ⟨j + 1, lf ++ [q], s2, _, xs9, HJM.out, by go_num, by rw [List.length_append, HLL.out]; rfl, h9, hcb, HLM.out⟩
                case measure =>
                  have hjm2 := HJM.out
                  simp [intOf]
                  omega
            | false =>
              have HD2 : Hid (full2 = (lf, st)) := HL.out.done hcnd
              clear HL hcnd
              have HV : Hid (full = (⟨lf, lc⟩, st)) := by
                show _ = _
                rw [← HFU.out]
                unfold rImage rCount
                rw [HT3.out]
                simp only []
                rw [HQa.out]
                simp only []
                rw [HM1.out, HF1.out, HD1.out]
                simp only []
                rw [HQk.out]
                simp only []
                rw [HM2.out, HF2.out, HD2.out]
              have hok := HOK.out
              rw [HV.out] at hok
              obtain ⟨hwI, hlc2, hlf2, hq2⟩ := hok
              obtain ⟨fx, fc, rfl⟩ := row_slice F5.rf
              obtain ⟨cx, cc, rfl⟩ := row_slice F5.rk
              have cT := specImageText_any ⟨lf, lc⟩ _ _ _ F5.img.arg hwI
              have b0 := box_at F5.box 0 _ rfl
              have b1 := box_at F5.box 1 _ rfl
              obtain ⟨tb2, htb⟩ : ∃ b, imgTB ⟨lf, lc⟩ = b := ⟨_, rfl⟩
              rw [htb] at cT
              have HTB : Hid (imgTB ⟨lf, lc⟩ = tb2) := htb
              obtain ⟨T, hT⟩ : ∃ T, sealedS (strOfNums (imgT ⟨lf, lc⟩)) = T := ⟨_, rfl⟩
              rw [hT] at cT
              have HT : Hid (sealedS (strOfNums (imgT ⟨lf, lc⟩)) = T) := hT
              obtain ⟨bd, hbd⟩ : ∃ b, st.bad = b := ⟨_, rfl⟩
              have HBD : Hid (st.bad = bd) := hbd
              clear hwI htb hT
              cases tb2 with
              | false =>
                simp only [Bool.false_eq_true, if_false] at cT
                go_wp2_with fail
                refine cT.mono ?_
                rintro e w5 ⟨rfl, hb5⟩
                have F6 := F5.keep hb5
                have c2 := F6.cur.c2
                rw [hbd] at c2
                clear F5 b0 b1 cT hbd
                cases bd
                all_goals
                  have HB0 : Hid (rdB t = false) := by
                    show _ = _
                    rw [HRB.out, HV.out]
                    simp [HTB.out]
                  have HP0 : Hid (rdP t = ⟨[], []⟩) := by
                    show _ = _
                    rw [HRP.out, HB0.out]
                    rfl
                  have z0 := box_at F6.res 0 _ rfl
                  have z1 := box_at F6.res 1 _ rfl
                  have y0 := frozen_of_row _ _ 0 _ _ F6.res
                  have y1 := frozen_of_row _ _ 1 _ _ F6.res
                  have hA : ((w5.setCell ⟨R, 0, none⟩ (.slice none 0 0)).setCell ⟨R, 1, none⟩ (.slice none 0 0)).heap[R]? = some (.cells #[.slice none 0 0, .slice none 0 0] 25 (0, 0)) := heap_setCell_same _ _ _ _ _ _ (heap_setCell_same _ _ _ _ _ _ F6.res)
                  have HA : Hid _ := hA
                  have HBL : Hid (Below w.heap.size w ((w5.setCell ⟨R, 0, none⟩ (.slice none 0 0)).setCell ⟨R, 1, none⟩ (.slice none 0 0))) := (F6.bel.setCell (by have := F6.lo; show w.heap.size ≤ R; omega) _).setCell (by have := F6.lo; show w.heap.size ≤ R; omega) _
                  clear F6 hA
                  go_wp2
                  have q0 := box_at HA.out 0 _ rfl
                  have q1 := box_at HA.out 1 _ rfl
                  refine bodyPost_ret (v := .tuple #[.agg #[.slice none 0 0, .slice none 0 0], .bool false]) (by rw [results_cell_tmp rfl]; simp [go_sem, q0, q1]) rfl ?_
                  rw [HB0.out, HP0.out]
                  exact ⟨_, _, rfl, ImgIn.none _ _, HBL.out⟩
              | true =>
                simp only [if_true] at cT
                go_wp2_with fail
                refine cT.mono ?_
                rintro e w5 ⟨rfl, hb5⟩
                have F6 := F5.keep hb5
                have c2 := F6.cur.c2
                rw [hbd] at c2
                clear F5 b0 b1 cT hbd
                cases bd with
                | true =>
                  have HB0 : Hid (rdB t = false) := by
                    show _ = _
                    rw [HRB.out, HV.out]
                    simp [HBD.out]
                  have HP0 : Hid (rdP t = ⟨[], []⟩) := by
                    show _ = _
                    rw [HRP.out, HB0.out]
                    rfl
                  have z0 := box_at F6.res 0 _ rfl
                  have z1 := box_at F6.res 1 _ rfl
                  have y0 := frozen_of_row _ _ 0 _ _ F6.res
                  have y1 := frozen_of_row _ _ 1 _ _ F6.res
                  have hA : ((w5.setCell ⟨R, 0, none⟩ (.slice none 0 0)).setCell ⟨R, 1, none⟩ (.slice none 0 0)).heap[R]? = some (.cells #[.slice none 0 0, .slice none 0 0] 25 (0, 0)) := heap_setCell_same _ _ _ _ _ _ (heap_setCell_same _ _ _ _ _ _ F6.res)
                  have HA : Hid _ := hA
                  have HBL : Hid (Below w.heap.size w ((w5.setCell ⟨R, 0, none⟩ (.slice none 0 0)).setCell ⟨R, 1, none⟩ (.slice none 0 0))) := (F6.bel.setCell (by have := F6.lo; show w.heap.size ≤ R; omega) _).setCell (by have := F6.lo; show w.heap.size ≤ R; omega) _
                  clear F6 hA
                  go_wp2
                  have q0 := box_at HA.out 0 _ rfl
                  have q1 := box_at HA.out 1 _ rfl
                  refine bodyPost_ret (v := .tuple #[.agg #[.slice none 0 0, .slice none 0 0], .bool false]) (by rw [results_cell_tmp rfl]; simp [go_sem, q0, q1]) rfl ?_
                  rw [HB0.out, HP0.out]
                  exact ⟨_, _, rfl, ImgIn.none _ _, HBL.out⟩
                | false =>
                  by_cases hTt : T = t
                  · subst hTt
                    have HB1 : Hid (rdB T = true) := by
                      show _ = _
                      rw [HRB.out, HV.out]
                      simp [HBD.out, HTB.out, HT.out]
                    have HP1 : Hid (rdP T = ⟨lf, lc⟩) := by
                      show _ = _
                      rw [HRP.out, HB1.out, HV.out]
                      rfl
                    have cC := l13Copy_any ⟨lf, lc⟩ _ _ _ w5 F6.img hlf2 hlc2 hq2
                    have b0 := box_at F6.box 0 _ rfl
                    have b1 := box_at F6.box 1 _ rfl
                    have hee : (T.toList == T.toList) = true := by simp
                    go_wp2_with fail
                    refine cC.mono ?_
                    rintro e w6 ⟨f2, k2, rfl, hI6, hb6⟩
                    have F7 := F6.keep hb6
                    have hI7 := hI6.low (B' := w.heap.size) F6.bel.size
                    obtain ⟨f2x, f2c, hf2⟩ := hI6.1.slice
                    obtain ⟨k2x, k2c, hk2⟩ := row_slice hI6.2
                    have hf2' : f2 = .slice f2x lf.length f2c := hf2
                    have hk2' : k2 = .slice k2x lc.length k2c := hk2
                    subst hf2' hk2'
                    have z0 := box_at F7.res 0 _ rfl
                    have z1 := box_at F7.res 1 _ rfl
                    have y0 := frozen_of_row _ _ 0 _ _ F7.res
                    have y1 := frozen_of_row _ _ 1 _ _ F7.res
                    have hA0 := heap_setCell_same w6 R 0 _ 25 (.slice f2x lf.length f2c) F7.res
                    have hA : ((w6.setCell ⟨R, 0, none⟩ (.slice f2x lf.length f2c)).setCell ⟨R, 1, none⟩ (.slice k2x lc.length k2c)).heap[R]? = some (.cells #[.slice f2x lf.length f2c, .slice k2x lc.length k2c] 25 (0, 0)) := heap_setCell_same _ _ _ _ _ _ hA0
                    have HA : Hid _ := hA
                    have HI : Hid (ImgIn ((w6.setCell ⟨R, 0, none⟩ (.slice f2x lf.length f2c)).setCell ⟨R, 1, none⟩ (.slice k2x lc.length k2c)) w.heap.size (.slice f2x lf.length f2c) (.slice k2x lc.length k2c) ⟨lf, lc⟩) := (hI7.put F7.res).put hA0
                    have HBL : Hid (Below w.heap.size w ((w6.setCell ⟨R, 0, none⟩ (.slice f2x lf.length f2c)).setCell ⟨R, 1, none⟩ (.slice k2x lc.length k2c))) := (F7.bel.setCell (by have := F7.lo; show w.heap.size ≤ R; omega) _).setCell (by have := F7.lo; show w.heap.size ≤ R; omega) _
                    clear F6 F7 hA hA0 hI6 hI7 hf2 hk2 b0 b1
                    go_wp2
                    have q0 := box_at HA.out 0 _ rfl
                    have q1 := box_at HA.out 1 _ rfl
                    refine bodyPost_ret (v := .tuple #[.agg #[.slice f2x lf.length f2c, .slice k2x lc.length k2c], .bool true]) (by rw [results_cell_tmp rfl]; simp [go_sem, q0, q1]) rfl ?_
                    rw [HB1.out, HP1.out]
                    exact ⟨_, _, rfl, HI.out, HBL.out⟩
                  · have hne := text_ne hTt
                    have HB0 : Hid (rdB t = false) := by
                      show _ = _
                      rw [HRB.out, HV.out]
                      simp [HT.out, hTt]
                    have HP0 : Hid (rdP t = ⟨[], []⟩) := by
                      show _ = _
                      rw [HRP.out, HB0.out]
                      rfl
                    have z0 := box_at F6.res 0 _ rfl
                    have z1 := box_at F6.res 1 _ rfl
                    have y0 := frozen_of_row _ _ 0 _ _ F6.res
                    have y1 := frozen_of_row _ _ 1 _ _ F6.res
                    have hA : ((w5.setCell ⟨R, 0, none⟩ (.slice none 0 0)).setCell ⟨R, 1, none⟩ (.slice none 0 0)).heap[R]? = some (.cells #[.slice none 0 0, .slice none 0 0] 25 (0, 0)) := heap_setCell_same _ _ _ _ _ _ (heap_setCell_same _ _ _ _ _ _ F6.res)
                    have HA : Hid _ := hA
                    have HBL : Hid (Below w.heap.size w ((w5.setCell ⟨R, 0, none⟩ (.slice none 0 0)).setCell ⟨R, 1, none⟩ (.slice none 0 0))) := (F6.bel.setCell (by have := F6.lo; show w.heap.size ≤ R; omega) _).setCell (by have := F6.lo; show w.heap.size ≤ R; omega) _
                    clear F6 hA
                    go_wp2
                    have q0 := box_at HA.out 0 _ rfl
                    have q1 := box_at HA.out 1 _ rfl
                    refine bodyPost_ret (v := .tuple #[.agg #[.slice none 0 0, .slice none 0 0], .bool false]) (by rw [results_cell_tmp rfl]; simp [go_sem, q0, q1]) rfl ?_
                    rw [HB0.out, HP0.out]
                    exact ⟨_, _, rfl, ImgIn.none _ _, HBL.out⟩
end Go.Proofs.Ytedhfdgcofboeaa
