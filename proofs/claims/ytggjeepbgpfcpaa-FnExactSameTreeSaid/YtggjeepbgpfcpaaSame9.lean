/-
  The walk of the specification's SameTree.
-/
import Derived.Test.YtggjeepbgpfcpaaNode9F
namespace Go.Proofs.Ytggjeepbgpfcpaa
open Go.RowKit Go.Sort
set_option linter.unusedVariables false

/-- the same, but for the place -/
def SameAt (x y : PNode) : Prop := x.kind = y.kind ∧ x.a = y.a ∧ x.b = y.b ∧ x.c = y.c ∧ x.num = y.num ∧ x.list = y.list ∧ x.names = y.names
def SameP (a b : List PNode) : Prop := a.length = b.length ∧ ∀ (q : Nat) (x y : PNode), a[q]? = some x → b[q]? = some y → SameAt x y
/-- an answer tells whether something is so -/
def Says (r : Bool) (P : Prop) : Prop := r = true ↔ P
theorem says_yes {P : Prop} (h : P) : Says true P := ⟨fun _ => h, fun _ => rfl⟩
theorem says_no {P : Prop} (h : ¬ P) : Says false P := by unfold Says; simp [h]
theorem same_not {a b : List PNode} {q : Nat} {x y : PNode} (hx : a[q]? = some x) (hy : b[q]? = some y) (h : ¬ SameAt x y) : ¬ SameP a b := fun k => h (k.2 q x y hx hy)
theorem list_ext {α : Type} {l m : List α} (h : l.length = m.length) (d : α) (k : ∀ q, q < l.length → l.getD q d = m.getD q d) : l = m := by
  apply List.ext_getElem?
  intro q
  by_cases hq : q < l.length
  · have := k q hq
    rw [List.getD, List.getD, List.getElem?_eq_getElem hq, List.getElem?_eq_getElem (by omega)] at this
    rw [List.getElem?_eq_getElem hq, List.getElem?_eq_getElem (by omega)]
    simpa using this
  · rw [List.getElem?_eq_none (by omega), List.getElem?_eq_none (by omega)]

theorem bytes_same {x y : ByteArray} (h : x.data.toList = y.data.toList) : x = y := by
  apply ByteArray.ext
  exact Array.toList_inj.1 h

/-- a row of numbers, of texts, read by index -/
theorem ints_row {w : World} {B : Nat} {v : Value} {l : List Int} (h : w.ownsRow B 3 1 v l.length (l.map (Value.int .i64))) : ∃ x c, v = .slice x l.length c ∧ l.length ≤ maxLen ∧ (0 < l.length → ∃ g, x = some ⟨g, 0, none⟩ ∧ g < w.heap.size ∧ ∀ j, j < l.length → w.cell? ⟨g, j, none⟩ = some (.int .i64 (l.getD j 0))) := by
  obtain ⟨x, c, e, hm, _, hc⟩ := own_rows h
  refine ⟨x, c, e, hm, fun h0 => ?_⟩
  obtain ⟨g, e1, e2, e3⟩ := hc h0
  exact ⟨g, e1, e2, fun j hj => e3 j _ (by rw [List.getElem?_map, List.getElem?_eq_getElem hj, List.getD, List.getElem?_eq_getElem hj]; rfl)⟩
theorem strs_row {w : World} {B : Nat} {v : Value} {l : List ByteArray} (h : w.ownsRow B 9 1 v l.length (l.map Value.string)) : ∃ x c, v = .slice x l.length c ∧ l.length ≤ maxLen ∧ (0 < l.length → ∃ g, x = some ⟨g, 0, none⟩ ∧ g < w.heap.size ∧ ∀ j, j < l.length → w.cell? ⟨g, j, none⟩ = some (.string (l.getD j ByteArray.empty))) := by
  obtain ⟨x, c, e, hm, _, hc⟩ := own_rows h
  refine ⟨x, c, e, hm, fun h0 => ?_⟩
  obtain ⟨g, e1, e2, e3⟩ := hc h0
  exact ⟨g, e1, e2, fun j hj => e3 j _ (by rw [List.getElem?_map, List.getElem?_eq_getElem hj, List.getD, List.getElem?_eq_getElem hj]; rfl)⟩

set_option maxHeartbeats 4000000 in
set_option maxRecDepth 100000 in
theorem specSameTree_any (B B' : Nat) (a b : Value) (ns ms : List PNode) (w : World) (ha : TreeIn w B a ns) (hb : TreeIn w B' b ms) :
    Calls Try.prog 13 #[a, b] w fun e w' => ∃ r : Bool, e = .returned (.bool r) ∧ Says r (SameP ns ms) ∧ Below w.heap.size w w' := by
  obtain ⟨xa, ca, rfl, hm, oa⟩ := ha.opened
  obtain ⟨xb, cb, rfl, hm2, ob⟩ := hb.opened
  clear ha hb
  unfold maxLen at hm hm2
  by_cases hlen : ¬ ns.length = ms.length
  · have hne : (((ns.length : Int)) == (ms.length : Int)) = false := by rw [beq_eq_false_iff_ne]; omega
    have HF : Hid (¬ SameP ns ms) := fun h => hlen h.1
    clear oa ob hlen
    go_enter Try.func13, Try.ntmps13
    go_wp2
    go_ret
    exact ⟨_, rfl, says_no HF.out, Below.refl _ _⟩
  · obtain ⟨n, hn⟩ : ∃ n, ns.length = n := ⟨_, rfl⟩
    have hn2 : ms.length = n := by omega
    have HN : Hid (ns.length = n ∧ ms.length = n) := ⟨hn, hn2⟩
    rw [hn] at hm oa ⊢
    rw [hn2] at hm2 ob ⊢
    clear hn hn2 hlen hm2
    have HA : Hid (0 < n → ∃ g, xa = some ⟨g, 0, none⟩ ∧ ∀ q p, ns[q]? = some p → ∃ lv nv, NodeAt w B g (q * 8) p lv nv) := oa
    have HB : Hid (0 < n → ∃ g, xb = some ⟨g, 0, none⟩ ∧ ∀ q p, ms[q]? = some p → ∃ lv nv, NodeAt w B' g (q * 8) p lv nv) := ob
    clear oa ob
    go_enter Try.func13, Try.ntmps13
    go_wp2
    go_loopw [5] (fun i wr => ∃ k : Nat, k ≤ n ∧ i = .int .i64 k ∧ Below w.heap.size w wr ∧ Hid (∀ (q : Nat) (x y : PNode), q < k → ns[q]? = some x → ms[q]? = some y → SameAt x y)) (fun i _ => n - (intOf i).toNat)
    case atStart => exact ⟨0, Nat.zero_le _, rfl, Below.refl _ _, fun q x y hq => absurd hq (Nat.not_lt_zero _)⟩
    case round =>
      obtain ⟨k, hk, rfl, hbel, HS⟩ := hrel
      by_cases hlt : k < n
      · obtain ⟨ga, rfl, hca⟩ := HA.out (by omega)
        obtain ⟨gb, rfl, hcb⟩ := HB.out (by omega)
        obtain ⟨x, hx⟩ : ∃ p, ns[k]? = some p := ⟨_, List.getElem?_eq_getElem (by have := HN.out.1; omega)⟩
        obtain ⟨y, hy⟩ : ∃ p, ms[k]? = some p := ⟨_, List.getElem?_eq_getElem (by have := HN.out.2; omega)⟩
        obtain ⟨l1, n1, hA⟩ := hca k x hx
        obtain ⟨l2, n2, hB⟩ := hcb k y hy
        have hA' := hA.below hbel
        have hB' := hB.below hbel
        have HF : Hid (¬ SameAt x y → ¬ SameP ns ms) := fun h => same_not hx hy h
        have HS2 : Hid (SameAt x y → ∀ (q : Nat) (x y : PNode), q < k + 1 → ns[q]? = some x → ms[q]? = some y → SameAt x y) := fun h q x' y' hq hx' hy' => by
          rcases Nat.lt_or_ge q k with h' | h'
          · exact HS.out q x' y' h' hx' hy'
          · have e : q = k := by omega
            subst e
            rw [hx] at hx'
            rw [hy] at hy'
            injection hx' with hx'
            injection hy' with hy'
            subst hx' hy'
            exact h
        clear hca hcb hx hy hA hB HA HB HS
        obtain ⟨k1, a1, b1, c1, L1, M1, u1, p1⟩ := x
        obtain ⟨k2, a2, b2, c2, L2, M2, u2, p2⟩ := y
        obtain ⟨z1, zc1, rfl, hz1, ho1⟩ := ints_row hA'.list
        obtain ⟨z2, zc2, rfl, hz2, ho2⟩ := ints_row hB'.list
        obtain ⟨t1, tc1, rfl, ht1, hs1⟩ := strs_row hA'.names
        obtain ⟨t2, tc2, rfl, ht2, hs2⟩ := strs_row hB'.names
        unfold maxLen at hz1 hz2 ht1 ht2
        simp only at hz1 hz2 ht1 ht2 ho1 ho2 hs1 hs2
        obtain ⟨hl1, hn1, d0, d1, d2, d3, d4, d5, d6, d7⟩ := hA'
        obtain ⟨hl2, hn2, e0, e1, e2, e3, e4, e5, e6, e7⟩ := hB'
        simp only at d0 d1 d2 d3 d4 d5 d6 d7 e0 e1 e2 e3 e4 e5 e6 e7
        clear hl1 hl2 hn1 hn2
        have hki : (k : Int) < (n : Int) := by omega
        have hk0 : (0 : Int) ≤ (k : Int) := by omega
        have hga : ga < wr.heap.size := World.block_lt_of_cell? wr _ d0
        have hgb : gb < wr.heap.size := World.block_lt_of_cell? wr _ e0
        have T := two_new wr (.cells #[.int .i64 k1, .int .i64 a1, .int .i64 b1, .int .i64 c1, .slice z1 L1.length zc1, .slice t1 M1.length tc1, .int .u64 (u1 : Int), .int .i64 p1] 38) (.cells #[.int .i64 k2, .int .i64 a2, .int .i64 b2, .int .i64 c2, .slice z2 L2.length zc2, .slice t2 M2.length tc2, .int .u64 (u2 : Int), .int .i64 p2] 38)
        go_upto_region 8 with fail
        obtain ⟨W2, hW2⟩ : ∃ W, ((wr.alloc (.cells #[.int .i64 k1, .int .i64 a1, .int .i64 b1, .int .i64 c1, .slice z1 L1.length zc1, .slice t1 M1.length tc1, .int .u64 (u1 : Int), .int .i64 p1] 38)).alloc (.cells #[.int .i64 k2, .int .i64 a2, .int .i64 b2, .int .i64 c2, .slice z2 L2.length zc2, .slice t2 M2.length tc2, .int .u64 (u2 : Int), .int .i64 p2] 38)) = W := ⟨_, rfl⟩
        rw [hW2] at T
        try simp only [hW2]
        clear hW2 d0 d1 d2 d3 d4 d5 d6 d7 e0 e1 e2 e3 e4 e5 e6 e7
        obtain ⟨q0, q1, tz, tb⟩ := T
        obtain ⟨G, hG⟩ : ∃ G, wr.heap.size = G := ⟨_, rfl⟩
        have ho1' : 0 < L1.length → ∃ g, z1 = some ⟨g, 0, none⟩ ∧ g < W2.heap.size ∧ ∀ j, j < L1.length → W2.cell? ⟨g, j, none⟩ = some (.int .i64 (L1.getD j 0)) := fun h0 => by
          obtain ⟨g, r1, r2, r3⟩ := ho1 h0
          exact ⟨g, r1, by omega, fun j hj => (tb.cell (p := ⟨g, j, none⟩) r2).trans (r3 j hj)⟩
        have ho2' : 0 < L2.length → ∃ g, z2 = some ⟨g, 0, none⟩ ∧ g < W2.heap.size ∧ ∀ j, j < L2.length → W2.cell? ⟨g, j, none⟩ = some (.int .i64 (L2.getD j 0)) := fun h0 => by
          obtain ⟨g, r1, r2, r3⟩ := ho2 h0
          exact ⟨g, r1, by omega, fun j hj => (tb.cell (p := ⟨g, j, none⟩) r2).trans (r3 j hj)⟩
        have hs1' : 0 < M1.length → ∃ g, t1 = some ⟨g, 0, none⟩ ∧ g < W2.heap.size ∧ ∀ j, j < M1.length → W2.cell? ⟨g, j, none⟩ = some (.string (M1.getD j ByteArray.empty)) := fun h0 => by
          obtain ⟨g, r1, r2, r3⟩ := hs1 h0
          exact ⟨g, r1, by omega, fun j hj => (tb.cell (p := ⟨g, j, none⟩) r2).trans (r3 j hj)⟩
        have hs2' : 0 < M2.length → ∃ g, t2 = some ⟨g, 0, none⟩ ∧ g < W2.heap.size ∧ ∀ j, j < M2.length → W2.cell? ⟨g, j, none⟩ = some (.string (M2.getD j ByteArray.empty)) := fun h0 => by
          obtain ⟨g, r1, r2, r3⟩ := hs2 h0
          exact ⟨g, r1, by omega, fun j hj => (tb.cell (p := ⟨g, j, none⟩) r2).trans (r3 j hj)⟩
        have HI : Hid _ := ho1'
        have HJ : Hid _ := ho2'
        have HK : Hid _ := hs1'
        have HL : Hid _ := hs2'
        have tb2 : Below w.heap.size w W2 := chain hbel tb
        rw [hG] at q0 q1 tz
        try simp only [hG]
        obtain ⟨f0, f1, f2, f3, f4, f5, f6, f7⟩ := cells_eight q0
        obtain ⟨g0, g1, g2, g3, g4, g5, g6, g7⟩ := cells_eight q1
        have HC1 : Hid (W2.heap[G]? = some (.cells #[.int .i64 k1, .int .i64 a1, .int .i64 b1, .int .i64 c1, .slice z1 L1.length zc1, .slice t1 M1.length tc1, .int .u64 (u1 : Int), .int .i64 p1] 38)) := q0
        have HC2 : Hid (W2.heap[G + 1]? = some (.cells #[.int .i64 k2, .int .i64 a2, .int .i64 b2, .int .i64 c2, .slice z2 L2.length zc2, .slice t2 M2.length tc2, .int .u64 (u2 : Int), .int .i64 p2] 38)) := q1
        clear ho1 ho2 hs1 hs2 ho1' ho2' hs1' hs2' hga hgb tb hG hbel q0 q1 HN
        by_cases h0 : ¬ k1 = k2
        · have hne : ((k1 : Int) == (k2 : Int)) = false := by rw [beq_eq_false_iff_ne]; omega
          have HN2 : Hid (¬ SameP ns ms) := HF.out fun h => h0 h.1
          clear HI HJ HK HL HF HS2 HC1 HC2
          go_wp2
          go_ret
          exact ⟨_, rfl, says_no HN2.out, tb2⟩
        rw [Decidable.not_not] at h0
        subst h0
        by_cases h1 : ¬ a1 = a2
        · have hne : ((a1 : Int) == (a2 : Int)) = false := by rw [beq_eq_false_iff_ne]; omega
          have HN2 : Hid (¬ SameP ns ms) := HF.out fun h => h1 h.2.1
          clear HI HJ HK HL HF HS2 HC1 HC2
          go_wp2
          go_ret
          exact ⟨_, rfl, says_no HN2.out, tb2⟩
        rw [Decidable.not_not] at h1
        subst h1
        by_cases h2 : ¬ b1 = b2
        · have hne : ((b1 : Int) == (b2 : Int)) = false := by rw [beq_eq_false_iff_ne]; omega
          have HN2 : Hid (¬ SameP ns ms) := HF.out fun h => h2 h.2.2.1
          clear HI HJ HK HL HF HS2 HC1 HC2
          go_wp2
          go_ret
          exact ⟨_, rfl, says_no HN2.out, tb2⟩
        rw [Decidable.not_not] at h2
        subst h2
        by_cases h3 : ¬ c1 = c2
        · have hne : ((c1 : Int) == (c2 : Int)) = false := by rw [beq_eq_false_iff_ne]; omega
          have HN2 : Hid (¬ SameP ns ms) := HF.out fun h => h3 h.2.2.2.1
          clear HI HJ HK HL HF HS2 HC1 HC2
          go_wp2
          go_ret
          exact ⟨_, rfl, says_no HN2.out, tb2⟩
        rw [Decidable.not_not] at h3
        subst h3
        by_cases h4 : ¬ u1 = u2
        · have hne : ((u1 : Int) == (u2 : Int)) = false := by rw [beq_eq_false_iff_ne]; omega
          have HN2 : Hid (¬ SameP ns ms) := HF.out fun h => h4 h.2.2.2.2.1
          clear HI HJ HK HL HF HS2 HC1 HC2
          go_wp2
          go_ret
          exact ⟨_, rfl, says_no HN2.out, tb2⟩
        rw [Decidable.not_not] at h4
        subst h4
        by_cases h5 : ¬ L1.length = L2.length
        · have hne : ((L1.length : Int) == (L2.length : Int)) = false := by rw [beq_eq_false_iff_ne]; omega
          have HN2 : Hid (¬ SameP ns ms) := HF.out fun h => h5 (congrArg List.length h.2.2.2.2.2.1)
          clear HI HJ HK HL HF HS2 HC1 HC2
          go_wp2
          go_ret
          exact ⟨_, rfl, says_no HN2.out, tb2⟩
        rw [Decidable.not_not] at h5
        by_cases h6 : ¬ M1.length = M2.length
        · have hne : ((M1.length : Int) == (M2.length : Int)) = false := by rw [beq_eq_false_iff_ne]; omega
          have HN2 : Hid (¬ SameP ns ms) := HF.out fun h => h6 (congrArg List.length h.2.2.2.2.2.2)
          clear HI HJ HK HL HF HS2 HC1 HC2
          go_wp2
          go_ret
          exact ⟨_, rfl, says_no HN2.out, tb2⟩
        rw [Decidable.not_not] at h6
        obtain ⟨N1, hN1⟩ : ∃ N, L1.length = N := ⟨_, rfl⟩
        have hN2 : L2.length = N1 := by omega
        obtain ⟨N3, hN3⟩ : ∃ N, M1.length = N := ⟨_, rfl⟩
        have hN4 : M2.length = N3 := by omega
        have HLN : Hid (L1.length = N1 ∧ L2.length = N1) := ⟨hN1, hN2⟩
        have HMN : Hid (M1.length = N3 ∧ M2.length = N3) := ⟨hN3, hN4⟩
        rw [hN1] at f4 hz1 HI HC1
        rw [hN2] at g4 hz2 HJ HC2
        rw [hN3] at f5 ht1 HK HC1
        rw [hN4] at g5 ht2 HL HC2
        clear hN1 hN2 hN3 hN4 h5 h6 hz2 ht2
        go_upto_region 11 with fail
        go_loopw [8] (fun i wq => ∃ j : Nat, j ≤ N1 ∧ i = .int .i64 j ∧ Below W2.heap.size W2 wq ∧ Hid (∀ q, q < j → L1.getD q 0 = L2.getD q 0)) (fun i _ => N1 - (intOf i).toNat)
        case atStart => exact ⟨0, Nat.zero_le _, rfl, Below.refl _ _, fun q hq => absurd hq (Nat.not_lt_zero _)⟩
        case round =>
          clear f0 f1 f2 f3 f4 f5 f6 f7 g0 g1 g2 g3 g4 g5 g6 g7
          obtain ⟨j, hj, rfl, bq, HQ⟩ := hrel
          obtain ⟨f0, f1, f2, f3, f4, f5, f6, f7⟩ := cells_eight ((bq.block G (by omega)).trans HC1.out)
          obtain ⟨g0, g1, g2, g3, g4, g5, g6, g7⟩ := cells_eight ((bq.block (G + 1) (by omega)).trans HC2.out)
          have tb3 := tb2.trans (bq.mono (by have := tb2.size; omega))
          by_cases hjn : j < N1
          · obtain ⟨gz1, rfl, r1, r2⟩ := HI.out (by omega)
            obtain ⟨gz2, rfl, r3, r4⟩ := HJ.out (by omega)
            have s1 : wr.cell? ⟨gz1, j, none⟩ = some (.int .i64 (L1.getD j 0)) := (bq.cell (p := ⟨gz1, j, none⟩) r1).trans (r2 j hjn)
            have s2 : wr.cell? ⟨gz2, j, none⟩ = some (.int .i64 (L2.getD j 0)) := (bq.cell (p := ⟨gz2, j, none⟩) r3).trans (r4 j hjn)
            obtain ⟨v1, hv1⟩ : ∃ v, L1.getD j 0 = v := ⟨_, rfl⟩
            obtain ⟨v2, hv2⟩ : ∃ v, L2.getD j 0 = v := ⟨_, rfl⟩
            rw [hv1] at s1
            rw [hv2] at s2
            have hji : (j : Int) < (N1 : Int) := by omega
            have hj0 : (0 : Int) ≤ (j : Int) := by omega
            by_cases hv : v1 = v2
            · subst hv
              have HQ2 : Hid (∀ q, q < j + 1 → L1.getD q 0 = L2.getD q 0) := fun q hq => by
                by_cases e : q = j
                · subst e; rw [hv1, hv2]
                · exact HQ.out q (by omega)
              clear HQ hv1 hv2 r2 r4 HK HL HC1 HC2 HF HS2
              go_wp2
              go_quiet (fail)
              go_wp2
              go_roundw
              case rel => exact ⟨j + 1, by omega, by go_num, below_drewN bq _, HQ2⟩
              case measure => simp [intOf]; omega
            · have hne : (v1 == v2) = false := by rw [beq_eq_false_iff_ne]; exact hv
              have HN2 : Hid (¬ SameP ns ms) := HF.out fun h => hv (by have e : L1 = L2 := h.2.2.2.2.2.1; rw [← hv1, ← hv2, e])
              clear HQ hv1 hv2 r2 r4 HK HL HC1 HC2 HF HS2
              go_wp2
              go_quiet (fail)
              go_wp2
              go_ret
              exact ⟨_, rfl, says_no HN2.out, below_drewN tb3 _⟩
          · have hj2 : j = N1 := by omega
            subst hj2
            have HLE : Hid (L1 = L2) := list_ext (by rw [HLN.out.1, HLN.out.2]) 0 (fun q hq => HQ.out q (by rw [← HLN.out.1]; exact hq))
            clear HI HJ HQ HLN
            go_upto_region 16 with fail
            go_loopw [9] (fun i wq2 => ∃ j : Nat, j ≤ N3 ∧ i = .int .i64 j ∧ Below W2.heap.size W2 wq2 ∧ Hid (∀ q, q < j → M1.getD q ByteArray.empty = M2.getD q ByteArray.empty)) (fun i _ => N3 - (intOf i).toNat)
            case atStart => exact ⟨0, Nat.zero_le _, rfl, bq, fun q hq => absurd hq (Nat.not_lt_zero _)⟩
            case round =>
              clear f0 f1 f2 f3 f4 f5 f6 f7 g0 g1 g2 g3 g4 g5 g6 g7 tb3 bq
              obtain ⟨j, hj, rfl, bq, HQ⟩ := hrel
              obtain ⟨f0, f1, f2, f3, f4, f5, f6, f7⟩ := cells_eight ((bq.block G (by omega)).trans HC1.out)
              obtain ⟨g0, g1, g2, g3, g4, g5, g6, g7⟩ := cells_eight ((bq.block (G + 1) (by omega)).trans HC2.out)
              have tb3 := tb2.trans (bq.mono (by have := tb2.size; omega))
              by_cases hjn : j < N3
              · obtain ⟨gz1, rfl, r1, r2⟩ := HK.out (by omega)
                obtain ⟨gz2, rfl, r3, r4⟩ := HL.out (by omega)
                have s1 : wr.cell? ⟨gz1, j, none⟩ = some (.string (M1.getD j ByteArray.empty)) := (bq.cell (p := ⟨gz1, j, none⟩) r1).trans (r2 j hjn)
                have s2 : wr.cell? ⟨gz2, j, none⟩ = some (.string (M2.getD j ByteArray.empty)) := (bq.cell (p := ⟨gz2, j, none⟩) r3).trans (r4 j hjn)
                obtain ⟨v1, hv1⟩ : ∃ v, M1.getD j ByteArray.empty = v := ⟨_, rfl⟩
                obtain ⟨v2, hv2⟩ : ∃ v, M2.getD j ByteArray.empty = v := ⟨_, rfl⟩
                rw [hv1] at s1
                rw [hv2] at s2
                have hji : (j : Int) < (N3 : Int) := by omega
                have hj0 : (0 : Int) ≤ (j : Int) := by omega
                by_cases hv : v1 = v2
                · subst hv
                  have HQ2 : Hid (∀ q, q < j + 1 → M1.getD q ByteArray.empty = M2.getD q ByteArray.empty) := fun q hq => by
                    by_cases e : q = j
                    · subst e; rw [hv1, hv2]
                    · exact HQ.out q (by omega)
                  clear HQ hv1 hv2 r2 r4 HC1 HC2 HF HS2
                  go_wp2
                  go_quiet (fail)
                  go_wp2
                  go_roundw
                  case rel => exact ⟨j + 1, by omega, by go_num, below_drewN bq _, HQ2⟩
                  case measure => simp [intOf]; omega
                · have hne : (v1.toList == v2.toList) = false := by
                    rw [beq_eq_false_iff_ne]
                    intro e
                    rw [ByteArray.toList_eq, ByteArray.toList_eq] at e
                    exact hv (bytes_same e)
                  have HN2 : Hid (¬ SameP ns ms) := HF.out fun h => hv (by have e : M1 = M2 := h.2.2.2.2.2.2; rw [← hv1, ← hv2, e])
                  clear HQ hv1 hv2 r2 r4 HC1 HC2 HF HS2
                  go_wp2
                  go_quiet (fail)
                  go_wp2
                  go_ret
                  exact ⟨_, rfl, says_no HN2.out, below_drewN tb3 _⟩
              · have hj2 : j = N3 := by omega
                subst hj2
                have HME : Hid (M1 = M2) := list_ext (by rw [HMN.out.1, HMN.out.2]) ByteArray.empty (fun q hq => HQ.out q (by rw [← HMN.out.1]; exact hq))
                have HE := HS2.out ⟨rfl, rfl, rfl, rfl, rfl, HLE.out, HME.out⟩
                have HE2 : Hid (∀ (q : Nat) (x y : PNode), q < k + 1 → ns[q]? = some x → ms[q]? = some y → SameAt x y) := HE
                clear HE HS2 HF HK HL HQ HMN HC1 HC2
                go_wp2
                go_roundw
                case rel => exact ⟨k + 1, by omega, by go_num, tb3, HE2⟩
                case measure => simp [intOf]; omega
      · have hkn : k = n := by omega
        subst hkn
        have HT : Hid (SameP ns ms) := ⟨HN.out.1.trans HN.out.2.symm, fun q x y hx hy => HS.out q x y (by rw [← HN.out.1]; exact (List.getElem?_eq_some_iff.1 hx).1) hx hy⟩
        go_wp2
        go_ret
        exact ⟨_, rfl, says_yes HT.out, hbel⟩

end Go.Proofs.Ytggjeepbgpfcpaa
