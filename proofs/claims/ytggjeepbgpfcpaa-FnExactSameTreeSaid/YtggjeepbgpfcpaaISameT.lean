/-
  The walk of the program's SameTree: two lists held against each other node by node.
-/
import Derived.Test.YtggjeepbgpfcpaaISame
namespace Go.Proofs.Ytggjeepbgpfcpaa
open Go.RowKit Go.Sort
set_option linter.unusedVariables false

set_option maxHeartbeats 4000000 in
set_option maxRecDepth 100000 in
theorem equalFunc_any (B B' : Nat) (a b : Value) (ns ms : List PNode) (w : World) (ha : TreeIn w B a ns) (hb : TreeIn w B' b ms) :
    Calls Try.prog 24 #[a, b, Value.func (Fn.func 25) #[] #[]] w fun e w' => ∃ r : Bool, e = .returned (.bool r) ∧ Says r (SameP ns ms) ∧ Below w.heap.size w w' := by
  obtain ⟨xa, ca, rfl, hm, oa⟩ := ha.opened
  obtain ⟨xb, cb, rfl, hm2, ob⟩ := hb.opened
  clear ha hb
  unfold maxLen at hm hm2
  by_cases hlen : ¬ ns.length = ms.length
  · have hne : (((ns.length : Int)) == (ms.length : Int)) = false := by rw [beq_eq_false_iff_ne]; omega
    have HF : Hid (¬ SameP ns ms) := fun h => hlen h.1
    clear oa ob hlen
    go_enter Try.func24, Try.ntmps24
    go_wp2
    go_ret
    exact ⟨_, rfl, says_no HF.out, Below.refl _ _⟩
  · obtain ⟨n, hn⟩ : ∃ n, ns.length = n := ⟨_, rfl⟩
    have hn2 : ms.length = n := by omega
    have HN : Hid (ns.length = n ∧ ms.length = n) := ⟨hn, hn2⟩
    rw [hn] at hm oa ⊢
    rw [hn2] at hm2 ob ⊢
    clear hn hn2 hlen hm2
    have HA : Hid (0 < n → ∃ g, xa = some ⟨g, 0, none⟩ ∧ ∀ q p, ns[q]? = some p → ∃ lv nv, NodeAt w B g (q * 8) p lv nv) := oa
    have HB : Hid (0 < n → ∃ g, xb = some ⟨g, 0, none⟩ ∧ ∀ q p, ms[q]? = some p → ∃ lv nv, NodeAt w B' g (q * 8) p lv nv) := ob
    clear oa ob
    go_enter Try.func24, Try.ntmps24
    go_wp2
    go_loopw [17] (fun i wr => ∃ k : Nat, k ≤ n ∧ i = .int .i64 k ∧ Below w.heap.size w wr ∧ Hid (∀ (q : Nat) (x y : PNode), q < k → ns[q]? = some x → ms[q]? = some y → SameAt x y)) (fun i _ => n - (intOf i).toNat)
    case atStart => exact ⟨0, Nat.zero_le _, rfl, Below.refl _ _, fun q x y hq => absurd hq (Nat.not_lt_zero _)⟩
    case round =>
      obtain ⟨k, hk, rfl, hbel, HS⟩ := hrel
      by_cases hlt : k < n
      · obtain ⟨ga, rfl, hca⟩ := HA.out (by omega)
        obtain ⟨gb, rfl, hcb⟩ := HB.out (by omega)
        obtain ⟨x, hx⟩ : ∃ p, ns[k]? = some p := ⟨_, List.getElem?_eq_getElem (by have := HN.out.1; omega)⟩
        obtain ⟨y, hy⟩ : ∃ p, ms[k]? = some p := ⟨_, List.getElem?_eq_getElem (by have := HN.out.2; omega)⟩
        obtain ⟨l1, n1, hA⟩ := hca k x hx
        obtain ⟨l2, n2, hB⟩ := hcb k y hy
        have hA' := hA.below hbel
        have hB' := hB.below hbel
        have HF : Hid (¬ SameAt x y → ¬ SameP ns ms) := fun h => same_not hx hy h
        have HS2 : Hid (SameAt x y → ∀ (q : Nat) (x y : PNode), q < k + 1 → ns[q]? = some x → ms[q]? = some y → SameAt x y) := fun h q x' y' hq hx' hy' => by
          rcases Nat.lt_or_ge q k with h' | h'
          · exact HS.out q x' y' h' hx' hy'
          · have e : q = k := by omega
            subst e
            rw [hx] at hx'
            rw [hy] at hy'
            injection hx' with hx'
            injection hy' with hy'
            subst hx' hy'
            exact h
        clear hca hcb hx hy hA hB HA HB HS
        obtain ⟨z1, zc1, rfl, _, _⟩ := ints_row hA'.list
        obtain ⟨z2, zc2, rfl, _, _⟩ := ints_row hB'.list
        obtain ⟨t1, tc1, rfl, _, _⟩ := strs_row hA'.names
        obtain ⟨t2, tc2, rfl, _, _⟩ := strs_row hB'.names
        have cN := fun W (hb : Below wr.heap.size wr W) => sameNode_any B B' x y _ _ _ _ W (hA'.below hb).list (hA'.below hb).names (hB'.below hb).list (hB'.below hb).names
        obtain ⟨hl1, hn1, d0, d1, d2, d3, d4, d5, d6, d7⟩ := hA'
        obtain ⟨hl2, hn2, e0, e1, e2, e3, e4, e5, e6, e7⟩ := hB'
        clear hl1 hl2 hn1 hn2
        have hki : (k : Int) < (n : Int) := by omega
        have hk0 : (0 : Int) ≤ (k : Int) := by omega
        have hga : ga < wr.heap.size := World.block_lt_of_cell? wr _ d0
        have hgb : gb < wr.heap.size := World.block_lt_of_cell? wr _ e0
        have T := two_new wr (.cells #[.int .i64 x.kind, .int .i64 x.a, .int .i64 x.b, .int .i64 x.c, .slice z1 x.list.length zc1, .slice t1 x.names.length tc1, .int .u64 (x.num : Int), .int .i64 x.pos] 38) (.cells #[.int .i64 y.kind, .int .i64 y.a, .int .i64 y.b, .int .i64 y.c, .slice z2 y.list.length zc2, .slice t2 y.names.length tc2, .int .u64 (y.num : Int), .int .i64 y.pos] 38)
        go_upto_region 7 with fail
        obtain ⟨W2, hW2⟩ : ∃ W, ((wr.alloc (.cells #[.int .i64 x.kind, .int .i64 x.a, .int .i64 x.b, .int .i64 x.c, .slice z1 x.list.length zc1, .slice t1 x.names.length tc1, .int .u64 (x.num : Int), .int .i64 x.pos] 38)).alloc (.cells #[.int .i64 y.kind, .int .i64 y.a, .int .i64 y.b, .int .i64 y.c, .slice z2 y.list.length zc2, .slice t2 y.names.length tc2, .int .u64 (y.num : Int), .int .i64 y.pos] 38)) = W := ⟨_, rfl⟩
        rw [hW2] at T
        try simp only [hW2]
        clear hW2 d0 d1 d2 d3 d4 d5 d6 d7 e0 e1 e2 e3 e4 e5 e6 e7
        obtain ⟨q0, q1, tz, tb⟩ := T
        obtain ⟨G, hG⟩ : ∃ G, wr.heap.size = G := ⟨_, rfl⟩
        have cN2 := cN W2 tb
        have tb2 : Below w.heap.size w W2 := chain hbel tb
        rw [hG] at q0 q1 tz
        try simp only [hG]
        obtain ⟨f0, f1, f2, f3, f4, f5, f6, f7⟩ := cells_eight q0
        obtain ⟨g0, g1, g2, g3, g4, g5, g6, g7⟩ := cells_eight q1
        clear q0 q1 cN hga hgb
        go_wp2_with fail
        refine cN2.mono ?_
        rintro e w3 ⟨r, rfl, hr, b3⟩
        have tb3 := tb2.trans (b3.mono (by have := tb2.size; omega))
        cases r
        · have HN2 : Hid (¬ SameP ns ms) := HF.out fun h => by have := hr.2 h; cases this
          clear HF HS2 hr cN2
          go_wp2
          go_ret
          exact ⟨_, rfl, says_no HN2.out, tb3⟩
        · have HE2 : Hid (∀ (q : Nat) (x y : PNode), q < k + 1 → ns[q]? = some x → ms[q]? = some y → SameAt x y) := HS2.out (hr.1 rfl)
          clear HF HS2 hr cN2
          go_wp2
          go_roundw
          case rel => exact ⟨k + 1, by omega, by go_num, tb3, HE2⟩
          case measure => simp [intOf]; omega
      · have hkn : k = n := by omega
        subst hkn
        have HT : Hid (SameP ns ms) := ⟨HN.out.1.trans HN.out.2.symm, fun q x y hx hy => HS.out q x y (by rw [← HN.out.1]; exact (List.getElem?_eq_some_iff.1 hx).1) hx hy⟩
        go_wp2
        go_ret
        exact ⟨_, rfl, says_yes HT.out, hbel⟩

set_option maxHeartbeats 1000000 in
set_option maxRecDepth 100000 in
theorem iSameTree_any (B B' : Nat) (a b : Value) (ns ms : List PNode) (w : World) (ha : TreeIn w B a ns) (hb : TreeIn w B' b ms) :
    Calls Try.prog 14 #[a, b] w fun e w' => ∃ r : Bool, e = .returned (.bool r) ∧ Says r (SameP ns ms) ∧ Below w.heap.size w w' := by
  have c := equalFunc_any B B' a b ns ms w ha hb
  clear ha hb
  go_enter Try.func14, Try.ntmps14
  go_wp2_with fail
  refine c.mono ?_
  rintro e w1 ⟨r, rfl, hr, b1⟩
  have HR : Hid (Says r (SameP ns ms)) := hr
  clear hr c
  go_wp2
  go_ret
  exact ⟨_, rfl, HR.out, b1⟩

end Go.Proofs.Ytggjeepbgpfcpaa
