/-
  The law's own helpers that count how much came in: numbers, texts, nodes.
-/
import Derived.Test.YtggjeepbgpfcpaaRows
import Derived.Test.YtggjeepbgpfcpaaNode9B
import Derived.Test.YtggjeepbgpfcpaaInfo
namespace Go.Proofs.Ytggjeepbgpfcpaa
open Go.RowKit
set_option linter.unusedVariables false

/-- what is left of a count: too little, or all that was counted is few -/
def LeftOk (r left n : Int) : Prop := r = -1 ∨ (0 ≤ r ∧ r ≤ left ∧ n ≤ left)

set_option maxHeartbeats 400000 in
set_option maxRecDepth 100000 in
theorem szIntS_any (v : Value) (l : List Int) (left : Int) (w : World) (hv : ArgInts w v l) (h0 : 0 ≤ left) (h1 : left ≤ 1048576) :
    Calls Try.prog 26 #[v, .int .i64 left] w fun e w' => ∃ r : Int, e = .returned (.int .i64 r) ∧ LeftOk r left l.length ∧ w = w' := by
  obtain ⟨x, c, rfl, hm, _⟩ := hv
  obtain ⟨n, hn⟩ : ∃ n, l.length = n := ⟨_, rfl⟩
  rw [hn] at hm ⊢
  clear hn
  unfold maxLen at hm
  by_cases h : left < n
  · have hlt : left - (n : Int) < 0 := by omega
    go_enter Try.func26, Try.ntmps26
    go_wp2
    go_ret
    exact ⟨_, rfl, .inl rfl, rfl⟩
  · have hlt : ¬ left - (n : Int) < 0 := by omega
    go_enter Try.func26, Try.ntmps26
    go_wp2
    go_ret
    exact ⟨_, rfl, .inr ⟨by omega, by omega, by omega⟩, rfl⟩

set_option maxHeartbeats 1000000 in
set_option maxRecDepth 100000 in
theorem szStringS_any (v : Value) (l : List ByteArray) (left : Int) (w : World) (hv : ArgStrs w v l) (h0 : 0 ≤ left) (h1 : left ≤ 1048576) :
    Calls Try.prog 27 #[v, .int .i64 left] w fun e w' => ∃ r : Int, e = .returned (.int .i64 r) ∧ LeftOk r left l.length ∧ w = w' := by
  obtain ⟨x, c, rfl, hm, hs, hc⟩ := hv
  obtain ⟨n, hn⟩ : ∃ n, l.length = n := ⟨_, rfl⟩
  rw [hn] at hm hc ⊢
  have HN : Hid (l.length = n) := hn
  clear hn
  unfold maxLen at hm hs
  by_cases h : left < n
  · have hlt : left - (n : Int) < 0 := by omega
    clear hc
    go_enter Try.func27, Try.ntmps27
    go_wp2
    go_ret
    exact ⟨_, rfl, .inl rfl, rfl⟩
  · have hlt : ¬ left - (n : Int) < 0 := by omega
    go_enter Try.func27, Try.ntmps27
    go_wp2
    go_loop [1, 5] (fun y i => ∃ (k : Nat) (L : Int), y = .int .i64 L ∧ i = .int .i64 k ∧ k ≤ n ∧ 0 ≤ L ∧ L ≤ left) (fun _ i => n - (intOf i).toNat)
    case atStart => exact ⟨0, _, rfl, rfl, Nat.zero_le _, by omega, by omega⟩
    case round =>
      obtain ⟨k, L, rfl, rfl, hk, hL0, hL1⟩ := hrel
      by_cases hkn : k < n
      · obtain ⟨b, o, rfl, _, hcell⟩ := hc (by omega)
        have hcl := hcell k hkn
        obtain ⟨s, hs'⟩ : ∃ s, l.getD k ByteArray.empty = s := ⟨_, rfl⟩
        rw [hs'] at hcl
        have hsz : s.size ≤ 9223372036854775807 := by
          have hl := HN.out
          rw [List.getD, List.getElem?_eq_getElem (by omega)] at hs'
          rw [← hs']
          exact hs _ (List.getElem_mem _)
        have hki : (k : Int) < (n : Int) := by omega
        have hk0 : (0 : Int) ≤ (k : Int) := by omega
        clear hc hcell hs' hs
        by_cases hL : L < s.size
        · have hlt2 : L - (s.size : Int) < 0 := by omega
          go_wp2
          go_ret
          exact ⟨_, rfl, .inl rfl, rfl⟩
        · have hlt2 : ¬ L - (s.size : Int) < 0 := by omega
          go_wp2
          go_round
          case rel => exact ⟨k + 1, _, rfl, by go_num, by omega, by omega, by omega⟩
          case measure => simp [intOf]; omega
      · go_wp2
        go_ret
        exact ⟨_, rfl, .inr ⟨by omega, by omega, by omega⟩, rfl⟩

def szFew (p : PNode) (left : Int) : Prop := (p.list.length : Int) ≤ left ∧ (p.names.length : Int) ≤ left

set_option maxHeartbeats 1000000 in
set_option maxRecDepth 100000 in
theorem szNode_any (k0 k1 k2 k3 k6 k7 : Value) (lv nv : Value) (p : PNode) (left : Int) (w : World) (hl : ArgInts w lv p.list) (hn : ArgStrs w nv p.names) (h0 : 0 ≤ left) (h1 : left ≤ 1048576) :
    Calls Try.prog 15 #[.agg #[k0, k1, k2, k3, lv, nv, k6, k7], .int .i64 left] w fun e w' => ∃ r : Int, e = .returned (.int .i64 r) ∧ (r = -1 ∨ (0 ≤ r ∧ r ≤ left ∧ szFew p left)) ∧ Below w.heap.size w w' := by
  have b0 : Below w.heap.size w (w.alloc (.cells #[k0, k1, k2, k3, lv, nv, k6, k7] 36)) := (Below.refl _ _).alloc (Nat.le_refl _) _
  have hl' := hl.below b0
  have hn' := hn.below b0
  clear hl hn
  go_enter Try.func15, Try.ntmps15
  go_wp2_with fail
  refine (szIntS_any lv p.list left _ hl' h0 h1).mono ?_
  rintro e w1 ⟨r, rfl, hr, rfl⟩
  rcases hr with rfl | ⟨r0, r1, r2⟩
  · go_wp2
    go_ret
    exact ⟨_, rfl, .inl rfl, b0⟩
  · have hneg : ¬ r < 0 := by omega
    go_wp2_with fail
    refine (szStringS_any nv p.names r _ hn' r0 (by omega)).mono ?_
    rintro e w1 ⟨q, rfl, hq, rfl⟩
    rcases hq with rfl | ⟨q0, q1, q2⟩
    · go_wp2
      go_ret
      exact ⟨_, rfl, .inl rfl, b0⟩
    · have hneg2 : ¬ q < 0 := by omega
      go_wp2
      go_ret
      exact ⟨_, rfl, .inr ⟨q0, by omega, r2, by omega⟩, b0⟩

set_option maxHeartbeats 1000000 in
set_option maxRecDepth 100000 in
theorem szNodeS_any (v : Value) (l : List PNode) (left : Int) (w : World) (hv : ArgNodes w v l) (h0 : 0 ≤ left) (h1 : left ≤ 1048576) :
    Calls Try.prog 6 #[v, .int .i64 left] w fun e w' => ∃ r : Int, e = .returned (.int .i64 r) ∧ (r = -1 ∨ (0 ≤ r ∧ r ≤ left ∧ (l.length : Int) ≤ left ∧ ∀ p ∈ l, szFew p left)) ∧ Below w.heap.size w w' := by
  have HV := hv
  obtain ⟨x, c, rfl, hm, hc⟩ := hv
  obtain ⟨n, hn⟩ : ∃ n, l.length = n := ⟨_, rfl⟩
  rw [hn] at hm hc ⊢
  have HN : Hid (l.length = n) := hn
  clear HV
  clear hn
  unfold maxLen at hm
  by_cases h : left < n
  · have hlt : left - (n : Int) < 0 := by omega
    clear hc
    go_enter Try.func6, Try.ntmps6
    go_wp2
    go_ret
    exact ⟨_, rfl, .inl rfl, Below.refl _ _⟩
  · have hlt : ¬ left - (n : Int) < 0 := by omega
    have HC : Hid (0 < n → ∃ b o, x = some ⟨b, o, none⟩ ∧ b < w.heap.size ∧ ∀ j p, l[j]? = some p → ∃ lv nv, ArgNode w b (o + j * 8) p lv nv) := hc
    clear hc
    go_enter Try.func6, Try.ntmps6
    go_wp2
    go_loopw [1, 5] (fun y i wr => ∃ (k : Nat) (L : Int), y = .int .i64 L ∧ i = .int .i64 k ∧ k ≤ n ∧ 0 ≤ L ∧ L ≤ left ∧ Hid (∀ j p, j < k → l[j]? = some p → szFew p left) ∧ Below w.heap.size w wr) (fun _ i _ => n - (intOf i).toNat)
    case atStart => exact ⟨0, _, rfl, rfl, Nat.zero_le _, by omega, by omega, fun j p hj _ => absurd hj (Nat.not_lt_zero _), Below.refl _ _⟩
    case round =>
      obtain ⟨k, L, rfl, rfl, hk, hL0, hL1, HF, hbel⟩ := hrel
      by_cases hkn : k < n
      · obtain ⟨b, o, rfl, _, hcell⟩ := HC.out (by omega)
        obtain ⟨p, hp⟩ : ∃ p, l[k]? = some p := ⟨_, List.getElem?_eq_getElem (by have := HN.out; omega)⟩
        obtain ⟨lv, nv, hA⟩ := hcell k p hp
        have hA' := hA.below hbel
        have c0 := hA'.c0
        have c1 := hA'.c1
        have c2 := hA'.c2
        have c3 := hA'.c3
        have c4 := hA'.c4
        have c5 := hA'.c5
        have c6 := hA'.c6
        have c7 := hA'.c7
        have cN := fun k0 k1 k2 k3 k6 k7 => szNode_any k0 k1 k2 k3 k6 k7 lv nv p L wr hA'.list hA'.names hL0 (by omega)
        have HP : Hid (l[k]? = some p) := hp
        clear hA hA' hcell HC hp
        have hki : (k : Int) < (n : Int) := by omega
        have hk0 : (0 : Int) ≤ (k : Int) := by omega
        go_wp2_with fail
        refine (cN _ _ _ _ _ _).mono ?_
        rintro e w1 ⟨r, rfl, hr, b1⟩
        rcases hr with rfl | ⟨r0, r1, r2⟩
        · go_wp2
          go_ret
          exact ⟨_, rfl, .inl rfl, chain hbel b1⟩
        · have hneg : ¬ r < 0 := by omega
          go_wp2
          go_roundw
          case rel =>
            refine ⟨k + 1, r, rfl, by go_num, by omega, r0, by omega, fun j q hj hq => ?_, chain hbel b1⟩
            rcases Nat.lt_or_ge j k with h' | h'
            · exact HF.out j q h' hq
            · have e : j = k := by omega
              subst e
              rw [HP.out] at hq
              injection hq with hq
              subst hq
              exact ⟨Int.le_trans r2.1 hL1, Int.le_trans r2.2 hL1⟩
          case measure => simp [intOf]; omega
      · go_wp2
        go_ret
        refine ⟨_, rfl, .inr ⟨by omega, by omega, by omega, fun p hp => ?_⟩, hbel⟩
        obtain ⟨j, hj⟩ := List.mem_iff_getElem?.1 hp
        have hjl : j < l.length := (List.getElem?_eq_some_iff.1 hj).1
        have := HN.out
        exact HF.out j p (by omega) hj

end Go.Proofs.Ytggjeepbgpfcpaa
