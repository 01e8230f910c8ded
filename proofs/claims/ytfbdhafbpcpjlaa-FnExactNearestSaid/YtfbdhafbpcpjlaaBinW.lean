/-
  The walks of the specification's numbers in limbs of 32 bits: how many limbs count, the order, how many bits, a difference.
-/
import Derived.Test.YtfbdhafbpcpjlaaBin
import Derived.Test.YtfbdhafbpcpjlaaBinC
import Derived.Deep.QuietTactic
import Derived.BigQuiet
namespace Go.Proofs.Ytfbdhafbpcpjlaa
open Go.RowKit
set_option linter.unusedVariables false

set_option maxHeartbeats 1000000 in
set_option maxRecDepth 100000 in
theorem l07Len_any (v : Value) (ls : List Nat) (B : Nat) (w : World) (hA : RowW w B v ls) (la : ls.length ≤ 1048576) :
    Calls Try.prog 56 #[v] w fun e w' => (∃ n : Nat, e = .returned (.int .i64 n) ∧ LenOf ls n) ∧ w = w' := by
  obtain ⟨pa, ca, rfl⟩ := hA.shape
  have HA : Hid (RowW w B (.slice pa ls.length ca) ls) := hA
  clear hA
  go_enter Try.func56, Try.ntmps56
  go_wp2_with fail
  go_loop [3] (fun x => ∃ n : Nat, x = .int .i64 n ∧ n ≤ ls.length ∧ Hid (∀ j, n ≤ j → ls.getD j 0 = 0)) (fun x => (intOf x).toNat)
  case atStart => exact ⟨ls.length, rfl, Nat.le_refl _, fun j hj => getD_out hj⟩
  case round =>
    obtain ⟨n, rfl, hn, HI⟩ := hrel
    by_cases h0 : 0 < n
    · obtain ⟨ga, rfl, hca⟩ := HA.out.at (i := n - 1) (by omega)
      obtain ⟨k, hk⟩ : ∃ k, n = k + 1 := ⟨n - 1, by omega⟩
      subst hk
      rw [Nat.add_sub_cancel] at hca
      have HT : Hid (ls.getD k 0 = ls.getD k 0) := rfl
      obtain ⟨x, hx⟩ : ∃ x, ls.getD k 0 = x := ⟨_, rfl⟩
      rw [hx] at hca
      have HX : Hid (ls.getD k 0 = x) := hx
      clear hx HT
      by_cases hz : x = 0
      · subst hz
        go_wp2
        go_round
        case rel => exact ⟨k, by go_num, by omega, fun j hj => by
          rcases Nat.eq_or_lt_of_le hj with h' | h'
          · rw [← h']; exact HX.out
          · exact HI.out j h'⟩
        case measure => simp [intOf]
      · have dz : ((x : Int) == 0) = false := by rw [beq_eq_false_iff_ne]; omega
        go_wp2
        go_ret
        exact ⟨⟨k + 1, by go_num, ⟨hn, HI.out, .inr (by rw [Nat.add_sub_cancel, HX.out]; exact hz)⟩⟩, rfl⟩
    · have h0' : n = 0 := by omega
      subst h0'
      go_wp2
      go_ret
      exact ⟨⟨0, rfl, ⟨hn, HI.out, .inl rfl⟩⟩, rfl⟩

set_option maxHeartbeats 2000000 in
set_option maxRecDepth 100000 in
theorem l07Less_any (v u : Value) (ls ms : List Nat) (B C : Nat) (w : World) (hA : RowW w B v ls) (hB : RowW w C u ms) (oa : BinOk ls) (ob : BinOk ms) (la : ls.length ≤ 1048576) (lb : ms.length ≤ 1048576) :
    Calls Try.prog 54 #[v, u] w fun e w' => e = .returned (.bool (decide (binV ls < binV ms))) ∧ Below w.heap.size w w' := by
  have cA := fun W (h : RowW W B v ls) => l07Len_any v ls B W h la
  have cB := fun W (h : RowW W C u ms) => l07Len_any u ms C W h lb
  have cA := cA w hA
  have cB := cB w hB
  obtain ⟨pa, ca, rfl⟩ := hA.shape
  obtain ⟨pb, cb, rfl⟩ := hB.shape
  have HA : Hid (RowW w B (.slice pa ls.length ca) ls ∧ BinOk ls) := ⟨hA, oa⟩
  have HB : Hid (RowW w C (.slice pb ms.length cb) ms ∧ BinOk ms) := ⟨hB, ob⟩
  obtain ⟨R, hR⟩ : ∃ R, decide (binV ls < binV ms) = R := ⟨_, rfl⟩
  rw [hR]
  have HR : Hid (Unit → decide (binV ls < binV ms) = R) := fun _ => hR
  clear hA hB oa ob hR
  go_enter Try.func54, Try.ntmps54
  go_wp2_with fail
  refine cA.mono ?_
  rintro e w' ⟨⟨n, rfl, hn⟩, rfl⟩
  have HN : Hid (LenOf ls n) := hn
  have hn1 : (n : Int) ≤ ls.length := by have := hn.le; omega
  clear hn cA
  go_wp2_with fail
  refine cB.mono ?_
  rintro e w' ⟨⟨m, rfl, hm⟩, rfl⟩
  have HM : Hid (LenOf ms m) := hm
  have hm1 : (m : Int) ≤ ms.length := by have := hm.le; omega
  clear hm cB
  by_cases hnm : n = m
  · subst hnm
    go_wp2_with fail
    go_loopw [7] (fun x wr => ∃ k : Nat, x = .int .i64 ((k : Int) - 1) ∧ (k : Int) ≤ n ∧ Below w.heap.size w wr ∧ Hid (SameFrom ls ms k)) (fun x _ => (intOf x + 1).toNat)
    case atStart => exact ⟨n, rfl, by omega, Below.refl _ _, same_high HN.out.zero HM.out.zero⟩
    case round =>
      obtain ⟨k, rfl, hk, hbel, HI⟩ := hrel
      by_cases h0 : k = 0
      · have HZ : Hid (Unit → R = false) := fun _ => by
          subst h0
          rw [← HR.out (), same_all HI.out]
          simp
        subst h0
        clear HI
        go_wp2
        go_ret
        exact ⟨by rw [HZ.out ()]; rfl, hbel⟩
      · obtain ⟨j, hj⟩ : ∃ j, k = j + 1 := ⟨k - 1, by omega⟩
        subst hj
        obtain ⟨ga, rfl, hca⟩ := (HA.out.1.below hbel).at (i := j) (by omega)
        obtain ⟨gb, rfl, hcb⟩ := (HB.out.1.below hbel).at (i := j) (by omega)
        obtain ⟨x, hx⟩ : ∃ x, ls.getD j 0 = x := ⟨_, rfl⟩
        obtain ⟨y, hy⟩ : ∃ y, ms.getD j 0 = y := ⟨_, rfl⟩
        rw [hx] at hca
        rw [hy] at hcb
        have HS : Hid (x = y → SameFrom ls ms j) := fun e => same_down HI.out (by rw [hx, hy]; exact e)
        have HL : Hid (Unit → x ≠ y → R = decide (x < y)) := fun _ hne => by
          rw [← HR.out ()]
          rcases Nat.lt_or_ge x y with h | h
          · rw [decide_eq_true h, decide_eq_true]
            exact less_at HA.out.2 HI.out (by rw [hx, hy]; exact h)
          · rw [decide_eq_false (by omega : ¬x < y), decide_eq_false]
            have := less_at HB.out.2 (fun j hj => (HI.out j hj).symm) (by rw [hx, hy]; omega : ms.getD j 0 < ls.getD j 0)
            omega
        clear hx hy HI
        by_cases hxy : x = y
        · subst hxy
          have HS2 : Hid (SameFrom ls ms j) := HS.out rfl
          clear HS HL
          go_wp2_with fail
          go_quiet (fail)
          go_wp2
          go_roundw
          case rel => exact ⟨j, by go_num, by omega, below_drewN hbel _, HS2⟩
          case measure => simp [intOf]
        · have dxy : ((x : Int) == y) = false := by rw [beq_eq_false_iff_ne]; omega
          have HZ := HL.out () hxy
          subst HZ
          clear HL HS hxy
          go_wp2_with fail
          go_quiet (fail)
          go_wp2_with fail
          go_quiet (fail)
          go_wp2
          go_ret
          exact ⟨by simp, below_drewN (below_drewN hbel _) _⟩
  · have dnm : ((n : Int) == m) = false := by rw [beq_eq_false_iff_ne]; omega
    have HZ : Hid (Unit → R = decide (n < m)) := fun _ => by
      rw [← HR.out ()]
      rcases Nat.lt_or_ge n m with h | h
      · rw [decide_eq_true h, decide_eq_true]
        exact less_len HN.out HM.out HA.out.2 HB.out.2 h
      · rw [decide_eq_false (by omega : ¬n < m), decide_eq_false]
        have := less_len HM.out HN.out HB.out.2 HA.out.2 (by omega)
        omega
    clear hnm
    go_wp2
    go_ret
    exact ⟨by rw [HZ.out ()]; simp, Below.refl _ _⟩

/-- halves of a number, so often that nothing is left -/
structure HalfAt (x k y : Nat) : Prop where
  eq : y = x / 2 ^ k
  lt : k = 0 ∨ 2 ^ (k - 1) ≤ x
theorem half_start (x : Nat) : HalfAt x 0 x := ⟨by simp, .inl rfl⟩
theorem half_more {x k y : Nat} (h : HalfAt x k y) (hy : 0 < y) : HalfAt x (k + 1) (y / 2) := by
  refine ⟨by rw [h.eq, Nat.pow_succ, Nat.div_div_eq_div_mul], .inr ?_⟩
  rw [Nat.add_sub_cancel]
  have h1 := h.eq
  rcases Nat.lt_or_ge x (2 ^ k) with h2 | h2
  · rw [Nat.div_eq_of_lt h2] at h1; omega
  · exact h2
theorem half_end {x k : Nat} (h : HalfAt x k 0) (hx : x ≠ 0) : k ≠ 0 ∧ 2 ^ (k - 1) ≤ x ∧ x < 2 ^ k := by
  have h1 := h.eq
  have h2 : x < 2 ^ k := by
    rcases Nat.lt_or_ge x (2 ^ k) with h2 | h2
    · exact h2
    · have := Nat.div_pos h2 (Nat.two_pow_pos k)
      omega
  have h3 : k ≠ 0 := by
    intro h0
    subst h0
    rw [Nat.pow_zero] at h2
    omega
  rcases h.lt with h4 | h4
  · exact absurd h4 h3
  · exact ⟨h3, h4, h2⟩

set_option maxHeartbeats 1000000 in
set_option maxRecDepth 100000 in
theorem l07Bits_any (v : Value) (ls : List Nat) (B : Nat) (w : World) (hA : RowW w B v ls) (oa : BinOk ls) (la : ls.length ≤ 1048576) :
    Calls Try.prog 52 #[v] w fun e w' => e = .returned (.int .i64 (bitsN (binV ls) : Nat)) ∧ w = w' := by
  have cA := l07Len_any v ls B w hA la
  obtain ⟨pa, ca, rfl⟩ := hA.shape
  have HA : Hid (RowW w B (.slice pa ls.length ca) ls ∧ BinOk ls) := ⟨hA, oa⟩
  obtain ⟨R, hR⟩ : ∃ R, bitsN (binV ls) = R := ⟨_, rfl⟩
  rw [hR]
  have HR : Hid (Unit → bitsN (binV ls) = R) := fun _ => hR
  clear hA oa hR
  go_enter Try.func52, Try.ntmps52
  go_wp2_with fail
  refine cA.mono ?_
  rintro e w' ⟨⟨n, rfl, hn⟩, rfl⟩
  have hn1 : (n : Int) ≤ ls.length := by have := hn.le; omega
  by_cases h0 : n = 0
  · have HZ : Hid (Unit → R = 0) := fun _ => by
      rw [← HR.out (), (hn.nil HA.out.2).mp h0]
      rfl
    subst h0
    clear hn
    go_wp2
    go_ret
    exact ⟨by rw [HZ.out ()]; rfl, rfl⟩
  · obtain ⟨j, hj⟩ : ∃ j, n = j + 1 := ⟨n - 1, by omega⟩
    subst hj
    obtain ⟨ga, rfl, hca⟩ := HA.out.1.at (i := j) (by omega)
    have o1 := binOk_at HA.out.2 j
    obtain ⟨x, hx⟩ : ∃ x, ls.getD j 0 = x := ⟨_, rfl⟩
    rw [hx] at hca o1
    have HX : Hid (x ≠ 0 ∧ ∀ k, (k ≠ 0 ∧ 2 ^ (k - 1) ≤ x ∧ x < 2 ^ k) → R = 32 * j + k) := by
      refine ⟨?_, fun k hk => ?_⟩
      · rcases hn.top with h | h
        · omega
        · rw [Nat.add_sub_cancel, hx] at h; exact h
      · rw [← HR.out ()]
        exact bits_top hn HA.out.2 hx hk.1 hk.2.1 hk.2.2
    have X2 : Hid (Unit → (x : Int) < 4294967296) := fun _ => by omega
    have d0 : (((j : Int) + 1) == 0) = false := by rw [beq_eq_false_iff_ne]; omega
    clear hn hx o1 h0
    go_wp2_with fail
    go_loop [4, 5] (fun u y => ∃ k z : Nat, u = .int .i64 k ∧ y = .int .u64 z ∧ (k : Int) ≤ 32 ∧ (z : Int) < 4294967296 ∧ Hid (HalfAt x k z)) (fun _ y => (intOf y).toNat)
    case atStart => exact ⟨0, x, rfl, rfl, by omega, X2.out (), half_start x⟩
    case round =>
      obtain ⟨k, z, rfl, rfl, hk, hz, HI⟩ := hrel
      by_cases hz0 : 0 < z
      · have HN : Hid (HalfAt x (k + 1) (z / 2)) := half_more HI.out hz0
        have hk2 : (k : Int) + 1 ≤ 32 := by
          rcases HN.out.lt with h | h
          · omega
          · rw [Nat.add_sub_cancel] at h
            rcases Nat.lt_or_ge k 32 with h' | h'
            · omega
            · have : 2 ^ 32 ≤ 2 ^ k := Nat.pow_le_pow_right (by decide) h'
              have := X2.out ()
              omega
        clear HI
        go_wp2
        go_round
        case rel => exact ⟨k + 1, z / 2, by go_num, by go_num, by omega, by omega, HN⟩
        case measure => simp [intOf]; omega
      · have hz1 : z = 0 := by omega
        subst hz1
        have HZ := HX.out.2 k (half_end HI.out HX.out.1)
        subst HZ
        clear HI HX
        go_wp2
        go_ret
        exact ⟨by go_num, rfl⟩

end Go.Proofs.Ytfbdhafbpcpjlaa
