/-
  The walks of the program's own root of 128 bits, and of a finite number.
-/
import Derived.Test.YtilhcfnennfofaaIMulF
namespace Go.Proofs.Ytilhcfnennfofaa
open Go.RowKit Go.Sort
set_option linter.unusedVariables false

set_option maxHeartbeats 1000000 in
set_option maxRecDepth 100000 in
theorem iRoot (U : Nat) (w : World) (h0 : U ≠ 0) (hU : U < 18446744073709551616) :
    Calls Try.prog 47 #[.agg #[.int .u64 U, .int .u64 0]] w fun e w' => e = .returned (.tuple #[.int .u64 (isq (U * 18446744073709551616) : Nat), .bool (decide (isq (U * 18446744073709551616) * isq (U * 18446744073709551616) = U * 18446744073709551616))]) ∧ Below w.heap.size w w' := by
  obtain ⟨H, hH⟩ : ∃ H, U * 18446744073709551616 = H := ⟨_, rfl⟩
  rw [hH]
  obtain ⟨X, hX⟩ : ∃ X, isq H = X := ⟨_, rfl⟩
  rw [hX]
  obtain ⟨J, hJ⟩ : ∃ J, decide (X * X = H) = J := ⟨_, rfl⟩
  rw [hJ]
  have HS : Hid (Unit → RootBits H 0 64) := fun _ => rootBits_start (by omega) (by omega)
  have HU : Hid (Unit → U < 18446744073709551616 ∧ U * 18446744073709551616 = H) := fun _ => ⟨hU, hH⟩
  have HE : Hid (Unit → ∀ r, RootBits H r 0 → X = r ∧ J = false) := fun _ r h => by
    obtain ⟨a1, a2⟩ := rootBits_end h
    rw [hX] at a1
    subst a1
    exact ⟨rfl, hJ.symm.trans a2⟩
  have HT : Hid (Unit → ∀ t, t * t = H → X = t ∧ J = true) := fun _ t h => by
    have a1 := rootBits_hit h
    rw [hX] at a1
    subst a1
    exact ⟨rfl, hJ.symm.trans (decide_eq_true h)⟩
  clear hX hJ hU hH h0
  go_enter Try.func47, Try.ntmps47
  go_wp2_with fail
  go_loopw [4, 5] (fun x4 x5 wr => ∃ r b k : Nat, x4 = .int .u64 r ∧ x5 = .int .u64 b ∧ wr.heap[w.heap.size]? = some (.cells #[.int .u64 U, .int .u64 0] 37) ∧ Below w.heap.size w wr ∧ (r : Int) + b < 18446744073709551616 ∧ Hid (Unit → b = 2 ^ k / 2 ∧ RootBits H r k)) (fun _ x5 _ => (intOf x5).toNat)
  case atStart => exact ⟨0, 9223372036854775808, 64, rfl, rfl, heap_alloc_new _ _, (Below.refl _ _).alloc (Nat.le_refl _) _, by decide, fun _ => ⟨by decide, HS.out ()⟩⟩
  case round =>
    obtain ⟨r, b, k', rfl, rfl, hblk, hbel, hrb, HI⟩ := hrel
    by_cases hb0 : b = 0
    · have HZ : Hid (Unit → X = r ∧ J = false) := fun _ => by
        obtain ⟨i1, i2⟩ := HI.out ()
        have hk0 : k' = 0 := by
          rcases Nat.eq_zero_or_pos k' with h | h
          · exact h
          · have h1 : 2 ^ 1 ≤ 2 ^ k' := Nat.pow_le_pow_right (by decide) h
            omega
        subst hk0
        exact HE.out () r i2
      subst hb0
      obtain ⟨z1, z2⟩ := HZ.out ()
      subst z1 z2
      clear HZ HI HE HT HS HU
      go_wp2
      go_ret2
      exact ⟨rfl, hbel⟩
    · obtain ⟨k, hk⟩ : ∃ k, k' = k + 1 := ⟨k' - 1, by
        have i1 := (HI.out ()).1
        rcases Nat.eq_zero_or_pos k' with h | h
        · subst h; omega
        · omega⟩
      subst hk
      have HB : Hid (Unit → b = 2 ^ k ∧ RootBits H r (k + 1)) := fun _ => by
        obtain ⟨i1, i2⟩ := HI.out ()
        refine ⟨?_, i2⟩
        rw [i1, Nat.pow_succ]
        omega
      have hb1 : 0 < b := by omega
      obtain ⟨T, hT⟩ : ∃ T : Nat, (r : Int) + b = T := ⟨r + b, by omega⟩
      have hT2 : T < 18446744073709551616 := by omega
      have cP := fun W => iProduct T T W hT2 hT2
      obtain ⟨p, hp⟩ : ∃ p, T * T / 18446744073709551616 = p := ⟨_, rfl⟩
      obtain ⟨q, hq⟩ : ∃ p, T * T % 18446744073709551616 = p := ⟨_, rfl⟩
      rw [hp, hq] at cP
      have HPQ : Hid (Unit → (T * T = H ↔ (p = U ∧ q = 0)) ∧ p * 18446744073709551616 + q = T * T ∧ q < 18446744073709551616) := fun _ => by
        have := HU.out ()
        refine ⟨?_, by omega, by omega⟩
        constructor
        · intro h; omega
        · intro h; omega
      have cL := fun W => iLessThan p q U 0 W (HPQ.out ()).2.2 (by decide)
      have HLL : Hid (Unit → (decide (p * 18446744073709551616 + q < U * 18446744073709551616 + 0) = decide (T * T < H))) := fun _ => by
        rw [(HPQ.out ()).2.1, Nat.add_zero, (HU.out ()).2]
      obtain ⟨L, hL⟩ : ∃ L, decide (p * 18446744073709551616 + q < U * 18446744073709551616 + 0) = L := ⟨_, rfl⟩
      rw [hL] at cL
      have HTr : Hid (Unit → T = r + 2 ^ k) := fun _ => by rw [← (HB.out ()).1]; omega
      have HW : Hid (Unit → ∀ y, RootBits H y k → b / 2 = 2 ^ k / 2 ∧ (y : Int) + ((b / 2 : Nat) : Int) < 18446744073709551616) := fun _ y hy => by
        have h1 := hy.word
        have h2 := (HB.out ()).1
        rw [← h2] at h1 ⊢
        exact ⟨rfl, by omega⟩
      have HLT : Hid (Unit → L = true → (b / 2 = 2 ^ k / 2 ∧ RootBits H T k) ∧ (T : Int) + ((b / 2 : Nat) : Int) < 18446744073709551616) := fun _ h => by
        have h1 : T * T < H := by
          have := HLL.out ()
          rw [hL, h] at this
          exact of_decide_eq_true this.symm
        have h2 : RootBits H T k := by
          rw [HTr.out ()] at h1 ⊢
          exact rootBits_more (HB.out ()).2 h1
        exact ⟨⟨(HW.out () _ h2).1, h2⟩, (HW.out () _ h2).2⟩
      have HLF : Hid (Unit → ¬(p = U ∧ q = 0) → L = false → (b / 2 = 2 ^ k / 2 ∧ RootBits H r k) ∧ (r : Int) + ((b / 2 : Nat) : Int) < 18446744073709551616) := fun _ hne h => by
        have h1 : ¬T * T < H := by
          have := HLL.out ()
          rw [hL, h] at this
          exact of_decide_eq_false this.symm
        have h3 : T * T ≠ H := fun h => hne ((HPQ.out ()).1.mp h)
        have h2 : RootBits H r k := by
          have h4 : H < T * T := by omega
          rw [HTr.out ()] at h4
          exact rootBits_less (HB.out ()).2 h4
        exact ⟨⟨(HW.out () _ h2).1, h2⟩, (HW.out () _ h2).2⟩
      have HHit : Hid (Unit → p = U → q = 0 → X = T ∧ J = true) := fun _ h1 h2 => HT.out () T ((HPQ.out ()).1.mpr ⟨h1, h2⟩)
      have hT3 : (T : Int) < 18446744073709551616 := by omega
      have hgw : w.heap.size < wr.heap.size := by
        rcases Nat.lt_or_ge w.heap.size wr.heap.size with h | h
        · exact h
        · rw [Array.getElem?_eq_none h] at hblk; cases hblk
      clear hp hq hL hT2 hb0 HI HE HT HS HLL HPQ HW HTr
      go_wp2_with fail
      refine (cP _).mono ?_
      rintro e w4 ⟨rfl, o, rfl⟩
      go_upto_region 7 with fail
      obtain ⟨wq, hwq⟩ : ∃ wq, (wr.alloc o).alloc (.cells #[.int .u64 p, .int .u64 q] 37) = wq := ⟨_, rfl⟩
      have hnew : wq.heap[wr.heap.size + 1]? = some (.cells #[.int .u64 p, .int .u64 q] 37) := by rw [← hwq, ← size_alloc wr o]; exact heap_alloc_new _ _
      have hbq : Below wr.heap.size wr wq := by rw [← hwq]; exact below_two _ _ _
      have hblk2 := kept_block hbq hblk
      have hbel2 := chain hbel hbq
      simp only [hwq]
      clear hwq hbq
      obtain ⟨gp, hgp⟩ : ∃ gp, wr.heap.size + 1 = gp := ⟨_, rfl⟩
      simp only [hgp]
      rw [hgp] at hnew
      clear hgp hblk hbel hgw
      clear wr
      obtain ⟨c0, c1⟩ := cells_two hblk2
      obtain ⟨c2, c3⟩ := cells_two hnew
      clear hnew
      by_cases hpU : p = U
      · by_cases hq0 : q = 0
        · obtain ⟨z1, z2⟩ := HHit.out () hpU hq0
          subst hpU hq0 z1 z2
          clear HHit HLT HLF cL
          go_wp2
          go_ret2
          exact ⟨rfl, hbel2⟩
        · have dq : ((q : Int) == 0) = false := by rw [beq_eq_false_iff_ne]; omega
          have HLG : Hid (Unit → L = false → _) := fun _ => HLF.out () (fun h => hq0 h.2)
          clear HLF
          subst hpU
          clear hq0
          go_wp2_with fail
          refine (cL _).mono ?_
          rintro e w5 ⟨rfl, hb5⟩
          have hblk5 := kept_block hb5 hblk2
          have hbel5 := chain hbel2 hb5
          clear hb5 hblk2 hbel2 c0 c1 c2 c3
          clear wq
          cases L
          · have HF := HLG.out () rfl
            go_wp2
            go_round
            case rel => exact ⟨r, b / 2, k, rfl, by go_num, hblk5, hbel5, HF.2, fun _ => HF.1⟩
            case measure => simp [intOf]; omega
          · have HF := HLT.out () rfl
            go_wp2
            go_round
            case rel => exact ⟨T, b / 2, k, by rfl, by go_num, hblk5, hbel5, HF.2, fun _ => HF.1⟩
            case measure => simp [intOf]; omega
      · have dp : ((p : Int) == U) = false := by rw [beq_eq_false_iff_ne]; omega
        have HLG : Hid (Unit → L = false → _) := fun _ => HLF.out () (fun h => hpU h.1)
        clear HLF
        clear hpU
        go_wp2_with fail
        refine (cL _).mono ?_
        rintro e w5 ⟨rfl, hb5⟩
        have hblk5 := kept_block hb5 hblk2
        have hbel5 := chain hbel2 hb5
        clear hb5 hblk2 hbel2 c0 c1 c2 c3
        clear wq
        cases L
        · have HF := HLG.out () rfl
          go_wp2
          go_round
          case rel => exact ⟨r, b / 2, k, rfl, by go_num, hblk5, hbel5, HF.2, fun _ => HF.1⟩
          case measure => simp [intOf]; omega
        · have HF := HLT.out () rfl
          go_wp2
          go_round
          case rel => exact ⟨T, b / 2, k, by rfl, by go_num, hblk5, hbel5, HF.2, fun _ => HF.1⟩
          case measure => simp [intOf]; omega

theorem tdiv_even {x K : Int} (h : x = 2 * K) : x.tdiv 2 = K := by rw [h]; exact Int.mul_tdiv_cancel_left K (by decide)
theorem tmod_even {x : Int} (h : x % 2 = 0) : (x.tmod 2 == 0) = true := by
  obtain ⟨j, hj⟩ : ∃ j, x = 2 * j := ⟨x / 2, by omega⟩
  rw [hj, beq_iff_eq]
  exact Int.mul_tmod_right 2 j
theorem tmod_odd {x : Int} (h : ¬x % 2 = 0) : (x.tmod 2 == 0) = false := by
  rw [beq_eq_false_iff_ne]
  intro h0
  have h1 := Int.tmod_def x 2
  rw [h0] at h1
  generalize x.tdiv 2 = z at h1
  omega

theorem up_down {m M : Nat} {e E : Int} (hm : m < 9007199254740992) (h : UpOf m e M E) : ∃ u : Nat, u ≤ 63 ∧ M / 2 = m * 2 ^ u ∧ E + 1 = e - u := by
  obtain ⟨u, hu, hM, hE⟩ := h.up
  have hlo := h.lo
  have hu0 : u ≠ 0 := by
    intro h0
    subst h0
    rw [Nat.pow_zero, Nat.mul_one] at hM
    omega
  obtain ⟨v, rfl⟩ : ∃ v, u = v + 1 := ⟨u - 1, by omega⟩
  refine ⟨v, by omega, ?_, by omega⟩
  rw [hM, Nat.pow_succ, ← Nat.mul_assoc]
  omega

set_option maxHeartbeats 1000000 in
set_option maxRecDepth 100000 in
theorem iFinRoot (x : Nat) (w : World) (hx : x < 18446744073709551616) (hk : kindN x = 4) :
    Calls Try.prog 37 #[.int .u64 x] w fun e w' => e = .returned (.int .u64 ((if expN x % 2 = 0 then rootN (mantN x) (expN x / 2) else rootN (mantN x * 2) ((expN x - 1) / 2) : Nat) : Int)) ∧ Below w.heap.size w w' := by
  obtain ⟨M, E, hM, e1, e2, cA⟩ := iHigh x hx hk
  have hm := mantN_lt x
  have hm0 := mantN_pos hk
  have hlo := hM.lo
  have hhi := hM.hi
  by_cases hE : E % 2 = 0
  · have hr := up_root (r := isq (M * 18446744073709551616)) hm0 (by omega) hE hM.up rfl
    rw [← hr]
    have cT := fun W => iRoot M W (by omega) hhi
    obtain ⟨r, hr2⟩ : ∃ r, isq (M * 18446744073709551616) = r := ⟨_, rfl⟩
    have hr3 : r < 18446744073709551616 := by
      have h1 := (isq_of (M * 18446744073709551616)).1
      rw [hr2] at h1
      rcases Nat.lt_or_ge r 18446744073709551616 with h | h
      · exact h
      · have : 18446744073709551616 * 18446744073709551616 ≤ r * r := Nat.mul_le_mul h h
        omega
    rw [hr2] at cT ⊢
    obtain ⟨K, hK⟩ : ∃ K, (E - 64) / 2 = K := ⟨_, rfl⟩
    have hK2 : (E - 64).tdiv 2 = K := tdiv_even (by omega)
    have cR := fun W => iRound_w false (decide (r * r ≠ M * 18446744073709551616)) r K W hr3 (by omega) (by omega)
    rw [hK]
    obtain ⟨R, hR⟩ : ∃ R, roundN r K (decide (r * r ≠ M * 18446744073709551616) && decide (72057594037927936 ≤ r)) = R := ⟨_, rfl⟩
    rw [hR] at cR ⊢
    rw [signN_false] at cR
    have hJ : decide (r * r ≠ M * 18446744073709551616) = !decide (r * r = M * 18446744073709551616) := by simp
    rw [hJ] at cR
    obtain ⟨J, hJ2⟩ : ∃ J, decide (r * r = M * 18446744073709551616) = J := ⟨_, rfl⟩
    rw [hJ2] at cR cT
    have k1 : -700 ≤ K := by omega
    have k2 : K ≤ 600 := by omega
    have d : (E.tmod 2 == 0) = true := tmod_even hE
    clear hr hr2 hr3 hR hJ hJ2 hx hk hM hm hm0 hlo hhi hE hK
    go_enter Try.func37, Try.ntmps37
    go_wp2_with fail
    refine (cA _).mono ?_
    rintro e w' ⟨rfl, rfl⟩
    go_wp2_with fail
    refine (cT _).mono ?_
    rintro e w2 ⟨rfl, hb2⟩
    go_wp2_with (go_at_call 44; refine (cR _).mono ?_; rintro e w' ⟨rfl, rfl⟩)
    go_ret
    exact ⟨rfl, hb2⟩
  · have hev := hM.even
    have hr := up_root (r := isq (M / 2 * 18446744073709551616)) hm0 (by omega) (by omega) (up_down hm hM) rfl
    rw [← hr]
    have cT := fun W => iRoot (M / 2) W (by omega) (by omega)
    obtain ⟨r, hr2⟩ : ∃ r, isq (M / 2 * 18446744073709551616) = r := ⟨_, rfl⟩
    have hr3 : r < 18446744073709551616 := by
      have h1 := (isq_of (M / 2 * 18446744073709551616)).1
      rw [hr2] at h1
      rcases Nat.lt_or_ge r 18446744073709551616 with h | h
      · exact h
      · have : 18446744073709551616 * 18446744073709551616 ≤ r * r := Nat.mul_le_mul h h
        omega
    rw [hr2] at cT ⊢
    obtain ⟨K, hK⟩ : ∃ K, (E + 1 - 64) / 2 = K := ⟨_, rfl⟩
    have hK2 : (E + 1 - 64).tdiv 2 = K := tdiv_even (by omega)
    obtain ⟨U, hU⟩ : ∃ U, M / 2 = U := ⟨_, rfl⟩
    have hU2 : (M : Int) / 2 = U := by omega
    rw [hU] at cT ⊢
    have cR := fun W => iRound_w false (decide (r * r ≠ U * 18446744073709551616)) r K W hr3 (by omega) (by omega)
    rw [hK]
    obtain ⟨R, hR⟩ : ∃ R, roundN r K (decide (r * r ≠ U * 18446744073709551616) && decide (72057594037927936 ≤ r)) = R := ⟨_, rfl⟩
    rw [hR] at cR ⊢
    rw [signN_false] at cR
    have hJ : decide (r * r ≠ U * 18446744073709551616) = !decide (r * r = U * 18446744073709551616) := by simp
    rw [hJ] at cR
    obtain ⟨J, hJ2⟩ : ∃ J, decide (r * r = U * 18446744073709551616) = J := ⟨_, rfl⟩
    rw [hJ2] at cR cT
    have k1 : -700 ≤ K := by omega
    have k2 : K ≤ 600 := by omega
    have d : (E.tmod 2 == 0) = false := tmod_odd hE
    have wU : IntKind.u64.wrap (U : Int) = U := by
      show (U : Int) % 18446744073709551616 = U
      omega
    clear hr hr2 hr3 hR hJ hJ2 hx hk hM hm hm0 hlo hhi hE hK hev hU
    go_enter Try.func37, Try.ntmps37
    go_wp2_with fail
    refine (cA _).mono ?_
    rintro e w' ⟨rfl, rfl⟩
    go_wp2_with fail
    refine (cT _).mono ?_
    rintro e w2 ⟨rfl, hb2⟩
    go_wp2_with (go_at_call 44; refine (cR _).mono ?_; rintro e w' ⟨rfl, rfl⟩)
    go_ret
    exact ⟨rfl, hb2⟩

end Go.Proofs.Ytilhcfnennfofaa
