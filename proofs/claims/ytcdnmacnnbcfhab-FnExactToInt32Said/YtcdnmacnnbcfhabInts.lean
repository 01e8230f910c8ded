/-
  The walks of the specification's FromInt and ToInt32, and of what asks for truth and order.
-/
import Derived.Test.YtcdnmacnnbcfhabRound
namespace Go.Proofs.Ytcdnmacnnbcfhab
open Go.RowKit
set_option linter.unusedVariables false

/-- the bits of the number nearest to n -/
def fromIntN (n : Int) : Nat := signN (decide (n < 0)) (roundN n.natAbs 0 false)

theorem specRound_plain (b : Bool) (m : Int) (w : World) (h0 : 0 ≤ m) (hm : m < 18446744073709551616) :
    Calls Try.prog 16 #[.bool b, .int .u64 m, .int .i64 0, .bool false] w fun en w' => en = .returned (.int .u64 (signN b (roundN m.natAbs 0 false) : Nat)) ∧ w = w' := by
  obtain ⟨n, rfl⟩ : ∃ n : Nat, m = n := ⟨m.toNat, by omega⟩
  exact specRound_any b false n 0 w (by omega) (by omega) (by omega)

set_option maxHeartbeats 400000 in
set_option maxRecDepth 100000 in
theorem specFromInt_any (n : Int) (w : World) (h0 : -9223372036854775808 ≤ n) (h1 : n ≤ 9223372036854775807) :
    Calls Try.prog 18 #[.int .i64 n] w fun e w' => e = .returned (.int .u64 (fromIntN n : Nat)) ∧ w = w' := by
  by_cases hmin : n = -9223372036854775808
  · subst hmin
    go_enter Try.func18, Try.ntmps18
    go_wp2_with (first | (go_at_call 27; refine (l03Pow_63 _).mono ?_; rintro e w' ⟨rfl, rfl⟩) | (go_at_call 16; refine (specRound_plain _ _ _ (by omega) (by omega)).mono ?_; rintro e w' ⟨rfl, rfl⟩))
    go_ret
    exact ⟨rfl, rfl⟩
  · have hmin' : (n == -9223372036854775808) = false := by rw [beq_eq_false_iff_ne]; exact hmin
    have hlo : -9223372036854775808 < n := by omega
    clear h0
    by_cases hn : n < 0
    · go_enter Try.func18, Try.ntmps18
      go_wp2_with (go_at_call 16; refine (specRound_plain _ _ _ (by omega) (by omega)).mono ?_; rintro e w' ⟨rfl, rfl⟩)
      go_ret
      exact ⟨ret_int (by simp [fromIntN, hn]), rfl⟩
    · have hn' : 0 ≤ n := by omega
      go_enter Try.func18, Try.ntmps18
      go_wp2_with (go_at_call 16; refine (specRound_plain _ _ _ (by omega) (by omega)).mono ?_; rintro e w' ⟨rfl, rfl⟩)
      go_ret
      exact ⟨ret_int (by rw [fromIntN, decide_eq_false (by omega)]), rfl⟩

/-- the whole part, towards 0, without its sign -/
def wholeN (x : Nat) : Nat := if expN x < 0 then mantN x / 2 ^ (-expN x).toNat else mantN x * 2 ^ (expN x).toNat

/-- the whole part modulo 2^32, as a number of 32 bits with a sign -/
def low32 (below : Bool) (t : Nat) : Int := if (if below then (4294967296 - t % 4294967296) % 4294967296 else t % 4294967296) ≥ 2147483648 then ((if below then (4294967296 - t % 4294967296) % 4294967296 else t % 4294967296 : Nat) : Int) - 4294967296 else ((if below then (4294967296 - t % 4294967296) % 4294967296 else t % 4294967296 : Nat) : Int)

theorem low32_no {t : Nat} (h : (2147483648 : Int) ≤ (t : Int) % 4294967296) : low32 false t = (t : Int) % 4294967296 - 4294967296 := by
  unfold low32
  simp only [Bool.false_eq_true, if_false]
  rw [if_pos (by omega)]
  omega
theorem low32_no' {t : Nat} (h : (t : Int) % 4294967296 < 2147483648) : low32 false t = (t : Int) % 4294967296 := by
  unfold low32
  simp only [Bool.false_eq_true, if_false]
  rw [if_neg (by omega)]
  omega
theorem low32_yes {t : Nat} (h : (2147483648 : Int) ≤ (4294967296 - (t : Int) % 4294967296) % 4294967296) : low32 true t = (4294967296 - (t : Int) % 4294967296) % 4294967296 - 4294967296 := by
  unfold low32
  simp only [if_true]
  rw [if_pos (by omega)]
  omega
theorem low32_yes' {t : Nat} (h : (4294967296 - (t : Int) % 4294967296) % 4294967296 < 2147483648) : low32 true t = (4294967296 - (t : Int) % 4294967296) % 4294967296 := by
  unfold low32
  simp only [if_true]
  rw [if_neg (by omega)]
  omega

theorem low32_zero (b : Bool) : low32 b 0 = 0 := by cases b <;> simp [low32]
theorem low32_mod {b : Bool} {t t' : Nat} (h : t % 4294967296 = t' % 4294967296) : low32 b t = low32 b t' := by unfold low32; rw [h]

theorem wholeN_not {x : Nat} (h : kindN x ≠ 4) : wholeN x = 0 := by
  unfold wholeN mantN
  rw [if_neg h]
  split <;> simp

theorem div_pow_zero {m a b : Nat} (h : m / 2 ^ a = 0) (hab : a ≤ b) : m / 2 ^ b = 0 := by
  rcases Nat.div_eq_zero_iff.1 h with h | h
  · have := Nat.two_pow_pos a; omega
  · exact Nat.div_eq_of_lt (Nat.lt_of_lt_of_le h (Nat.pow_le_pow_right (by decide) hab))

set_option maxHeartbeats 1000000 in
set_option maxRecDepth 100000 in
theorem specToInt32_any (x : Nat) (w : World) (hx : x < 18446744073709551616) :
    Calls Try.prog 20 #[.int .u64 x] w fun e w' => e = .returned (.int .i64 (low32 (belowN x) (wholeN x))) ∧ Below w.heap.size w w' := by
  have HX : Hid (Unit → x < 18446744073709551616) := fun _ => hx
  have hx' : (x : Int) < 18446744073709551616 := by omega
  clear hx
  by_cases hk : kindN x = 4
  · obtain ⟨m, hm⟩ : ∃ m, mantN x = m := ⟨_, rfl⟩
    obtain ⟨ex, he⟩ : ∃ ex, expN x = ex := ⟨_, rfl⟩
    obtain ⟨b, hb⟩ : ∃ b, belowN x = b := ⟨_, rfl⟩
    have hm1 : (m : Int) < 9007199254740992 := by have := mantN_lt x; omega
    have he1 : -1074 ≤ ex := by have := expN_ge x; omega
    have he2 : ex ≤ 971 := by have := expN_le x; omega
    have HV : Hid (Unit → wholeN x = if ex < 0 then m / 2 ^ (-ex).toNat else m * 2 ^ ex.toNat) := fun _ => by unfold wholeN; rw [hm, he]
    have HB : Hid (Unit → partsV x = .agg #[.int .i64 4, .bool b, .int .u64 m, .int .i64 ex]) := fun _ => by unfold partsV; rw [hm, he, hb, hk]; rfl
    have HBB : Hid (Unit → belowN x = b) := fun _ => hb
    have HM1 : Hid (Unit → (m : Int) < 9007199254740992) := fun _ => hm1
    clear hk hm he hb hx' hm1
    by_cases hneg : ex < 0
    · go_enter Try.func20, Try.ntmps20
      go_wp2_with (go_at_call 13; refine (specParts_any x _ (HX.out ())).mono ?_; rintro e w' ⟨rfl, hb⟩; rw [HB.out ()])
      go_loop [4, 5] (fun x4 x5 => ∃ k M : Nat, x4 = .int .u64 M ∧ x5 = .int .i64 k ∧ M = m / 2 ^ k ∧ (k : Int) ≤ -ex) (fun _ x5 => (-ex - intOf x5).toNat)
      case atStart => exact ⟨0, m, rfl, rfl, by simp, by simp; omega⟩
      case round =>
        obtain ⟨k, M, rfl, rfl, hM, hkl⟩ := hrel
        have hM1 : (M : Int) ≤ m := by have := Nat.div_le_self m (2 ^ k); omega
        have HM : Hid (Unit → M = m / 2 ^ k) := fun _ => hM
        clear hM
        by_cases hc : (k : Int) < -ex ∧ 0 < M
        · obtain ⟨c1, c2⟩ := hc
          have hd : (M : Int) / 2 < 18446744073709551616 := by have := HM1.out (); omega
          go_wp2
          go_round
          case rel => exact ⟨k + 1, M / 2, by go_num, by go_num, by rw [HM.out (), Nat.pow_succ, Nat.div_div_eq_div_mul], by omega⟩
          case measure => simp [intOf]; omega
        · have hfin : wholeN x = M := by
            rw [HV.out (), if_pos hneg]
            have hMM := HM.out ()
            by_cases h0 : M = 0
            · rw [h0] at hMM ⊢
              exact div_pow_zero hMM.symm (by omega)
            · rw [hMM, show (-ex).toNat = k by omega]
          have HF : Hid (Unit → low32 (belowN x) (wholeN x) = low32 b M) := fun _ => by rw [hfin, HBB.out ()]
          clear hfin HV HM HX
          have c3 : decide ((k : Int) < -ex) = false ∨ ((k : Int) < -ex ∧ decide (0 < M) = false) := by
            by_cases h : (k : Int) < -ex
            · exact .inr ⟨h, by simp; omega⟩
            · exact .inl (by simp; omega)
          have HM3 : Hid (Unit → (M : Int) < 18446744073709551616) := fun _ => by have := HM1.out (); omega
          clear hc hM1
          have c4 : decide ((0 : Int) < ex) = false := by simp; omega
          have c5 : decide ((63 : Int) < ex) = false := by simp; omega
          rcases c3 with c1 | ⟨c1, c2⟩
          all_goals
            go_wp2
            go_loop [4, 6] (fun x4 x6 => x4 = .int .u64 M ∧ x6 = .int .i64 0) (fun _ _ => 0)
            case atStart => exact ⟨rfl, rfl⟩
            case round =>
              obtain ⟨rfl, rfl⟩ := hrel
              have hM2 := HM3.out ()
              cases b
              · by_cases f : (2147483648 : Int) ≤ (M : Int) % 4294967296
                · go_wp2
                  go_ret
                  exact ⟨ret_int (by rw [HF.out (), low32_no f]), hb.alloc hb.size _⟩
                · have f' : (M : Int) % 4294967296 < 2147483648 := by omega
                  go_wp2
                  go_ret
                  exact ⟨ret_int (by rw [HF.out (), low32_no' f']), hb.alloc hb.size _⟩
              · go_upto_region 19 with fail
                obtain ⟨v, hv⟩ : ∃ v, (4294967296 - (M : Int) % 4294967296) % 4294967296 = v := ⟨_, rfl⟩
                have hv1 : 0 ≤ v := by omega
                have hv2 : v < 4294967296 := by omega
                simp only [hv]
                have HVV : Hid (Unit → (4294967296 - (M : Int) % 4294967296) % 4294967296 = v) := fun _ => hv
                clear hv hM2
                by_cases f : (2147483648 : Int) ≤ v
                · go_wp2
                  go_ret
                  exact ⟨ret_int (by rw [HF.out (), low32_yes (by rw [HVV.out ()]; exact f), HVV.out ()]), hb.alloc hb.size _⟩
                · have f' : v < 2147483648 := by omega
                  go_wp2
                  go_ret
                  exact ⟨ret_int (by rw [HF.out (), low32_yes' (by rw [HVV.out ()]; exact f'), HVV.out ()]), hb.alloc hb.size _⟩
    · have hpos : 0 ≤ ex := by omega
      go_enter Try.func20, Try.ntmps20
      go_wp2_with (go_at_call 13; refine (specParts_any x _ (HX.out ())).mono ?_; rintro e w' ⟨rfl, hb⟩; rw [HB.out ()])
      go_loop [4, 6] (fun x4 x6 => ∃ k M : Nat, x4 = .int .u64 M ∧ x6 = .int .i64 k ∧ M = m * 2 ^ k % 18446744073709551616 ∧ (k : Int) ≤ ex ∧ k ≤ 64) (fun _ x6 => (64 - intOf x6).toNat)
      case atStart => exact ⟨0, m, rfl, rfl, by have := HM1.out (); simp; omega, by simp; omega, by omega⟩
      case round =>
        obtain ⟨k, M, rfl, rfl, hM, hkl, hk64⟩ := hrel
        have HM : Hid (Unit → M = m * 2 ^ k % 18446744073709551616) := fun _ => hM
        have HM3 : Hid (Unit → (M : Int) < 18446744073709551616) := fun _ => by omega
        clear hM
        by_cases hc : (k : Int) < ex ∧ (k : Int) < 64
        · obtain ⟨c1, c2⟩ := hc
          go_wp2
          go_round
          case rel => exact ⟨k + 1, M * 2 % 18446744073709551616, by go_num, by go_num, by rw [HM.out (), Nat.pow_succ, ← Nat.mul_assoc]; omega, by omega, by omega⟩
          case measure => simp [intOf]; omega
        · have hkk : (k : Int) = ex ∨ (k = 64 ∧ (64 : Int) ≤ ex) := by omega
          have c1 : decide ((k : Int) < ex) = false ∨ ((k : Int) < ex ∧ decide ((k : Int) < 64) = false) := by
            by_cases h : (k : Int) < ex
            · exact .inr ⟨h, by simp; omega⟩
            · exact .inl (by simp; omega)
          have hmod : wholeN x % 18446744073709551616 = if (63 : Int) < ex then 0 else M := by
            rw [HV.out (), if_neg (by omega)]
            split
            · next h =>
              obtain ⟨d, hd⟩ : ∃ d, ex.toNat = 64 + d := ⟨ex.toNat - 64, by omega⟩
              rw [hd, Nat.pow_add, show (2 : Nat) ^ 64 = 18446744073709551616 by decide, Nat.mul_comm 18446744073709551616, ← Nat.mul_assoc, Nat.mul_mod_left]
            · next h =>
              rw [HM.out (), show ex.toNat = k by omega]
          clear hc HX HV HM
          by_cases c63 : (63 : Int) < ex
          · rw [if_pos c63] at hmod
            have HF : Hid (Unit → low32 (belowN x) (wholeN x) = 0) := fun _ => by rw [low32_mod (t' := 0) (by omega), low32_zero]
            clear hmod
            rcases c1 with c1 | ⟨c1, c2⟩
            all_goals
              cases b
              all_goals
                go_wp2
                go_ret
                exact ⟨ret_int (by rw [HF.out ()]), hb.alloc hb.size _⟩
          · rw [if_neg c63] at hmod
            have c64 : decide ((63 : Int) < ex) = false := by simp; omega
            have HF : Hid (Unit → low32 (belowN x) (wholeN x) = low32 b M) := fun _ => by rw [low32_mod (t' := M) (by omega), HBB.out ()]
            clear hmod
            have c2 : decide ((k : Int) < ex) = false := by simp; omega
            clear c1
            · have hM2 := HM3.out ()
              cases b
              · by_cases f : (2147483648 : Int) ≤ (M : Int) % 4294967296
                · go_wp2
                  go_ret
                  exact ⟨ret_int (by rw [HF.out (), low32_no f]), hb.alloc hb.size _⟩
                · have f' : (M : Int) % 4294967296 < 2147483648 := by omega
                  go_wp2
                  go_ret
                  exact ⟨ret_int (by rw [HF.out (), low32_no' f']), hb.alloc hb.size _⟩
              · go_upto_region 19 with fail
                obtain ⟨v, hv⟩ : ∃ v, (4294967296 - (M : Int) % 4294967296) % 4294967296 = v := ⟨_, rfl⟩
                have hv1 : 0 ≤ v := by omega
                have hv2 : v < 4294967296 := by omega
                simp only [hv]
                have HVV : Hid (Unit → (4294967296 - (M : Int) % 4294967296) % 4294967296 = v) := fun _ => hv
                clear hv hM2
                by_cases f : (2147483648 : Int) ≤ v
                · go_wp2
                  go_ret
                  exact ⟨ret_int (by rw [HF.out (), low32_yes (by rw [HVV.out ()]; exact f), HVV.out ()]), hb.alloc hb.size _⟩
                · have f' : v < 2147483648 := by omega
                  go_wp2
                  go_ret
                  exact ⟨ret_int (by rw [HF.out (), low32_yes' (by rw [HVV.out ()]; exact f'), HVV.out ()]), hb.alloc hb.size _⟩
  · have hk' : ((kindN x : Int) != 4) = true := by simp; omega
    have hw0 := wholeN_not hk
    clear hk
    go_enter Try.func20, Try.ntmps20
    go_wp2_with (go_at_call 13; refine (specParts_any x _ (HX.out ())).mono ?_; rintro e w' ⟨rfl, hb⟩; unfold partsV)
    go_ret
    exact ⟨ret_int (by rw [hw0, low32_zero]), hb.alloc hb.size _⟩

end Go.Proofs.Ytcdnmacnnbcfhab
