/-
  Part 9 of what is proved of drawn right trees.
-/
import Derived.Test.YtcdbifcidaafnaaGreatDoorPag
import Derived.Test.YtcdbifcidaafnaaGreatDoorPab
import Derived.Test.YtcdbifcidaafnaaGreatDoorPah
import Derived.Lib.ItoaNum
import Derived.Deep.DeepCutAuto
import Derived.Laws.Shifts
import Derived.Deep.QuietTactic
import Derived.BigQuiet
import Derived.Lib.QuietBelow

namespace Go.Proofs.YtcdbifcidaafnaaGreatDoor
open Go.RowKit Go.Sort
set_option linter.unusedVariables false
theorem lz_any (m : Nat) (hm : m < 18446744073709551616) (h0 : m ≠ 0) :
    ∃ f M : Nat, f ≤ 63 ∧ 9223372036854775808 ≤ M ∧ M < 18446744073709551616 ∧ M = m * 2 ^ f ∧ ∀ W, Calls Tryz.prog 111 #[.int .u64 m] W fun e w' => e = .returned (.int .i64 f) ∧ W = w' := by
  obtain ⟨b1, b2, b3⟩ := Lib.bitLenAux_bounds 64 m hm h0
  have b4 : Lib.bitLenAux 64 m ≤ 64 := Lib.bitLen_le m 64 (by omega) (by omega)
  have ht := len_top b2 b3 b1 b4
  refine ⟨64 - Lib.bitLenAux 64 m, m * 2 ^ (64 - Lib.bitLenAux 64 m), by omega, ht.1, ht.2, rfl, fun W => ?_⟩
  refine (Tryz.bits_LeadingZeros64 m W (by omega) (by omega)).mono ?_
  rintro e w' ⟨rfl, rfl⟩
  refine ⟨ret_int ?_, rfl⟩
  rw [Int.toNat_natCast]
  show 64 - (Lib.bitLenAux 64 m : Int) = _
  omega
set_option maxHeartbeats 400000 in
set_option maxRecDepth 100000 in
theorem iMovedUp (m : Nat) (hm : m < 18446744073709551616) (h0 : m ≠ 0) :
    ∃ f M : Nat, f ≤ 63 ∧ 9223372036854775808 ≤ M ∧ M < 18446744073709551616 ∧ M = m * 2 ^ f ∧ ∀ (e : Int) (W : World), -9000 ≤ e → e ≤ 9000 → Calls Tryz.prog 109 #[.int .u64 m, .int .i64 e] W fun en w' => en = .returned (.tuple #[.int .u64 M, .int .i64 (e - f)]) ∧ W = w' := by
  obtain ⟨f, M, hf, hM1, hM2, hMm, cL⟩ := lz_any m hm h0
  refine ⟨f, M, hf, hM1, hM2, hMm, fun e W he1 he2 => ?_⟩
  have dM : IntKind.u64.wrap ((m : Int) * 2 ^ f) = M := by
    have e1 : (m : Int) * 2 ^ f = ((m * 2 ^ f : Nat) : Int) := by simp
    rw [e1, ← hMm]
    show (M : Int) % 18446744073709551616 = M
    omega
  clear hMm hM1 hM2 h0 hm
  go_enter Tryz.func109, Tryz.ntmps109
  go_wp2_with (go_at_call 111; refine (cL _).mono ?_; rintro e w' ⟨rfl, rfl⟩)
  go_ret2
  exact ⟨rfl, rfl⟩
set_option maxHeartbeats 1000000 in
set_option maxRecDepth 100000 in
theorem iRounded (m : Nat) (e : Int) (st : Bool) (w : World) (hm : m < 18446744073709551616) (he1 : -5000 ≤ e) (he2 : e ≤ 5000) :
    Calls Tryz.prog 108 #[.int .u64 m, .int .i64 e, .bool st] w fun en w' => en = .returned (.int .u64 (roundN m e st : Nat)) ∧ w = w' := by
  obtain ⟨R, hR⟩ : ∃ R, roundN m e st = R := ⟨_, rfl⟩
  rw [hR]
  by_cases h0 : m = 0
  · have HR : Hid (Unit → R = 0) := fun _ => by rw [← hR, h0, roundN_nil]
    clear hR
    subst h0
    go_enter Tryz.func108, Tryz.ntmps108
    go_wp2
    go_ret
    exact ⟨by rw [HR.out ()]; rfl, rfl⟩
  · obtain ⟨f, M, hf, hM1, hM2, hMm, cU⟩ := iMovedUp m hm h0
    have cL := fun W => cU e W (by omega) (by omega)
    clear cU
    have d0 : ((m : Int) == 0) = false := by rw [beq_eq_false_iff_ne]; omega
    obtain ⟨E, hE⟩ : ∃ E, e - f = E := ⟨_, rfl⟩
    rw [hE] at cL
    have e1 : -5063 ≤ E := by omega
    have e2 : E ≤ 5000 := by omega
    have HR : Hid (Unit → roundN M E st = R) := fun _ => by rw [hMm, ← hE, roundN_times]; exact hR
    have HM : Hid (Unit → 9223372036854775808 ≤ M ∧ M < 18446744073709551616) := fun _ => ⟨hM1, hM2⟩
    clear hR hMm hM1 hM2 h0 hm
    by_cases hE1 : E ≤ -1139
    · have HZ : Hid (Unit → R = 0) := fun _ => by rw [← HR.out (), roundN_tiny st (HM.out ()).2 hE1]
      clear HR HM
      go_enter Tryz.func108, Tryz.ntmps108
      go_wp2_with (go_at_call 109; refine (cL _).mono ?_; rintro e w' ⟨rfl, rfl⟩)
      go_ret
      exact ⟨by rw [HZ.out ()]; rfl, rfl⟩
    · obtain ⟨D, hD, hD2⟩ : ∃ D : Nat, max 11 (-1074 - E) = (D : Int) ∧ 11 ≤ D ∧ D ≤ 64 ∧ -1074 ≤ E + D ∧ (E + D = -1074 ∨ D = 11) := ⟨(max 11 (-1074 - E)).toNat, by omega, by omega⟩
      obtain ⟨q1, q2, q3, q4⟩ := hD2
      by_cases hE2 : 961 ≤ E
      · have HZ : Hid (Unit → R = 9218868437227405312) := fun _ => by rw [← HR.out (), roundN_inf64 st (HM.out ()).1 (HM.out ()).2 hE2]
        clear HR HM
        go_enter Tryz.func108, Tryz.ntmps108
        go_wp2_with (go_at_call 109; refine (cL _).mono ?_; rintro e w' ⟨rfl, rfl⟩)
        go_ret
        exact ⟨by rw [HZ.out ()]; rfl, rfl⟩
      · obtain ⟨P, hP⟩ : ∃ P, E + D = P := ⟨_, rfl⟩
        have p1 : -1074 ≤ P := by omega
        have p2 : P ≤ 971 := by omega
        obtain ⟨A, hA⟩ : ∃ A : Nat, P + 1074 = A := ⟨(P + 1074).toNat, by omega⟩
        obtain ⟨S, hS⟩ : ∃ S, A * 4503599627370496 + M / 2 ^ D = S := ⟨_, rfl⟩
        obtain ⟨T, hT⟩ : ∃ T, M * 2 ^ (64 - D) % 18446744073709551616 = T := ⟨_, rfl⟩
        have hML : M / 2 ^ D ≤ 9007199254740991 := by
          have h11 : 2 ^ 11 ≤ 2 ^ D := Nat.pow_le_pow_right (by decide) q1
          have h2 : M / 2 ^ D ≤ M / 2 ^ 11 := Nat.div_le_div_left h11 (by decide)
          have h3 := (HM.out ()).2
          omega
        have hS1 : S < 9218868437227405312 := by omega
        have HZ : Hid (Unit → R = S + (if 9223372036854775808 < T ∨ (T = 9223372036854775808 ∧ (st = true ∨ S % 2 = 1)) then 1 else 0)) := fun _ => by
          have e1 : (E + D + 1074).toNat = A := by omega
          rw [← HR.out (), roundN_mid64 st (HM.out ()).1 (HM.out ()).2 q1 q3 q4 (by omega), rne_drop (S := S) st q2 (by omega), e1, hT, ← hS, Nat.add_assoc]
        have WS : Hid (Unit → IntKind.u64.wrap ((P + 1074) * 4503599627370496 + (M : Int) / 2 ^ D) = S) := fun _ => by
          have e1 : (P + 1074) * 4503599627370496 + (M : Int) / 2 ^ D = (S : Int) := by rw [hA, ← hS]; simp
          rw [e1]
          show (S : Int) % 18446744073709551616 = S
          omega
        have WT : Hid (Unit → IntKind.u64.wrap ((M : Int) * 2 ^ (64 - D)) = T) := fun _ => by
          have e1 : (M : Int) * 2 ^ (64 - D) = ((M * 2 ^ (64 - D) : Nat) : Int) := by simp
          rw [e1, ← hT]
          show ((M * 2 ^ (64 - D) : Nat) : Int) % 18446744073709551616 = _
          omega
        have HS2 : Hid (Unit → (S : Int) < 9218868437227405312) := fun _ => by omega
        clear q3 q4 HR hE1 hE2 hA hS hT hML hS1 HM
        go_enter Tryz.func108, Tryz.ntmps108
        go_upto_region 13 with (go_at_call 109; refine (cL _).mono ?_; rintro e w' ⟨rfl, rfl⟩)
        simp only [WS.out (), WT.out ()]
        clear WS WT hP hD hE
        have hS2 := HS2.out ()
        by_cases c1 : (9223372036854775808 : Int) < T
        · have HY : Hid (Unit → R = S + 1) := fun _ => by rw [HZ.out (), if_pos (.inl (by omega))]
          clear HZ
          go_wp2
          go_ret
          exact ⟨by rw [HY.out ()]; rfl, rfl⟩
        · have c1' : decide ((9223372036854775808 : Int) < T) = false := by simp; omega
          by_cases c2 : (T : Int) = 9223372036854775808
          · have hT2 : T = 9223372036854775808 := by omega
            have HZ2 : Hid (Unit → R = S + (if st = true ∨ S % 2 = 1 then 1 else 0)) := fun _ => by
              rw [HZ.out (), hT2]
              simp
            simp only [c2]
            clear HZ c1 c1' hT2 c2
            cases st
            · by_cases c3 : S % 2 = 1
              · have c3' : ((S : Int) % 2 == 1) = true := by simp; omega
                have HY : Hid (Unit → R = S + 1) := fun _ => by rw [HZ2.out (), if_pos (.inr c3)]
                clear HZ2 c3
                go_wp2
                go_ret
                exact ⟨by rw [HY.out ()]; rfl, rfl⟩
              · have c3' : ((S : Int) % 2 == 1) = false := by rw [beq_eq_false_iff_ne]; omega
                have HY : Hid (Unit → R = S) := fun _ => by rw [HZ2.out (), if_neg (by simpa using c3)]; rfl
                clear HZ2 c3
                go_wp2
                go_ret
                exact ⟨by rw [HY.out ()]; rfl, rfl⟩
            · have HY : Hid (Unit → R = S + 1) := fun _ => by rw [HZ2.out (), if_pos (.inl rfl)]
              clear HZ2
              go_wp2
              go_ret
              exact ⟨by rw [HY.out ()]; rfl, rfl⟩
          · have c2' : ((T : Int) == 9223372036854775808) = false := by rw [beq_eq_false_iff_ne]; exact c2
            have HY : Hid (Unit → R = S) := fun _ => by rw [HZ.out (), if_neg (by omega)]; rfl
            clear HZ c1 c2
            go_wp2
            go_ret
            exact ⟨by rw [HY.out ()]; rfl, rfl⟩
theorem roundN_clamp5 {m : Nat} {e E : Int} (st : Bool) (hm : m < 18446744073709551616) (hE : min (max e (-5000)) 5000 = E) : roundN m E st = roundN m e st := by
  by_cases h0 : m = 0
  · subst h0; rw [roundN_nil, roundN_nil]
  · by_cases h1 : e < -5000
    · rw [roundN_tiny st hm (by omega), roundN_tiny st hm (by omega)]
    · by_cases h2 : 5000 < e
      · rw [roundN_huge st h0 (by omega), roundN_huge st h0 (by omega)]
      · rw [(by omega : E = e)]
set_option maxHeartbeats 1000000 in
set_option maxRecDepth 100000 in
theorem iRound_w (b more : Bool) (m : Nat) (e : Int) (w : World) (hm : m < 18446744073709551616) (h1 : -9223372036854775808 ≤ e) (h2 : e ≤ 9223372036854775807) :
    Calls Tryz.prog 102 #[.bool b, .int .u64 m, .int .i64 e, .bool more] w fun en w' => en = .returned (.int .u64 (signN b (roundN m e (more && decide (72057594037927936 ≤ m))) : Nat)) ∧ w = w' := by
  obtain ⟨E, hE⟩ : ∃ E, min (max e (-5000)) 5000 = E := ⟨_, rfl⟩
  obtain ⟨st, hst⟩ : ∃ st, (more && decide (72057594037927936 ≤ m)) = st := ⟨_, rfl⟩
  rw [hst, ← roundN_clamp5 st hm hE]
  have cR := fun W => iRounded m E st W hm (by omega) (by omega)
  have HL := roundN_le m E st
  obtain ⟨R, hR⟩ : ∃ R, roundN m E st = R := ⟨_, rfl⟩
  rw [hR] at cR HL ⊢
  have cS := fun W => iSigned R b W HL
  clear HL hR
  obtain ⟨Q, hQ⟩ : ∃ Q, signN b R = Q := ⟨_, rfl⟩
  rw [hQ] at cS ⊢
  clear hQ
  cases more
  · have hst' : false = st := by simpa using hst
    subst hst'
    clear hst hm
    go_enter Tryz.func102, Tryz.ntmps102
    go_wp2_with (first | (go_at_call 108; refine (cR _).mono ?_; rintro e w' ⟨rfl, rfl⟩) | (go_at_call 91; refine (cS _).mono ?_; rintro e w' ⟨rfl, rfl⟩))
    go_ret
    exact ⟨rfl, rfl⟩
  · have hst' : decide ((72057594037927936 : Int) ≤ m) = st := by rw [← hst, Bool.true_and, Bool.eq_iff_iff, decide_eq_true_iff, decide_eq_true_iff]; omega
    clear hst hm
    go_enter Tryz.func102, Tryz.ntmps102
    go_wp2_with (first | (go_at_call 108; refine (cR _).mono ?_; rintro e w' ⟨rfl, rfl⟩) | (go_at_call 91; refine (cS _).mono ?_; rintro e w' ⟨rfl, rfl⟩))
    go_ret
    exact ⟨rfl, rfl⟩
end Go.Proofs.YtcdbifcidaafnaaGreatDoor
