/-
  Part 2 of what is proved of drawn right trees.
-/
import Derived.Test.YtcdbifcidaafnaaGreatDoorPaa
import Derived.Deep.DeepCutAuto
import Derived.Laws.BitsAllLaws
import Derived.Test.YtcdbifcidaafnaaGreatDoorRows
import Derived.Deep.QuietTactic
import Derived.BigQuiet
import Derived.OpenShut

namespace Go.Proofs.YtcdbifcidaafnaaGreatDoor
open Go.RowKit
set_option linter.unusedVariables false
theorem sticky_eq (m : Nat) : decide ((72057594037927936 : Int) ≤ (m : Int)) = decide (72057594037927936 ≤ m) := by
  rw [decide_eq_decide]; omega
theorem odd_bit (n : Nat) : ((n : Int) % 2 == 1) = decide (n % 2 = 1) := by
  rw [Bool.eq_iff_iff]
  simp only [beq_iff_eq, decide_eq_true_eq]
  omega
theorem l03Sign_int (x : Int) (b : Bool) (w : World) (h0 : 0 ≤ x) (hx : x ≤ 9218868437227405312) :
    Calls Tryz.prog 58 #[.int .u64 x, .bool b] w fun e w' => e = .returned (.int .u64 (signN b x.toNat : Nat)) ∧ w = w' := by
  obtain ⟨n, rfl⟩ : ∃ n : Nat, x = n := ⟨x.toNat, by omega⟩
  exact l03Sign_any n b w (by omega)
def upN (N : Nat) (u : Bool) : Nat := N + (if u = true then 1 else 0)
theorem round_fin {N : Nat} {F : Int} {u : Bool} {r : Nat} (hr : r = min (N + (if u = true then 1 else 0) + (F + 1074).toNat * 4503599627370496) 9218868437227405312 ∧ (F = -1074 ∨ 4503599627370496 ≤ N)) (h1 : N < 9007199254740992) (h2 : -1074 ≤ F) :
    (upN N u ≤ 9007199254740992) ∧
    r = if upN N u = 9007199254740992 then (if 971 < F + 1 then 9218868437227405312 else (F + 1 + 1075).toNat * 4503599627370496)
      else if upN N u < 4503599627370496 then upN N u else if 971 < F then 9218868437227405312 else upN N u - 4503599627370496 + (F + 1075).toNat * 4503599627370496 := by
  have hu : upN N u ≤ 9007199254740992 := by unfold upN; split <;> omega
  refine ⟨hu, ?_⟩
  rw [hr.1]
  exact round_put h2 (by rcases hr.2 with h | h; exact .inl h; exact .inr (by omega)) hu
set_option maxHeartbeats 2000000 in
set_option maxRecDepth 100000 in
theorem specRound_any (b more : Bool) (m : Nat) (e : Int) (w : World) (hm : m < 18446744073709551616) (he0 : -9223372036854775808 ≤ e) (he2 : e ≤ 9223372036854775807) :
    Calls Tryz.prog 57 #[.bool b, .int .u64 m, .int .i64 e, .bool more] w fun en w' => en = .returned (.int .u64 (signN b (roundN m e (more && decide (72057594037927936 ≤ m))) : Nat)) ∧ w = w' := by
  rw [← roundN_clamp e _ hm]
  go_enter Tryz.func57, Tryz.ntmps57
  go_upto_if 13 with fail
  go_cut [2] (fun s2 wx => w = wx ∧ s2 = .int .i64 (min e 5000))
  case first =>
    go_wp2
    · go_meet
      case rel => exact ⟨rfl, by congr 1; omega⟩
    · go_meet
      case rel => exact ⟨rfl, by congr 1; omega⟩
  case rest =>
    obtain ⟨rfl, rfl⟩ := hcut
    go_upto_if 15 with fail
    go_cut [2] (fun s2 wx => w = wx ∧ s2 = .int .i64 (max (min e 5000) (-5000)))
    case first =>
      go_wp2
      · go_meet
        case rel => exact ⟨rfl, by congr 1; omega⟩
      · go_meet
        case rel => exact ⟨rfl, by congr 1; omega⟩
    case rest =>
      obtain ⟨rfl, rfl⟩ := hcut
      have hb1 : -5000 ≤ max (min e 5000) (-5000) := by omega
      have hb2 : max (min e 5000) (-5000) ≤ 5000 := by omega
      obtain ⟨e1, he1⟩ : ∃ e1, max (min e 5000) (-5000) = e1 := ⟨_, rfl⟩
      rw [he1] at hb1 hb2
      have HE1 : Hid (max (min e 5000) (-5000) = e1) := he1
      simp only [he1]
      clear he1
      go_upto_region 5 with fail
      go_cut [9] (fun s9 wx => w = wx ∧ s9 = .bool (more && decide (72057594037927936 ≤ m)))
      case first =>
        cases more
        · go_wp2
          go_meet
          case rel => exact ⟨rfl, rfl⟩
        · go_wp2_with (go_at_call 46; refine (l03Pow_56 _).mono ?_; rintro en w' ⟨rfl, rfl⟩)
          go_meet
          case rel => exact ⟨rfl, by rw [sticky_eq]; rfl⟩
      case rest =>
        obtain ⟨rfl, rfl⟩ := hcut
        obtain ⟨st, hst⟩ : ∃ st, (more && decide (72057594037927936 ≤ m)) = st := ⟨_, rfl⟩
        have HST : Hid (Unit → (more && decide (72057594037927936 ≤ m)) = st) := fun _ => hst
        simp only [hst]
        clear hst
        by_cases hm0 : m = 0
        · subst hm0
          go_wp2_with (go_at_call 58; refine (l03Sign_any 0 b _ (by omega)).mono ?_; rintro en w' ⟨rfl, rfl⟩)
          go_ret
          exact ⟨by simp [roundN], rfl⟩
        · have hm1 : ((m : Int) == 0) = false := by rw [beq_eq_false_iff_ne]; omega
          go_wp2
          go_loop [1, 2] (fun x1 x2 => ∃ (j M : Nat) (E : Int), x1 = .int .u64 M ∧ x2 = .int .i64 E ∧ M = m * 2 ^ j ∧ E = e1 - j ∧ (j = 0 ∨ (M < 9007199254740992 ∧ -1074 ≤ E)) ∧ M < 18446744073709551616 ∧ E ≤ 5000) (fun _ x2 => (intOf x2 + 1074).toNat)
          case atStart => exact ⟨0, m, e1, rfl, rfl, by simp, by simp, .inl rfl, hm, hb2⟩
          case round =>
            obtain ⟨j, M, E, rfl, rfl, hM, hE, hj, hM1, hE1⟩ := hrel
            have HM : Hid (M = m * 2 ^ j) := hM
            have HE : Hid (E = e1 - j) := hE
            have hEl : -5000 ≤ E := by omega
            have hMp : M ≠ 0 := by
              rw [hM]
              exact Nat.mul_ne_zero hm0 (Nat.ne_of_gt (Nat.two_pow_pos j))
            clear hM hE
            by_cases hc : M < 4503599627370496 ∧ -1074 < E
            · obtain ⟨c1, c2⟩ := hc
              have c3 : (M : Int) < 4503599627370496 := by omega
              clear hj hMp hm1 c1 hM1 hm
              go_wp2
              go_round
              case rel => exact ⟨j + 1, 2 * M, E - 1, by go_num, by go_num, by rw [HM.out, Nat.pow_succ, Nat.mul_comm 2, Nat.mul_assoc], by rw [HE.out]; omega, .inr ⟨by omega, by omega⟩, by omega, by omega⟩
              case measure => simp [intOf]; omega
            · have hn : E ≤ -1074 ∨ 4503599627370496 ≤ M := by omega
              have HR : Hid (roundN m e1 st = roundN M E st) := by
                show roundN m e1 st = roundN M E st
                rw [HM.out, HE.out, roundN_times]
              have hM2 : (M : Int) < 18446744073709551616 := by omega
              have HN : Hid (Unit → E ≤ -1074 ∨ 4503599627370496 ≤ M) := fun _ => hn
              have HM1 : Hid (Unit → M < 18446744073709551616) := fun _ => hM1
              have c4 : ((M : Int) < 4503599627370496) → decide (-1074 < E) = false := fun h => by simp; omega
              clear HM HE hc hj hm1 hn hM1 hm
              by_cases c5 : (M : Int) < 4503599627370496
              all_goals
                try have c6 := c4 c5
                clear c4
                go_wp2
                go_loop [1, 2, 10, 11] (fun x1 x2 x10 x11 => ∃ (N : Nat) (F : Int) (hf rs : Bool), x1 = .int .u64 N ∧ x2 = .int .i64 F ∧ x10 = .bool hf ∧ x11 = .bool rs ∧ Halved M E st N F hf rs ∧ -5000 ≤ F) (fun x1 x2 _ _ => (intOf x1).toNat + (-1074 - intOf x2).toNat)
                case atStart => exact ⟨M, E, false, st, rfl, rfl, rfl, rfl, halved_start M E st, hEl⟩
                case round =>
                  obtain ⟨N, F, hf, rs, rfl, rfl, rfl, rfl, hH, hF⟩ := hrel
                  have hN := halved_le hH
                  have hF2 := halved_exp hH (HM1.out ())
                  have HH : Hid (Unit → Halved M E st N F hf rs) := fun _ => hH
                  clear hH
                  have hN2 : (N : Int) ≤ M := by omega
                  clear hN
                  by_cases hc1 : (9007199254740992 : Int) ≤ N
                  · have hd : ((N : Int) / 2 == 0) = false := by rw [beq_eq_false_iff_ne]; omega
                    cases rs <;> cases hf
                    all_goals
                      go_wp2
                      go_round
                      case rel => exact ⟨N / 2, F + 1, _, _, by go_num, by go_num, rfl, rfl, by rw [odd_bit]; exact halved_step (HH.out ()) (.inl (by omega)), by omega⟩
                      case measure => simp [intOf]; omega
                  · by_cases hc2 : F < -1074
                    · by_cases hz : (N : Int) / 2 = 0
                      · by_cases hz2 : F + 1 < -1074
                        · cases rs <;> cases hf <;> by_cases ho : (N : Int) % 2 = 1
                          all_goals
                            go_wp2
                            go_round
                            case rel => exact ⟨0, -1074, _, _, rfl, rfl, rfl, rfl, halved_zero (HH.out ()) (by omega) hz2, by omega⟩
                            case measure => simp [intOf]; omega
                        · cases rs <;> cases hf
                          all_goals
                            go_wp2
                            go_round
                            case rel => exact ⟨N / 2, F + 1, _, _, by go_num, by go_num, rfl, rfl, by rw [odd_bit]; exact halved_step (HH.out ()) (.inr hc2), by omega⟩
                            case measure => simp [intOf]; omega
                      · have hd : ((N : Int) / 2 == 0) = false := by rw [beq_eq_false_iff_ne]; exact hz
                        cases rs <;> cases hf
                        all_goals
                          go_wp2
                          go_round
                          case rel => exact ⟨N / 2, F + 1, _, _, by go_num, by go_num, rfl, rfl, by rw [odd_bit]; exact halved_step (HH.out ()) (.inr hc2), by omega⟩
                          case measure => simp [intOf]; omega
                    · have hd1 : decide ((9007199254740992 : Int) ≤ N) = false := by simp; omega
                      have hd2 : decide (F < -1074) = false := by simp; omega
                      have hfin := round_fin (halved_end (HH.out ()) hMp (HN.out ()) (by omega) (by omega)) (by omega) (by omega)
                      have HF : Hid (Unit → _) := fun _ => hfin.2
                      have hu : ((upN N (hf && (rs || decide (N % 2 = 1))) : Nat) : Int) ≤ 9007199254740992 := by have := hfin.1; omega
                      clear hfin
                      go_upto_region 22 with fail
                      go_cut [72] (fun s72 wx => w = wx ∧ s72 = .bool (hf && (rs || decide (N % 2 = 1))))
                      case first =>
                        cases rs <;> cases hf
                        all_goals
                          go_wp2
                          go_meet
                          case rel => exact ⟨rfl, by simp [odd_bit]⟩
                      case rest =>
                        obtain ⟨rfl, rfl⟩ := hcut
                        clear HH HN HM1 hd1 hd2
                        obtain ⟨u, hu0⟩ : ∃ u, (hf && (rs || decide (N % 2 = 1))) = u := ⟨_, rfl⟩
                        rw [hu0] at HF hu
                        simp only [hu0]
                        clear hu0
                        obtain ⟨P, hP⟩ : ∃ P, upN N u = P := ⟨_, rfl⟩
                        rw [hP] at HF hu
                        have HP : Hid (Unit → upN N u = P) := fun _ => hP
                        clear hP
                        go_upto_if 72 with fail
                        go_cut [1] (fun s1 wx => w = wx ∧ s1 = .int .u64 P)
                        case first =>
                          have HP' := HP.out ()
                          cases u
                          · obtain rfl : N = P := by simpa [upN] using HP'
                            go_wp2
                            go_meet
                            case rel => exact ⟨rfl, rfl⟩
                          · obtain rfl : N + 1 = P := by simpa [upN] using HP'
                            go_wp2
                            go_meet
                            case rel => exact ⟨rfl, by go_num⟩
                        case rest =>
                          obtain ⟨rfl, rfl⟩ := hcut
                          have HV : Hid (Unit → roundN m (max (min e 5000) (-5000)) (more && decide (72057594037927936 ≤ m)) = roundN M E st) := fun _ => by
                            rw [HE1.out, HST.out (), HR.out]
                          have hP0 : (0 : Int) ≤ P := by omega
                          by_cases f1 : (P : Int) = 9007199254740992
                          · by_cases f2 : 971 < F + 1
                            · go_wp2_with (go_at_call 58; refine (l03Sign_int _ b _ (by omega) (by omega)).mono ?_; rintro en w' ⟨rfl, rfl⟩)
                              go_ret
                              refine ⟨?_, rfl⟩
                              rw [HV.out (), HF.out (), if_pos (by omega), if_pos f2]
                              rfl
                            · go_wp2_with (go_at_call 58; refine (l03Sign_int _ b _ (by omega) (by omega)).mono ?_; rintro en w' ⟨rfl, rfl⟩)
                              go_ret
                              refine ⟨?_, rfl⟩
                              rw [HV.out (), HF.out (), if_pos (by omega), if_neg (by omega)]
                              refine ret_int (congrArg (fun n : Nat => (n : Int)) (congrArg (signN b) ?_))
                              omega
                          · have f1' : ((P : Int) == 9007199254740992) = false := by rw [beq_eq_false_iff_ne]; exact f1
                            by_cases f3 : (P : Int) < 4503599627370496
                            · go_wp2_with (go_at_call 58; refine (l03Sign_int _ b _ (by omega) (by omega)).mono ?_; rintro en w' ⟨rfl, rfl⟩)
                              go_ret
                              refine ⟨?_, rfl⟩
                              rw [HV.out (), HF.out (), if_neg (by omega), if_pos (by omega)]
                              rfl
                            · by_cases f2 : 971 < F
                              · go_wp2_with (go_at_call 58; refine (l03Sign_int _ b _ (by omega) (by omega)).mono ?_; rintro en w' ⟨rfl, rfl⟩)
                                go_ret
                                refine ⟨?_, rfl⟩
                                rw [HV.out (), HF.out (), if_neg (by omega), if_neg (by omega), if_pos f2]
                                rfl
                              · go_wp2_with (go_at_call 58; refine (l03Sign_int _ b _ (by omega) (by omega)).mono ?_; rintro en w' ⟨rfl, rfl⟩)
                                go_ret
                                refine ⟨?_, rfl⟩
                                rw [HV.out (), HF.out (), if_neg (by omega), if_neg (by omega), if_neg (by omega)]
                                refine ret_int (congrArg (fun n : Nat => (n : Int)) (congrArg (signN b) ?_))
                                omega
end Go.Proofs.YtcdbifcidaafnaaGreatDoor
namespace Go.Proofs.YtcdbifcidaafnaaGreatDoor
open Go.RowKit
set_option linter.unusedVariables false
def fromIntN (n : Int) : Nat := signN (decide (n < 0)) (roundN n.natAbs 0 false)
theorem specRound_plain (b : Bool) (m : Int) (w : World) (h0 : 0 ≤ m) (hm : m < 18446744073709551616) :
    Calls Tryz.prog 57 #[.bool b, .int .u64 m, .int .i64 0, .bool false] w fun en w' => en = .returned (.int .u64 (signN b (roundN m.natAbs 0 false) : Nat)) ∧ w = w' := by
  obtain ⟨n, rfl⟩ : ∃ n : Nat, m = n := ⟨m.toNat, by omega⟩
  exact specRound_any b false n 0 w (by omega) (by omega) (by omega)
set_option maxHeartbeats 400000 in
set_option maxRecDepth 100000 in
theorem specFromInt_any (n : Int) (w : World) (h0 : -9223372036854775808 ≤ n) (h1 : n ≤ 9223372036854775807) :
    Calls Tryz.prog 67 #[.int .i64 n] w fun e w' => e = .returned (.int .u64 (fromIntN n : Nat)) ∧ w = w' := by
  by_cases hmin : n = -9223372036854775808
  · subst hmin
    go_enter Tryz.func67, Tryz.ntmps67
    go_wp2_with (first | (go_at_call 46; refine (l03Pow_63 _).mono ?_; rintro e w' ⟨rfl, rfl⟩) | (go_at_call 57; refine (specRound_plain _ _ _ (by omega) (by omega)).mono ?_; rintro e w' ⟨rfl, rfl⟩))
    go_ret
    exact ⟨rfl, rfl⟩
  · have hmin' : (n == -9223372036854775808) = false := by rw [beq_eq_false_iff_ne]; exact hmin
    have hlo : -9223372036854775808 < n := by omega
    clear h0
    by_cases hn : n < 0
    · go_enter Tryz.func67, Tryz.ntmps67
      go_wp2_with (go_at_call 57; refine (specRound_plain _ _ _ (by omega) (by omega)).mono ?_; rintro e w' ⟨rfl, rfl⟩)
      go_ret
      exact ⟨ret_int (by simp [fromIntN, hn]), rfl⟩
    · have hn' : 0 ≤ n := by omega
      go_enter Tryz.func67, Tryz.ntmps67
      go_wp2_with (go_at_call 57; refine (specRound_plain _ _ _ (by omega) (by omega)).mono ?_; rintro e w' ⟨rfl, rfl⟩)
      go_ret
      exact ⟨ret_int (by rw [fromIntN, decide_eq_false (by omega)]), rfl⟩
end Go.Proofs.YtcdbifcidaafnaaGreatDoor
namespace Go.Proofs.YtcdbifcidaafnaaGreatDoor
open Go.RowKit
set_option linter.unusedVariables false
def negN (x : Nat) : Nat := if kindN x = 1 then 9221120237041090560 else if 9223372036854775808 ≤ x then x - 9223372036854775808 else x + 9223372036854775808
theorem xor_top {x : Nat} (h : x < 18446744073709551616) : x ^^^ 9223372036854775808 = if 9223372036854775808 ≤ x then x - 9223372036854775808 else x + 9223372036854775808 := by
  have low : ∀ y, y < 9223372036854775808 → y ^^^ 9223372036854775808 = y + 9223372036854775808 := by
    intro y hy
    have e : (9223372036854775808 : Nat) = 2 ^ 63 := by decide
    have o : 2 ^ 63 ||| y = 2 ^ 63 + y := by
      have := Nat.two_pow_add_eq_or_of_lt (i := 63) (b := y) (by simpa using hy) 1
      simpa using this.symm
    rw [e, Nat.add_comm y, ← o]
    apply Nat.eq_of_testBit_eq
    intro i
    simp only [Nat.testBit_xor, Nat.testBit_or, Nat.testBit_two_pow]
    by_cases hi : 63 = i
    · subst hi
      have : y.testBit 63 = false := Nat.testBit_lt_two_pow (by simpa using hy)
      simp [this]
    · simp [hi]
  by_cases h2 : 9223372036854775808 ≤ x
  · rw [if_pos h2]
    obtain ⟨y, rfl⟩ : ∃ y, x = y + 9223372036854775808 := ⟨x - 9223372036854775808, by omega⟩
    rw [← low y (by omega), Nat.xor_assoc, Nat.xor_self, Nat.xor_zero, low y (by omega), Nat.add_sub_cancel]
  · rw [if_neg h2]; exact low x (by omega)
end Go.Proofs.YtcdbifcidaafnaaGreatDoor
namespace Go.Proofs.YtcdbifcidaafnaaGreatDoor
open Go.RowKit Go.Sort
set_option linter.unusedVariables false
def bitN (b : Bool) : Nat := if b then 1 else 0
def boolV (b : Bool) : PVal := ⟨1, bitN b, ⟨#[]⟩, 0⟩
def numV (x : Nat) : PVal := ⟨2, x, ⟨#[]⟩, 0⟩
def noneV : PVal := ⟨0, 0, ⟨#[]⟩, 0⟩
def textV (s : ByteArray) : PVal := ⟨3, 0, s, 0⟩
set_option maxHeartbeats 400000 in
set_option maxRecDepth 100000 in
theorem l17Number_any (x : Nat) (w : World) : Calls Tryz.prog 35 #[.int .u64 x] w fun e w' => e = .returned (.agg #[.int .i64 2, .int .u64 x, .string ⟨#[]⟩, .int .i64 0]) ∧ Below w.heap.size w w' := by
  go_enter Tryz.func35, Tryz.ntmps35
  go_wp2
  go_returns
  exact ⟨rfl, by go_grown⟩
end Go.Proofs.YtcdbifcidaafnaaGreatDoor
namespace Go.Proofs.YtcdbifcidaafnaaGreatDoor
open Go.RowKit Go.Sort
set_option linter.unusedVariables false
theorem four_cells {w : World} {g : Nat} {a0 a1 a2 a3 : Value} {t : TypeId} {r : Nat × Nat} (h : w.heap[g]? = some (.cells #[a0, a1, a2, a3] t r)) :
    w.cell? ⟨g, 0, none⟩ = some a0 ∧ w.cell? ⟨g, 1, none⟩ = some a1 ∧ w.cell? ⟨g, 2, none⟩ = some a2 ∧ w.cell? ⟨g, 3, none⟩ = some a3 := by
  refine ⟨?_, ?_, ?_, ?_⟩ <;> (rw [cell_of_row _ _ _ _ _ _ h]; rfl)
theorem four_put {w : World} {g : Nat} {a0 a1 a2 a3 b0 b1 b2 b3 : Value} {t : TypeId} (h : w.heap[g]? = some (.cells #[a0, a1, a2, a3] t)) :
    ((((w.setCell ⟨g, 0, none⟩ b0).setCell ⟨g, 1, none⟩ b1).setCell ⟨g, 2, none⟩ b2).setCell ⟨g, 3, none⟩ b3).heap[g]? = some (.cells #[b0, b1, b2, b3] t) := by
  have k0 : (w.setCell ⟨g, 0, none⟩ b0).heap[g]? = some (.cells #[b0, a1, a2, a3] t) := heap_setCell_same _ _ _ _ _ _ h
  have k1 := heap_setCell_same _ _ 1 _ _ b1 k0
  have k2 : _ = some (Obj.cells #[b0, b1, b2, a3] t) := heap_setCell_same _ _ 2 _ _ b2 k1
  exact heap_setCell_same _ _ 3 _ _ b3 k2
theorem four_ready {w w1 : World} {G : Nat} {B : Nat} {a0 a1 a2 a3 b0 b1 b2 b3 : Value} {t : TypeId} (u : w1.heap[G]? = some (.cells #[a0, a1, a2, a3] t)) (hb : Below B w w1) (hG : B ≤ G) :
    (w1.cell? ⟨G, 0, none⟩ = some a0 ∧ w1.cell? ⟨G, 1, none⟩ = some a1 ∧ w1.cell? ⟨G, 2, none⟩ = some a2 ∧ w1.cell? ⟨G, 3, none⟩ = some a3) ∧ (∀ j, w1.frozen? ⟨G, j, none⟩ = false) ∧
    (((((w1.setCell ⟨G, 0, none⟩ b0).setCell ⟨G, 1, none⟩ b1).setCell ⟨G, 2, none⟩ b2).setCell ⟨G, 3, none⟩ b3).cell? ⟨G, 0, none⟩ = some b0 ∧ ((((w1.setCell ⟨G, 0, none⟩ b0).setCell ⟨G, 1, none⟩ b1).setCell ⟨G, 2, none⟩ b2).setCell ⟨G, 3, none⟩ b3).cell? ⟨G, 1, none⟩ = some b1 ∧ ((((w1.setCell ⟨G, 0, none⟩ b0).setCell ⟨G, 1, none⟩ b1).setCell ⟨G, 2, none⟩ b2).setCell ⟨G, 3, none⟩ b3).cell? ⟨G, 2, none⟩ = some b2 ∧ ((((w1.setCell ⟨G, 0, none⟩ b0).setCell ⟨G, 1, none⟩ b1).setCell ⟨G, 2, none⟩ b2).setCell ⟨G, 3, none⟩ b3).cell? ⟨G, 3, none⟩ = some b3) ∧
    Below B w ((((w1.setCell ⟨G, 0, none⟩ b0).setCell ⟨G, 1, none⟩ b1).setCell ⟨G, 2, none⟩ b2).setCell ⟨G, 3, none⟩ b3) :=
  ⟨four_cells u, fun j => frozen_of_row w1 G j _ _ u, four_cells (four_put u), (((hb.setCell (p := ⟨G, 0, none⟩) hG b0).setCell (p := ⟨G, 1, none⟩) hG b1).setCell (p := ⟨G, 2, none⟩) hG b2).setCell (p := ⟨G, 3, none⟩) hG b3⟩
def orderB (op : Int) (less same none : Bool) : Bool := if op = 6 then less else if op = 7 then less || same else if op = 8 then !none && (!less && !same) else !none && !less
theorem two_made (w : World) (o1 o2 : Obj) : ((w.alloc o1).alloc o2).heap[w.heap.size]? = some o1 ∧ ((w.alloc o1).alloc o2).heap[w.heap.size + 1]? = some o2 ∧ ((w.alloc o1).alloc o2).heap.size = w.heap.size + 2 ∧ Below w.heap.size w ((w.alloc o1).alloc o2) := by
  have z1 : (w.alloc o1).heap.size = w.heap.size + 1 := by simp
  refine ⟨?_, ?_, by simp, ((Below.refl _ _).alloc (Nat.le_refl _) _).alloc (by simp) _⟩
  · rw [heap_alloc_old (r := w.heap.size) _ _ (by omega)]
    exact heap_alloc_new _ _
  · rw [← z1]
    exact heap_alloc_new _ _
end Go.Proofs.YtcdbifcidaafnaaGreatDoor
namespace Go.Proofs.YtcdbifcidaafnaaGreatDoor
open Go.RowKit
set_option linter.unusedVariables false
theorem i64_and255 (n : Int) : bits .and .i64 n 255 = n % 256 := by
  have h127 : (BitVec.ofInt 64 255).toNat = 2 ^ 8 - 1 := by decide
  have key : (BitVec.ofInt 64 n &&& BitVec.ofInt 64 255).toNat = (n % ((2 ^ 64 : Nat) : Int)).toNat % 2 ^ 8 := by
    rw [BitVec.toNat_and, BitVec.toNat_ofInt, h127, Nat.and_two_pow_sub_one_eq_mod]
  show IntKind.i64.wrap ((BitVec.ofInt 64 n &&& BitVec.ofInt 64 255).toNat : Nat) = n % 256
  rw [key, IntKind.wrap_i64]
  omega
theorem and255_nat (n : Int) : ∃ x : Nat, x < 256 ∧ bits .and .i64 n 255 = (x : Int) := ⟨(n % 256).toNat, by omega, by rw [i64_and255]; omega⟩
def CodeIn (w : World) (ac : Option Addr) (len g : Nat) : Prop :=
  len ≤ 1048576 ∧ (0 < len → ∃ b off, ac = some ⟨b, off, none⟩ ∧ b ≠ g ∧ b < w.heap.size ∧ ∀ j, j < len → ∃ z : Nat, z < 256 ∧ w.cell? ⟨b, off + j, none⟩ = some (.int .u8 z))
def Cur (ac : Option Addr) (len cap : Nat) (w : World) (g : Nat) : Prop :=
  CodeIn w ac len g ∧ g < w.heap.size ∧ ∃ (i : Nat) (h : Int), i ≤ len ∧ w.heap[g]? = some (.cells #[.slice ac len cap, .int .i64 i, .int .i64 h] 72 (0, 0))
theorem codeIn_kept {w w' : World} {ac : Option Addr} {len g : Nat} (h : CodeIn w ac len g) (hg : w.grownBy w' (some g)) : CodeIn w' ac len g := by
  refine ⟨h.1, fun hp => ?_⟩
  obtain ⟨b, off, e, hb, hlt, hc⟩ := h.2 hp
  refine ⟨b, off, e, hb, Nat.lt_of_lt_of_le hlt hg.size, fun j hj => ?_⟩
  obtain ⟨z, hz, hcz⟩ := hc j hj
  exact ⟨z, hz, hg.cell hcz (by simpa using hb)⟩
theorem cur_cells {w : World} {g : Nat} {a b c : Value} {t : TypeId} (h : w.heap[g]? = some (.cells #[a, b, c] t (0, 0))) :
    w.cell? ⟨g, 0, none⟩ = some a ∧ w.cell? ⟨g, 1, none⟩ = some b ∧ w.cell? ⟨g, 2, none⟩ = some c ∧ ∀ j, w.frozen? ⟨g, j, none⟩ = false := by
  refine ⟨?_, ?_, ?_, fun j => ?_⟩
  · unfold World.cell?; simp only [h]; rfl
  · unfold World.cell?; simp only [h]; rfl
  · unfold World.cell?; simp only [h]; rfl
  · unfold World.frozen?; simp only [h]; simp
theorem grown_set (w : World) (g j : Nat) (v : Value) : w.grownBy (w.setCell ⟨g, j, none⟩ v) (some g) :=
  ⟨rfl, rfl, rfl, by simp, fun k _ hk => heap_setCell_other w ⟨g, j, none⟩ k v (fun e => hk (by simp [e]))⟩
theorem grown_drewN (w : World) (n : Nat) (row : Option Nat) : w.grownBy (w.drewN n) row := ⟨rfl, rfl, rfl, Nat.le_refl _, fun _ _ _ => rfl⟩
set_option maxHeartbeats 1000000 in
set_option maxRecDepth 100000 in
theorem l01Byte_any (ac : Option Addr) (len cap g : Nat) (w : World) (hC : Cur ac len cap w g) :
    Calls Tryz.prog 66 #[.pointer (some ⟨g, 0, none⟩)] w fun e w' => ∃ x : Nat, x < 256 ∧ e = .returned (.int .i64 x) ∧ Cur ac len cap w' g ∧ w.grownBy w' (some g) := by
  obtain ⟨hcode, hlt, i, h, hi, hg⟩ := hC
  obtain ⟨c0, c1, c2, hf⟩ := cur_cells hg
  have f1 := hf 1
  have f2 := hf 2
  clear hf
  go_enter Tryz.func66, Tryz.ntmps66
  go_wp2
  obtain ⟨h1, hh1⟩ : ∃ h1, h1 = wrap64 (wrap64 (h * 6364136223846793005) + 1442695040888963407) := ⟨_, rfl⟩
  rw [← hh1]
  clear hh1
  obtain ⟨W, hW⟩ : ∃ W, W = w.setCell ⟨g, 2, none⟩ (.int .i64 h1) := ⟨_, rfl⟩
  rw [← hW]
  have hgW : W.heap[g]? = some (.cells #[.slice ac len cap, .int .i64 i, .int .i64 h1] 72 (0, 0)) := by rw [hW, heap_setCell_same _ _ _ _ _ _ hg]; rfl
  have grW : w.grownBy W (some g) := by rw [hW]; exact grown_set _ _ _ _
  have codeW := codeIn_kept hcode grW
  clear hW c0 c1 c2 f1 f2 hg hcode
  obtain ⟨c0, c1, c2, hf⟩ := cur_cells hgW
  have f1 := hf 1
  clear hf
  go_quiet (fail)
  go_wp2
  obtain ⟨x0, hx1, hx0⟩ := and255_nat (bits BinOp.xor IntKind.i64 (h1 / 8589934592) (h1 / 35184372088832))
  rw [hx0]
  clear hx0
  have hl : len ≤ 1048576 := codeW.1
  by_cases hil : i < len
  · obtain ⟨b, off, rfl, hbg, hbl, hcs⟩ := codeW.2 (by omega)
    obtain ⟨z, hz, hcz⟩ := hcs i hil
    have hil' : (i : Int) < (len : Int) := by omega
    have hi0 : (0 : Int) ≤ (i : Int) := by omega
    clear hcs
    go_quiet (fail)
    go_wp2
    go_quiet (fail)
    go_wp2
    obtain ⟨x1, hx3, hx2⟩ := and255_nat ((x0 : Int) + (z : Int))
    go_ret
    refine ⟨x1, hx3, by rw [← hx2]; rfl, ⟨codeIn_kept (codeIn_kept codeW (grown_drewN _ _ _)) (grown_set _ _ _ _), ?_, i + 1, h1, by omega, ?_⟩, (grW.trans (grown_drewN _ _ _)).trans (grown_set _ _ _ _)⟩
    · have := grW.size
      simp [World.drewN]; omega
    · rw [heap_setCell_same _ _ _ _ _ _ (show (W.drewN _).heap[g]? = _ from hgW)]; rfl
  · have d : decide ((i : Int) < (len : Int)) = false := by simp; omega
    go_quiet (fail)
    go_wp2
    go_ret
    exact ⟨x0, hx1, rfl, ⟨codeIn_kept (codeIn_kept codeW (grown_drewN _ _ _)) (grown_drewN _ _ _), by have := grW.size; simp [World.drewN]; omega, i, h1, hi, hgW⟩, (grW.trans (grown_drewN _ _ _)).trans (grown_drewN _ _ _)⟩
set_option maxHeartbeats 1000000 in
set_option maxRecDepth 100000 in
theorem l01Below_any (ac : Option Addr) (len cap g : Nat) (n : Int) (w : World) (hC : Cur ac len cap w g) (hn : n ≤ 4294967296) :
    Calls Tryz.prog 48 #[.pointer (some ⟨g, 0, none⟩), .int .i64 n] w fun e w' => ∃ x : Nat, ((x : Int) < n ∨ (n ≤ 0 ∧ x = 0)) ∧ e = .returned (.int .i64 x) ∧ Cur ac len cap w' g ∧ w.grownBy w' (some g) := by
  by_cases h0 : n ≤ 0
  · go_enter Tryz.func48, Tryz.ntmps48
    go_wp2
    go_ret
    exact ⟨0, .inr ⟨h0, rfl⟩, rfl, hC, ⟨rfl, rfl, rfl, Nat.le_refl _, fun _ _ _ => rfl⟩⟩
  · obtain ⟨m, rfl⟩ : ∃ m : Nat, n = m := ⟨n.toNat, by omega⟩
    have hm0 : 0 < m := by omega
    have hmi : (0 : Int) < (m : Int) := by omega
    have hne : ((m : Int) == 0) = false := by rw [beq_eq_false_iff_ne]; omega
    by_cases h256 : m ≤ 256
    · go_enter Tryz.func48, Tryz.ntmps48
      go_wp2_with fail
      refine (l01Byte_any ac len cap g _ hC).mono ?_
      rintro e w1 ⟨x, hx, rfl, hC1, gr1⟩
      have hlt := Nat.mod_lt x hm0
      go_wp2
      go_ret
      exact ⟨x % m, .inl (by omega), ret_int rfl, hC1, gr1⟩
    · have h257 : 256 < m := by omega
      go_enter Tryz.func48, Tryz.ntmps48
      go_wp2_with fail
      refine (l01Byte_any ac len cap g _ hC).mono ?_
      rintro e w1 ⟨x, hx, rfl, hC1, gr1⟩
      go_wp2_with fail
      refine (l01Byte_any ac len cap g _ hC1).mono ?_
      rintro e w2 ⟨y, hy, rfl, hC2, gr2⟩
      go_wp2_with fail
      refine (l01Byte_any ac len cap g _ hC2).mono ?_
      rintro e w3 ⟨z, hz, rfl, hC3, gr3⟩
      go_wp2_with fail
      refine (l01Byte_any ac len cap g _ hC3).mono ?_
      rintro e w4 ⟨q, hq, rfl, hC4, gr4⟩
      have hlt := Nat.mod_lt (x * 16777216 + y * 65536 + z * 256 + q) hm0
      go_wp2
      go_ret
      exact ⟨(x * 16777216 + y * 65536 + z * 256 + q) % m, .inl (by omega), ret_int (by simp), hC4, ((gr1.trans gr2).trans gr3).trans gr4⟩
theorem l01Below_nat (ac : Option Addr) (len cap g n : Nat) (w : World) (hC : Cur ac len cap w g) (h0 : 0 < n) (hn : n ≤ 4294967296) :
    Calls Tryz.prog 48 #[.pointer (some ⟨g, 0, none⟩), .int .i64 n] w fun e w' => ∃ x : Nat, x < n ∧ e = .returned (.int .i64 x) ∧ Cur ac len cap w' g ∧ w.grownBy w' (some g) := by
  refine (l01Below_any ac len cap g n w hC (by omega)).mono fun e w' ⟨x, hx, h⟩ => ⟨x, by omega, h⟩
set_option maxHeartbeats 400000 in
set_option maxRecDepth 100000 in
theorem l01Once_any (ac : Option Addr) (len cap g n : Nat) (w : World) (hC : Cur ac len cap w g) (h0 : 0 < n) (hn : n ≤ 4294967296) :
    Calls Tryz.prog 50 #[.pointer (some ⟨g, 0, none⟩), .int .i64 n] w fun e w' => ∃ b : Bool, e = .returned (.bool b) ∧ Cur ac len cap w' g ∧ w.grownBy w' (some g) := by
  go_enter Tryz.func50, Tryz.ntmps50
  go_wp2_with fail
  refine (l01Below_nat ac len cap g n _ hC h0 hn).mono ?_
  rintro e w1 ⟨x, hx, rfl, hC1, gr1⟩
  go_wp2
  go_ret
  exact ⟨_, rfl, hC1, gr1⟩
theorem cur_new {w : World} {ac : Option Addr} {len cap : Nat} (hc : CodeIn w ac len w.heap.size) (h : Int) : Cur ac len cap (w.alloc (.cells #[.slice ac len cap, .int .i64 0, .int .i64 h] 72)) w.heap.size :=
  ⟨codeIn_kept hc (World.grownBy_alloc _ _ _), by simp, 0, h, Nat.zero_le _, heap_alloc_new w _⟩
set_option maxHeartbeats 1000000 in
set_option maxRecDepth 100000 in
theorem l01New_any (ac : Option Addr) (len cap : Nat) (w : World) (hc : CodeIn w ac len w.heap.size) :
    Calls Tryz.prog 22 #[.slice ac len cap] w fun e w' => ∃ g, e = .returned (.pointer (some ⟨g, 0, none⟩)) ∧ w.heap.size ≤ g ∧ Cur ac len cap w' g ∧ Below w.heap.size w w' := by
  have hl := hc.1
  go_enter Tryz.func22, Tryz.ntmps22
  go_wp2
  go_loop [3, 4] (fun x y => ∃ (h : Int) (i : Nat), i ≤ len ∧ x = .int .i64 h ∧ y = .int .i64 i) (fun _ y => len - (intOf y).toNat)
  case atStart => exact ⟨_, 0, Nat.zero_le _, rfl, rfl⟩
  case round =>
    obtain ⟨h, i, hi, rfl, rfl⟩ := hrel
    by_cases hil : i < len
    · obtain ⟨b, off, rfl, hbg, hbl, hcs⟩ := hc.2 (by omega)
      obtain ⟨z, hz, hcz⟩ := hcs i hil
      have hil' : (i : Int) < (len : Int) := by omega
      have hi0 : (0 : Int) ≤ (i : Int) := by omega
      clear hcs
      by_cases h4 : i < 4000
      · have h4' : (i : Int) < 4000 := by omega
        go_wp2
        go_round
        case rel => exact ⟨_, i + 1, by omega, rfl, by go_num⟩
        case measure => simp [intOf]; omega
      · have d : decide ((i : Int) < 4000) = false := by simp; omega
        go_wp2
        go_ret
        exact ⟨w.heap.size, rfl, Nat.le_refl _, cur_new hc _, (Below.refl _ _).alloc (Nat.le_refl _) _⟩
    · go_wp2
      go_ret
      exact ⟨w.heap.size, rfl, Nat.le_refl _, cur_new hc _, (Below.refl _ _).alloc (Nat.le_refl _) _⟩
end Go.Proofs.YtcdbifcidaafnaaGreatDoor
namespace Go.Proofs.YtcdbifcidaafnaaGreatDoor
open Go.RowKit
set_option linter.unusedVariables false
set_option maxHeartbeats 400000 in
set_option maxRecDepth 100000 in
theorem l01PickInt_any (ac : Option Addr) (len cap g gl c : Nat) (zs : List Int) (w : World) (hC : Cur ac len cap w g) (hgl : gl ≠ g) (h0 : 0 < zs.length) (hn : zs.length ≤ 1000) (hz : ∀ j, j < zs.length → w.cell? ⟨gl, j, none⟩ = some (.int .i64 (zs.getD j 0))) :
    Calls Tryz.prog 51 #[.pointer (some ⟨g, 0, none⟩), .slice (some ⟨gl, 0, none⟩) zs.length c] w fun e w' => ∃ z, z ∈ zs ∧ e = .returned (.int .i64 z) ∧ Cur ac len cap w' g ∧ w.grownBy w' (some g) := by
  go_enter Tryz.func51, Tryz.ntmps51
  go_wp2_with fail
  refine (l01Below_nat ac len cap g zs.length _ hC h0 (by omega)).mono ?_
  rintro e w1 ⟨x, hx, rfl, hC1, gr1⟩
  have hc : w1.cell? ⟨gl, x, none⟩ = some (.int .i64 (zs.getD x 0)) := gr1.cell (hz x hx) (by simpa using hgl)
  have hxi : (x : Int) < (zs.length : Int) := by omega
  have hx0 : (0 : Int) ≤ (x : Int) := by omega
  clear hz
  go_wp2
  go_ret
  exact ⟨zs[x], List.getElem_mem hx, rfl, hC1, gr1⟩
theorem cur_alloc {ac : Option Addr} {len cap g : Nat} {w : World} (h : Cur ac len cap w g) (o : Obj) : Cur ac len cap (w.alloc o) g := by
  obtain ⟨h1, h2, i, hh, h3, h4⟩ := h
  exact ⟨codeIn_kept h1 (World.grownBy_alloc _ _ _), by simp; omega, i, hh, h3, by rw [Below.heap_alloc w o g h2]; exact h4⟩
theorem gr_below {w w1 w2 : World} {row : Option Nat} (gr : w.grownBy w1 row) (b : Below w.heap.size w1 w2) : w.grownBy w2 row :=
  ⟨b.os.trans gr.os, b.tape.trans gr.tape, b.output.trans gr.output, Nat.le_trans gr.size b.size, fun k hk hr => (b.block k hk).trans (gr.block k hk hr)⟩
theorem cur_below {ac : Option Addr} {len cap g : Nat} {w w1 w2 : World} (h : Cur ac len cap w g) (h1 : Cur ac len cap w1 g) (b : Below w.heap.size w1 w2) : Cur ac len cap w2 g := by
  obtain ⟨⟨hc1, hc2⟩, hlt, _⟩ := h
  obtain ⟨⟨hd1, hd2⟩, hlt1, i, hh, h3, h4⟩ := h1
  refine ⟨⟨hd1, fun hp => ?_⟩, Nat.lt_of_lt_of_le hlt1 b.size, i, hh, h3, by rw [b.block g hlt]; exact h4⟩
  obtain ⟨x, off, e, hx, hxl, _⟩ := hc2 hp
  obtain ⟨y, off', e', hy, hyl, hc⟩ := hd2 hp
  rw [e] at e'
  injection e' with e1
  injection e1 with e2 e3
  subst e2
  subst e3
  exact ⟨x, off, e, hx, Nat.lt_of_lt_of_le hyl b.size, fun j hj => by obtain ⟨z, hz, hcz⟩ := hc j hj; exact ⟨z, hz, (b.cell hxl).trans hcz⟩⟩
theorem l01PickInt_new (ac : Option Addr) (len cap g n : Nat) (zs : List Int) (t : TypeId) (w : World) (hC : Cur ac len cap w g) (hl : zs.length = n) (h0 : 0 < n) (hn : n ≤ 1000) :
    Calls Tryz.prog 51 #[.pointer (some ⟨g, 0, none⟩), .slice (some ⟨w.heap.size, 0, none⟩) n n] (w.alloc (.cells (zs.map (Value.int .i64)).toArray t)) fun e w' => ∃ z, z ∈ zs ∧ e = .returned (.int .i64 z) ∧ Cur ac len cap w' g ∧ w.grownBy w' (some g) := by
  subst hl
  have hg := hC.2.1
  refine (l01PickInt_any ac len cap g w.heap.size _ zs _ (cur_alloc hC _) (by omega) h0 hn (fun j hj => ?_)).mono fun e w' ⟨z, hz, he, hc, gr⟩ => ⟨z, hz, he, hc, (World.grownBy_alloc _ _ _).trans gr⟩
  have h := heap_alloc_new w (.cells (zs.map (Value.int .i64)).toArray t)
  unfold World.cell?
  simp only [h]
  simp [List.getElem?_eq_getElem hj]
theorem own_thawed {w : World} {B : Nat} {e : TypeId} {g n c : Nat} {xs : List Value} (h : w.ownsRow B e 1 (.slice (some ⟨g, 0, none⟩) n c) n xs) (j : Nat) : w.frozen? ⟨g, j, none⟩ = false := by
  rcases h.2 with ⟨h', _⟩ | ⟨g', cap', cur, h', hb, hg, _⟩
  · simp at h'
  · simp only [Value.slice.injEq, Option.some.injEq, Addr.mk.injEq, and_true, true_and] at h'
    obtain ⟨rfl, rfl⟩ := h'
    unfold World.frozen?
    simp only [hg]
    simp
set_option maxHeartbeats 1000000 in
set_option maxRecDepth 100000 in
theorem l01Long_any (n : Nat) (y : Int) (w : World) (hn : n ≤ 1000000) :
    Calls Tryz.prog 65 #[.int .i64 n, .int .u8 y] w fun e w' => ∃ s : ByteArray, s.size = n ∧ e = .returned (.string s) ∧ Below w.heap.size w w' := by
  obtain ⟨i0, hi, hz0, hz1, hz2⟩ := info_parts Tryz.infoByte
  have hmk := fun W : World => run_make (P := Tryz.prog) W 22 5 i0 (.int .u8 0) Tryz.underlying22 hi hz0 .i64 .i64 (n : Int) (n : Int) (by omega) (by omega) (by rw [hz2]; omega) (by omega)
  go_enter Tryz.func65, Tryz.ntmps65
  go_wp2
  clear hmk
  go_loopw [6] (fun x wr => ∃ (k : Nat) (zs : List Int), k ≤ n ∧ x = .int .i64 k ∧ zs.length = n ∧ wr.ownsRow w.heap.size 5 1 (.slice (some ⟨w.heap.size, 0, none⟩) n n) n (zs.map (Value.int .u8)) ∧ Below w.heap.size w wr) (fun x _ => n - (intOf x).toNat)
  case atStart =>
    refine ⟨0, List.replicate n 0, Nat.zero_le _, rfl, by simp, ⟨by simp, .inr ⟨w.heap.size, n, _, rfl, Nat.le_refl _, heap_alloc_new w _, Nat.le_refl _, by unfold maxLen; omega, by simp [size_madeCells], ?_⟩⟩, (Below.refl _ _).alloc (Nat.le_refl _) _⟩
    rw [toList_madeCells_one, Nat.mul_one, List.map_replicate, List.take_of_length_le (by simp)]
  case round =>
    obtain ⟨k, zs, hk, rfl, hzl, hown, hbel⟩ := hrel
    by_cases hlt : k < n
    · have hki : (k : Int) < (n : Int) := by omega
      have hk0 : (0 : Int) ≤ (k : Int) := by omega
      have hc1 : wr.cell? ⟨w.heap.size, k, none⟩ = some (.int .u8 (zs[k]'(by omega))) := by
        have h := hown.cells (g := w.heap.size) rfl k (.int .u8 (zs[k]'(by omega))) (by rw [List.getElem?_map, List.getElem?_eq_getElem (by omega)]; rfl)
        have hp : (⟨w.heap.size, 0, none⟩ : Addr).add k = ⟨w.heap.size, k, none⟩ := by unfold Addr.add; split <;> simp_all
        rw [← hp]; exact h
      have hf1 : wr.frozen? ⟨w.heap.size, k, none⟩ = false := own_thawed hown k
      have st := hown.stored k (.int .u8 y)
      have HS : Hid _ := st
      clear st
      go_wp2
      go_roundw
      case rel => exact ⟨k + 1, zs.set k y, by omega, by go_num, by simpa using hzl, by rw [List.map_set]; exact HS.out.1, hbel.setCell (Nat.le_refl _) _⟩
      case measure => simp [intOf]; omega
    · obtain rfl : k = n := by omega
      have hcv := conv_own (P := Tryz.prog) zs Tryz.underlying22 Tryz.underlying5 Tryz.underlying9 hown
      go_wp2
      go_ret
      exact ⟨strOfNums zs, by rw [strOfNums_size]; exact hzl, rfl, hbel⟩
theorem l01Long_at {x : Int} (n : Nat) (hx : x = n) (y : Int) (w : World) (hn : n ≤ 1000000) :
    Calls Tryz.prog 65 #[.int .i64 x, .int .u8 y] w fun e w' => ∃ s : ByteArray, s.size = n ∧ e = .returned (.string s) ∧ Below w.heap.size w w' := by
  subst hx; exact l01Long_any n y w hn
theorem codeIn_of {w : World} {a : Option Addr} {len cap : Nat} {zs : List Int} (h : (a = none ∧ len = 0 ∧ cap = 0 ∧ zs = []) ∨ ∃ x, a = some x ∧ len ≤ cap ∧ cap ≤ maxLen ∧ zs.length = cap ∧ (∀ i, i < zs.length → w.cell? (x.add i) = some (.int .u8 (zs.getD i 0))) ∧ ∀ n ∈ zs, (Lit.int .u8 n).wf = true) (hl : len ≤ 1048576) : CodeIn w a len w.heap.size := by
  refine ⟨hl, fun hp => ?_⟩
  rcases h with ⟨_, h0, _⟩ | ⟨⟨b, off, spot⟩, rfl, hlc, _, hz, hc, hw⟩
  · omega
  · have h0 := hc 0 (by omega)
    have hs : spot = none := by simpa [Addr.add] using World.cell?_spot h0
    subst hs
    have hp0 : ∀ j, (⟨b, off, none⟩ : Addr).add j = ⟨b, off + j, none⟩ := fun j => by unfold Addr.add; split <;> simp_all
    have hlt : b < w.heap.size := by
      have := World.block_lt_of_cell? w _ h0
      rw [hp0] at this
      exact this
    refine ⟨b, off, rfl, by omega, hlt, fun j hj => ?_⟩
    have hj2 : j < zs.length := by omega
    have hcj := hc j hj2
    rw [hp0, List.getD_eq_getElem?_getD, List.getElem?_eq_getElem hj2] at hcj
    have hwj := hw _ (List.getElem_mem hj2)
    have hb : 0 ≤ zs[j] ∧ zs[j] ≤ 255 := bounds_u8 hwj
    refine ⟨zs[j].toNat, by omega, ?_⟩
    rw [hcj]
    simp only [Option.getD_some]
    congr 2
    omega
set_option maxHeartbeats 400000 in
set_option maxRecDepth 100000 in
theorem big_any (ac : Option Addr) (len cap : Nat) (w : World) (hl : len ≤ 9223372036854775807) :
    Calls Tryz.prog 6 #[.slice ac len cap] w fun e w' => e = .returned (.bool (decide (1048576 < (len : Int)))) ∧ w = w' := by
  go_enter Tryz.func6, Tryz.ntmps6
  go_wp2
  go_ret
  exact ⟨rfl, rfl⟩
end Go.Proofs.YtcdbifcidaafnaaGreatDoor
