/-
  Several texts in one: Bits, Round, Ints.
-/
import Derived.Test.YtcabanghegddhaaGreatDoorRows
import Derived.Test.YtcabanghegddhaaGreatDoorBaseA
import Derived.Test.YtcabanghegddhaaGreatDoorNumA
import Derived.Handy
import Derived.Deep.DeepCutAuto
namespace Go.Proofs.YtcabanghegddhaaGreatDoor
open Go.RowKit
set_option linter.unusedVariables false

theorem pow_le63 {k : Nat} (h : k ≤ 63) : (2 : Nat) ^ k ≤ 9223372036854775808 := Nat.pow_le_pow_right (n := 2) (by decide) h

set_option maxHeartbeats 400000 in
set_option maxRecDepth 100000 in
theorem l03Pow_any (n : Nat) (w : World) (hn : n ≤ 63) :
    Calls Tryz.prog 105 #[.int .i64 n] w fun e w' => e = .returned (.int .u64 ((2 ^ n : Nat) : Int)) ∧ w = w' := by
  go_enter Tryz.func105, Tryz.ntmps105
  go_wp2
  go_loop [3, 4] (fun x i => ∃ (p k : Nat), k ≤ n ∧ p = 2 ^ k ∧ x = .int .u64 p ∧ i = .int .i64 k) (fun _ i => n - (intOf i).toNat)
  case atStart => exact ⟨1, 0, Nat.zero_le _, rfl, rfl, rfl⟩
  case round =>
    obtain ⟨p, k, hk, hp, rfl, rfl⟩ := hrel
    have HP : Hid (p = 2 ^ k) := hp
    by_cases hlt : k < n
    · have hb : p ≤ 4611686018427387904 := by rw [hp]; exact Nat.pow_le_pow_right (n := 2) (j := 62) (by decide) (by omega)
      clear hp
      go_wp2
      go_round
      case rel => exact ⟨2 * p, k + 1, by omega, by rw [HP.out, Nat.pow_succ, Nat.mul_comm], by go_num, by go_num⟩
      case measure => simp [intOf]; omega
    · have hkn : k = n := by omega
      subst hkn
      clear hp
      go_wp2
      go_ret
      exact ⟨by rw [HP.out]; rfl, rfl⟩

theorem l03Pow_63 (w : World) : Calls Tryz.prog 105 #[.int .i64 63] w fun e w' => e = .returned (.int .u64 9223372036854775808) ∧ w = w' := l03Pow_any 63 w (by decide)

theorem l03Pow_56 (w : World) : Calls Tryz.prog 105 #[.int .i64 56] w fun e w' => e = .returned (.int .u64 72057594037927936) ∧ w = w' := l03Pow_any 56 w (by decide)

set_option maxHeartbeats 400000 in
set_option maxRecDepth 100000 in
theorem l03Sign_any (x : Nat) (b : Bool) (w : World) (hx : x ≤ 9218868437227405312) :
    Calls Tryz.prog 106 #[.int .u64 x, .bool b] w fun e w' => e = .returned (.int .u64 (signN b x : Nat)) ∧ w = w' := by
  cases b
  · go_enter Tryz.func106, Tryz.ntmps106
    go_wp2
    go_ret
    exact ⟨rfl, rfl⟩
  · go_enter Tryz.func106, Tryz.ntmps106
    go_wp2_with (go_at_call 105; refine (l03Pow_63 _).mono ?_; rintro e w' ⟨rfl, rfl⟩)
    go_ret
    exact ⟨ret_int (by simp [signN]), rfl⟩

/-- a number's parts as the model has them -/
def partsV (x : Nat) : Value := .agg #[.int .i64 (kindN x), .bool (belowN x), .int .u64 (mantN x), .int .i64 (expN x)]

theorem parts_nan {x : Nat} (he : x / 4503599627370496 % 2048 = 2047) (hf : x % 4503599627370496 ≠ 0) : partsV x = .agg #[.int .i64 1, .bool false, .int .u64 0, .int .i64 0] := by
  have hk : kindN x = 1 := by unfold kindN expBits fracBits; rw [if_pos he, if_neg hf]
  simp [partsV, mantN, expN, belowN, hk]
theorem parts_inf {x : Nat} (he : x / 4503599627370496 % 2048 = 2047) (hf : x % 4503599627370496 = 0) : partsV x = .agg #[.int .i64 2, .bool (decide (9223372036854775808 ≤ x)), .int .u64 0, .int .i64 0] := by
  have hk : kindN x = 2 := by unfold kindN expBits fracBits; rw [if_pos he, if_pos hf]
  simp [partsV, mantN, expN, belowN, hk]
theorem parts_zero {x : Nat} (he : x / 4503599627370496 % 2048 = 0) (hf : x % 4503599627370496 = 0) : partsV x = .agg #[.int .i64 3, .bool (decide (9223372036854775808 ≤ x)), .int .u64 0, .int .i64 0] := by
  have hk : kindN x = 3 := by unfold kindN expBits fracBits; rw [if_neg (by omega), if_pos ⟨he, hf⟩]
  simp [partsV, mantN, expN, belowN, hk]
theorem parts_low {x : Nat} (he : x / 4503599627370496 % 2048 = 0) (hf : x % 4503599627370496 ≠ 0) : partsV x = .agg #[.int .i64 4, .bool (decide (9223372036854775808 ≤ x)), .int .u64 ((x : Int) % 4503599627370496), .int .i64 (-1074)] := by
  have hk : kindN x = 4 := by unfold kindN expBits fracBits; rw [if_neg (by omega), if_neg (by omega)]
  simp [partsV, mantN, expN, belowN, hk, expBits, fracBits, he]
theorem parts_high {x : Nat} (he : x / 4503599627370496 % 2048 ≠ 0) (he' : x / 4503599627370496 % 2048 ≠ 2047) : partsV x = .agg #[.int .i64 4, .bool (decide (9223372036854775808 ≤ x)), .int .u64 ((x : Int) % 4503599627370496 + 4503599627370496), .int .i64 ((x : Int) / 4503599627370496 % 2048 - 1075)] := by
  have hk : kindN x = 4 := by unfold kindN expBits fracBits; rw [if_neg he', if_neg (by omega)]
  simp [partsV, mantN, expN, belowN, hk, expBits, fracBits, he]

theorem cells_four {w : World} {g : Nat} {a b c d : Value} {t : TypeId} {r : Nat × Nat} (h : w.heap[g]? = some (.cells #[a, b, c, d] t r)) :
    w.cell? ⟨g, 0, none⟩ = some a ∧ w.cell? ⟨g, 1, none⟩ = some b ∧ w.cell? ⟨g, 2, none⟩ = some c ∧ w.cell? ⟨g, 3, none⟩ = some d := by
  refine ⟨?_, ?_, ?_, ?_⟩
  · unfold World.cell?; simp only [h]; rfl
  · unfold World.cell?; simp only [h]; rfl
  · unfold World.cell?; simp only [h]; rfl
  · unfold World.cell?; simp only [h]; rfl
theorem alloc_kept {w w' : World} {o : Obj} (h : Below (w.alloc o).heap.size (w.alloc o) w') : w'.heap[w.heap.size]? = some o := by
  rw [h.block w.heap.size (by simp)]
  have e : (w.alloc o).heap = w.heap.push o := rfl
  rw [e]
  simp

theorem below_two (w : World) (o1 o2 : Obj) : Below w.heap.size w ((w.alloc o1).alloc o2) := ((Below.refl _ _).alloc (Nat.le_refl _) _).alloc (by simp) _

end Go.Proofs.YtcabanghegddhaaGreatDoor

namespace Go.Proofs.YtcabanghegddhaaGreatDoor
open Go.RowKit
set_option linter.unusedVariables false

theorem sticky_eq (m : Nat) : decide ((72057594037927936 : Int) ≤ (m : Int)) = decide (72057594037927936 ≤ m) := by
  rw [decide_eq_decide]; omega

theorem odd_bit (n : Nat) : ((n : Int) % 2 == 1) = decide (n % 2 = 1) := by
  rw [Bool.eq_iff_iff]
  simp only [beq_iff_eq, decide_eq_true_eq]
  omega

theorem l03Sign_int (x : Int) (b : Bool) (w : World) (h0 : 0 ≤ x) (hx : x ≤ 9218868437227405312) :
    Calls Tryz.prog 106 #[.int .u64 x, .bool b] w fun e w' => e = .returned (.int .u64 (signN b x.toNat : Nat)) ∧ w = w' := by
  obtain ⟨n, rfl⟩ : ∃ n : Nat, x = n := ⟨x.toNat, by omega⟩
  exact l03Sign_any n b w (by omega)

/-- one added where the last place goes up -/
def upN (N : Nat) (u : Bool) : Nat := N + (if u = true then 1 else 0)

theorem round_fin {N : Nat} {F : Int} {u : Bool} {r : Nat} (hr : r = min (N + (if u = true then 1 else 0) + (F + 1074).toNat * 4503599627370496) 9218868437227405312 ∧ (F = -1074 ∨ 4503599627370496 ≤ N)) (h1 : N < 9007199254740992) (h2 : -1074 ≤ F) :
    (upN N u ≤ 9007199254740992) ∧
    r = if upN N u = 9007199254740992 then (if 971 < F + 1 then 9218868437227405312 else (F + 1 + 1075).toNat * 4503599627370496)
      else if upN N u < 4503599627370496 then upN N u else if 971 < F then 9218868437227405312 else upN N u - 4503599627370496 + (F + 1075).toNat * 4503599627370496 := by
  have hu : upN N u ≤ 9007199254740992 := by unfold upN; split <;> omega
  refine ⟨hu, ?_⟩
  rw [hr.1]
  exact round_put h2 (by rcases hr.2 with h | h; exact .inl h; exact .inr (by omega)) hu

set_option maxHeartbeats 2000000 in
set_option maxRecDepth 100000 in
theorem specRound_any (b more : Bool) (m : Nat) (e : Int) (w : World) (hm : m < 18446744073709551616) (he0 : -9223372036854775808 ≤ e) (he2 : e ≤ 9223372036854775807) :
    Calls Tryz.prog 84 #[.bool b, .int .u64 m, .int .i64 e, .bool more] w fun en w' => en = .returned (.int .u64 (signN b (roundN m e (more && decide (72057594037927936 ≤ m))) : Nat)) ∧ w = w' := by
  rw [← roundN_clamp e _ hm]
  go_enter Tryz.func84, Tryz.ntmps84
  go_upto_if 13 with fail
  go_cut [2] (fun s2 wx => w = wx ∧ s2 = .int .i64 (min e 5000))
  case first =>
    go_wp2
    · go_meet
      case rel => exact ⟨rfl, by congr 1; omega⟩
    · go_meet
      case rel => exact ⟨rfl, by congr 1; omega⟩
  case rest =>
    obtain ⟨rfl, rfl⟩ := hcut
    go_upto_if 15 with fail
    go_cut [2] (fun s2 wx => w = wx ∧ s2 = .int .i64 (max (min e 5000) (-5000)))
    case first =>
      go_wp2
      · go_meet
        case rel => exact ⟨rfl, by congr 1; omega⟩
      · go_meet
        case rel => exact ⟨rfl, by congr 1; omega⟩
    case rest =>
      obtain ⟨rfl, rfl⟩ := hcut
      have hb1 : -5000 ≤ max (min e 5000) (-5000) := by omega
      have hb2 : max (min e 5000) (-5000) ≤ 5000 := by omega
      obtain ⟨e1, he1⟩ : ∃ e1, max (min e 5000) (-5000) = e1 := ⟨_, rfl⟩
      rw [he1] at hb1 hb2
      have HE1 : Hid (max (min e 5000) (-5000) = e1) := he1
      simp only [he1]
      clear he1
      go_upto_region 5 with fail
      go_cut [9] (fun s9 wx => w = wx ∧ s9 = .bool (more && decide (72057594037927936 ≤ m)))
      case first =>
        cases more
        · go_wp2
          go_meet
          case rel => exact ⟨rfl, rfl⟩
        · go_wp2_with (go_at_call 105; refine (l03Pow_56 _).mono ?_; rintro en w' ⟨rfl, rfl⟩)
          go_meet
          case rel => exact ⟨rfl, by rw [sticky_eq]; rfl⟩
      case rest =>
        obtain ⟨rfl, rfl⟩ := hcut
        obtain ⟨st, hst⟩ : ∃ st, (more && decide (72057594037927936 ≤ m)) = st := ⟨_, rfl⟩
        have HST : Hid (Unit → (more && decide (72057594037927936 ≤ m)) = st) := fun _ => hst
        simp only [hst]
        clear hst
        by_cases hm0 : m = 0
        · subst hm0
          go_wp2_with (go_at_call 106; refine (l03Sign_any 0 b _ (by omega)).mono ?_; rintro en w' ⟨rfl, rfl⟩)
          go_ret
          exact ⟨by simp [roundN], rfl⟩
        · have hm1 : ((m : Int) == 0) = false := by rw [beq_eq_false_iff_ne]; omega
          go_wp2
          go_loop [1, 2] (fun x1 x2 => ∃ (j M : Nat) (E : Int), x1 = .int .u64 M ∧ x2 = .int .i64 E ∧ M = m * 2 ^ j ∧ E = e1 - j ∧ (j = 0 ∨ (M < 9007199254740992 ∧ -1074 ≤ E)) ∧ M < 18446744073709551616 ∧ E ≤ 5000) (fun _ x2 => (intOf x2 + 1074).toNat)
          case atStart => exact ⟨0, m, e1, rfl, rfl, by simp, by simp, .inl rfl, hm, hb2⟩
          case round =>
            obtain ⟨j, M, E, rfl, rfl, hM, hE, hj, hM1, hE1⟩ := hrel
            have HM : Hid (M = m * 2 ^ j) := hM
            have HE : Hid (E = e1 - j) := hE
            have hEl : -5000 ≤ E := by omega
            have hMp : M ≠ 0 := by
              rw [hM]
              exact Nat.mul_ne_zero hm0 (Nat.ne_of_gt (Nat.two_pow_pos j))
            clear hM hE
            by_cases hc : M < 4503599627370496 ∧ -1074 < E
            · obtain ⟨c1, c2⟩ := hc
              have c3 : (M : Int) < 4503599627370496 := by omega
              clear hj hMp hm1 c1 hM1 hm
              go_wp2
              go_round
              case rel => exact ⟨j + 1, 2 * M, E - 1, by go_num, by go_num, by rw [HM.out, Nat.pow_succ, Nat.mul_comm 2, Nat.mul_assoc], by rw [HE.out]; omega, .inr ⟨by omega, by omega⟩, by omega, by omega⟩
              case measure => simp [intOf]; omega
            · have hn : E ≤ -1074 ∨ 4503599627370496 ≤ M := by omega
              have HR : Hid (roundN m e1 st = roundN M E st) := by
                show roundN m e1 st = roundN M E st
                rw [HM.out, HE.out, roundN_times]
              have hM2 : (M : Int) < 18446744073709551616 := by omega
              have HN : Hid (Unit → E ≤ -1074 ∨ 4503599627370496 ≤ M) := fun _ => hn
              have HM1 : Hid (Unit → M < 18446744073709551616) := fun _ => hM1
              have c4 : ((M : Int) < 4503599627370496) → decide (-1074 < E) = false := fun h => by simp; omega
              clear HM HE hc hj hm1 hn hM1 hm
              by_cases c5 : (M : Int) < 4503599627370496
              all_goals
                try have c6 := c4 c5
                clear c4
                go_wp2
                go_loop [1, 2, 10, 11] (fun x1 x2 x10 x11 => ∃ (N : Nat) (F : Int) (hf rs : Bool), x1 = .int .u64 N ∧ x2 = .int .i64 F ∧ x10 = .bool hf ∧ x11 = .bool rs ∧ Halved M E st N F hf rs ∧ -5000 ≤ F) (fun x1 x2 _ _ => (intOf x1).toNat + (-1074 - intOf x2).toNat)
                case atStart => exact ⟨M, E, false, st, rfl, rfl, rfl, rfl, halved_start M E st, hEl⟩
                case round =>
                  obtain ⟨N, F, hf, rs, rfl, rfl, rfl, rfl, hH, hF⟩ := hrel
                  have hN := halved_le hH
                  have hF2 := halved_exp hH (HM1.out ())
                  have HH : Hid (Unit → Halved M E st N F hf rs) := fun _ => hH
                  clear hH
                  have hN2 : (N : Int) ≤ M := by omega
                  clear hN
                  by_cases hc1 : (9007199254740992 : Int) ≤ N
                  · have hd : ((N : Int) / 2 == 0) = false := by rw [beq_eq_false_iff_ne]; omega
                    cases rs <;> cases hf
                    all_goals
                      go_wp2
                      go_round
                      case rel => exact ⟨N / 2, F + 1, _, _, by go_num, by go_num, rfl, rfl, by rw [odd_bit]; exact halved_step (HH.out ()) (.inl (by omega)), by omega⟩
                      case measure => simp [intOf]; omega
                  · by_cases hc2 : F < -1074
                    · by_cases hz : (N : Int) / 2 = 0
                      · by_cases hz2 : F + 1 < -1074
                        · cases rs <;> cases hf <;> by_cases ho : (N : Int) % 2 = 1
                          all_goals
                            go_wp2
                            go_round
                            case rel => exact ⟨0, -1074, _, _, rfl, rfl, rfl, rfl, halved_zero (HH.out ()) (by omega) hz2, by omega⟩
                            case measure => simp [intOf]; omega
                        · cases rs <;> cases hf
                          all_goals
                            go_wp2
                            go_round
                            case rel => exact ⟨N / 2, F + 1, _, _, by go_num, by go_num, rfl, rfl, by rw [odd_bit]; exact halved_step (HH.out ()) (.inr hc2), by omega⟩
                            case measure => simp [intOf]; omega
                      · have hd : ((N : Int) / 2 == 0) = false := by rw [beq_eq_false_iff_ne]; exact hz
                        cases rs <;> cases hf
                        all_goals
                          go_wp2
                          go_round
                          case rel => exact ⟨N / 2, F + 1, _, _, by go_num, by go_num, rfl, rfl, by rw [odd_bit]; exact halved_step (HH.out ()) (.inr hc2), by omega⟩
                          case measure => simp [intOf]; omega
                    · have hd1 : decide ((9007199254740992 : Int) ≤ N) = false := by simp; omega
                      have hd2 : decide (F < -1074) = false := by simp; omega
                      have hfin := round_fin (halved_end (HH.out ()) hMp (HN.out ()) (by omega) (by omega)) (by omega) (by omega)
                      have HF : Hid (Unit → _) := fun _ => hfin.2
                      have hu : ((upN N (hf && (rs || decide (N % 2 = 1))) : Nat) : Int) ≤ 9007199254740992 := by have := hfin.1; omega
                      clear hfin
                      go_upto_region 22 with fail
                      go_cut [72] (fun s72 wx => w = wx ∧ s72 = .bool (hf && (rs || decide (N % 2 = 1))))
                      case first =>
                        cases rs <;> cases hf
                        all_goals
                          go_wp2
                          go_meet
                          case rel => exact ⟨rfl, by simp [odd_bit]⟩
                      case rest =>
                        obtain ⟨rfl, rfl⟩ := hcut
                        clear HH HN HM1 hd1 hd2
                        obtain ⟨u, hu0⟩ : ∃ u, (hf && (rs || decide (N % 2 = 1))) = u := ⟨_, rfl⟩
                        rw [hu0] at HF hu
                        simp only [hu0]
                        clear hu0
                        obtain ⟨P, hP⟩ : ∃ P, upN N u = P := ⟨_, rfl⟩
                        rw [hP] at HF hu
                        have HP : Hid (Unit → upN N u = P) := fun _ => hP
                        clear hP
                        go_upto_if 72 with fail
                        go_cut [1] (fun s1 wx => w = wx ∧ s1 = .int .u64 P)
                        case first =>
                          have HP' := HP.out ()
                          cases u
                          · obtain rfl : N = P := by simpa [upN] using HP'
                            go_wp2
                            go_meet
                            case rel => exact ⟨rfl, rfl⟩
                          · obtain rfl : N + 1 = P := by simpa [upN] using HP'
                            go_wp2
                            go_meet
                            case rel => exact ⟨rfl, by go_num⟩
                        case rest =>
                          obtain ⟨rfl, rfl⟩ := hcut
                          have HV : Hid (Unit → roundN m (max (min e 5000) (-5000)) (more && decide (72057594037927936 ≤ m)) = roundN M E st) := fun _ => by
                            rw [HE1.out, HST.out (), HR.out]
                          have hP0 : (0 : Int) ≤ P := by omega
                          by_cases f1 : (P : Int) = 9007199254740992
                          · by_cases f2 : 971 < F + 1
                            · go_wp2_with (go_at_call 106; refine (l03Sign_int _ b _ (by omega) (by omega)).mono ?_; rintro en w' ⟨rfl, rfl⟩)
                              go_ret
                              refine ⟨?_, rfl⟩
                              rw [HV.out (), HF.out (), if_pos (by omega), if_pos f2]
                              rfl
                            · go_wp2_with (go_at_call 106; refine (l03Sign_int _ b _ (by omega) (by omega)).mono ?_; rintro en w' ⟨rfl, rfl⟩)
                              go_ret
                              refine ⟨?_, rfl⟩
                              rw [HV.out (), HF.out (), if_pos (by omega), if_neg (by omega)]
                              refine ret_int (congrArg (fun n : Nat => (n : Int)) (congrArg (signN b) ?_))
                              omega
                          · have f1' : ((P : Int) == 9007199254740992) = false := by rw [beq_eq_false_iff_ne]; exact f1
                            by_cases f3 : (P : Int) < 4503599627370496
                            · go_wp2_with (go_at_call 106; refine (l03Sign_int _ b _ (by omega) (by omega)).mono ?_; rintro en w' ⟨rfl, rfl⟩)
                              go_ret
                              refine ⟨?_, rfl⟩
                              rw [HV.out (), HF.out (), if_neg (by omega), if_pos (by omega)]
                              rfl
                            · by_cases f2 : 971 < F
                              · go_wp2_with (go_at_call 106; refine (l03Sign_int _ b _ (by omega) (by omega)).mono ?_; rintro en w' ⟨rfl, rfl⟩)
                                go_ret
                                refine ⟨?_, rfl⟩
                                rw [HV.out (), HF.out (), if_neg (by omega), if_neg (by omega), if_pos f2]
                                rfl
                              · go_wp2_with (go_at_call 106; refine (l03Sign_int _ b _ (by omega) (by omega)).mono ?_; rintro en w' ⟨rfl, rfl⟩)
                                go_ret
                                refine ⟨?_, rfl⟩
                                rw [HV.out (), HF.out (), if_neg (by omega), if_neg (by omega), if_neg (by omega)]
                                refine ret_int (congrArg (fun n : Nat => (n : Int)) (congrArg (signN b) ?_))
                                omega

end Go.Proofs.YtcabanghegddhaaGreatDoor

namespace Go.Proofs.YtcabanghegddhaaGreatDoor
open Go.RowKit
set_option linter.unusedVariables false

/-- the bits of the number nearest to n -/
def fromIntN (n : Int) : Nat := signN (decide (n < 0)) (roundN n.natAbs 0 false)

theorem specRound_plain (b : Bool) (m : Int) (w : World) (h0 : 0 ≤ m) (hm : m < 18446744073709551616) :
    Calls Tryz.prog 84 #[.bool b, .int .u64 m, .int .i64 0, .bool false] w fun en w' => en = .returned (.int .u64 (signN b (roundN m.natAbs 0 false) : Nat)) ∧ w = w' := by
  obtain ⟨n, rfl⟩ : ∃ n : Nat, m = n := ⟨m.toNat, by omega⟩
  exact specRound_any b false n 0 w (by omega) (by omega) (by omega)

/-- the whole part, towards 0, without its sign -/
def wholeN (x : Nat) : Nat := if expN x < 0 then mantN x / 2 ^ (-expN x).toNat else mantN x * 2 ^ (expN x).toNat

/-- the whole part modulo 2^32, as a number of 32 bits with a sign -/
def low32 (below : Bool) (t : Nat) : Int := if (if below then (4294967296 - t % 4294967296) % 4294967296 else t % 4294967296) ≥ 2147483648 then ((if below then (4294967296 - t % 4294967296) % 4294967296 else t % 4294967296 : Nat) : Int) - 4294967296 else ((if below then (4294967296 - t % 4294967296) % 4294967296 else t % 4294967296 : Nat) : Int)

theorem low32_no {t : Nat} (h : (2147483648 : Int) ≤ (t : Int) % 4294967296) : low32 false t = (t : Int) % 4294967296 - 4294967296 := by
  unfold low32
  simp only [Bool.false_eq_true, if_false]
  rw [if_pos (by omega)]
  omega
theorem low32_no' {t : Nat} (h : (t : Int) % 4294967296 < 2147483648) : low32 false t = (t : Int) % 4294967296 := by
  unfold low32
  simp only [Bool.false_eq_true, if_false]
  rw [if_neg (by omega)]
  omega
theorem low32_yes {t : Nat} (h : (2147483648 : Int) ≤ (4294967296 - (t : Int) % 4294967296) % 4294967296) : low32 true t = (4294967296 - (t : Int) % 4294967296) % 4294967296 - 4294967296 := by
  unfold low32
  simp only [if_true]
  rw [if_pos (by omega)]
  omega
theorem low32_yes' {t : Nat} (h : (4294967296 - (t : Int) % 4294967296) % 4294967296 < 2147483648) : low32 true t = (4294967296 - (t : Int) % 4294967296) % 4294967296 := by
  unfold low32
  simp only [if_true]
  rw [if_neg (by omega)]
  omega

theorem low32_zero (b : Bool) : low32 b 0 = 0 := by cases b <;> simp [low32]
theorem low32_mod {b : Bool} {t t' : Nat} (h : t % 4294967296 = t' % 4294967296) : low32 b t = low32 b t' := by unfold low32; rw [h]

theorem wholeN_not {x : Nat} (h : kindN x ≠ 4) : wholeN x = 0 := by
  unfold wholeN mantN
  rw [if_neg h]
  split <;> simp

theorem div_pow_zero {m a b : Nat} (h : m / 2 ^ a = 0) (hab : a ≤ b) : m / 2 ^ b = 0 := by
  rcases Nat.div_eq_zero_iff.1 h with h | h
  · have := Nat.two_pow_pos a; omega
  · exact Nat.div_eq_of_lt (Nat.lt_of_lt_of_le h (Nat.pow_le_pow_right (by decide) hab))

end Go.Proofs.YtcabanghegddhaaGreatDoor
