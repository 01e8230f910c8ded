/-
  Part 2 of what is proved of drawn right trees.
-/
import Derived.Test.YtcdbifcidaafnaaGreatDoorPaa
import Derived.Deep.DeepCutAuto
import Derived.Laws.BitsAllLaws

namespace Go.Proofs.YtcdbifcidaafnaaGreatDoor
def sgnM (b : Bool) (m : Nat) : Int := if b = true then -(m : Int) else (m : Int)
def roundZ (S : Int) (e : Int) : Nat := if S = 0 then 0 else signN (decide (S < 0)) (roundN S.natAbs e false)
def sumZ (b1 : Bool) (m1 : Nat) (e1 : Int) (b2 : Bool) (m2 : Nat) (e2 : Int) : Int := sgnM b1 m1 * 2 ^ (e1 - min e1 e2).toNat + sgnM b2 m2 * 2 ^ (e2 - min e1 e2).toNat
def addN (a b : Nat) : Nat :=
  if kindN a = 1 ∨ kindN b = 1 then 9221120237041090560
  else if kindN a = 2 then (if kindN b = 2 ∧ belowN a ≠ belowN b then 9221120237041090560 else a)
  else if kindN b = 2 then b
  else if kindN a = 3 ∧ kindN b = 3 then (if belowN a = true ∧ belowN b = true then a else 0)
  else if kindN a = 3 then b
  else if kindN b = 3 then a
  else roundZ (sumZ (belowN a) (mantN a) (expN a) (belowN b) (mantN b) (expN b)) (min (expN a) (expN b))
theorem sumZ_comm (b1 : Bool) (m1 : Nat) (e1 : Int) (b2 : Bool) (m2 : Nat) (e2 : Int) : sumZ b1 m1 e1 b2 m2 e2 = sumZ b2 m2 e2 b1 m1 e1 := by
  unfold sumZ
  rw [Int.min_comm e1 e2, Int.add_comm]
theorem sumZ_cut {b1 b2 : Bool} {pm qm j d : Nat} {pe qe : Int} (h : pe = qe + ((j + d : Nat) : Int)) :
    min pe qe = qe ∧ sumZ b1 pm pe b2 qm qe = sgnM b1 (pm * 2 ^ j * 2 ^ d) + sgnM b2 (qm / 2 ^ d * 2 ^ d + qm % 2 ^ d) := by
  have hmin : min pe qe = qe := by omega
  refine ⟨hmin, ?_⟩
  unfold sumZ
  rw [hmin, show (pe - qe).toNat = j + d by omega, show (qe - qe).toNat = 0 by omega]
  have e1 : qm / 2 ^ d * 2 ^ d + qm % 2 ^ d = qm := by rw [Nat.mul_comm]; exact Nat.div_add_mod _ _
  rw [e1, Int.pow_add]
  unfold sgnM
  cases b1 <;> cases b2 <;> simp [Int.mul_assoc, Int.neg_mul]
theorem signN_false (x : Nat) : signN false x = x := rfl
theorem roundZ_pos {S e : Int} (n : Nat) (h : S = n) (h0 : n ≠ 0) : roundZ S e = roundN n e false := by
  subst h
  unfold roundZ signN
  rw [if_neg (by omega), if_neg (by simp)]
  simp
theorem roundZ_neg {S e : Int} (n : Nat) (h : S = -(n : Int)) (h0 : n ≠ 0) : roundZ S e = signN true (roundN n e false) := by
  subst h
  unfold roundZ
  rw [if_neg (by omega), decide_eq_true (by omega), Int.natAbs_neg, Int.natAbs_natCast]
theorem round_same {b : Bool} {m n d low : Nat} {e : Int} (hl : low < 2 ^ d) (hm : m ≠ 0) (hbig : low = 0 ∨ 72057594037927936 ≤ m) :
    roundZ (sgnM b (m * 2 ^ d) + sgnM b (n * 2 ^ d + low)) (e - d) = signN b (roundN (m + n) e (decide (low ≠ 0) && decide (72057594037927936 ≤ m + n))) := by
  have hd := Nat.two_pow_pos d
  have hpos : m * 2 ^ d ≠ 0 := Nat.mul_ne_zero hm (by omega)
  have hs : (m + n) * 2 ^ d + low = m * 2 ^ d + (n * 2 ^ d + low) := by rw [Nat.add_mul]; omega
  have hst : (decide (low ≠ 0) && decide (72057594037927936 ≤ m + n)) = decide (low ≠ 0) := by
    rcases hbig with h | h
    · simp [h]
    · simp; omega
  have key : roundN (m * 2 ^ d + (n * 2 ^ d + low)) (e - d) false = roundN (m + n) e (decide (low ≠ 0)) := by
    rw [← hs]; exact roundN_sticky hl (by omega)
  rw [hst, ← key]
  cases b
  · rw [roundZ_pos (m * 2 ^ d + (n * 2 ^ d + low)) (by simp [sgnM]) (by omega)]
    exact (signN_false _).symm
  · rw [roundZ_neg (m * 2 ^ d + (n * 2 ^ d + low)) (by simp only [sgnM, if_true]; omega) (by omega)]
theorem round_more {b : Bool} {m n d : Nat} {e : Int} (h : n < m) : roundZ (sgnM b (m * 2 ^ d) + sgnM (!b) (n * 2 ^ d)) (e - d) = signN b (roundN (m - n) e false) := by
  have hd := Nat.two_pow_pos d
  have hs : (m - n) * 2 ^ d = m * 2 ^ d - n * 2 ^ d := by rw [Nat.sub_mul]
  have hlt : n * 2 ^ d < m * 2 ^ d := Nat.mul_lt_mul_of_pos_right h hd
  have key : roundN ((m - n) * 2 ^ d) (e - d) false = roundN (m - n) e false := roundN_times d (m - n) e false
  rw [← key, hs]
  cases b
  · rw [roundZ_pos (m * 2 ^ d - n * 2 ^ d) (by simp only [sgnM, Bool.not_false, if_true, Bool.false_eq_true, if_false]; omega) (by omega)]
    exact (signN_false _).symm
  · rw [roundZ_neg (m * 2 ^ d - n * 2 ^ d) (by simp only [sgnM, Bool.not_true, if_true, Bool.false_eq_true, if_false]; omega) (by omega)]
theorem round_lost {b : Bool} {m n d low : Nat} {e : Int} (hl : low < 2 ^ d) (h0 : low ≠ 0) (h : n < m) (hbig : 72057594037927936 ≤ m - n - 1) :
    roundZ (sgnM b (m * 2 ^ d) + sgnM (!b) (n * 2 ^ d + low)) (e - d) = signN b (roundN (m - n - 1) e (true && decide (72057594037927936 ≤ m - n - 1))) := by
  have hd := Nat.two_pow_pos d
  have hs : (m - n - 1) * 2 ^ d + (2 ^ d - low) = m * 2 ^ d - (n * 2 ^ d + low) := by
    have h1 : (m - n - 1 + 1 + n) * 2 ^ d = m * 2 ^ d := by rw [show m - n - 1 + 1 + n = m by omega]
    rw [Nat.add_mul, Nat.add_mul] at h1
    omega
  have hlt : n * 2 ^ d + low < m * 2 ^ d := by
    have : (n + 1) * 2 ^ d ≤ m * 2 ^ d := Nat.mul_le_mul_right _ h
    rw [Nat.add_mul] at this
    omega
  have key : roundN ((m - n - 1) * 2 ^ d + (2 ^ d - low)) (e - d) false = roundN (m - n - 1) e (decide (2 ^ d - low ≠ 0)) := roundN_sticky (by omega) (by omega)
  have hst : (true && decide (72057594037927936 ≤ m - n - 1)) = decide (2 ^ d - low ≠ 0) := by
    rw [decide_eq_true hbig, decide_eq_true (by omega)]; rfl
  rw [hst, ← key, hs]
  cases b
  · rw [roundZ_pos (m * 2 ^ d - (n * 2 ^ d + low)) (by simp only [sgnM, Bool.not_false, if_true, Bool.false_eq_true, if_false]; omega) (by omega)]
    exact (signN_false _).symm
  · rw [roundZ_neg (m * 2 ^ d - (n * 2 ^ d + low)) (by simp only [sgnM, Bool.not_true, if_true, Bool.false_eq_true, if_false]; omega) (by omega)]
theorem round_none (b : Bool) (m : Nat) (e : Int) : roundZ (sgnM b m + sgnM (!b) m) e = 0 := by
  unfold roundZ
  rw [if_pos]
  cases b <;> simp [sgnM] <;> omega
end Go.Proofs.YtcdbifcidaafnaaGreatDoor
namespace Go.Proofs.YtcdbifcidaafnaaGreatDoor
def Halved (m : Nat) (e : Int) (st : Bool) (M : Nat) (E : Int) (hf rs : Bool) : Prop :=
  (∃ j : Nat, M = m / 2 ^ j ∧ E = e + j ∧ (j = 0 → hf = false ∧ rs = st) ∧ (∀ i, j = i + 1 → hf = decide (m / 2 ^ i % 2 = 1) ∧ rs = (st || decide (m % 2 ^ i ≠ 0)) ∧ (E ≤ -1074 ∨ 9007199254740992 ≤ m / 2 ^ i)))
  ∨ (M = 0 ∧ E = -1074 ∧ hf = false ∧ ∃ j : Nat, e + j < -1074 ∧ m < 2 ^ j)
theorem halved_start (m : Nat) (e : Int) (st : Bool) : Halved m e st m e false st :=
  .inl ⟨0, by simp, by simp, fun _ => ⟨rfl, rfl⟩, fun i h => by omega⟩
theorem halved_le {m : Nat} {e : Int} {st : Bool} {M : Nat} {E : Int} {hf rs : Bool} (h : Halved m e st M E hf rs) : M ≤ m := by
  rcases h with ⟨j, rfl, -⟩ | ⟨rfl, -⟩
  · exact Nat.div_le_self _ _
  · exact Nat.zero_le _
theorem halved_exp {m : Nat} {e : Int} {st : Bool} {M : Nat} {E : Int} {hf rs : Bool} (h : Halved m e st M E hf rs) (hm : m < 18446744073709551616) : E ≤ -1074 ∨ E ≤ e + 64 := by
  rcases h with ⟨j, -, rfl, -, hs⟩ | ⟨-, h, -⟩
  · cases j with
    | zero => right; omega
    | succ i =>
      rcases (hs i rfl).2.2 with h | h
      · exact .inl h
      · right
        rcases Nat.lt_or_ge i 63 with h' | h'
        · omega
        · have : (2 : Nat) ^ 63 ≤ 2 ^ i := Nat.pow_le_pow_right (by decide) h'
          have h2 : 9007199254740992 * 2 ^ i ≤ m := (Nat.le_div_iff_mul_le (Nat.two_pow_pos i)).1 h
          omega
  · exact .inl (by omega)
theorem rest_step (m i : Nat) (st : Bool) : ((st || decide (m % 2 ^ i ≠ 0)) || decide (m / 2 ^ i % 2 = 1)) = (st || decide (m % 2 ^ (i + 1) ≠ 0)) := by
  have hr : m % 2 ^ (i + 1) = m % 2 ^ i + 2 ^ i * (m / 2 ^ i % 2) := by rw [Nat.pow_succ, Nat.mod_mul]
  have hp := Nat.two_pow_pos i
  rw [hr]
  rcases Nat.mod_two_eq_zero_or_one (m / 2 ^ i) with hb | hb
  · rw [hb]; simp
  · rw [hb]
    simp
theorem halved_step {m : Nat} {e : Int} {st : Bool} {M : Nat} {E : Int} {hf rs : Bool} (h : Halved m e st M E hf rs) (hc : 9007199254740992 ≤ M ∨ E < -1074) :
    Halved m e st (M / 2) (E + 1) (decide (M % 2 = 1)) (rs || hf) := by
  rcases h with ⟨j, rfl, rfl, h0, hs⟩ | ⟨rfl, rfl, -⟩
  · refine .inl ⟨j + 1, ?_, ?_, fun h => by omega, fun i hi => ?_⟩
    · rw [Nat.pow_succ, Nat.div_div_eq_div_mul]
    · omega
    · obtain rfl : j = i := by omega
      refine ⟨rfl, ?_, ?_⟩
      · cases j with
        | zero => rw [(h0 rfl).1, (h0 rfl).2]; simp [Nat.mod_one]
        | succ i =>
          rw [(hs i rfl).1, (hs i rfl).2.1]
          exact rest_step m i st
      · rcases hc with hc | hc
        · exact .inr hc
        · exact .inl (by omega)
  · omega
theorem halved_zero {m : Nat} {e : Int} {st : Bool} {M : Nat} {E : Int} {hf rs r : Bool} (h : Halved m e st M E hf rs) (h2 : M / 2 = 0) (h3 : E + 1 < -1074) :
    Halved m e st 0 (-1074) false r := by
  rcases h with ⟨j, rfl, rfl, h0, hs⟩ | ⟨rfl, rfl, -⟩
  · refine .inr ⟨rfl, rfl, rfl, j + 1, by omega, ?_⟩
    rw [Nat.pow_succ]
    rw [Nat.div_div_eq_div_mul] at h2
    rcases Nat.div_eq_zero_iff.1 h2 with h | h
    · have := Nat.two_pow_pos j; omega
    · exact h
  · omega
theorem halved_end {m : Nat} {e : Int} {st : Bool} {M : Nat} {E : Int} {hf rs : Bool} (h : Halved m e st M E hf rs) (hm : m ≠ 0) (hn : e ≤ -1074 ∨ 4503599627370496 ≤ m) (h1 : M < 9007199254740992) (h2 : -1074 ≤ E) :
    roundN m e st = min (M + (if (hf && (rs || decide (M % 2 = 1))) = true then 1 else 0) + (E + 1074).toNat * 4503599627370496) 9218868437227405312 ∧ (E = -1074 ∨ 4503599627370496 ≤ M) := by
  rcases h with ⟨j, rfl, rfl, h0, hs⟩ | ⟨rfl, rfl, rfl, j, hj, hlt⟩
  · have hlt : m < 2 ^ (53 + j) := by
      rw [Nat.pow_add]
      exact (Nat.div_lt_iff_lt_mul (Nat.two_pow_pos j)).1 h1
    have hlow : e + j = -1074 ∨ 2 ^ (52 + j) ≤ m := by
      cases j with
      | zero => rcases hn with h | h; exact .inl (by simp at h2 ⊢; omega); exact .inr h
      | succ i =>
        rcases (hs i rfl).2.2 with h | h
        · exact .inl (by omega)
        · right
          have h3 : 9007199254740992 * 2 ^ i ≤ m := (Nat.le_div_iff_mul_le (Nat.two_pow_pos i)).1 h
          have : 2 ^ (52 + (i + 1)) = 9007199254740992 * 2 ^ i := by rw [show 52 + (i + 1) = 53 + i by omega, Nat.pow_add]
          omega
    constructor
    · rw [roundN_at (k := j) st hm h2 hlt hlow]
      congr 1
      congr 1
      cases j with
      | zero => rw [(h0 rfl).1]; simp [rne_zero]
      | succ i =>
        rw [rne_succ, (hs i rfl).1, (hs i rfl).2.1]
        congr 1
        simp
    · rcases hlow with h | h
      · exact .inl h
      · right
        rw [Nat.pow_add] at h
        exact (Nat.le_div_iff_mul_le (Nat.two_pow_pos j)).2 h
  · refine ⟨?_, .inl rfl⟩
    have hk : e + ((-1074 - e).toNat : Nat) = -1074 := by omega
    have hp : (2 : Nat) ^ (j + 1) ≤ 2 ^ (-1074 - e).toNat := Nat.pow_le_pow_right (by decide) (by omega)
    rw [Nat.pow_succ] at hp
    have hq : (2 : Nat) ^ (-1074 - e).toNat ≤ 2 ^ (53 + (-1074 - e).toNat) := Nat.pow_le_pow_right (by decide) (by omega)
    rw [roundN_at (k := (-1074 - e).toNat) st hm (by omega) (by omega) (.inl hk), rne_small st (by omega), hk]
    simp
theorem round_put {M' : Nat} {E : Int} (h2 : -1074 ≤ E) (h3 : E = -1074 ∨ 4503599627370496 ≤ M') (h4 : M' ≤ 9007199254740992) :
    min (M' + (E + 1074).toNat * 4503599627370496) 9218868437227405312 =
      if M' = 9007199254740992 then (if 971 < E + 1 then 9218868437227405312 else (E + 1 + 1075).toNat * 4503599627370496)
      else if M' < 4503599627370496 then M' else if 971 < E then 9218868437227405312 else M' - 4503599627370496 + (E + 1075).toNat * 4503599627370496 := by
  obtain ⟨t, ht⟩ : ∃ t : Nat, E + 1074 = t := ⟨(E + 1074).toNat, by omega⟩
  have e1 : (E + 1074).toNat = t := by omega
  have e2 : (E + 1075).toNat = t + 1 := by omega
  have e3 : (E + 1 + 1075).toNat = t + 2 := by omega
  rw [e1, e2, e3]
  split
  · split <;> omega
  · split
    · have : t = 0 := by omega
      omega
    · split <;> omega
theorem roundN_clamp {m : Nat} (e : Int) (st : Bool) (hm : m < 18446744073709551616) : roundN m (max (min e 5000) (-5000)) st = roundN m e st := by
  by_cases h0 : m = 0
  · subst h0; simp [roundN]
  by_cases h1 : 5000 < e
  · rw [roundN_huge st h0 (show 1100 ≤ e by omega), roundN_huge st h0 (by omega)]
  · by_cases h2 : e < -5000
    · rw [roundN_tiny st hm (show e ≤ -1139 by omega), roundN_tiny st hm (by omega)]
    · congr 1; omega
end Go.Proofs.YtcdbifcidaafnaaGreatDoor
namespace Go.Proofs.YtcdbifcidaafnaaGreatDoor
open Go.RowKit
set_option linter.unusedVariables false
theorem sticky_eq (m : Nat) : decide ((72057594037927936 : Int) ≤ (m : Int)) = decide (72057594037927936 ≤ m) := by
  rw [decide_eq_decide]; omega
theorem odd_bit (n : Nat) : ((n : Int) % 2 == 1) = decide (n % 2 = 1) := by
  rw [Bool.eq_iff_iff]
  simp only [beq_iff_eq, decide_eq_true_eq]
  omega
theorem l03Sign_int (x : Int) (b : Bool) (w : World) (h0 : 0 ≤ x) (hx : x ≤ 9218868437227405312) :
    Calls Tryz.prog 58 #[.int .u64 x, .bool b] w fun e w' => e = .returned (.int .u64 (signN b x.toNat : Nat)) ∧ w = w' := by
  obtain ⟨n, rfl⟩ : ∃ n : Nat, x = n := ⟨x.toNat, by omega⟩
  exact l03Sign_any n b w (by omega)
def upN (N : Nat) (u : Bool) : Nat := N + (if u = true then 1 else 0)
theorem round_fin {N : Nat} {F : Int} {u : Bool} {r : Nat} (hr : r = min (N + (if u = true then 1 else 0) + (F + 1074).toNat * 4503599627370496) 9218868437227405312 ∧ (F = -1074 ∨ 4503599627370496 ≤ N)) (h1 : N < 9007199254740992) (h2 : -1074 ≤ F) :
    (upN N u ≤ 9007199254740992) ∧
    r = if upN N u = 9007199254740992 then (if 971 < F + 1 then 9218868437227405312 else (F + 1 + 1075).toNat * 4503599627370496)
      else if upN N u < 4503599627370496 then upN N u else if 971 < F then 9218868437227405312 else upN N u - 4503599627370496 + (F + 1075).toNat * 4503599627370496 := by
  have hu : upN N u ≤ 9007199254740992 := by unfold upN; split <;> omega
  refine ⟨hu, ?_⟩
  rw [hr.1]
  exact round_put h2 (by rcases hr.2 with h | h; exact .inl h; exact .inr (by omega)) hu
set_option maxHeartbeats 2000000 in
set_option maxRecDepth 100000 in
theorem specRound_any (b more : Bool) (m : Nat) (e : Int) (w : World) (hm : m < 18446744073709551616) (he0 : -9223372036854775808 ≤ e) (he2 : e ≤ 9223372036854775807) :
    Calls Tryz.prog 57 #[.bool b, .int .u64 m, .int .i64 e, .bool more] w fun en w' => en = .returned (.int .u64 (signN b (roundN m e (more && decide (72057594037927936 ≤ m))) : Nat)) ∧ w = w' := by
  rw [← roundN_clamp e _ hm]
  go_enter Tryz.func57, Tryz.ntmps57
  go_upto_if 13 with fail
  go_cut [2] (fun s2 wx => w = wx ∧ s2 = .int .i64 (min e 5000))
  case first =>
    go_wp2
    · go_meet
      case rel => exact ⟨rfl, by congr 1; omega⟩
    · go_meet
      case rel => exact ⟨rfl, by congr 1; omega⟩
  case rest =>
    obtain ⟨rfl, rfl⟩ := hcut
    go_upto_if 15 with fail
    go_cut [2] (fun s2 wx => w = wx ∧ s2 = .int .i64 (max (min e 5000) (-5000)))
    case first =>
      go_wp2
      · go_meet
        case rel => exact ⟨rfl, by congr 1; omega⟩
      · go_meet
        case rel => exact ⟨rfl, by congr 1; omega⟩
    case rest =>
      obtain ⟨rfl, rfl⟩ := hcut
      have hb1 : -5000 ≤ max (min e 5000) (-5000) := by omega
      have hb2 : max (min e 5000) (-5000) ≤ 5000 := by omega
      obtain ⟨e1, he1⟩ : ∃ e1, max (min e 5000) (-5000) = e1 := ⟨_, rfl⟩
      rw [he1] at hb1 hb2
      have HE1 : Hid (max (min e 5000) (-5000) = e1) := he1
      simp only [he1]
      clear he1
      go_upto_region 5 with fail
      go_cut [9] (fun s9 wx => w = wx ∧ s9 = .bool (more && decide (72057594037927936 ≤ m)))
      case first =>
        cases more
        · go_wp2
          go_meet
          case rel => exact ⟨rfl, rfl⟩
        · go_wp2_with (go_at_call 46; refine (l03Pow_56 _).mono ?_; rintro en w' ⟨rfl, rfl⟩)
          go_meet
          case rel => exact ⟨rfl, by rw [sticky_eq]; rfl⟩
      case rest =>
        obtain ⟨rfl, rfl⟩ := hcut
        obtain ⟨st, hst⟩ : ∃ st, (more && decide (72057594037927936 ≤ m)) = st := ⟨_, rfl⟩
        have HST : Hid (Unit → (more && decide (72057594037927936 ≤ m)) = st) := fun _ => hst
        simp only [hst]
        clear hst
        by_cases hm0 : m = 0
        · subst hm0
          go_wp2_with (go_at_call 58; refine (l03Sign_any 0 b _ (by omega)).mono ?_; rintro en w' ⟨rfl, rfl⟩)
          go_ret
          exact ⟨by simp [roundN], rfl⟩
        · have hm1 : ((m : Int) == 0) = false := by rw [beq_eq_false_iff_ne]; omega
          go_wp2
          go_loop [1, 2] (fun x1 x2 => ∃ (j M : Nat) (E : Int), x1 = .int .u64 M ∧ x2 = .int .i64 E ∧ M = m * 2 ^ j ∧ E = e1 - j ∧ (j = 0 ∨ (M < 9007199254740992 ∧ -1074 ≤ E)) ∧ M < 18446744073709551616 ∧ E ≤ 5000) (fun _ x2 => (intOf x2 + 1074).toNat)
          case atStart => exact ⟨0, m, e1, rfl, rfl, by simp, by simp, .inl rfl, hm, hb2⟩
          case round =>
            obtain ⟨j, M, E, rfl, rfl, hM, hE, hj, hM1, hE1⟩ := hrel
            have HM : Hid (M = m * 2 ^ j) := hM
            have HE : Hid (E = e1 - j) := hE
            have hEl : -5000 ≤ E := by omega
            have hMp : M ≠ 0 := by
              rw [hM]
              exact Nat.mul_ne_zero hm0 (Nat.ne_of_gt (Nat.two_pow_pos j))
            clear hM hE
            by_cases hc : M < 4503599627370496 ∧ -1074 < E
            · obtain ⟨c1, c2⟩ := hc
              have c3 : (M : Int) < 4503599627370496 := by omega
              clear hj hMp hm1 c1 hM1 hm
              go_wp2
              go_round
              case rel => exact ⟨j + 1, 2 * M, E - 1, by go_num, by go_num, by rw [HM.out, Nat.pow_succ, Nat.mul_comm 2, Nat.mul_assoc], by rw [HE.out]; omega, .inr ⟨by omega, by omega⟩, by omega, by omega⟩
              case measure => simp [intOf]; omega
            · have hn : E ≤ -1074 ∨ 4503599627370496 ≤ M := by omega
              have HR : Hid (roundN m e1 st = roundN M E st) := by
                show roundN m e1 st = roundN M E st
                rw [HM.out, HE.out, roundN_times]
              have hM2 : (M : Int) < 18446744073709551616 := by omega
              have HN : Hid (Unit → E ≤ -1074 ∨ 4503599627370496 ≤ M) := fun _ => hn
              have HM1 : Hid (Unit → M < 18446744073709551616) := fun _ => hM1
              have c4 : ((M : Int) < 4503599627370496) → decide (-1074 < E) = false := fun h => by simp; omega
              clear HM HE hc hj hm1 hn hM1 hm
              by_cases c5 : (M : Int) < 4503599627370496
              all_goals
                try have c6 := c4 c5
                clear c4
                go_wp2
                go_loop [1, 2, 10, 11] (fun x1 x2 x10 x11 => ∃ (N : Nat) (F : Int) (hf rs : Bool), x1 = .int .u64 N ∧ x2 = .int .i64 F ∧ x10 = .bool hf ∧ x11 = .bool rs ∧ Halved M E st N F hf rs ∧ -5000 ≤ F) (fun x1 x2 _ _ => (intOf x1).toNat + (-1074 - intOf x2).toNat)
                case atStart => exact ⟨M, E, false, st, rfl, rfl, rfl, rfl, halved_start M E st, hEl⟩
                case round =>
                  obtain ⟨N, F, hf, rs, rfl, rfl, rfl, rfl, hH, hF⟩ := hrel
                  have hN := halved_le hH
                  have hF2 := halved_exp hH (HM1.out ())
                  have HH : Hid (Unit → Halved M E st N F hf rs) := fun _ => hH
                  clear hH
                  have hN2 : (N : Int) ≤ M := by omega
                  clear hN
                  by_cases hc1 : (9007199254740992 : Int) ≤ N
                  · have hd : ((N : Int) / 2 == 0) = false := by rw [beq_eq_false_iff_ne]; omega
                    cases rs <;> cases hf
                    all_goals
                      go_wp2
                      go_round
                      case rel => exact ⟨N / 2, F + 1, _, _, by go_num, by go_num, rfl, rfl, by rw [odd_bit]; exact halved_step (HH.out ()) (.inl (by omega)), by omega⟩
                      case measure => simp [intOf]; omega
                  · by_cases hc2 : F < -1074
                    · by_cases hz : (N : Int) / 2 = 0
                      · by_cases hz2 : F + 1 < -1074
                        · cases rs <;> cases hf <;> by_cases ho : (N : Int) % 2 = 1
                          all_goals
                            go_wp2
                            go_round
                            case rel => exact ⟨0, -1074, _, _, rfl, rfl, rfl, rfl, halved_zero (HH.out ()) (by omega) hz2, by omega⟩
                            case measure => simp [intOf]; omega
                        · cases rs <;> cases hf
                          all_goals
                            go_wp2
                            go_round
                            case rel => exact ⟨N / 2, F + 1, _, _, by go_num, by go_num, rfl, rfl, by rw [odd_bit]; exact halved_step (HH.out ()) (.inr hc2), by omega⟩
                            case measure => simp [intOf]; omega
                      · have hd : ((N : Int) / 2 == 0) = false := by rw [beq_eq_false_iff_ne]; exact hz
                        cases rs <;> cases hf
                        all_goals
                          go_wp2
                          go_round
                          case rel => exact ⟨N / 2, F + 1, _, _, by go_num, by go_num, rfl, rfl, by rw [odd_bit]; exact halved_step (HH.out ()) (.inr hc2), by omega⟩
                          case measure => simp [intOf]; omega
                    · have hd1 : decide ((9007199254740992 : Int) ≤ N) = false := by simp; omega
                      have hd2 : decide (F < -1074) = false := by simp; omega
                      have hfin := round_fin (halved_end (HH.out ()) hMp (HN.out ()) (by omega) (by omega)) (by omega) (by omega)
                      have HF : Hid (Unit → _) := fun _ => hfin.2
                      have hu : ((upN N (hf && (rs || decide (N % 2 = 1))) : Nat) : Int) ≤ 9007199254740992 := by have := hfin.1; omega
                      clear hfin
                      go_upto_region 22 with fail
                      go_cut [72] (fun s72 wx => w = wx ∧ s72 = .bool (hf && (rs || decide (N % 2 = 1))))
                      case first =>
                        cases rs <;> cases hf
                        all_goals
                          go_wp2
                          go_meet
                          case rel => exact ⟨rfl, by simp [odd_bit]⟩
                      case rest =>
                        obtain ⟨rfl, rfl⟩ := hcut
                        clear HH HN HM1 hd1 hd2
                        obtain ⟨u, hu0⟩ : ∃ u, (hf && (rs || decide (N % 2 = 1))) = u := ⟨_, rfl⟩
                        rw [hu0] at HF hu
                        simp only [hu0]
                        clear hu0
                        obtain ⟨P, hP⟩ : ∃ P, upN N u = P := ⟨_, rfl⟩
                        rw [hP] at HF hu
                        have HP : Hid (Unit → upN N u = P) := fun _ => hP
                        clear hP
                        go_upto_if 72 with fail
                        go_cut [1] (fun s1 wx => w = wx ∧ s1 = .int .u64 P)
                        case first =>
                          have HP' := HP.out ()
                          cases u
                          · obtain rfl : N = P := by simpa [upN] using HP'
                            go_wp2
                            go_meet
                            case rel => exact ⟨rfl, rfl⟩
                          · obtain rfl : N + 1 = P := by simpa [upN] using HP'
                            go_wp2
                            go_meet
                            case rel => exact ⟨rfl, by go_num⟩
                        case rest =>
                          obtain ⟨rfl, rfl⟩ := hcut
                          have HV : Hid (Unit → roundN m (max (min e 5000) (-5000)) (more && decide (72057594037927936 ≤ m)) = roundN M E st) := fun _ => by
                            rw [HE1.out, HST.out (), HR.out]
                          have hP0 : (0 : Int) ≤ P := by omega
                          by_cases f1 : (P : Int) = 9007199254740992
                          · by_cases f2 : 971 < F + 1
                            · go_wp2_with (go_at_call 58; refine (l03Sign_int _ b _ (by omega) (by omega)).mono ?_; rintro en w' ⟨rfl, rfl⟩)
                              go_ret
                              refine ⟨?_, rfl⟩
                              rw [HV.out (), HF.out (), if_pos (by omega), if_pos f2]
                              rfl
                            · go_wp2_with (go_at_call 58; refine (l03Sign_int _ b _ (by omega) (by omega)).mono ?_; rintro en w' ⟨rfl, rfl⟩)
                              go_ret
                              refine ⟨?_, rfl⟩
                              rw [HV.out (), HF.out (), if_pos (by omega), if_neg (by omega)]
                              refine ret_int (congrArg (fun n : Nat => (n : Int)) (congrArg (signN b) ?_))
                              omega
                          · have f1' : ((P : Int) == 9007199254740992) = false := by rw [beq_eq_false_iff_ne]; exact f1
                            by_cases f3 : (P : Int) < 4503599627370496
                            · go_wp2_with (go_at_call 58; refine (l03Sign_int _ b _ (by omega) (by omega)).mono ?_; rintro en w' ⟨rfl, rfl⟩)
                              go_ret
                              refine ⟨?_, rfl⟩
                              rw [HV.out (), HF.out (), if_neg (by omega), if_pos (by omega)]
                              rfl
                            · by_cases f2 : 971 < F
                              · go_wp2_with (go_at_call 58; refine (l03Sign_int _ b _ (by omega) (by omega)).mono ?_; rintro en w' ⟨rfl, rfl⟩)
                                go_ret
                                refine ⟨?_, rfl⟩
                                rw [HV.out (), HF.out (), if_neg (by omega), if_neg (by omega), if_pos f2]
                                rfl
                              · go_wp2_with (go_at_call 58; refine (l03Sign_int _ b _ (by omega) (by omega)).mono ?_; rintro en w' ⟨rfl, rfl⟩)
                                go_ret
                                refine ⟨?_, rfl⟩
                                rw [HV.out (), HF.out (), if_neg (by omega), if_neg (by omega), if_neg (by omega)]
                                refine ret_int (congrArg (fun n : Nat => (n : Int)) (congrArg (signN b) ?_))
                                omega
end Go.Proofs.YtcdbifcidaafnaaGreatDoor
namespace Go.Proofs.YtcdbifcidaafnaaGreatDoor
open Go.RowKit
set_option linter.unusedVariables false
def fromIntN (n : Int) : Nat := signN (decide (n < 0)) (roundN n.natAbs 0 false)
theorem specRound_plain (b : Bool) (m : Int) (w : World) (h0 : 0 ≤ m) (hm : m < 18446744073709551616) :
    Calls Tryz.prog 57 #[.bool b, .int .u64 m, .int .i64 0, .bool false] w fun en w' => en = .returned (.int .u64 (signN b (roundN m.natAbs 0 false) : Nat)) ∧ w = w' := by
  obtain ⟨n, rfl⟩ : ∃ n : Nat, m = n := ⟨m.toNat, by omega⟩
  exact specRound_any b false n 0 w (by omega) (by omega) (by omega)
set_option maxHeartbeats 400000 in
set_option maxRecDepth 100000 in
theorem specFromInt_any (n : Int) (w : World) (h0 : -9223372036854775808 ≤ n) (h1 : n ≤ 9223372036854775807) :
    Calls Tryz.prog 67 #[.int .i64 n] w fun e w' => e = .returned (.int .u64 (fromIntN n : Nat)) ∧ w = w' := by
  by_cases hmin : n = -9223372036854775808
  · subst hmin
    go_enter Tryz.func67, Tryz.ntmps67
    go_wp2_with (first | (go_at_call 46; refine (l03Pow_63 _).mono ?_; rintro e w' ⟨rfl, rfl⟩) | (go_at_call 57; refine (specRound_plain _ _ _ (by omega) (by omega)).mono ?_; rintro e w' ⟨rfl, rfl⟩))
    go_ret
    exact ⟨rfl, rfl⟩
  · have hmin' : (n == -9223372036854775808) = false := by rw [beq_eq_false_iff_ne]; exact hmin
    have hlo : -9223372036854775808 < n := by omega
    clear h0
    by_cases hn : n < 0
    · go_enter Tryz.func67, Tryz.ntmps67
      go_wp2_with (go_at_call 57; refine (specRound_plain _ _ _ (by omega) (by omega)).mono ?_; rintro e w' ⟨rfl, rfl⟩)
      go_ret
      exact ⟨ret_int (by simp [fromIntN, hn]), rfl⟩
    · have hn' : 0 ≤ n := by omega
      go_enter Tryz.func67, Tryz.ntmps67
      go_wp2_with (go_at_call 57; refine (specRound_plain _ _ _ (by omega) (by omega)).mono ?_; rintro e w' ⟨rfl, rfl⟩)
      go_ret
      exact ⟨ret_int (by rw [fromIntN, decide_eq_false (by omega)]), rfl⟩
theorem div_pow_zero {m a b : Nat} (h : m / 2 ^ a = 0) (hab : a ≤ b) : m / 2 ^ b = 0 := by
  rcases Nat.div_eq_zero_iff.1 h with h | h
  · have := Nat.two_pow_pos a; omega
  · exact Nat.div_eq_of_lt (Nat.lt_of_lt_of_le h (Nat.pow_le_pow_right (by decide) hab))
end Go.Proofs.YtcdbifcidaafnaaGreatDoor
namespace Go.Proofs.YtcdbifcidaafnaaGreatDoor
open Go.RowKit
set_option linter.unusedVariables false
def negN (x : Nat) : Nat := if kindN x = 1 then 9221120237041090560 else if 9223372036854775808 ≤ x then x - 9223372036854775808 else x + 9223372036854775808
theorem xor_top {x : Nat} (h : x < 18446744073709551616) : x ^^^ 9223372036854775808 = if 9223372036854775808 ≤ x then x - 9223372036854775808 else x + 9223372036854775808 := by
  have low : ∀ y, y < 9223372036854775808 → y ^^^ 9223372036854775808 = y + 9223372036854775808 := by
    intro y hy
    have e : (9223372036854775808 : Nat) = 2 ^ 63 := by decide
    have o : 2 ^ 63 ||| y = 2 ^ 63 + y := by
      have := Nat.two_pow_add_eq_or_of_lt (i := 63) (b := y) (by simpa using hy) 1
      simpa using this.symm
    rw [e, Nat.add_comm y, ← o]
    apply Nat.eq_of_testBit_eq
    intro i
    simp only [Nat.testBit_xor, Nat.testBit_or, Nat.testBit_two_pow]
    by_cases hi : 63 = i
    · subst hi
      have : y.testBit 63 = false := Nat.testBit_lt_two_pow (by simpa using hy)
      simp [this]
    · simp [hi]
  by_cases h2 : 9223372036854775808 ≤ x
  · rw [if_pos h2]
    obtain ⟨y, rfl⟩ : ∃ y, x = y + 9223372036854775808 := ⟨x - 9223372036854775808, by omega⟩
    rw [← low y (by omega), Nat.xor_assoc, Nat.xor_self, Nat.xor_zero, low y (by omega), Nat.add_sub_cancel]
  · rw [if_neg h2]; exact low x (by omega)
set_option maxHeartbeats 400000 in
set_option maxRecDepth 100000 in
theorem specNegate_any (x : Nat) (w : World) (hx : x < 18446744073709551616) :
    Calls Tryz.prog 18 #[.int .u64 x] w fun e w' => e = .returned (.int .u64 (negN x : Nat)) ∧ Below w.heap.size w w' := by
  have HX : Hid (Unit → x < 18446744073709551616) := fun _ => hx
  by_cases hk : kindN x = 1
  · have HN : Hid (Unit → negN x = 9221120237041090560) := fun _ => by unfold negN; rw [if_pos hk]
    have cN := fun W => l03Nan_is x W HX hk
    clear hx hk
    go_enter Tryz.func18, Tryz.ntmps18
    go_wp2_with (go_at_call 34; refine (cN _).mono ?_; rintro e w' ⟨rfl, hb⟩)
    go_ret
    exact ⟨by rw [HN.out ()]; rfl, hb⟩
  · have HN : Hid (Unit → negN x = x ^^^ 9223372036854775808) := fun _ => by rw [xor_top (HX.out ())]; unfold negN; rw [if_neg hk]
    have hxr : bits .xor .u64 (x : Int) 9223372036854775808 = ((x ^^^ 9223372036854775808 : Nat) : Int) := u64_xor_nat x 9223372036854775808 hx (by decide)
    obtain ⟨Z, hZ⟩ : ∃ Z, x ^^^ 9223372036854775808 = Z := ⟨_, rfl⟩
    rw [hZ] at HN hxr
    have cN := fun W => l03Nan_no x W HX hk
    clear hx hk hZ
    go_enter Tryz.func18, Tryz.ntmps18
    go_wp2_with (first | (go_at_call 34; refine (cN _).mono ?_; rintro e w' ⟨rfl, hb⟩) | (go_at_call 46; refine (l03Pow_63 _).mono ?_; rintro e w' ⟨rfl, rfl⟩))
    go_ret
    exact ⟨by rw [HN.out ()]; rfl, hb⟩
def addP (a b k1 k2 : Nat) (s1 s2 : Bool) (m1 m2 : Nat) (e1 e2 : Int) : Nat :=
  if k1 = 1 ∨ k2 = 1 then 9221120237041090560
  else if k1 = 2 then (if k2 = 2 ∧ s1 ≠ s2 then 9221120237041090560 else a)
  else if k2 = 2 then b
  else if k1 = 3 ∧ k2 = 3 then (if s1 = true ∧ s2 = true then a else 0)
  else if k1 = 3 then b
  else if k2 = 3 then a
  else roundZ (sumZ s1 m1 e1 s2 m2 e2) (min e1 e2)
theorem addN_P (a b : Nat) : addN a b = addP a b (kindN a) (kindN b) (belowN a) (belowN b) (mantN a) (mantN b) (expN a) (expN b) := by
  unfold addN addP
  rfl
structure Fin1 (k m : Nat) (e : Int) : Prop where
  lt : m < 9007199254740992
  lo : -1074 ≤ e
  hi : e ≤ 971
  pos : k = 4 → m ≠ 0
theorem fin1_of (x : Nat) : Fin1 (kindN x) (mantN x) (expN x) := ⟨mantN_lt x, expN_ge x, expN_le x, mantN_pos⟩
theorem set_keep_b {w : World} {g g' j j' : Nat} {v x : Value} (hne : g ≠ g') (h : w.cell? ⟨g', j', none⟩ = some x) : (w.setCell ⟨g, j, none⟩ v).cell? ⟨g', j', none⟩ = some x := by
  rw [World.cell?_setCell_other]
  · exact h
  · intro e; exact hne (by injection e)
theorem set_keep_o {w : World} {g g' j j' : Nat} {v x : Value} (hne : j ≠ j') (h : w.cell? ⟨g', j', none⟩ = some x) : (w.setCell ⟨g, j, none⟩ v).cell? ⟨g', j', none⟩ = some x := by
  rw [World.cell?_setCell_other]
  · exact h
  · intro e; exact hne (by injection e)
theorem set_here {w : World} {a : Addr} {v u : Value} (h : w.cell? a = some u) : (w.setCell a v).cell? a = some v := by
  apply World.cell?_setCell_same
  exact h
def LostAt (m k n : Nat) (l : Bool) : Prop := n = m / 2 ^ k ∧ l = decide (m % 2 ^ k ≠ 0)
theorem lost_start (m : Nat) : LostAt m 0 m false := ⟨by simp, by simp [Nat.mod_one]⟩
theorem lost_step {m k n : Nat} {l : Bool} (h : LostAt m k n l) : LostAt m (k + 1) (n / 2) (l || decide (n % 2 = 1)) := by
  obtain ⟨h1, h2⟩ := h
  subst h1 h2
  refine ⟨by rw [Nat.pow_succ, Nat.div_div_eq_div_mul], ?_⟩
  have e : m % 2 ^ (k + 1) = m % 2 ^ k + 2 ^ k * (m / 2 ^ k % 2) := by rw [Nat.pow_succ, Nat.mod_mul]
  have hp := Nat.two_pow_pos k
  rw [e, Bool.eq_iff_iff]
  simp only [Bool.or_eq_true, decide_eq_true_eq]
  rcases Nat.mod_two_eq_zero_or_one (m / 2 ^ k) with hb | hb
  · rw [hb]; simp
  · rw [hb]; simp
theorem lost_stop {m k D : Nat} {l : Bool} (h : LostAt m k 0 true) (hk : k ≤ D) : LostAt m D 0 true := by
  obtain ⟨h1, h2⟩ := h
  have h0 : m / 2 ^ D = 0 := div_pow_zero h1.symm hk
  have hm : m ≠ 0 := fun e => by subst e; simp at h2
  have hlt : m < 2 ^ D := by
    have := Nat.div_add_mod m (2 ^ D)
    rw [h0] at this
    have := Nat.mod_lt m (Nat.two_pow_pos D)
    omega
  exact ⟨h0.symm, by rw [Nat.mod_eq_of_lt hlt]; simp [hm]⟩
structure AddEnd (R : Nat) (sP sQ : Bool) (X n : Nat) (F : Int) (l : Bool) : Prop where
  same : sP = sQ → R = signN sP (roundN (X + n) F (l && decide (72057594037927936 ≤ X + n)))
  none : sP ≠ sQ → X = n → R = 0
  less : sP ≠ sQ → X < n → R = signN sQ (roundN (n - X) F false)
  lost : sP ≠ sQ → n < X → l = true → R = signN sP (roundN (X - n - 1) F (true && decide (72057594037927936 ≤ X - n - 1)))
  more : sP ≠ sQ → n < X → l = false → R = signN sP (roundN (X - n) F false)
  whole : X ≤ n → l = false
theorem addEnd_of {R mP mQ j D n : Nat} {sP sQ l : Bool} {eP eQ : Int} (hR : R = roundZ (sumZ sP mP eP sQ mQ eQ) (min eP eQ)) (f1 : Fin1 4 mP eP) (f2 : Fin1 4 mQ eQ)
    (hj : eP = eQ + ((j + D : Nat) : Int)) (hD : D = 0 ∨ 2305843009213693952 ≤ mP * 2 ^ j) (hl : LostAt mQ D n l) : AddEnd R sP sQ (mP * 2 ^ j) n (eP - j) l := by
  obtain ⟨h1, h2⟩ := hl
  obtain ⟨c1, c2⟩ := sumZ_cut (b1 := sP) (b2 := sQ) (pm := mP) (qm := mQ) hj
  have hF : min eP eQ = eP - j - D := by omega
  have hlow : mQ % 2 ^ D < 2 ^ D := Nat.mod_lt _ (Nat.two_pow_pos D)
  have hX : mP * 2 ^ j ≠ 0 := Nat.mul_ne_zero (f1.pos rfl) (by have := Nat.two_pow_pos j; omega)
  have hn : n < 9007199254740992 := by rw [h1]; exact Nat.lt_of_le_of_lt (Nat.div_le_self _ _) f2.lt
  have hD0 : D = 0 → mQ % 2 ^ D = 0 := fun e => by subst e; simp [Nat.mod_one]
  rw [c2, hF, ← h1] at hR
  obtain ⟨low, hlw⟩ : ∃ q, mQ % 2 ^ D = q := ⟨_, rfl⟩
  obtain ⟨X, hXX⟩ : ∃ q, mP * 2 ^ j = q := ⟨_, rfl⟩
  rw [hlw] at hlow h2 hD0 hR
  rw [hXX] at hD hX hR ⊢
  refine ⟨?_, ?_, ?_, ?_, ?_, ?_⟩
  · intro e
    subst e
    rw [hR, h2]
    exact round_same hlow hX (by omega)
  · intro hs e
    have hs' : sQ = !sP := by cases sP <;> cases sQ <;> simp at hs ⊢
    have : low = 0 := by omega
    subst this hs' e
    rw [hR, Nat.add_zero]
    exact round_none _ _ _
  · intro hs hlt
    have hs' : sP = !sQ := by cases sP <;> cases sQ <;> simp at hs ⊢
    have : low = 0 := by omega
    subst this hs'
    rw [hR, Nat.add_zero, Int.add_comm]
    exact round_more hlt
  · intro hs hlt hl
    have hs' : sQ = !sP := by cases sP <;> cases sQ <;> simp at hs ⊢
    have hl0 : low ≠ 0 := by rw [h2] at hl; simpa using hl
    subst hs'
    rw [hR]
    exact round_lost hlow hl0 hlt (by omega)
  · intro hs hlt hl
    have hs' : sQ = !sP := by cases sP <;> cases sQ <;> simp at hs ⊢
    have hl0 : low = 0 := by rw [h2] at hl; simpa using hl
    subst hl0 hs'
    rw [hR, Nat.add_zero]
    exact round_more hlt
  · intro h
    have : low = 0 := by omega
    rw [h2, this]; rfl
end Go.Proofs.YtcdbifcidaafnaaGreatDoor
namespace Go.Proofs.YtcdbifcidaafnaaGreatDoor
open Go.RowKit Go.Sort
set_option linter.unusedVariables false
set_option maxHeartbeats 1000000 in
set_option maxRecDepth 100000 in
theorem specIsTrue_any (p : PVal) (w : World) (hp : valW p) :
    Calls Tryz.prog 17 #[.agg #[.int .i64 p.kind, .int .u64 (p.num : Int), .string p.text, .int .i64 p.ref]] w fun e w' => e = .returned (.bool (valTrue p)) ∧ Below w.heap.size w w' := by
  have hs := hp.2.2.1
  have hx := hp.2.1
  clear hp
  unfold valTrue
  obtain ⟨k, x, s, r⟩ := p
  simp only at hs hx ⊢
  unfold maxLen at hs
  have cT := fun W => specTruthy_any x W hx
  clear hx
  have b0 : ∀ cs t, Below w.heap.size w (w.alloc (.cells cs t)) := fun cs t => (Below.refl _ _).alloc (Nat.le_refl _) _
  obtain ⟨T, hT⟩ : ∃ T, truthyN x = T := ⟨_, rfl⟩
  simp only [hT] at cT
  obtain ⟨F, hF⟩ : ∃ F, (if k = 0 then false else if k = 1 then decide (x = 1) else if k = 2 then truthyN x else if k = 3 then !decide (s.size = 0) else true) = F := ⟨_, rfl⟩
  rw [hF]
  rw [hT] at hF
  have HF : Hid _ := hF
  clear hF hT
  by_cases k0 : k = 0
  · subst k0
    have hF : F = false := by rw [← HF.out]; simp
    subst hF
    clear HF cT
    go_enter Tryz.func17, Tryz.ntmps17
    go_wp2
    go_ret
    exact ⟨rfl, b0 _ _⟩
  by_cases k1 : k = 1
  · subst k1
    by_cases h : x = 1
    · have hF : F = true := by rw [← HF.out]; simp [h]
      subst hF
      subst h
      clear HF cT
      go_enter Tryz.func17, Tryz.ntmps17
      go_wp2
      go_ret
      exact ⟨rfl, b0 _ _⟩
    · have hF : F = false := by rw [← HF.out]; simp [h]
      subst hF
      have z : ((x : Int) == 1) = false := by rw [beq_eq_false_iff_ne]; omega
      clear HF cT
      go_enter Tryz.func17, Tryz.ntmps17
      go_wp2
      go_ret
      exact ⟨rfl, b0 _ _⟩
  by_cases k2 : k = 2
  · subst k2
    have hF : T = F := by rw [← HF.out]; simp
    subst hF
    clear HF
    go_enter Tryz.func17, Tryz.ntmps17
    go_wp2_with (go_at_call 45; refine (cT _).mono ?_; rintro e w' ⟨rfl, hb⟩)
    go_ret
    exact ⟨rfl, chain (b0 _ _) hb⟩
  by_cases k3 : k = 3
  · subst k3
    by_cases h : s.size = 0
    · have hF : F = false := by rw [← HF.out]; simp [h]
      subst hF
      have z := empty_is h
      subst z
      clear HF cT
      go_enter Tryz.func17, Tryz.ntmps17
      go_wp2
      go_ret
      exact ⟨rfl, b0 _ _⟩
    · have hF : F = true := by rw [← HF.out]; simp [h]
      subst hF
      have z := full_text h
      clear HF cT
      go_enter Tryz.func17, Tryz.ntmps17
      go_wp2
      go_ret
      exact ⟨rfl, b0 _ _⟩
  have hF : F = true := by rw [← HF.out]; simp [k0, k1, k2, k3]
  subst hF
  clear HF cT
  go_enter Tryz.func17, Tryz.ntmps17
  go_wp2
  go_ret
  exact ⟨rfl, b0 _ _⟩
theorem text_ne {s t : ByteArray} (h : ¬ s = t) : (s.toList == t.toList) = false := by
  rw [beq_eq_false_iff_ne]
  intro e
  apply h
  rw [ByteArray.toList_eq, ByteArray.toList_eq] at e
  obtain ⟨a⟩ := s
  obtain ⟨b⟩ := t
  have : a = b := Array.ext' e
  rw [this]
set_option maxHeartbeats 1000000 in
set_option maxRecDepth 100000 in
theorem specSameValue_any (a b : PVal) (w : World) (ha : valW a) (hb : valW b) :
    Calls Tryz.prog 29 #[.agg #[.int .i64 a.kind, .int .u64 (a.num : Int), .string a.text, .int .i64 a.ref], .agg #[.int .i64 b.kind, .int .u64 (b.num : Int), .string b.text, .int .i64 b.ref]] w fun e w' => e = .returned (.bool (valSame a b)) ∧ Below w.heap.size w w' := by
  have cE := fun W => specEqual_any a.num b.num W ha.2.1 hb.2.1
  clear ha hb
  unfold valSame
  obtain ⟨k, x, s, r⟩ := a
  obtain ⟨k', x', s', r'⟩ := b
  simp only at cE ⊢
  have b0 : ∀ cs t cs' t', Below w.heap.size w ((w.alloc (.cells cs t)).alloc (.cells cs' t')) := fun cs t cs' t' => ((Below.refl _ _).alloc (Nat.le_refl _) _).alloc (by simp) _
  obtain ⟨E, hE⟩ : ∃ E, equalN x x' = E := ⟨_, rfl⟩
  simp only [hE] at cE ⊢
  clear hE
  obtain ⟨F, hF⟩ : ∃ F, (decide (k = k') && (if k = 2 then E else decide (x = x') && (decide (s = s') && decide (r = r')))) = F := ⟨_, rfl⟩
  rw [hF]
  have HF : Hid _ := hF
  clear hF
  by_cases hk : k = k'
  case neg =>
    have hF : F = false := by rw [← HF.out]; simp [hk]
    subst hF
    have z : (k == k') = false := by rw [beq_eq_false_iff_ne]; exact hk
    clear HF cE
    go_enter Tryz.func29, Tryz.ntmps29
    go_wp2
    go_ret
    exact ⟨rfl, b0 _ _ _ _⟩
  subst hk
  by_cases k2 : k = 2
  · subst k2
    have hF : E = F := by rw [← HF.out]; simp
    subst hF
    clear HF
    go_enter Tryz.func29, Tryz.ntmps29
    go_wp2_with (go_at_call 33; refine (cE _).mono ?_; rintro e w' ⟨rfl, hb⟩)
    go_ret
    exact ⟨rfl, chain (b0 _ _ _ _) hb⟩
  have z2 : (k == 2) = false := by rw [beq_eq_false_iff_ne]; exact k2
  clear cE
  by_cases hx : x = x'
  case neg =>
    have hF : F = false := by rw [← HF.out]; simp [k2, hx]
    subst hF
    have z : ((x : Int) == (x' : Int)) = false := by rw [beq_eq_false_iff_ne]; omega
    clear HF
    go_enter Tryz.func29, Tryz.ntmps29
    go_wp2
    go_ret
    exact ⟨rfl, b0 _ _ _ _⟩
  subst hx
  by_cases hs : s = s'
  case neg =>
    have hF : F = false := by rw [← HF.out]; simp [k2, hs]
    subst hF
    have z := text_ne hs
    clear HF
    go_enter Tryz.func29, Tryz.ntmps29
    go_wp2
    go_ret
    exact ⟨rfl, b0 _ _ _ _⟩
  subst hs
  by_cases hr : r = r'
  case neg =>
    have hF : F = false := by rw [← HF.out]; simp [k2, hr]
    subst hF
    have z : (r == r') = false := by rw [beq_eq_false_iff_ne]; exact hr
    clear HF
    go_enter Tryz.func29, Tryz.ntmps29
    go_wp2
    go_ret
    exact ⟨rfl, b0 _ _ _ _⟩
  subst hr
  have hF : F = true := by rw [← HF.out]; simp [k2]
  subst hF
  clear HF
  go_enter Tryz.func29, Tryz.ntmps29
  go_wp2
  go_ret
  exact ⟨rfl, b0 _ _ _ _⟩
def bitN (b : Bool) : Nat := if b then 1 else 0
def boolV (b : Bool) : PVal := ⟨1, bitN b, ⟨#[]⟩, 0⟩
def numV (x : Nat) : PVal := ⟨2, x, ⟨#[]⟩, 0⟩
def noneV : PVal := ⟨0, 0, ⟨#[]⟩, 0⟩
def textV (s : ByteArray) : PVal := ⟨3, 0, s, 0⟩
set_option maxHeartbeats 400000 in
set_option maxRecDepth 100000 in
theorem l17Bool_any (b : Bool) (w : World) : Calls Tryz.prog 28 #[.bool b] w fun e w' => e = .returned (.agg #[.int .i64 1, .int .u64 (bitN b : Int), .string ⟨#[]⟩, .int .i64 0]) ∧ Below w.heap.size w w' := by
  cases b
  all_goals
    go_enter Tryz.func28, Tryz.ntmps28
    go_wp2
    go_returns
    exact ⟨rfl, by go_grown⟩
set_option maxHeartbeats 400000 in
set_option maxRecDepth 100000 in
theorem l17Number_any (x : Nat) (w : World) : Calls Tryz.prog 35 #[.int .u64 x] w fun e w' => e = .returned (.agg #[.int .i64 2, .int .u64 x, .string ⟨#[]⟩, .int .i64 0]) ∧ Below w.heap.size w w' := by
  go_enter Tryz.func35, Tryz.ntmps35
  go_wp2
  go_returns
  exact ⟨rfl, by go_grown⟩
end Go.Proofs.YtcdbifcidaafnaaGreatDoor
