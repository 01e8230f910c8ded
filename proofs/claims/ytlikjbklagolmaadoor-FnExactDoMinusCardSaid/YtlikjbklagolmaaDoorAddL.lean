/-
  Sums of numbers in bits, over no program: from both sides, with the other signs, and of whole numbers.
-/
import Derived.Test.YtlikjbklagolmaaDoorNearC
namespace Go.Proofs.YtlikjbklagolmaaDoor

theorem roundZ_lt (S e : Int) : roundZ S e < 18446744073709551616 := by
  unfold roundZ
  split
  · decide
  · have := roundN_le S.natAbs e false
    exact sign_small _ (by omega)
theorem addN_lt {a b : Nat} (ha : a < 18446744073709551616) (hb : b < 18446744073709551616) : addN a b < 18446744073709551616 := by
  unfold addN
  repeat' split
  all_goals first | decide | exact ha | exact hb | exact roundZ_lt _ _
theorem subN_lt {a b : Nat} (ha : a < 18446744073709551616) (hb : b < 18446744073709551616) : subN a b < 18446744073709551616 := addN_lt ha (negN_lt hb)

theorem inf_bits {x : Nat} (hx : x < 18446744073709551616) (h : kindN x = 2) : x = signN (belowN x) 9218868437227405312 := by
  have hb := belowN_of (x := x) (by omega)
  rw [hb]
  unfold kindN expBits fracBits at h
  split at h
  · split at h
    · unfold signN
      by_cases h2 : 9223372036854775808 ≤ x
      · rw [decide_eq_true h2, if_pos rfl]; omega
      · rw [decide_eq_false h2, if_neg (by decide)]; omega
    · omega
  · split at h <;> omega
theorem zero_bits {x : Nat} (hx : x < 18446744073709551616) (h : kindN x = 3) : x = signN (belowN x) 0 := by
  have hb := belowN_of (x := x) (by omega)
  rw [hb]
  unfold kindN expBits fracBits at h
  split at h
  · split at h <;> omega
  · split at h
    · unfold signN
      by_cases h2 : 9223372036854775808 ≤ x
      · rw [decide_eq_true h2, if_pos rfl]; omega
      · rw [decide_eq_false h2, if_neg (by decide)]; omega
    · omega

theorem addN_comm {a b : Nat} (ha : a < 18446744073709551616) (hb : b < 18446744073709551616) : addN a b = addN b a := by
  have i1 := inf_bits ha
  have i2 := inf_bits hb
  have z1 := zero_bits ha
  have z2 := zero_bits hb
  have hs := sumZ_comm (belowN a) (mantN a) (expN a) (belowN b) (mantN b) (expN b)
  have hm := Int.min_comm (expN a) (expN b)
  unfold addN
  rcases kindN_cases a with k1 | k1 | k1 | k1 <;> rcases kindN_cases b with k2 | k2 | k2 | k2 <;> simp only [k1, k2] at i1 i2 z1 z2 ⊢
  all_goals simp
  · by_cases h : belowN a = belowN b
    · rw [if_pos h, if_pos h.symm]
      exact (i1 trivial).trans (by rw [h]; exact (i2 trivial).symm)
    · rw [if_neg h, if_neg (fun e => h e.symm)]
  · by_cases h1 : belowN a = true
    · by_cases h2 : belowN b = true
      · rw [if_pos ⟨h1, h2⟩, if_pos ⟨h2, h1⟩]
        exact (z1 trivial).trans (by rw [h1, ← h2]; exact (z2 trivial).symm)
      · rw [if_neg (fun h => h2 h.2), if_neg (fun h => h2 h.1)]
    · rw [if_neg (fun h => h1 h.1), if_neg (fun h => h1 h.2)]
  · rw [hs, hm]

/-- a finite number less itself -/
theorem sub_self {a : Nat} (ha : a < 18446744073709551616) (k : kindN a = 4) : subN a a = 0 := by
  have fa : Fine a := ⟨ha, .inr k⟩
  have n := neg_fine fa
  unfold subN
  rw [addN_val ha n.1.lt k (n.2.2.trans k), n.2.1, Int.add_right_neg, roundV_nil]
theorem add_nil {a : Nat} (k : kindN a = 4) : addN a 0 = a := by
  have k0 : kindN 0 = 3 := by decide
  unfold addN; simp [k, k0]

theorem neg_sign (b : Bool) {u : Nat} (h : u ≤ 9218868437227405312) : negN (signN b u) = signN (!b) u := by
  have hk : kindN (signN b u) ≠ 1 := by
    obtain ⟨e1, e2⟩ := sign_bits b u
    unfold kindN
    rw [e1, e2]
    unfold expBits fracBits
    split
    · split <;> omega
    · split <;> omega
  unfold negN
  rw [if_neg hk]
  unfold signN
  cases b
  · simp only [Bool.false_eq_true, if_false, Bool.not_false, if_true]
    rw [if_neg (by omega)]
  · simp only [if_true, Bool.not_true, Bool.false_eq_true, if_false]
    rw [if_pos (by omega), Nat.add_sub_cancel]
theorem sign_nan (b : Bool) {u : Nat} (h : u ≤ 9218868437227405312) : kindN (signN b u) ≠ 1 := by
  obtain ⟨e1, e2⟩ := sign_bits b u
  unfold kindN
  rw [e1, e2]
  unfold expBits fracBits
  split
  · split <;> omega
  · split <;> omega
theorem equal_same {x : Nat} (h : kindN x ≠ 1) : equalN x x = true := by simp [equalN, h]

theorem neg_neg_round (S e : Int) : equalN (roundZ (-S) e) (negN (roundZ S e)) = true := by
  by_cases h0 : S = 0
  · subst h0
    have e1 : roundZ (-0) e = 0 := by simp [roundZ]
    have e2 : roundZ 0 e = 0 := by simp [roundZ]
    rw [e1, e2]
    decide
  · have hr := roundN_le S.natAbs e false
    rw [round_sgn h0, round_sgn (by omega : -S ≠ 0), neg_sign _ hr, Int.natAbs_neg]
    have e1 : decide (-S < 0) = !decide (S < 0) := by
      by_cases h : S < 0
      · rw [decide_eq_true h, decide_eq_false (by omega)]; rfl
      · rw [decide_eq_false h, decide_eq_true (by omega)]; rfl
    rw [e1]
    exact equal_same (sign_nan _ hr)

theorem neg_kind {x : Nat} (h : kindN x ≠ 1) (hx : x < 18446744073709551616) : kindN (negN x) = kindN x ∧ belowN (negN x) = !belowN x ∧ mantN (negN x) = mantN x ∧ expN (negN x) = expN x := by
  have e1 : expBits (negN x) = expBits x ∧ fracBits (negN x) = fracBits x := by
    unfold negN expBits fracBits
    rw [if_neg h]
    split <;> omega
  have hk : kindN (negN x) = kindN x := by unfold kindN; rw [e1.1, e1.2]
  refine ⟨hk, ?_, by unfold mantN; rw [hk, e1.1, e1.2], by unfold expN; rw [hk, e1.1]⟩
  rw [belowN_of h, belowN_of (by rw [hk]; exact h)]
  unfold negN
  rw [if_neg h]
  by_cases h2 : 9223372036854775808 ≤ x
  · rw [if_pos h2, decide_eq_true h2, decide_eq_false (by omega)]; rfl
  · rw [if_neg h2, decide_eq_false h2, decide_eq_true (by omega)]; rfl

/-- the sum with the other signs: NaN both, or it has the other sign -/
theorem sum_other {a b : Nat} (ha : a < 18446744073709551616) (hb : b < 18446744073709551616) (k : kindN a = 4) :
    (kindN (addN a b) = 1 ∧ kindN (addN (negN a) (negN b)) = 1) ∨ (kindN (addN a b) ≠ 1 ∧ equalN (addN (negN a) (negN b)) (negN (addN a b)) = true) := by
  have na := neg_kind (x := a) (by omega) ha
  have n1 : kindN 9221120237041090560 = 1 := by decide
  rcases kindN_cases b with k2 | k2 | k2 | k2
  · left
    have e1 : addN a b = 9221120237041090560 := by unfold addN; simp [k2]
    have e2 : negN b = 9221120237041090560 := by unfold negN; rw [if_pos k2]
    have e3 : addN (negN a) (negN b) = 9221120237041090560 := by rw [e2]; unfold addN; simp [n1]
    rw [e1, e3]; exact ⟨n1, n1⟩
  · right
    have nb := neg_kind (x := b) (by omega) hb
    have e1 : addN a b = b := by unfold addN; simp [k, k2]
    have e3 : addN (negN a) (negN b) = negN b := by unfold addN; simp [na.1, nb.1, k, k2]
    rw [e1, e3]; exact ⟨by omega, equal_same (by rw [nb.1]; omega)⟩
  · right
    have nb := neg_kind (x := b) (by omega) hb
    have e1 : addN a b = a := by unfold addN; simp [k, k2]
    have e3 : addN (negN a) (negN b) = negN a := by unfold addN; simp [na.1, nb.1, k, k2]
    rw [e1, e3]; exact ⟨by omega, equal_same (by rw [na.1]; omega)⟩
  · right
    have nb := neg_kind (x := b) (by omega) hb
    have e1 : addN a b = roundZ (sumZ (belowN a) (mantN a) (expN a) (belowN b) (mantN b) (expN b)) (min (expN a) (expN b)) := by unfold addN; simp [k, k2]
    have e3 : addN (negN a) (negN b) = roundZ (-sumZ (belowN a) (mantN a) (expN a) (belowN b) (mantN b) (expN b)) (min (expN a) (expN b)) := by
      unfold addN
      simp only [na.1, nb.1, k, k2]
      simp only [na.2.1, na.2.2.1, na.2.2.2, nb.2.1, nb.2.2.1, nb.2.2.2]
      simp
      congr 1
      unfold sumZ sgnM
      cases belowN a <;> cases belowN b <;> simp [Int.neg_mul] <;> omega
    rw [e1, e3]
    refine ⟨?_, neg_neg_round _ _⟩
    obtain ⟨T, hT⟩ : ∃ T, sumZ (belowN a) (mantN a) (expN a) (belowN b) (mantN b) (expN b) = T := ⟨_, rfl⟩
    rw [hT]
    by_cases h0 : T = 0
    · subst h0
      have : roundZ 0 (min (expN a) (expN b)) = 0 := rfl
      rw [this]; decide
    · rw [round_sgn h0]; exact sign_nan _ (roundN_le _ _ _)

/-- a number is the nearest to what it stands for -/
theorem roundV_val {x : Nat} (hx : x < 18446744073709551616) (k : kindN x = 4) : roundV (valN x) = x := by
  have l := expN_ge x
  have hm := mantN_pos k
  unfold roundV
  rw [valN_parts k hx, (by omega : (-1074 : Int) = expN x - ((expN x + 1074).toNat : Nat)), roundZ_scale]
  have hr := round_parts false k hx
  unfold sgnM
  cases hb : belowN x
  · rw [hb, signN_false] at hr
    rw [if_neg (by decide), roundZ_pos (mantN x) rfl hm]
    exact hr
  · rw [hb] at hr
    rw [if_pos rfl, roundZ_neg (mantN x) rfl hm]
    exact hr

/-- the sum of two numbers whose zeros are not below 0 -/
theorem add_told {x y : Nat} (fx : Fine x) (fy : Fine y) (hx : kindN x = 3 → belowN x = false) : addN x y = roundV (valN x + valN y) := by
  rcases fx.kind with k1 | k1
  · have v1 := fine_zero fx k1
    rcases fy.kind with k2 | k2
    · have v2 := fine_zero fy k2
      have e : addN x y = 0 := by unfold addN; simp [k1, k2, hx k1]
      rw [e, v1, v2]; rfl
    · have e : addN x y = y := by unfold addN; simp [k1, k2]
      rw [e, v1, Int.zero_add]
      exact (roundV_val fy.lt k2).symm
  · rcases fy.kind with k2 | k2
    · have v2 := fine_zero fy k2
      have e : addN x y = x := by unfold addN; simp [k1, k2]
      rw [e, v2, Int.add_zero]
      exact (roundV_val fx.lt k1).symm
    · exact addN_val fx.lt fy.lt k1 k2

/-- small whole numbers times 2^e stand for what they are told to -/
theorem told_fine {m : Int} {e : Int} (hm : m.natAbs < 9007199254740992) (h1 : -1074 ≤ e) (h2 : e ≤ 900) :
    Fine (roundZ m e) ∧ valN (roundZ m e) = m * 2 ^ (e + 1074).toNat ∧ (kindN (roundZ m e) = 3 → belowN (roundZ m e) = false) := by
  have hs : roundZ m e = roundV (m * 2 ^ (e + 1074).toNat) := by
    unfold roundV
    rw [(by omega : (-1074 : Int) = e - ((e + 1074).toNat : Nat)), roundZ_scale]
  rw [hs]
  by_cases h0 : m = 0
  · subst h0
    rw [Int.zero_mul, roundV_nil]
    exact ⟨fine_nil, val_nil, fun _ => by decide⟩
  · have hr : RepB (m * 2 ^ (e + 1074).toNat) := ⟨m, _, rfl, by omega, by omega⟩
    have hne : m * 2 ^ (e + 1074).toNat ≠ 0 := Int.mul_ne_zero h0 (Int.ne_of_gt (Int.pow_pos (by decide)))
    have h := rep_just hne hr.lt hr.rep
    exact ⟨h.1, h.2.2, fun k => by rw [h.2.1] at k; omega⟩

theorem roundZ_val (m : Int) {e : Int} (h1 : -1074 ≤ e) : roundV (m * 2 ^ (e + 1074).toNat) = roundZ m e := by
  unfold roundV
  rw [(by omega : (-1074 : Int) = e - ((e + 1074).toNat : Nat)), roundZ_scale]

/-- sums and differences of small whole numbers times 2^e are just -/
theorem add_whole {m n : Int} {e : Int} (hm : m.natAbs < 9007199254740992) (hn : n.natAbs < 9007199254740992) (h1 : -1074 ≤ e) (h2 : e ≤ 900) : addN (roundZ m e) (roundZ n e) = roundZ (m + n) e := by
  have a := told_fine hm h1 h2
  have b := told_fine hn h1 h2
  rw [add_told a.1 b.1 a.2.2, a.2.1, b.2.1, ← Int.add_mul, roundZ_val _ h1]
theorem sub_whole {m n : Int} {e : Int} (hm : m.natAbs < 9007199254740992) (hn : n.natAbs < 9007199254740992) (h1 : -1074 ≤ e) (h2 : e ≤ 900) : subN (roundZ m e) (roundZ n e) = roundZ (m - n) e := by
  have a := told_fine hm h1 h2
  have b := told_fine hn h1 h2
  have nb := neg_fine b.1
  unfold subN
  rw [add_told a.1 nb.1 a.2.2, a.2.1, nb.2.1, b.2.1, ← Int.neg_mul, ← Int.add_mul, roundZ_val _ h1]
  rfl
theorem fromInt_Z (n : Int) : fromIntN n = roundZ n 0 := by
  unfold fromIntN roundZ
  by_cases h : n = 0
  · subst h; rfl
  · rw [if_neg h]

end Go.Proofs.YtlikjbklagolmaaDoor
