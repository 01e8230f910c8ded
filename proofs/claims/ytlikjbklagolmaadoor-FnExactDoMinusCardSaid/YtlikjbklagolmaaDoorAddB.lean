/-
  The sum of two numbers in bits: the nearest number to the exact sum, and how it is found with what is lost below; over no program.
-/
import Derived.Test.YtlikjbklagolmaaDoorRoundC
namespace Go.Proofs.YtlikjbklagolmaaDoor

/-- a whole number with a sign -/
def sgnM (b : Bool) (m : Nat) : Int := if b = true then -(m : Int) else (m : Int)

/-- the nearest number to a whole number times 2^e; 0 of 0 -/
def roundZ (S : Int) (e : Int) : Nat := if S = 0 then 0 else signN (decide (S < 0)) (roundN S.natAbs e false)

/-- the exact sum of two numbers, in steps of the lesser exponent -/
def sumZ (b1 : Bool) (m1 : Nat) (e1 : Int) (b2 : Bool) (m2 : Nat) (e2 : Int) : Int := sgnM b1 m1 * 2 ^ (e1 - min e1 e2).toNat + sgnM b2 m2 * 2 ^ (e2 - min e1 e2).toNat

/-- the bits of the sum -/
def addN (a b : Nat) : Nat :=
  if kindN a = 1 ∨ kindN b = 1 then 9221120237041090560
  else if kindN a = 2 then (if kindN b = 2 ∧ belowN a ≠ belowN b then 9221120237041090560 else a)
  else if kindN b = 2 then b
  else if kindN a = 3 ∧ kindN b = 3 then (if belowN a = true ∧ belowN b = true then a else 0)
  else if kindN a = 3 then b
  else if kindN b = 3 then a
  else roundZ (sumZ (belowN a) (mantN a) (expN a) (belowN b) (mantN b) (expN b)) (min (expN a) (expN b))

theorem sumZ_comm (b1 : Bool) (m1 : Nat) (e1 : Int) (b2 : Bool) (m2 : Nat) (e2 : Int) : sumZ b1 m1 e1 b2 m2 e2 = sumZ b2 m2 e2 b1 m1 e1 := by
  unfold sumZ
  rw [Int.min_comm e1 e2, Int.add_comm]

/-- the greater exponent brought down by j places, the lesser one's number parted d places above its end -/
theorem sumZ_cut {b1 b2 : Bool} {pm qm j d : Nat} {pe qe : Int} (h : pe = qe + ((j + d : Nat) : Int)) :
    min pe qe = qe ∧ sumZ b1 pm pe b2 qm qe = sgnM b1 (pm * 2 ^ j * 2 ^ d) + sgnM b2 (qm / 2 ^ d * 2 ^ d + qm % 2 ^ d) := by
  have hmin : min pe qe = qe := by omega
  refine ⟨hmin, ?_⟩
  unfold sumZ
  rw [hmin, show (pe - qe).toNat = j + d by omega, show (qe - qe).toNat = 0 by omega]
  have e1 : qm / 2 ^ d * 2 ^ d + qm % 2 ^ d = qm := by rw [Nat.mul_comm]; exact Nat.div_add_mod _ _
  rw [e1, Int.pow_add]
  unfold sgnM
  cases b1 <;> cases b2 <;> simp [Int.mul_assoc, Int.neg_mul]

theorem signN_false (x : Nat) : signN false x = x := rfl

theorem roundZ_pos {S e : Int} (n : Nat) (h : S = n) (h0 : n ≠ 0) : roundZ S e = roundN n e false := by
  subst h
  unfold roundZ signN
  rw [if_neg (by omega), if_neg (by simp)]
  simp
theorem roundZ_neg {S e : Int} (n : Nat) (h : S = -(n : Int)) (h0 : n ≠ 0) : roundZ S e = signN true (roundN n e false) := by
  subst h
  unfold roundZ
  rw [if_neg (by omega), decide_eq_true (by omega), Int.natAbs_neg, Int.natAbs_natCast]

/-- both have the same sign -/
theorem round_same {b : Bool} {m n d low : Nat} {e : Int} (hl : low < 2 ^ d) (hm : m ≠ 0) (hbig : low = 0 ∨ 72057594037927936 ≤ m) :
    roundZ (sgnM b (m * 2 ^ d) + sgnM b (n * 2 ^ d + low)) (e - d) = signN b (roundN (m + n) e (decide (low ≠ 0) && decide (72057594037927936 ≤ m + n))) := by
  have hd := Nat.two_pow_pos d
  have hpos : m * 2 ^ d ≠ 0 := Nat.mul_ne_zero hm (by omega)
  have hs : (m + n) * 2 ^ d + low = m * 2 ^ d + (n * 2 ^ d + low) := by rw [Nat.add_mul]; omega
  have hst : (decide (low ≠ 0) && decide (72057594037927936 ≤ m + n)) = decide (low ≠ 0) := by
    rcases hbig with h | h
    · simp [h]
    · simp; omega
  have key : roundN (m * 2 ^ d + (n * 2 ^ d + low)) (e - d) false = roundN (m + n) e (decide (low ≠ 0)) := by
    rw [← hs]; exact roundN_sticky hl (by omega)
  rw [hst, ← key]
  cases b
  · rw [roundZ_pos (m * 2 ^ d + (n * 2 ^ d + low)) (by simp [sgnM]) (by omega)]
    exact (signN_false _).symm
  · rw [roundZ_neg (m * 2 ^ d + (n * 2 ^ d + low)) (by simp only [sgnM, if_true]; omega) (by omega)]

/-- other signs, nothing lost, the first one greater -/
theorem round_more {b : Bool} {m n d : Nat} {e : Int} (h : n < m) : roundZ (sgnM b (m * 2 ^ d) + sgnM (!b) (n * 2 ^ d)) (e - d) = signN b (roundN (m - n) e false) := by
  have hd := Nat.two_pow_pos d
  have hs : (m - n) * 2 ^ d = m * 2 ^ d - n * 2 ^ d := by rw [Nat.sub_mul]
  have hlt : n * 2 ^ d < m * 2 ^ d := Nat.mul_lt_mul_of_pos_right h hd
  have key : roundN ((m - n) * 2 ^ d) (e - d) false = roundN (m - n) e false := roundN_times d (m - n) e false
  rw [← key, hs]
  cases b
  · rw [roundZ_pos (m * 2 ^ d - n * 2 ^ d) (by simp only [sgnM, Bool.not_false, if_true, Bool.false_eq_true, if_false]; omega) (by omega)]
    exact (signN_false _).symm
  · rw [roundZ_neg (m * 2 ^ d - n * 2 ^ d) (by simp only [sgnM, Bool.not_true, if_true, Bool.false_eq_true, if_false]; omega) (by omega)]

/-- other signs, something lost below -/
theorem round_lost {b : Bool} {m n d low : Nat} {e : Int} (hl : low < 2 ^ d) (h0 : low ≠ 0) (h : n < m) (hbig : 72057594037927936 ≤ m - n - 1) :
    roundZ (sgnM b (m * 2 ^ d) + sgnM (!b) (n * 2 ^ d + low)) (e - d) = signN b (roundN (m - n - 1) e (true && decide (72057594037927936 ≤ m - n - 1))) := by
  have hd := Nat.two_pow_pos d
  have hs : (m - n - 1) * 2 ^ d + (2 ^ d - low) = m * 2 ^ d - (n * 2 ^ d + low) := by
    have h1 : (m - n - 1 + 1 + n) * 2 ^ d = m * 2 ^ d := by rw [show m - n - 1 + 1 + n = m by omega]
    rw [Nat.add_mul, Nat.add_mul] at h1
    omega
  have hlt : n * 2 ^ d + low < m * 2 ^ d := by
    have : (n + 1) * 2 ^ d ≤ m * 2 ^ d := Nat.mul_le_mul_right _ h
    rw [Nat.add_mul] at this
    omega
  have key : roundN ((m - n - 1) * 2 ^ d + (2 ^ d - low)) (e - d) false = roundN (m - n - 1) e (decide (2 ^ d - low ≠ 0)) := roundN_sticky (by omega) (by omega)
  have hst : (true && decide (72057594037927936 ≤ m - n - 1)) = decide (2 ^ d - low ≠ 0) := by
    rw [decide_eq_true hbig, decide_eq_true (by omega)]; rfl
  rw [hst, ← key, hs]
  cases b
  · rw [roundZ_pos (m * 2 ^ d - (n * 2 ^ d + low)) (by simp only [sgnM, Bool.not_false, if_true, Bool.false_eq_true, if_false]; omega) (by omega)]
    exact (signN_false _).symm
  · rw [roundZ_neg (m * 2 ^ d - (n * 2 ^ d + low)) (by simp only [sgnM, Bool.not_true, if_true, Bool.false_eq_true, if_false]; omega) (by omega)]

/-- other signs, the same number -/
theorem round_none (b : Bool) (m : Nat) (e : Int) : roundZ (sgnM b m + sgnM (!b) m) e = 0 := by
  unfold roundZ
  rw [if_pos]
  cases b <;> simp [sgnM] <;> omega

end Go.Proofs.YtlikjbklagolmaaDoor
