/-
  Products, quotients, rests and roots of numbers in bits: the nearest number, and how it is found with a mark for what is left; over no program.
-/
import Derived.Test.YtfbdhafbpcpjlaaRoundC
namespace Go.Proofs.Ytfbdhafbpcpjlaa

/-- a lower part and a mark below it -/
theorem roundN_mark {M d low : Nat} {E : Int} (st : Bool) (hl : low < 2 ^ d) (hM : 9007199254740992 ≤ M) : roundN (M * 2 ^ d + low) (E - d) st = roundN M E (st || decide (low ≠ 0)) := by
  cases st
  · rw [Bool.false_or]; exact roundN_sticky hl (.inr hM)
  · have hp := Nat.two_pow_pos d
    have h1 : M * 1 ≤ M * 2 ^ d := Nat.mul_le_mul_left _ hp
    have a := roundN_sticky (M := M * 2 ^ d + low) (d := 1) (low := 1) (E := E - d) (by decide) (.inr (by omega))
    have b := roundN_sticky (M := M) (d := d + 1) (low := low * 2 + 1) (E := E) (by rw [Nat.pow_succ]; omega) (.inr hM)
    have e1 : (M * 2 ^ d + low) * 2 ^ 1 + 1 = M * 2 ^ (d + 1) + (low * 2 + 1) := by rw [Nat.pow_succ 2 d, Nat.pow_one, Nat.add_mul, ← Nat.mul_assoc]; omega
    have e2 : E - d - ((1 : Nat) : Int) = E - ((d + 1 : Nat) : Int) := by omega
    rw [e1, e2, b] at a
    have t1 : decide (low * 2 + 1 ≠ 0) = true := by simp
    have t2 : decide ((1 : Nat) ≠ 0) = true := by simp
    rw [t1, t2] at a
    rw [← a, Bool.true_or]

/-- a product of two whole numbers, k places of it taken off, where what stays fills 64 bits -/
theorem round_off {P k n : Nat} {l : Bool} {E : Int} (hn : n = P / 2 ^ k) (hl : l = decide (P % 2 ^ k ≠ 0)) (h : k = 0 ∨ 72057594037927936 ≤ n) : roundN n (E + k) (l && decide (72057594037927936 ≤ n)) = roundN P E false := by
  have hp := Nat.div_add_mod P (2 ^ k)
  rw [← hn, Nat.mul_comm] at hp
  have hlow : P % 2 ^ k < 2 ^ k := Nat.mod_lt _ (Nat.two_pow_pos k)
  have h0 : k = 0 → P % 2 ^ k = 0 := fun e => by subst e; simp [Nat.mod_one]
  obtain ⟨low, hq⟩ : ∃ q, P % 2 ^ k = q := ⟨_, rfl⟩
  rw [hq] at hp hlow hl h0
  have hs : (l && decide (72057594037927936 ≤ n)) = decide (low ≠ 0) := by
    rcases h with h | h
    · have := h0 h
      subst this
      simp [hl]
    · rw [hl]; simp [h]
  have hE : E = E + k - k := by omega
  rw [hs, ← roundN_sticky (M := n) (d := k) (low := low) (E := E + k) hlow (by omega), ← hE, hp]

/-- the nearest number to a quotient, times 2^e -/
def quoN (m n : Nat) (e : Int) : Nat := roundN (m * 2 ^ 170 / n) (e - 170) (decide (m * 2 ^ 170 % n ≠ 0))

theorem quo_more {m n k d : Nat} {e : Int} (hn : n ≠ 0) (h : 9007199254740992 ≤ m * 2 ^ k / n) :
    roundN (m * 2 ^ (k + d) / n) (e - ((k + d : Nat) : Int)) (decide (m * 2 ^ (k + d) % n ≠ 0)) = roundN (m * 2 ^ k / n) (e - k) (decide (m * 2 ^ k % n ≠ 0)) := by
  have hp := Nat.div_add_mod (m * 2 ^ k) n
  obtain ⟨q, hq⟩ : ∃ q, m * 2 ^ k / n = q := ⟨_, rfl⟩
  obtain ⟨r, hr⟩ : ∃ q, m * 2 ^ k % n = q := ⟨_, rfl⟩
  have hrn : r < n := by rw [← hr]; exact Nat.mod_lt _ (by omega)
  rw [hq, hr] at hp ⊢
  rw [hq] at h
  have hD := Nat.two_pow_pos d
  have e1 : m * 2 ^ (k + d) = n * (q * 2 ^ d) + r * 2 ^ d := by rw [Nat.pow_add, ← Nat.mul_assoc, ← hp, Nat.add_mul, Nat.mul_assoc]
  have e2 : m * 2 ^ (k + d) / n = q * 2 ^ d + r * 2 ^ d / n := by rw [e1, Nat.mul_add_div (by omega)]
  have e3 : m * 2 ^ (k + d) % n = r * 2 ^ d % n := by rw [e1, Nat.mul_add_mod]
  have hlow : r * 2 ^ d / n < 2 ^ d := by
    rw [Nat.div_lt_iff_lt_mul (by omega), Nat.mul_comm]
    exact Nat.mul_lt_mul_of_pos_left hrn hD
  have hx : e - ((k + d : Nat) : Int) = e - k - d := by omega
  rw [e2, e3, hx, roundN_mark _ hlow h]
  congr 1
  have hz := Nat.div_add_mod (r * 2 ^ d) n
  rw [Bool.eq_iff_iff, Bool.or_eq_true, decide_eq_true_iff, decide_eq_true_iff, decide_eq_true_iff]
  constructor
  · intro h0 hr0
    subst hr0
    simp at h0
  · intro hr0
    rcases Nat.eq_zero_or_pos (r * 2 ^ d % n) with h1 | h1
    · right
      intro h2
      rw [h1, h2] at hz
      have : 0 < r * 2 ^ d := Nat.mul_pos (by omega) hD
      omega
    · left; omega

/-- with so many places it is found -/
theorem quo_at {m n k : Nat} {e : Int} (hn : n ≠ 0) (h : 9007199254740992 ≤ m * 2 ^ k / n) (hk : k ≤ 170) : roundN (m * 2 ^ k / n) (e - k) (decide (m * 2 ^ k % n ≠ 0)) = quoN m n e := by
  obtain ⟨d, hd⟩ : ∃ d, k + d = 170 := ⟨170 - k, by omega⟩
  rw [← quo_more (d := d) hn h, hd]
  rfl

/-- a quotient that is just -/
theorem quo_just {m n c k : Nat} {e : Int} (hn : n ≠ 0) (h : m * 2 ^ 170 = n * (c * 2 ^ k)) : quoN m n e = roundN c (e - 170 + k) false := by
  have hd : n * (c * 2 ^ k) / n = c * 2 ^ k := Nat.mul_div_cancel_left _ (by omega)
  have hm : n * (c * 2 ^ k) % n = 0 := Nat.mul_mod_right _ _
  have e1 : decide ((0 : Nat) ≠ 0) = false := by decide
  have e2 := roundN_times k c (e - 170 + k) false
  rw [(by omega : e - 170 + k - k = e - 170)] at e2
  unfold quoN
  rw [h, hd, hm, e1, e2]

/-- both sides of a quotient times powers of 2 -/
theorem quo_scale {m n u v : Nat} {e : Int} (hm : m ≠ 0) (hn : n ≠ 0) (hn2 : n < 9007199254740992) (hv : v ≤ 63) (hu : u ≤ 63) : quoN (m * 2 ^ u) (n * 2 ^ v) (e - u + v) = quoN m n e := by
  have h1 : ∀ k, 107 ≤ k → 9007199254740992 ≤ m * 2 ^ k / n := by
    intro k hk
    rw [Nat.le_div_iff_mul_le (by omega)]
    have : 2 ^ 107 ≤ 2 ^ k := Nat.pow_le_pow_right (by decide) hk
    have : 1 * 2 ^ k ≤ m * 2 ^ k := Nat.mul_le_mul_right _ (by omega)
    omega
  have key : ∀ k, 170 + u = k + v → 107 ≤ k → quoN (m * 2 ^ u) (n * 2 ^ v) (e - u + v) = roundN (m * 2 ^ k / n) (e - k) (decide (m * 2 ^ k % n ≠ 0)) := by
    intro k hk _
    have e1 : m * 2 ^ u * 2 ^ 170 = m * 2 ^ k * 2 ^ v := by rw [Nat.mul_assoc, Nat.mul_assoc, ← Nat.pow_add, ← Nat.pow_add, ← hk, Nat.add_comm]
    have hp := Nat.two_pow_pos v
    have e2 : m * 2 ^ k * 2 ^ v / (n * 2 ^ v) = m * 2 ^ k / n := Nat.mul_div_mul_right _ _ hp
    have e3 : m * 2 ^ k * 2 ^ v % (n * 2 ^ v) = m * 2 ^ k % n * 2 ^ v := Nat.mul_mod_mul_right _ _ _
    have e4 : decide (m * 2 ^ k % n * 2 ^ v ≠ 0) = decide (m * 2 ^ k % n ≠ 0) := by
      rw [Bool.eq_iff_iff, decide_eq_true_iff, decide_eq_true_iff]
      simp only [ne_eq, Nat.mul_eq_zero, not_or]
      exact ⟨fun h => h.1, fun h => ⟨h, by omega⟩⟩
    have e5 : e - u + v - 170 = e - k := by omega
    unfold quoN
    rw [e1, e2, e3, e4, e5]
  rw [key (170 + u - v) (by omega) (by omega)]
  have a := quo_more (m := m) (n := n) (k := 107) (d := 170 + u - v - 107) (e := e) hn (h1 _ (by omega))
  have b := quo_at (m := m) (n := n) (k := 107) (e := e) hn (h1 _ (by omega)) (by omega)
  rw [(by omega : 107 + (170 + u - v - 107) = 170 + u - v)] at a
  rw [a, b]

/-- the whole root -/
def isq (n : Nat) : Nat := if n = 0 then 0 else if (2 * isq (n / 4) + 1) * (2 * isq (n / 4) + 1) ≤ n then 2 * isq (n / 4) + 1 else 2 * isq (n / 4)
  termination_by n
  decreasing_by all_goals omega

theorem isq_of (n : Nat) : isq n * isq n ≤ n ∧ n < (isq n + 1) * (isq n + 1) := by
  induction n using Nat.strongRecOn with
  | ind n ih =>
    rw [isq]
    by_cases h0 : n = 0
    · subst h0; simp
    · rw [if_neg h0]
      obtain ⟨h1, h2⟩ := ih (n / 4) (by omega)
      generalize isq (n / 4) = s at *
      have e1 : 2 * s * (2 * s) = 4 * (s * s) := by rw [Nat.mul_mul_mul_comm]
      have e2 : (2 * s + 1 + 1) * (2 * s + 1 + 1) = 4 * ((s + 1) * (s + 1)) := by
        have : 2 * s + 1 + 1 = 2 * (s + 1) := by omega
        rw [this, Nat.mul_mul_mul_comm]
      split
      · rename_i h
        refine ⟨h, ?_⟩
        rw [e2]; omega
      · rename_i h
        refine ⟨?_, by omega⟩
        rw [e1]; omega

theorem isq_unique {n r : Nat} (h1 : r * r ≤ n) (h2 : n < (r + 1) * (r + 1)) : isq n = r := by
  obtain ⟨a1, a2⟩ := isq_of n
  generalize isq n = s at *
  rcases Nat.lt_trichotomy s r with h | h | h
  · have : (s + 1) * (s + 1) ≤ r * r := Nat.mul_le_mul h h
    omega
  · exact h
  · have : (r + 1) * (r + 1) ≤ s * s := Nat.mul_le_mul h h
    omega

/-- one more figure of the root: two bits more of the number -/
theorem isq_step {n t s : Nat} (ht : t < 4) (hs : isq n = s) : (s * s ≤ n) ∧ isq (4 * n + t) = (if 4 * s + 1 ≤ 4 * (n - s * s) + t then 2 * s + 1 else 2 * s) := by
  obtain ⟨h1, h2⟩ := isq_of n
  rw [hs] at h1 h2
  refine ⟨h1, ?_⟩
  have e1 : (2 * s) * (2 * s) = 4 * (s * s) := by rw [Nat.mul_mul_mul_comm]
  have e2 : (2 * s + 1) * (2 * s + 1) = 4 * (s * s) + 4 * s + 1 := by
    rw [Nat.add_mul, Nat.mul_add, e1]; omega
  have e3 : (2 * s + 1 + 1) * (2 * s + 1 + 1) = 4 * ((s + 1) * (s + 1)) := by
    have : 2 * s + 1 + 1 = 2 * (s + 1) := by omega
    rw [this, Nat.mul_mul_mul_comm]
  split
  · apply isq_unique
    · rw [e2]; omega
    · rw [e3]; omega
  · apply isq_unique
    · rw [e1]; omega
    · rw [e2]; omega

/-- the nearest number to the root of m times 2^(2e) -/
def rootN (m : Nat) (e : Int) : Nat := roundN (isq (m * 4 ^ 100)) (e - 100) (decide (isq (m * 4 ^ 100) * isq (m * 4 ^ 100) ≠ m * 4 ^ 100))

theorem root_more {m k d : Nat} {e : Int} (h : 9007199254740992 ≤ isq (m * 4 ^ k)) :
    roundN (isq (m * 4 ^ (k + d))) (e - ((k + d : Nat) : Int)) (decide (isq (m * 4 ^ (k + d)) * isq (m * 4 ^ (k + d)) ≠ m * 4 ^ (k + d))) = roundN (isq (m * 4 ^ k)) (e - k) (decide (isq (m * 4 ^ k) * isq (m * 4 ^ k) ≠ m * 4 ^ k)) := by
  obtain ⟨a1, a2⟩ := isq_of (m * 4 ^ k)
  obtain ⟨b1, b2⟩ := isq_of (m * 4 ^ (k + d))
  have e1 : m * 4 ^ (k + d) = m * 4 ^ k * (2 ^ d * 2 ^ d) := by
    rw [Nat.pow_add, ← Nat.mul_assoc, ← Nat.mul_pow]
  rw [e1] at b1 b2 ⊢
  obtain ⟨N, hN⟩ : ∃ q, m * 4 ^ k = q := ⟨_, rfl⟩
  rw [hN] at h a1 a2 b1 b2 ⊢
  obtain ⟨D, hD⟩ : ∃ q, 2 ^ d = q := ⟨_, rfl⟩
  have hD0 : 0 < D := by rw [← hD]; exact Nat.two_pow_pos d
  rw [hD] at b1 b2 ⊢
  obtain ⟨r, hr⟩ : ∃ q, isq N = q := ⟨_, rfl⟩
  obtain ⟨s, hs⟩ : ∃ q, isq (N * (D * D)) = q := ⟨_, rfl⟩
  rw [hr] at h a1 a2 ⊢
  rw [hs] at b1 b2 ⊢
  have c1 : (r * D) * (r * D) = r * r * (D * D) := by rw [Nat.mul_mul_mul_comm]
  have c2 : ((r + 1) * D) * ((r + 1) * D) = (r + 1) * (r + 1) * (D * D) := by rw [Nat.mul_mul_mul_comm]
  have hDD : 0 < D * D := Nat.mul_pos hD0 hD0
  have l1 : r * D ≤ s := by
    rcases Nat.lt_or_ge s (r * D) with h' | h'
    · have : (s + 1) * (s + 1) ≤ (r * D) * (r * D) := Nat.mul_le_mul h' h'
      have : r * r * (D * D) ≤ N * (D * D) := Nat.mul_le_mul_right _ a1
      omega
    · exact h'
  have l2 : s < (r + 1) * D := by
    rcases Nat.lt_or_ge s ((r + 1) * D) with h' | h'
    · exact h'
    · have : ((r + 1) * D) * ((r + 1) * D) ≤ s * s := Nat.mul_le_mul h' h'
      have : N * (D * D) < (r + 1) * (r + 1) * (D * D) := Nat.mul_lt_mul_of_pos_right a2 hDD
      omega
  obtain ⟨low, hlow⟩ : ∃ low, s = r * D + low := ⟨s - r * D, by omega⟩
  have l3 : low < D := by rw [Nat.add_mul] at l2; omega
  have hx : e - ((k + d : Nat) : Int) = e - k - d := by omega
  rw [hx]
  have key := roundN_mark (M := r) (d := d) (low := low) (E := e - k) (decide (s * s ≠ N * (D * D))) (by rw [hD]; exact l3) h
  rw [hD, ← hlow] at key
  rw [key]
  congr 1
  rw [Bool.eq_iff_iff, Bool.or_eq_true, decide_eq_true_iff, decide_eq_true_iff, decide_eq_true_iff]
  constructor
  · intro h0 he
    have l4 : s = r * D := by
      have : s * s ≤ r * D * (r * D) := by rw [c1, he]; exact b1
      rcases Nat.lt_or_ge (r * D) s with h' | h'
      · have : (r * D + 1) * (r * D + 1) ≤ s * s := Nat.mul_le_mul h' h'
        have e9 : (r * D + 1) * (r * D + 1) = r * D * (r * D) + (r * D + r * D + 1) := by rw [Nat.add_mul, Nat.mul_add]; omega
        omega
      · omega
    rcases h0 with h0 | h0
    · exact h0 (by rw [l4, c1, he])
    · omega
  · intro hne
    rcases Nat.eq_zero_or_pos low with h' | h'
    · left
      intro he
      have l4 : s = r * D := by omega
      rw [l4, c1] at he
      exact hne (Nat.eq_of_mul_eq_mul_right hDD he)
    · right; omega

theorem root_at {m k : Nat} {e : Int} (h : 9007199254740992 ≤ isq (m * 4 ^ k)) (hk : k ≤ 100) : roundN (isq (m * 4 ^ k)) (e - k) (decide (isq (m * 4 ^ k) * isq (m * 4 ^ k) ≠ m * 4 ^ k)) = rootN m e := by
  obtain ⟨d, hd⟩ : ∃ d, k + d = 100 := ⟨100 - k, by omega⟩
  rw [← root_more (d := d) h, hd]
  rfl

/-- a root that is great enough -/
theorem isq_ge {n : Nat} (r : Nat) (h : r * r ≤ n) : r ≤ isq n := by
  obtain ⟨_, a2⟩ := isq_of n
  rcases Nat.lt_or_ge (isq n) r with h' | h'
  · have : (isq n + 1) * (isq n + 1) ≤ r * r := Nat.mul_le_mul h' h'
    omega
  · exact h'

/-- the number times a power of 4 -/
theorem root_scale {m j : Nat} {e : Int} (hm : m ≠ 0) (hj : j ≤ 40) : rootN (m * 4 ^ j) (e - j) = rootN m e := by
  have g : ∀ k, 60 ≤ k → 9007199254740992 ≤ isq (m * 4 ^ k) := by
    intro k hk
    refine isq_ge _ ?_
    have h1 : 4 ^ 60 ≤ 4 ^ k := Nat.pow_le_pow_right (by decide) hk
    have h2 : 1 * 4 ^ k ≤ m * 4 ^ k := Nat.mul_le_mul_right _ (by omega)
    omega
  have e1 : m * 4 ^ j * 4 ^ 60 = m * 4 ^ (60 + j) := by rw [Nat.mul_assoc, ← Nat.pow_add, Nat.add_comm j 60]
  have a := root_at (m := m * 4 ^ j) (k := 60) (e := e - j) (by rw [e1]; exact g _ (by omega)) (by omega)
  have b := root_at (m := m) (k := 60 + j) (e := e) (g _ (by omega)) (by omega)
  rw [← a, ← b, e1, (by omega : e - j - ((60 : Nat) : Int) = e - ((60 + j : Nat) : Int))]

/-- the bits of a product, a quotient, a rest, a root, by the kinds, signs and parts of the numbers -/
def mulP (k1 k2 : Nat) (s1 s2 : Bool) (m1 m2 : Nat) (e1 e2 : Int) : Nat :=
  if k1 = 1 ∨ k2 = 1 ∨ (k1 = 2 ∧ k2 = 3) ∨ (k1 = 3 ∧ k2 = 2) then 9221120237041090560
  else if k1 = 2 ∨ k2 = 2 then signN (s1 != s2) 9218868437227405312
  else if k1 = 3 ∨ k2 = 3 then signN (s1 != s2) 0
  else signN (s1 != s2) (roundN (m1 * m2) (e1 + e2) false)
def mulN (a b : Nat) : Nat := mulP (kindN a) (kindN b) (belowN a) (belowN b) (mantN a) (mantN b) (expN a) (expN b)
def divP (k1 k2 : Nat) (s1 s2 : Bool) (m1 m2 : Nat) (e1 e2 : Int) : Nat :=
  if k1 = 1 ∨ k2 = 1 ∨ (k1 = k2 ∧ (k1 = 2 ∨ k1 = 3)) then 9221120237041090560
  else if k1 = 2 ∨ k2 = 3 then signN (s1 != s2) 9218868437227405312
  else if k1 = 3 ∨ k2 = 2 then signN (s1 != s2) 0
  else signN (s1 != s2) (quoN m1 m2 (e1 - e2))
def divN (a b : Nat) : Nat := divP (kindN a) (kindN b) (belowN a) (belowN b) (mantN a) (mantN b) (expN a) (expN b)
def restN (m : Nat) (e : Int) (n : Nat) (f : Int) : Nat := roundN (m * 2 ^ (e - min e f).toNat % (n * 2 ^ (f - min e f).toNat)) (min e f) false
def remP (a k1 k2 : Nat) (s1 : Bool) (m1 m2 : Nat) (e1 e2 : Int) : Nat :=
  if k1 = 1 ∨ k2 = 1 ∨ k1 = 2 ∨ k2 = 3 then 9221120237041090560
  else if k1 = 3 ∨ k2 = 2 then a
  else signN s1 (restN m1 e1 m2 e2)
def remN (a b : Nat) : Nat := remP a (kindN a) (kindN b) (belowN a) (mantN a) (mantN b) (expN a) (expN b)
def sqrtP (x k : Nat) (s : Bool) (m : Nat) (e : Int) : Nat :=
  if k = 3 ∨ (k = 2 ∧ s = false) then x
  else if k ≠ 4 ∨ s = true then 9221120237041090560
  else if e % 2 = 0 then rootN m (e / 2) else rootN (m * 2) ((e - 1) / 2)
def sqrtN (x : Nat) : Nat := sqrtP x (kindN x) (belowN x) (mantN x) (expN x)

end Go.Proofs.Ytfbdhafbpcpjlaa
