/-
  Great numbers in limbs of 32 bits: how many limbs count, the order, how many bits; over no program.
-/
import Derived.Test.YtfbdhafbpcpjlaaBinB
import Derived.Test.YtfbdhafbpcpjlaaQuoB
namespace Go.Proofs.Ytfbdhafbpcpjlaa

/-- so many limbs count -/
structure LenOf (xs : List Nat) (n : Nat) : Prop where
  le : n ≤ xs.length
  zero : ∀ j, n ≤ j → xs.getD j 0 = 0
  top : n = 0 ∨ xs.getD (n - 1) 0 ≠ 0

theorem getD_out {xs : List Nat} {j : Nat} (h : xs.length ≤ j) : xs.getD j 0 = 0 := by
  rw [List.getD_eq_getElem?_getD, List.getElem?_eq_none h]; rfl
theorem binV_high {xs : List Nat} {n : Nat} (h : ∀ j, n ≤ j → xs.getD j 0 = 0) : binV (xs.take n) = binV xs := by
  have key : ∀ d, binV (xs.take (n + d)) = binV (xs.take n) := by
    intro d
    induction d with
    | zero => rfl
    | succ d ih => rw [← Nat.add_assoc, binV_take, ih, h (n + d) (by omega), Nat.mul_zero, Nat.add_zero]
  by_cases hn : n ≤ xs.length
  · have := key (xs.length - n)
    rw [(by omega : n + (xs.length - n) = xs.length), List.take_length] at this
    exact this.symm
  · rw [List.take_of_length_le (by omega)]
theorem LenOf.bounds {xs : List Nat} {n : Nat} (h : LenOf xs n) (ok : BinOk xs) : binV xs < 2 ^ (32 * n) ∧ (n ≠ 0 → 2 ^ (32 * (n - 1)) ≤ binV xs) := bin_top h.le (binV_high h.zero) h.top ok
theorem LenOf.nil {xs : List Nat} {n : Nat} (h : LenOf xs n) (ok : BinOk xs) : (n = 0 ↔ binV xs = 0) := by
  obtain ⟨h1, h2⟩ := h.bounds ok
  constructor
  · intro h0; subst h0; simpa using h1
  · intro h0
    rcases Nat.eq_zero_or_pos n with h' | h'
    · exact h'
    · have := h2 (by omega)
      have := Nat.two_pow_pos (32 * (n - 1))
      omega

theorem less_len {xs ys : List Nat} {n m : Nat} (hx : LenOf xs n) (hy : LenOf ys m) (ox : BinOk xs) (oy : BinOk ys) (h : n < m) : binV xs < binV ys := by
  have h1 := (hx.bounds ox).1
  have h2 := (hy.bounds oy).2 (by omega)
  have h3 : 2 ^ (32 * n) ≤ 2 ^ (32 * (m - 1)) := Nat.pow_le_pow_right (by decide) (by omega)
  omega

/-- the same from place i on -/
def SameFrom (xs ys : List Nat) (i : Nat) : Prop := ∀ j, i ≤ j → xs.getD j 0 = ys.getD j 0
theorem same_high {xs ys : List Nat} {n : Nat} (hx : ∀ j, n ≤ j → xs.getD j 0 = 0) (hy : ∀ j, n ≤ j → ys.getD j 0 = 0) : SameFrom xs ys n := fun j hj => by rw [hx j hj, hy j hj]
theorem same_down {xs ys : List Nat} {i : Nat} (h : SameFrom xs ys (i + 1)) (he : xs.getD i 0 = ys.getD i 0) : SameFrom xs ys i := fun j hj => by
  rcases Nat.eq_or_lt_of_le hj with h' | h'
  · rw [← h']; exact he
  · exact h j h'
theorem same_rest {xs ys : List Nat} {i : Nat} (h : SameFrom xs ys i) : ∃ T, binV xs = binV (xs.take i) + 2 ^ (32 * i) * T ∧ binV ys = binV (ys.take i) + 2 ^ (32 * i) * T := by
  have key : ∀ (as bs : List Nat), (∀ j, as.getD j 0 = bs.getD j 0) → binV as = binV bs := by
    intro as
    induction as with
    | nil =>
      intro bs hb
      have := binV_high (xs := bs) (n := 0) (fun j _ => (hb j).symm.trans (by simp))
      simpa [binV] using this
    | cons a l ih =>
      intro bs hb
      cases bs with
      | nil =>
        have := binV_high (xs := a :: l) (n := 0) (fun j _ => (hb j).trans (by simp))
        simpa [binV] using this.symm
      | cons b m =>
        have h0 := hb 0
        have h1 := ih m (fun j => by have := hb (j + 1); simpa using this)
        rw [binV, binV, h1]
        simp at h0
        omega
  refine ⟨binV (xs.drop i), binV_split xs i, ?_⟩
  rw [binV_split ys i, key (ys.drop i) (xs.drop i) (fun j => ?_)]
  have := h (i + j) (by omega)
  rw [List.getD_eq_getElem?_getD, List.getD_eq_getElem?_getD] at this ⊢
  rw [List.getElem?_drop, List.getElem?_drop]
  exact this.symm
theorem same_all {xs ys : List Nat} (h : SameFrom xs ys 0) : binV xs = binV ys := by
  obtain ⟨T, h1, h2⟩ := same_rest h
  simp [binV] at h1 h2
  rw [h1, h2]
theorem less_at {xs ys : List Nat} {i : Nat} (ox : BinOk xs) (h : SameFrom xs ys (i + 1)) (hl : xs.getD i 0 < ys.getD i 0) : binV xs < binV ys := by
  obtain ⟨T, h1, h2⟩ := same_rest h
  rw [binV_take] at h1 h2
  have a1 : binV (xs.take i) < 2 ^ (32 * i) := by
    have := binV_lt (xs := xs.take i) (fun x hx => ox x (List.mem_of_mem_take hx))
    have h3 : 2 ^ (32 * (xs.take i).length) ≤ 2 ^ (32 * i) := Nat.pow_le_pow_right (by decide) (by rw [List.length_take]; omega)
    omega
  have a2 : 2 ^ (32 * i) * (xs.getD i 0 + 1) ≤ 2 ^ (32 * i) * ys.getD i 0 := Nat.mul_le_mul_left _ hl
  rw [Nat.mul_add, Nat.mul_one] at a2
  generalize 2 ^ (32 * (i + 1)) * T = R at *
  omega

/-- bits, by the highest limb -/
theorem bits_top {xs : List Nat} {n k x : Nat} (h : LenOf xs (n + 1)) (ok : BinOk xs) (hx : xs.getD n 0 = x) (hk : k ≠ 0) (h1 : 2 ^ (k - 1) ≤ x) (h2 : x < 2 ^ k) : bitsN (binV xs) = 32 * n + k := by
  have hv := binV_high h.zero
  rw [binV_take, hx] at hv
  have a1 : binV (xs.take n) < 2 ^ (32 * n) := by
    have := binV_lt (xs := xs.take n) (fun x hx => ok x (List.mem_of_mem_take hx))
    have h3 : 2 ^ (32 * (xs.take n).length) ≤ 2 ^ (32 * n) := Nat.pow_le_pow_right (by decide) (by rw [List.length_take]; omega)
    omega
  refine bitsN_of (.inr ⟨by omega, ?_, ?_⟩)
  · rw [(by omega : 32 * n + k - 1 = 32 * n + (k - 1)), Nat.pow_add, ← hv]
    have : 2 ^ (32 * n) * 2 ^ (k - 1) ≤ 2 ^ (32 * n) * x := Nat.mul_le_mul_left _ h1
    omega
  · rw [Nat.pow_add, ← hv]
    have : 2 ^ (32 * n) * (x + 1) ≤ 2 ^ (32 * n) * 2 ^ k := Nat.mul_le_mul_left _ h2
    rw [Nat.mul_add, Nat.mul_one] at this
    omega
theorem bits_low {a b k : Nat} (h : bitsN (a * 2 ^ k) = b) (h0 : a ≠ 0) : bitsN a + k = b := by
  obtain ⟨h1, h2, h3⟩ := bitsN_spec h0
  rw [← h]
  refine (bitsN_of (.inr ⟨by omega, ?_, ?_⟩)).symm
  · rw [(by omega : bitsN a + k - 1 = bitsN a - 1 + k), Nat.pow_add]
    exact Nat.mul_le_mul_right _ h2
  · rw [Nat.pow_add]
    exact Nat.mul_lt_mul_of_pos_right h3 (Nat.two_pow_pos k)
theorem bits_le {a k : Nat} (h : a < 2 ^ k) : bitsN a ≤ k := by
  by_cases h0 : a = 0
  · unfold bitsN; rw [if_pos h0]; omega
  · obtain ⟨h1, h2, _⟩ := bitsN_spec h0
    rcases Nat.lt_or_ge k (bitsN a) with h' | h'
    · have : 2 ^ k ≤ 2 ^ (bitsN a - 1) := Nat.pow_le_pow_right (by decide) (by omega)
      omega
    · exact h'

end Go.Proofs.Ytfbdhafbpcpjlaa
