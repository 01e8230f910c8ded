/-
  What numbers in bits stand for, as whole numbers of the least step, and the order of them; sums that are just; over no program.
-/
import Derived.Test.YtlikjbklagolmaaDoorAddB
import Derived.Test.YtlikjbklagolmaaDoorWholeB
namespace Go.Proofs.YtlikjbklagolmaaDoor

/-- the size of a finite number by its bits without the sign, in steps of 2^-1074 -/
def sizeU (u : Nat) : Nat := if u < 4503599627370496 then u else (u % 4503599627370496 + 4503599627370496) * 2 ^ (u / 4503599627370496 - 1)

theorem sizeU_make {r t : Nat} (h : t = 0 ∨ 4503599627370496 ≤ r) (hr : r ≤ 9007199254740992) : sizeU (r + t * 4503599627370496) = r * 2 ^ t := by
  unfold sizeU
  by_cases h1 : r < 4503599627370496
  · have : t = 0 := by omega
    subst this
    rw [if_pos (by omega)]; simp
  · rw [if_neg (by omega)]
    by_cases h2 : r = 9007199254740992
    · subst h2
      have e1 : (9007199254740992 + t * 4503599627370496) % 4503599627370496 = 0 := by omega
      have e2 : (9007199254740992 + t * 4503599627370496) / 4503599627370496 - 1 = t + 1 := by omega
      rw [e1, e2, Nat.pow_succ]
      omega
    · have e1 : (r + t * 4503599627370496) % 4503599627370496 + 4503599627370496 = r := by omega
      have e2 : (r + t * 4503599627370496) / 4503599627370496 - 1 = t := by omega
      rw [e1, e2]

theorem sizeU_step (u : Nat) : sizeU u < sizeU (u + 1) := by
  by_cases h : u + 1 < 4503599627370496
  · unfold sizeU
    rw [if_pos (by omega), if_pos h]; omega
  · by_cases h2 : u < 4503599627370496
    · have : u = 4503599627370495 := by omega
      subst this
      decide
    · obtain ⟨t, f, hf, rfl⟩ : ∃ t f, f < 4503599627370496 ∧ u = (f + 4503599627370496) + t * 4503599627370496 := ⟨u / 4503599627370496 - 1, u % 4503599627370496, by omega, by omega⟩
      have e1 : f + 4503599627370496 + t * 4503599627370496 + 1 = (f + 1 + 4503599627370496) + t * 4503599627370496 := by omega
      rw [e1, sizeU_make (.inr (by omega)) (by omega), sizeU_make (.inr (by omega)) (by omega)]
      exact Nat.mul_lt_mul_of_pos_right (by omega) (Nat.two_pow_pos t)
theorem sizeU_lt {u v : Nat} (h : u < v) : sizeU u < sizeU v := by
  obtain ⟨n, rfl⟩ : ∃ n, v = u + n + 1 := ⟨v - u - 1, by omega⟩
  clear h
  induction n with
  | zero => exact sizeU_step u
  | succ n ih => exact Nat.lt_trans ih (sizeU_step _)
theorem sizeU_zero : sizeU 0 = 0 := by simp [sizeU]
theorem sizeU_inj {u v : Nat} (h : sizeU u = sizeU v) : u = v := by
  rcases Nat.lt_trichotomy u v with h1 | h1 | h1
  · have := sizeU_lt h1; omega
  · exact h1
  · have := sizeU_lt h1; omega

/-- the number that the bits stand for, in steps of 2^-1074 -/
def valN (x : Nat) : Int := if 9223372036854775808 ≤ x then -(sizeU (x - 9223372036854775808) : Int) else sizeU x

theorem valN_key {x y : Nat} : valN x < valN y ↔ keyN x < keyN y := by
  have L := @sizeU_lt
  have I := @sizeU_inj
  have Z := sizeU_zero
  unfold valN keyN
  by_cases hx : 9223372036854775808 ≤ x
  · rw [if_pos hx, if_pos hx]
    obtain ⟨u, rfl⟩ : ∃ u, x = u + 9223372036854775808 := ⟨x - 9223372036854775808, by omega⟩
    have eu : u + 9223372036854775808 - 9223372036854775808 = u := Nat.add_sub_cancel ..
    rw [eu]
    by_cases hy : 9223372036854775808 ≤ y
    · rw [if_pos hy, if_pos hy]
      obtain ⟨v, rfl⟩ : ∃ v, y = v + 9223372036854775808 := ⟨y - 9223372036854775808, by omega⟩
      have ev : v + 9223372036854775808 - 9223372036854775808 = v := Nat.add_sub_cancel ..
      rw [ev]
      rcases Nat.lt_trichotomy u v with h | h | h
      · have := L h; constructor <;> intro _ <;> omega
      · subst h; constructor <;> intro _ <;> omega
      · have := L h; constructor <;> intro _ <;> omega
    · rw [if_neg hy, if_neg hy]
      rcases Nat.lt_trichotomy 0 u with h | h | h
      · have := L h; constructor <;> intro _ <;> omega
      · subst h
        rw [Z]
        rcases Nat.lt_trichotomy 0 y with h | h | h
        · have := L h; constructor <;> intro _ <;> omega
        · subst h; rw [Z]; constructor <;> intro _ <;> omega
        · omega
      · omega
  · rw [if_neg hx, if_neg hx]
    by_cases hy : 9223372036854775808 ≤ y
    · rw [if_pos hy, if_pos hy]
      constructor <;> intro _ <;> omega
    · rw [if_neg hy, if_neg hy]
      rcases Nat.lt_trichotomy x y with h | h | h
      · have := L h; constructor <;> intro _ <;> omega
      · subst h; constructor <;> intro _ <;> omega
      · have := L h; constructor <;> intro _ <;> omega

/-- by the parts -/
theorem valN_parts {x : Nat} (h : kindN x = 4) (hx : x < 18446744073709551616) : valN x = sgnM (belowN x) (mantN x) * 2 ^ (expN x + 1074).toNat := by
  obtain ⟨b1, b2⟩ := bits_parts h hx
  have hn := mantN_norm h
  have hl := mantN_lt x
  have hE := expN_ge x
  obtain ⟨u, hu⟩ : ∃ u, mantN x + (expN x + 1074).toNat * 4503599627370496 = u := ⟨_, rfl⟩
  have hs : sizeU u = mantN x * 2 ^ (expN x + 1074).toNat := by rw [← hu]; exact sizeU_make (by omega) (by omega)
  rw [hu] at b1 b2
  unfold valN sgnM
  have hb := belowN_of (x := x) (by omega)
  by_cases hs2 : 9223372036854775808 ≤ x
  · rw [if_pos hs2]
    rw [hb, decide_eq_true hs2] at b1 ⊢
    have : x - 9223372036854775808 = u := by rw [← b1]; simp [signN]
    rw [this, hs, if_pos rfl]
    simp [Int.neg_mul]
  · rw [if_neg hs2]
    rw [hb, decide_eq_false hs2] at b1 ⊢
    have : x = u := by rw [← b1]; rfl
    rw [this] at hs ⊢
    rw [hs]
    simp
theorem valN_zero {x : Nat} (h : kindN x = 3) (hx : x < 18446744073709551616) : valN x = 0 := by
  have : x = 0 ∨ x = 9223372036854775808 := by
    unfold kindN expBits fracBits at h
    split at h
    · split at h <;> omega
    · split at h <;> omega
  rcases this with rfl | rfl <;> decide

end Go.Proofs.YtlikjbklagolmaaDoor
