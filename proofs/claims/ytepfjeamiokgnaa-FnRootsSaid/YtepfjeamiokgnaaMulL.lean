/-
  Products and quotients: from both sides, by 1, by the number itself, of whole numbers; over no program.
-/
import Derived.Test.YtepfjeamiokgnaaMulB
import Derived.Test.YtepfjeamiokgnaaAddL
namespace Go.Proofs.Ytepfjeamiokgnaa

theorem quoN_le (m n : Nat) (e : Int) : quoN m n e ≤ 9218868437227405312 := roundN_le _ _ _
theorem sign_lt {u : Nat} (b : Bool) (h : u ≤ 9218868437227405312) : signN b u < 18446744073709551616 := by
  unfold signN
  split <;> omega
theorem mulN_lt (a b : Nat) : mulN a b < 18446744073709551616 := by
  unfold mulN mulP
  split
  · decide
  · split
    · exact sign_lt _ (by omega)
    · split
      · exact sign_lt _ (by omega)
      · exact sign_lt _ (roundN_le _ _ _)
theorem divN_lt (a b : Nat) : divN a b < 18446744073709551616 := by
  unfold divN divP
  split
  · decide
  · split
    · exact sign_lt _ (by omega)
    · split
      · exact sign_lt _ (by omega)
      · exact sign_lt _ (quoN_le _ _ _)
theorem remN_lt {a b : Nat} (ha : a < 18446744073709551616) : remN a b < 18446744073709551616 := by
  unfold remN remP
  split
  · decide
  · split
    · exact ha
    · exact sign_lt _ (roundN_le _ _ _)

theorem mulN_comm (a b : Nat) : mulN a b = mulN b a := by
  have hs : (belowN b != belowN a) = (belowN a != belowN b) := by cases belowN a <;> cases belowN b <;> rfl
  unfold mulN mulP
  rw [Nat.mul_comm (mantN b), Int.add_comm (expN b), hs]
  generalize kindN a = p
  generalize kindN b = q
  have c1 : (q = 1 ∨ p = 1 ∨ (q = 2 ∧ p = 3) ∨ (q = 3 ∧ p = 2)) ↔ (p = 1 ∨ q = 1 ∨ (p = 2 ∧ q = 3) ∨ (p = 3 ∧ q = 2)) := by omega
  have c2 : (q = 2 ∨ p = 2) ↔ (p = 2 ∨ q = 2) := by omega
  have c3 : (q = 3 ∨ p = 3) ↔ (p = 3 ∨ q = 3) := by omega
  simp only [c1, c2, c3]

/-- the parts of a whole number -/
theorem parts_whole {n : Int} (h0 : n ≠ 0) (h1 : n.natAbs < 9007199254740992) : ∃ j : Nat, j ≤ 52 ∧ kindN (fromIntN n) = 4 ∧ belowN (fromIntN n) = decide (n < 0) ∧ mantN (fromIntN n) = n.natAbs * 2 ^ j ∧ expN (fromIntN n) = -(j : Int) := by
  obtain ⟨l, hl, hp1, hp2, hr, hlow, hhigh⟩ := round_whole (a := n.natAbs) (by omega) h1
  have hx : fromIntN n = signN (decide (n < 0)) (n.natAbs * 2 ^ (52 - l) + (l + 1022) * 4503599627370496) := by unfold fromIntN; rw [hr]
  obtain ⟨q, hq⟩ : ∃ q, n.natAbs * 2 ^ (52 - l) = q := ⟨_, rfl⟩
  rw [hq] at hx hlow hhigh
  have hb := sign_bits (decide (n < 0)) (q + (l + 1022) * 4503599627370496)
  rw [← hx] at hb
  have e1 : expBits (q + (l + 1022) * 4503599627370496) = l + 1023 := by unfold expBits; omega
  have e2 : fracBits (q + (l + 1022) * 4503599627370496) = q - 4503599627370496 := by unfold fracBits; omega
  rw [e1, e2] at hb
  have hk : kindN (fromIntN n) = 4 := by unfold kindN; rw [hb.1, hb.2, if_neg (by omega), if_neg (by omega)]
  refine ⟨52 - l, by omega, hk, ?_, ?_, ?_⟩
  · rw [belowN_of (by omega), hx]
    unfold signN
    by_cases hn : n < 0
    · simp [hn]
    · simp [hn]; omega
  · unfold mantN
    rw [if_pos hk, hb.1, hb.2, if_neg (by omega), hq]
    omega
  · unfold expN
    rw [if_pos hk, hb.1, if_neg (by omega)]
    omega

theorem fromInt_nil : fromIntN 0 = 0 := by rw [fromInt_Z]; rfl

theorem ne_false (b : Bool) : (b != false) = b := by cases b <;> rfl

theorem mul_one_is {a : Nat} (ha : a < 18446744073709551616) (hk : kindN a ≠ 1) : mulN a (fromIntN 1) = a := by
  obtain ⟨j, _, k1, k2, k3, k4⟩ := parts_whole (n := 1) (by decide) (by decide)
  have k2' : belowN (fromIntN 1) = false := by rw [k2]; rfl
  unfold mulN
  rw [k1, k2', k3, k4]
  unfold mulP
  rw [ne_false]
  have hc := kindN_cases a
  rw [if_neg (by omega)]
  by_cases h2 : kindN a = 2
  · rw [if_pos (.inl h2)]; exact (inf_bits ha h2).symm
  · rw [if_neg (by omega)]
    by_cases h3 : kindN a = 3
    · rw [if_pos (.inl h3)]; exact (zero_bits ha h3).symm
    · rw [if_neg (by omega)]
      have h4 : kindN a = 4 := by omega
      have e1 : (1 : Int).natAbs = 1 := rfl
      rw [e1, Nat.one_mul]
      have := roundN_times j (mantN a) (expN a) false
      rw [(by omega : expN a + -(j : Int) = expN a - j), this]
      exact round_parts false h4 ha

theorem pow_split {j : Nat} (h : j ≤ 52) (m : Nat) : m * 2 ^ 170 = 2 ^ j * (m * 2 ^ (170 - j)) := by
  rw [Nat.mul_left_comm, ← Nat.pow_add, (by omega : j + (170 - j) = 170)]

theorem div_one_is {a : Nat} (ha : a < 18446744073709551616) (hk : kindN a ≠ 1) : divN a (fromIntN 1) = a := by
  obtain ⟨j, hj, k1, k2, k3, k4⟩ := parts_whole (n := 1) (by decide) (by decide)
  have k2' : belowN (fromIntN 1) = false := by rw [k2]; rfl
  unfold divN
  rw [k1, k2', k3, k4]
  unfold divP
  rw [ne_false]
  have hc := kindN_cases a
  rw [if_neg (by omega)]
  by_cases h2 : kindN a = 2
  · rw [if_pos (.inl h2)]; exact (inf_bits ha h2).symm
  · rw [if_neg (by omega)]
    by_cases h3 : kindN a = 3
    · rw [if_pos (.inl h3)]; exact (zero_bits ha h3).symm
    · rw [if_neg (by omega)]
      have h4 : kindN a = 4 := by omega
      have e1 : (1 : Int).natAbs = 1 := rfl
      rw [e1, Nat.one_mul, quo_just (c := mantN a) (k := 170 - j) (by have := Nat.two_pow_pos j; omega) (pow_split hj _), (by omega : expN a - -(j : Int) - 170 + ((170 - j : Nat) : Int) = expN a)]
      exact round_parts false h4 ha

theorem quo_self {m : Nat} (h : m ≠ 0) : quoN m m 0 = roundN 1 0 false := by
  rw [quo_just (c := 1) (k := 170) h (by rw [Nat.one_mul])]
  rfl

theorem div_self_is {a : Nat} (h4 : kindN a = 4) : divN a a = fromIntN 1 := by
  have e : fromIntN 1 = signN false (roundN 1 0 false) := rfl
  have hs : (belowN a != belowN a) = false := by cases belowN a <;> rfl
  unfold divN divP
  rw [h4, if_neg (by omega), if_neg (by omega), if_neg (by omega), hs, (by omega : expN a - expN a = 0), quo_self (mantN_pos h4), e]

theorem div_neg_is {a : Nat} (ha : a < 18446744073709551616) (h4 : kindN a = 4) : divN (negN a) a = fromIntN (-1) := by
  have e : fromIntN (-1) = signN true (roundN 1 0 false) := rfl
  obtain ⟨n1, n2, n3, n4⟩ := neg_kind (x := a) (by omega) ha
  have hs : ((!belowN a) != belowN a) = true := by cases belowN a <;> rfl
  unfold divN
  rw [n1, n2, n3, n4]
  unfold divP
  rw [h4, if_neg (by omega), if_neg (by omega), if_neg (by omega), hs, (by omega : expN a - expN a = 0), quo_self (mantN_pos h4), e]

/-- a quotient of a product of whole numbers -/
theorem div_whole {a b : Int} (hb : 0 < b) (hb2 : b.natAbs < 9007199254740992) (hab : (a * b).natAbs < 9007199254740992) : divN (fromIntN (a * b)) (fromIntN b) = fromIntN a := by
  obtain ⟨j, hj, k1, k2, k3, k4⟩ := parts_whole (n := b) (by omega) hb2
  have k2' : belowN (fromIntN b) = false := by rw [k2]; simp; omega
  by_cases h0 : a = 0
  · subst h0
    rw [Int.zero_mul, fromInt_nil]
    unfold divN
    rw [k1, k2']
    have z1 : kindN 0 = 3 := by decide
    have z2 : belowN 0 = false := by decide
    rw [z1, z2]
    unfold divP
    rw [if_neg (by omega), if_neg (by omega), if_pos (.inl rfl)]
    rfl
  · have hab0 : a * b ≠ 0 := Int.mul_ne_zero h0 (by omega)
    obtain ⟨i, hi, c1, c2, c3, c4⟩ := parts_whole (n := a * b) hab0 hab
    have hm : (a * b).natAbs = a.natAbs * b.natAbs := Int.natAbs_mul a b
    have hsg : decide (a * b < 0) = decide (a < 0) := by
      rw [Bool.eq_iff_iff, decide_eq_true_iff, decide_eq_true_iff]
      constructor
      · intro h
        rcases Int.lt_or_le a 0 with h' | h'
        · exact h'
        · have := Int.mul_nonneg h' (Int.le_of_lt hb); omega
      · intro h; exact Int.mul_neg_of_neg_of_pos h hb
    unfold divN
    rw [k1, k2', k3, k4, c1, c2, c3, c4, hm]
    unfold divP
    rw [ne_false, if_neg (by omega), if_neg (by omega), if_neg (by omega), hsg]
    have hq := quo_scale (m := a.natAbs * b.natAbs) (n := b.natAbs) (u := i) (v := j) (e := 0) (by omega) (by omega) hb2 (by omega) (by omega)
    rw [(by omega : -(i : Int) - -(j : Int) = 0 - i + j), hq, quo_just (c := a.natAbs) (k := 170) (by omega) (by rw [Nat.mul_comm a.natAbs, Nat.mul_assoc])]
    rfl

/-- a rest of whole numbers -/
theorem rest_whole (m n i j : Nat) : restN (m * 2 ^ i) (-(i : Int)) (n * 2 ^ j) (-(j : Int)) = roundN (m % n) 0 false := by
  obtain ⟨s, hs⟩ : ∃ s : Nat, min (-(i : Int)) (-(j : Int)) = -(s : Int) := ⟨max i j, by omega⟩
  unfold restN
  rw [hs, Nat.mul_assoc, Nat.mul_assoc, ← Nat.pow_add, ← Nat.pow_add, (by omega : i + (-(i : Int) - -(s : Int)).toNat = s), (by omega : j + (-(j : Int) - -(s : Int)).toNat = s), Nat.mul_mod_mul_right]
  have := roundN_times s (m % n) 0 false
  rw [(by omega : (0 : Int) - s = -s)] at this
  exact this

theorem rem_whole {a b : Int} (hb : 0 < b) (hb2 : b.natAbs < 9007199254740992) (ha : a.natAbs < 9007199254740992) :
    remN (fromIntN a) (fromIntN b) = if a < 0 ∧ a.tmod b = 0 then 9223372036854775808 else fromIntN (a.tmod b) := by
  obtain ⟨j, hj, k1, k2, k3, k4⟩ := parts_whole (n := b) (by omega) hb2
  by_cases h0 : a = 0
  · subst h0
    rw [if_neg (by omega), Int.zero_tmod, fromInt_nil]
    have z1 : kindN 0 = 3 := by decide
    unfold remN
    rw [z1, k1]
    unfold remP
    rw [if_neg (by omega), if_pos (.inl rfl)]
  · obtain ⟨i, hi, c1, c2, c3, c4⟩ := parts_whole (n := a) h0 ha
    have hr : remN (fromIntN a) (fromIntN b) = signN (decide (a < 0)) (roundN (a.natAbs % b.natAbs) 0 false) := by
      unfold remN
      rw [k1, k3, k4, c1, c2, c3, c4]
      unfold remP
      rw [if_neg (by omega), if_neg (by omega), rest_whole]
    rw [hr]
    have hab : ((a.natAbs % b.natAbs : Nat) : Int) = (a.natAbs : Int) % b := by
      rw [Int.natCast_emod, (by omega : (b.natAbs : Int) = b)]
    by_cases hn : a < 0
    · have ht : a.tmod b = -((a.natAbs : Int) % b) := by
        have e1 : a = -(a.natAbs : Int) := by omega
        have e2 : (-(a.natAbs : Int)).tmod b = -((a.natAbs : Int).tmod b) := Int.neg_tmod _ _
        have e3 : ((a.natAbs : Int)).tmod b = (a.natAbs : Int) % b := Int.tmod_eq_emod_of_nonneg (by omega)
        rw [← e3, ← e2, ← e1]
      rw [decide_eq_true hn, ht, ← hab]
      by_cases hz : a.natAbs % b.natAbs = 0
      · rw [if_pos ⟨hn, by omega⟩, hz, roundN_nil]
        rfl
      · rw [if_neg (by omega)]
        unfold fromIntN
        rw [decide_eq_true (by omega : -((a.natAbs % b.natAbs : Nat) : Int) < 0), Int.natAbs_neg, Int.natAbs_natCast]
    · have ht : a.tmod b = (a.natAbs : Int) % b := by
        have e1 : a = (a.natAbs : Int) := by omega
        have e3 : ((a.natAbs : Int)).tmod b = (a.natAbs : Int) % b := Int.tmod_eq_emod_of_nonneg (by omega)
        rw [← e3, ← e1]
      rw [if_neg (by omega), decide_eq_false hn, ht, ← hab]
      unfold fromIntN
      rw [decide_eq_false (by omega), Int.natAbs_natCast]

end Go.Proofs.Ytepfjeamiokgnaa
