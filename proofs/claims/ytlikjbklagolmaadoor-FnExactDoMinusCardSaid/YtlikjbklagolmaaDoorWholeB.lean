/-
  Whole numbers as numbers in bits, and the order of numbers; over no program.
-/
import Derived.Test.YtlikjbklagolmaaDoorInts
import Derived.Test.YtlikjbklagolmaaDoorOrder
namespace Go.Proofs.YtlikjbklagolmaaDoor

/-- the bits of a whole number below 2^53 -/
theorem round_whole {a : Nat} (h0 : a ≠ 0) (h : a < 9007199254740992) : ∃ l : Nat, l ≤ 52 ∧ 2 ^ l ≤ a ∧ a < 2 ^ (l + 1) ∧ roundN a 0 false = a * 2 ^ (52 - l) + (l + 1022) * 4503599627370496 ∧ 4503599627370496 ≤ a * 2 ^ (52 - l) ∧ a * 2 ^ (52 - l) < 9007199254740992 := by
  obtain ⟨l, hl⟩ : ∃ l, a.log2 = l := ⟨_, rfl⟩
  have h1 : 2 ^ l ≤ a := by rw [← hl]; exact Nat.log2_self_le h0
  have h2 : a < 2 ^ (l + 1) := by rw [← hl]; exact Nat.lt_log2_self
  have h52 : l ≤ 52 := by
    rcases Nat.lt_or_ge 52 l with h' | h'
    · have : (2 : Nat) ^ 53 ≤ 2 ^ l := Nat.pow_le_pow_right (by decide) h'
      omega
    · exact h'
  have hp : (2 : Nat) ^ l * 2 ^ (52 - l) = 4503599627370496 := by rw [← Nat.pow_add, show l + (52 - l) = 52 by omega]
  have hlow : 4503599627370496 ≤ a * 2 ^ (52 - l) := by rw [← hp]; exact Nat.mul_le_mul_right _ h1
  have hhigh : a * 2 ^ (52 - l) < 9007199254740992 := by
    have : a * 2 ^ (52 - l) < 2 ^ (l + 1) * 2 ^ (52 - l) := Nat.mul_lt_mul_of_pos_right h2 (Nat.two_pow_pos _)
    rw [Nat.pow_succ, Nat.mul_assoc, Nat.mul_comm 2, ← Nat.mul_assoc, hp] at this
    omega
  refine ⟨l, h52, h1, h2, ?_, hlow, hhigh⟩
  have e : roundN (a * 2 ^ (52 - l)) (0 - ((52 - l : Nat) : Int)) false = roundN a 0 false := roundN_times (52 - l) a 0 false
  rw [← e, roundN_at (k := 0) false (by omega) (by omega) (by omega) (.inr (by omega)), rne_zero]
  have e2 : (0 - ((52 - l : Nat) : Int) + ((0 : Nat) : Int) + 1074).toNat = l + 1022 := by omega
  rw [e2]
  have : (l + 1022) * 4503599627370496 ≤ 1074 * 4503599627370496 := Nat.mul_le_mul_right _ (by omega)
  omega

/-- what the bits of a whole number say -/
structure Told (x : Nat) (n : Int) : Prop where
  lt : x < 18446744073709551616
  below : belowN x = decide (n < 0)
  whole : wholeN x = n.natAbs
  kind : kindN x = if n = 0 then 3 else 4

theorem sign_bits (b : Bool) (P : Nat) : expBits (signN b P) = expBits P ∧ fracBits (signN b P) = fracBits P := by
  unfold signN expBits fracBits
  cases b
  · simp
  · simp only [if_true]; omega

theorem sign_small (b : Bool) {P : Nat} (h : P < 9223372036854775808) : signN b P < 18446744073709551616 := by
  unfold signN
  split <;> omega

theorem told_of {n : Int} (h1 : -9007199254740992 < n) (h2 : n < 9007199254740992) : Told (fromIntN n) n := by
  by_cases h0 : n = 0
  · subst h0
    have e : fromIntN 0 = 0 := by decide
    rw [e]
    exact ⟨by decide, by decide, by decide, by decide⟩
  · obtain ⟨l, hl, hp1, hp2, hr, hlow, hhigh⟩ := round_whole (a := n.natAbs) (by omega) (by omega)
    have hx : fromIntN n = signN (decide (n < 0)) (n.natAbs * 2 ^ (52 - l) + (l + 1022) * 4503599627370496) := by unfold fromIntN; rw [hr]
    obtain ⟨q, hq⟩ : ∃ q, n.natAbs * 2 ^ (52 - l) = q := ⟨_, rfl⟩
    rw [hq] at hx hlow hhigh
    have hPlt : q + (l + 1022) * 4503599627370496 < 9223372036854775808 := by omega
    have hb := sign_bits (decide (n < 0)) (q + (l + 1022) * 4503599627370496)
    rw [← hx] at hb
    have he : expBits (fromIntN n) = l + 1023 := by rw [hb.1]; unfold expBits; omega
    have hf : fracBits (fromIntN n) = q - 4503599627370496 := by rw [hb.2]; unfold fracBits; omega
    have hk : kindN (fromIntN n) = 4 := by unfold kindN; rw [he, if_neg (by omega), if_neg (by omega)]
    have hm : mantN (fromIntN n) = q := by unfold mantN; rw [if_pos hk, he, if_neg (Nat.succ_ne_zero _), hf]; exact Nat.sub_add_cancel hlow
    have hex : expN (fromIntN n) = (l : Int) - 52 := by unfold expN; rw [if_pos hk, he, if_neg (by omega)]; omega
    refine ⟨?_, ?_, ?_, ?_⟩
    · rw [hx]; exact sign_small _ hPlt
    · rw [belowN_of (by omega), hx]
      unfold signN
      by_cases hn : n < 0
      · simp only [hn, decide_true, if_true]
        exact decide_eq_true (by omega)
      · simp only [hn, decide_false, Bool.false_eq_true, if_false]
        exact decide_eq_false (by omega)
    · unfold wholeN
      rw [hm, hex]
      clear hx hb he hf hk hm hex hr
      split
      · rw [show (-((l : Int) - 52)).toNat = 52 - l by omega, ← hq, Nat.mul_div_cancel _ (Nat.two_pow_pos _)]
      · have : l = 52 := by omega
        subst this
        rw [← hq]; simp
    · rw [hk, if_neg h0]

theorem told_trunc {x : Nat} {n : Int} (h : Told x n) (h1 : -9007199254740992 < n) (h2 : n < 9007199254740992) :
    (low32 (belowN x) (wholeN x) - n) % 4294967296 = 0 ∧ -2147483648 ≤ low32 (belowN x) (wholeN x) ∧ low32 (belowN x) (wholeN x) < 2147483648 := by
  rw [h.below, h.whole]
  unfold low32
  by_cases hn : n < 0
  · simp only [hn, decide_true, if_true]
    split <;> omega
  · simp only [hn, decide_false, Bool.false_eq_true, if_false]
    split <;> omega

theorem told_truthy {x : Nat} {n : Int} (h : Told x n) : truthyN x = decide (n ≠ 0) := by
  unfold truthyN
  rw [h.kind]
  by_cases h0 : n = 0
  · subst h0; rfl
  · rw [if_neg h0]; simp [h0]

/-- greater whole numbers have greater bits -/
theorem round_mono {a b : Nat} (hab : a < b) (hb : b < 9007199254740992) : roundN a 0 false < roundN b 0 false := by
  obtain ⟨lb, hlb, hb1, hb2, hrb, hblow, hbhigh⟩ := round_whole (a := b) (by omega) hb
  by_cases h0 : a = 0
  · subst h0
    rw [hrb]
    simp only [roundN, if_true]
    omega
  · obtain ⟨la, hla, ha1, ha2, hra, halow, hahigh⟩ := round_whole (a := a) h0 (by omega)
    rw [hra, hrb]
    by_cases hl : la = lb
    · subst hl
      have : a * 2 ^ (52 - la) < b * 2 ^ (52 - la) := Nat.mul_lt_mul_of_pos_right hab (Nat.two_pow_pos _)
      omega
    · have : la < lb := by
        rcases Nat.lt_or_ge la lb with h | h
        · exact h
        · have : (2 : Nat) ^ (lb + 1) ≤ 2 ^ la := Nat.pow_le_pow_right (by decide) (by omega)
          omega
      have h3 : (la + 1 + 1022) * 4503599627370496 ≤ (lb + 1022) * 4503599627370496 := Nat.mul_le_mul_right _ (by omega)
      omega

theorem key_whole {n : Int} : keyN (fromIntN n) = if n < 0 then -(roundN n.natAbs 0 false : Int) else roundN n.natAbs 0 false := by
  have hle := roundN_le n.natAbs 0 false
  unfold keyN fromIntN signN
  by_cases hn : n < 0
  · simp only [hn, decide_true, if_true]
    rw [if_pos (by omega)]
    omega
  · simp only [hn, decide_false, Bool.false_eq_true, if_false]
    rw [if_neg (by omega)]

theorem key_lt {n m : Int} (hn1 : -9007199254740992 < n) (hn2 : n < 9007199254740992) (hm1 : -9007199254740992 < m) (hm2 : m < 9007199254740992) (h : n < m) : keyN (fromIntN n) < keyN (fromIntN m) := by
  rw [key_whole, key_whole]
  by_cases h1 : n < 0
  · rw [if_pos h1]
    by_cases h2 : m < 0
    · rw [if_pos h2]
      have := round_mono (a := m.natAbs) (b := n.natAbs) (by omega) (by omega)
      omega
    · rw [if_neg h2]
      have h3 := round_mono (a := 0) (b := n.natAbs) (by omega) (by omega)
      omega
  · rw [if_neg h1, if_neg (by omega)]
    have := round_mono (a := n.natAbs) (b := m.natAbs) (by omega) (by omega)
    omega

theorem told_less {n m : Int} (hn1 : -9007199254740992 < n) (hn2 : n < 9007199254740992) (hm1 : -9007199254740992 < m) (hm2 : m < 9007199254740992) : lessN (fromIntN n) (fromIntN m) = decide (n < m) := by
  have k1 : kindN (fromIntN n) ≠ 1 := by rw [(told_of hn1 hn2).kind]; split <;> omega
  have k2 : kindN (fromIntN m) ≠ 1 := by rw [(told_of hm1 hm2).kind]; split <;> omega
  unfold lessN
  rw [decide_eq_decide]
  constructor
  · rintro ⟨-, -, h⟩
    rcases Int.lt_trichotomy n m with h' | h' | h'
    · exact h'
    · subst h'; omega
    · have := key_lt hm1 hm2 hn1 hn2 h'; omega
  · intro h
    exact ⟨k1, k2, key_lt hn1 hn2 hm1 hm2 h⟩

theorem told_equal {n m : Int} (hn1 : -9007199254740992 < n) (hn2 : n < 9007199254740992) (hm1 : -9007199254740992 < m) (hm2 : m < 9007199254740992) : equalN (fromIntN n) (fromIntN m) = decide (n = m) := by
  have k1 : kindN (fromIntN n) ≠ 1 := by rw [(told_of hn1 hn2).kind]; split <;> omega
  have k2 : kindN (fromIntN m) ≠ 1 := by rw [(told_of hm1 hm2).kind]; split <;> omega
  unfold equalN
  rw [decide_eq_decide]
  constructor
  · rintro ⟨-, -, h⟩
    rcases Int.lt_trichotomy n m with h' | h' | h'
    · have := key_lt hn1 hn2 hm1 hm2 h'; omega
    · exact h'
    · have := key_lt hm1 hm2 hn1 hn2 h'; omega
  · intro h
    subst h
    exact ⟨k1, k1, rfl⟩

/-- of two numbers that are none NaN just one of less, equal and greater is -/
theorem order_three (a b : Nat) : (kindN a = 1 ∨ kindN b = 1) ∧ lessN a b = false ∧ equalN a b = false ∧ lessN b a = false ∨
    (kindN a ≠ 1 ∧ kindN b ≠ 1) ∧ (lessN a b = true ∧ equalN a b = false ∧ lessN b a = false ∨ lessN a b = false ∧ equalN a b = true ∧ lessN b a = false ∨ lessN a b = false ∧ equalN a b = false ∧ lessN b a = true) := by
  unfold lessN equalN
  by_cases h : kindN a = 1 ∨ kindN b = 1
  · left
    refine ⟨h, decide_eq_false ?_, decide_eq_false ?_, decide_eq_false ?_⟩ <;> (rintro ⟨h1, h2, -⟩; rcases h with h | h <;> contradiction)
  · right
    have h1 : kindN a ≠ 1 := fun e => h (.inl e)
    have h2 : kindN b ≠ 1 := fun e => h (.inr e)
    refine ⟨⟨h1, h2⟩, ?_⟩
    rcases Int.lt_trichotomy (keyN a) (keyN b) with h' | h' | h'
    · exact .inl ⟨decide_eq_true ⟨h1, h2, h'⟩, decide_eq_false (fun x => by omega), decide_eq_false (fun x => by omega)⟩
    · exact .inr (.inl ⟨decide_eq_false (fun x => by omega), decide_eq_true ⟨h1, h2, h'⟩, decide_eq_false (fun x => by omega)⟩)
    · exact .inr (.inr ⟨decide_eq_false (fun x => by omega), decide_eq_false (fun x => by omega), decide_eq_true ⟨h2, h1, h'⟩⟩)

theorem less_trans {a b c : Nat} (h1 : lessN a b = true) (h2 : lessN b c = true) : lessN a c = true := by
  unfold lessN at *
  have h1 := of_decide_eq_true h1
  have h2 := of_decide_eq_true h2
  exact decide_eq_true ⟨h1.1, h2.2.1, by omega⟩

end Go.Proofs.YtlikjbklagolmaaDoor
