/-
  The nearest number to a quotient of great numbers, and how it is found with so many bits; over no program.
-/
import Derived.Test.YtfbdhafbpcpjlaaMulB
namespace Go.Proofs.Ytfbdhafbpcpjlaa

/-- so many places are enough for every quotient here -/
def upK : Nat := 4000
theorem upK_eq : upK = 4000 := rfl
/-- the nearest number to a / b -/
def quoG (a b : Nat) : Nat := roundN (a * 2 ^ upK / b) (-(upK : Int)) (decide (a * 2 ^ upK % b ≠ 0))

theorem mark_scale {x c : Nat} (hc : c ≠ 0) : decide (x * c ≠ 0) = decide (x ≠ 0) := by
  rw [Bool.eq_iff_iff, decide_eq_true_iff, decide_eq_true_iff]
  simp only [ne_eq, Nat.mul_eq_zero, not_or]
  exact ⟨fun h => h.1, fun h => ⟨h, hc⟩⟩

/-- both sides times a number -/
theorem quoG_scale {a b c : Nat} (hc : c ≠ 0) : quoG (a * c) (b * c) = quoG a b := by
  unfold quoG
  have e1 : a * c * 2 ^ upK = a * 2 ^ upK * c := Nat.mul_right_comm _ _ _
  rw [e1, Nat.mul_div_mul_right _ _ (Nat.pos_of_ne_zero hc), Nat.mul_mod_mul_right, mark_scale hc]

theorem quoG_up {a b k : Nat} (hb : b ≠ 0) (h : 9007199254740992 ≤ a * 2 ^ k / b) (hk : k ≤ upK) : roundN (a * 2 ^ k / b) (-(k : Int)) (decide (a * 2 ^ k % b ≠ 0)) = quoG a b := by
  obtain ⟨d, hd⟩ : ∃ d, k + d = upK := ⟨upK - k, by omega⟩
  have q := quo_more (m := a) (n := b) (k := k) (d := d) (e := 0) hb h
  rw [hd, (by omega : (0 : Int) - (upK : Int) = -(upK : Int)), (by omega : (0 : Int) - (k : Int) = -(k : Int))] at q
  exact q.symm

theorem quoG_down {a b j : Nat} (hb : b ≠ 0) (h : 9007199254740992 ≤ a / (b * 2 ^ j)) : roundN (a / (b * 2 ^ j)) (j : Int) (decide (a % (b * 2 ^ j) ≠ 0)) = quoG a b := by
  have hp : (2 : Nat) ^ j ≠ 0 := Nat.pos_iff_ne_zero.mp (Nat.two_pow_pos j)
  have q := quo_more (m := a) (n := b * 2 ^ j) (k := 0) (d := upK + j) (e := (j : Int)) (Nat.mul_ne_zero hb hp) (by rw [Nat.pow_zero, Nat.mul_one]; exact h)
  rw [Nat.pow_zero, Nat.mul_one, Nat.zero_add, (by omega : (j : Int) - ((upK + j : Nat) : Int) = -(upK : Int)), (by omega : (j : Int) - ((0 : Nat) : Int) = (j : Int))] at q
  have e1 : a * 2 ^ (upK + j) = a * 2 ^ upK * 2 ^ j := by rw [Nat.pow_add, Nat.mul_assoc]
  rw [e1, Nat.mul_div_mul_right _ _ (Nat.two_pow_pos j), Nat.mul_mod_mul_right, mark_scale hp] at q
  exact q.symm

/-- how many binary figures there are -/
def bitsN (n : Nat) : Nat := if n = 0 then 0 else n.log2 + 1
theorem bitsN_of {n k : Nat} (h1 : n = 0 ∧ k = 0 ∨ (k ≠ 0 ∧ 2 ^ (k - 1) ≤ n ∧ n < 2 ^ k)) : bitsN n = k := by
  unfold bitsN
  rcases h1 with ⟨h1, h2⟩ | ⟨h1, h2, h3⟩
  · rw [if_pos h1, h2]
  · have h0 : n ≠ 0 := by
      have := Nat.two_pow_pos (k - 1)
      omega
    rw [if_neg h0, log2_of (k := k - 1) h2 (by rw [(by omega : k - 1 + 1 = k)]; exact h3)]
    omega
theorem bitsN_spec {n : Nat} (h : n ≠ 0) : bitsN n ≠ 0 ∧ 2 ^ (bitsN n - 1) ≤ n ∧ n < 2 ^ bitsN n := by
  unfold bitsN
  rw [if_neg h]
  refine ⟨by omega, ?_, ?_⟩
  · rw [Nat.add_sub_cancel]; exact Nat.log2_self_le h
  · exact Nat.lt_log2_self

/-- with the bits' numbers so far apart the quotient has 62 or 63 bits -/
theorem quo_bits {A B p q : Nat} (hA1 : 2 ^ (p - 1) ≤ A) (hA2 : A < 2 ^ p) (hB1 : 2 ^ (q - 1) ≤ B) (hB2 : B < 2 ^ q) (hq : q ≠ 0) (h : p = q + 62) : 2305843009213693952 ≤ A / B ∧ A / B < 9223372036854775808 := by
  subst h
  have hB0 : 0 < B := Nat.lt_of_lt_of_le (Nat.two_pow_pos _) hB1
  constructor
  · rw [Nat.le_div_iff_mul_le hB0]
    have e1 : 2 ^ (q + 62 - 1) = 2305843009213693952 * 2 ^ q := by rw [(by omega : q + 62 - 1 = 61 + q), Nat.pow_add]
    rw [e1] at hA1
    have : 2305843009213693952 * B ≤ 2305843009213693952 * 2 ^ q := Nat.mul_le_mul_left _ (Nat.le_of_lt hB2)
    omega
  · rw [Nat.div_lt_iff_lt_mul hB0]
    have e1 : 2 ^ (q + 62) = 9223372036854775808 * 2 ^ (q - 1) := by rw [(by omega : q + 62 = 63 + (q - 1)), Nat.pow_add]
    rw [e1] at hA2
    have : 9223372036854775808 * 2 ^ (q - 1) ≤ 9223372036854775808 * B := Nat.mul_le_mul_left _ hB1
    omega

/-- two numbers so brought up that their quotient has 62 or 63 bits -/
structure QuoRel (A B : Nat) (up : Int) (X Y : Nat) : Prop where
  x0 : X ≠ 0
  y0 : Y ≠ 0
  lo : 2305843009213693952 ≤ X / Y
  hi : X / Y < 9223372036854775808
  eq : roundN (X / Y) (-up) (decide (X % Y ≠ 0)) = quoG A B
theorem quoRel_up {A B k : Nat} (hA : A ≠ 0) (hB : B ≠ 0) (h : bitsN A + k = bitsN B + 62) (hk : k ≤ upK) : QuoRel A B (k : Int) (A * 2 ^ k) B := by
  obtain ⟨a1, a2, a3⟩ := bitsN_spec hA
  obtain ⟨b1, b2, b3⟩ := bitsN_spec hB
  have hp := Nat.two_pow_pos k
  obtain ⟨c1, c2⟩ := quo_bits (A := A * 2 ^ k) (B := B) (p := bitsN A + k) (q := bitsN B) (by rw [(by omega : bitsN A + k - 1 = bitsN A - 1 + k), Nat.pow_add]; exact Nat.mul_le_mul_right _ a2) (by rw [Nat.pow_add]; exact Nat.mul_lt_mul_of_pos_right a3 hp) b2 b3 b1 h
  exact ⟨Nat.mul_ne_zero hA (by omega), hB, c1, c2, quoG_up hB (by omega) hk⟩
theorem quoRel_down {A B j : Nat} (hA : A ≠ 0) (hB : B ≠ 0) (h : bitsN A = bitsN B + j + 62) : QuoRel A B (-(j : Int)) A (B * 2 ^ j) := by
  obtain ⟨a1, a2, a3⟩ := bitsN_spec hA
  obtain ⟨b1, b2, b3⟩ := bitsN_spec hB
  have hp := Nat.two_pow_pos j
  obtain ⟨c1, c2⟩ := quo_bits (A := A) (B := B * 2 ^ j) (p := bitsN A) (q := bitsN B + j) a2 a3 (by rw [(by omega : bitsN B + j - 1 = bitsN B - 1 + j), Nat.pow_add]; exact Nat.mul_le_mul_right _ b2) (by rw [Nat.pow_add]; exact Nat.mul_lt_mul_of_pos_right b3 hp) (by omega) h
  refine ⟨hA, Nat.mul_ne_zero hB (by omega), c1, c2, ?_⟩
  rw [Int.neg_neg]
  exact quoG_down hB (by omega)

end Go.Proofs.Ytfbdhafbpcpjlaa
