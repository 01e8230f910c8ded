/-
  Several texts in one: Exact, ExactL.
-/
import Derived.Test.YtcabanghegddhaaGreatDoorGreatC
import Derived.Test.YtcabanghegddhaaGreatDoorFigA
import Derived.Test.YtcabanghegddhaaGreatDoorBitsA
import Derived.Test.YtcabanghegddhaaGreatDoorBaseA
namespace Go.Proofs.YtcabanghegddhaaGreatDoor
open Go.RowKit
set_option linter.unusedVariables false

def exactS (x : Nat) : ByteArray := if kindN x = 4 then txt (Lib.decDigits (exactF (mantN x) (expN x))) else ⟨#[]⟩
def exactE (x : Nat) : Int := if kindN x = 4 then exactX (mantN x) (expN x) else 0

/-- on the way: M is left, z noughts are off -/
structure StripAt (N M z : Nat) : Prop where
  ne : M ≠ 0
  eq : stripN N = ((stripN M).1, (stripN M).2 + z)
  len : z + (Lib.decDigits M).length ≤ (Lib.decDigits N).length
theorem stripAt_step {N M z : Nat} (h : StripAt N M z) (h10 : M % 10 = 0) : StripAt N (M / 10) (z + 1) := by
  have h0 := h.ne
  obtain ⟨l, l1, l2, l3⟩ := dec_last (M := M)
  refine ⟨by omega, ?_, ?_⟩
  · rw [h.eq, strip_more h0 h10]
    simp only [Prod.mk.injEq, true_and]
    omega
  · have := h.len
    rw [l1, l3 (by omega), List.length_append, List.length_singleton] at this
    omega

def sizeOfS : Value → Nat
  | .string s => s.size
  | _ => 0

theorem dec_low {n : Nat} (h : n ≠ 0) : 10 ^ (Lib.nDigits n - 1) ≤ n := by
  induction n using Nat.strongRecOn with
  | ind n ih =>
    by_cases h10 : n < 10
    · rw [Lib.nDigits_small h10]; simp; omega
    · rw [Lib.nDigits_big h10]
      have a := ih (n / 10) (by omega) (by omega)
      have b := Lib.nDigits_pos (n / 10)
      rw [(by omega : Lib.nDigits (n / 10) + 1 - 1 = (Lib.nDigits (n / 10) - 1) + 1), Nat.pow_succ]
      omega

theorem txt_get {l : List UInt8} {c : UInt8} {s : ByteArray} {k : Nat} (hs : s = txt (l ++ [c])) (hk : k = l.length) (h : k < s.size) : s[k] = c := by
  subst hs hk
  have : (txt (l ++ [c]))[l.length] = (l ++ [c])[l.length]'(by simp) := rfl
  rw [this]
  simp

end Go.Proofs.YtcabanghegddhaaGreatDoor

namespace Go.Proofs.YtcabanghegddhaaGreatDoor
open Go.RowKit

theorem strip_val {N : Nat} (h : N ≠ 0) : (stripN N).1 * 10 ^ (stripN N).2 = N ∧ (stripN N).1 % 10 ≠ 0 := by
  induction N using Nat.strongRecOn with
  | ind N ih =>
    by_cases h10 : N % 10 = 0
    · obtain ⟨a, b⟩ := ih (N / 10) (by omega) (by omega)
      rw [strip_more h h10]
      refine ⟨?_, b⟩
      show (stripN (N / 10)).1 * 10 ^ ((stripN (N / 10)).2 + 1) = N
      rw [Nat.pow_succ, ← Nat.mul_assoc, a]
      omega
    · rw [strip_done h10]
      exact ⟨by simp, h10⟩

theorem dec_len {n k : Nat} (hk : 1 ≤ k) (h : n < 10 ^ k) : (Lib.decDigits n).length ≤ k := by
  rw [Lib.decDigits_length]
  by_cases h0 : n = 0
  · subst h0
    rw [Lib.nDigits_small (by omega)]; exact hk
  · rcases Nat.lt_or_ge k (Lib.nDigits n) with h' | h'
    · have a := dec_low h0
      have b : 10 ^ k ≤ 10 ^ (Lib.nDigits n - 1) := Nat.pow_le_pow_right (by decide) (by omega)
      omega
    · exact h'

theorem figs_of_dec {n : Nat} (h : (Lib.decDigits n).length ≤ 800) : figsOk (Lib.decDigits n) = true := by
  obtain ⟨a, b, c⟩ := digV_dec n
  have hl : 1 ≤ (Lib.decDigits n).length := by
    rcases Nat.eq_zero_or_pos (Lib.decDigits n).length with h' | h'
    · exact absurd (List.eq_nil_of_length_eq_zero h') c
    · exact h'
  have ht := dec_trim _ b
  rw [a] at ht
  have hlead : (Lib.decDigits n).length ≤ 1 ∨ ((Lib.decDigits n).getD 0 0).toNat ≠ 48 := by
    revert ht hl
    generalize Lib.decDigits n = l
    intro hl ht
    match l, hl, ht with
    | [x], _, _ => left; simp
    | x :: y :: r, _, ht =>
      right
      intro hx
      have hx' : x.toNat = 48 := by simpa using hx
      have hlen : ∀ q : List UInt8, (trimL q).length ≤ max q.length 1 := by
        intro q
        induction q with
        | nil => simp [trimL]
        | cons p q ih =>
          cases q with
          | nil => simp [trimL]
          | cons p' q' =>
            simp only [trimL]
            split
            · simp only [List.length_cons] at ih ⊢
              omega
            · simp
      have h1 : trimL (x :: y :: r) = trimL (y :: r) := by simp [trimL, hx']
      rw [h1] at ht
      have h2 := hlen (y :: r)
      rw [← ht] at h2
      simp at h2
      omega
  have := fo_good (s := txt (Lib.decDigits n)) (by rw [txt_size]; exact hl) (by rw [txt_size]; exact h) (by rw [txt_size, txt_data]; exact hlead) (by rw [txt_data]; exact b)
  rw [txt_data] at this
  exact this

theorem mul_txt {A B C : Nat} (hA : A < 10 ^ 800) (hB : B < 10 ^ 800) (hC : A * B = C) (h : C < 10 ^ 800) : opS (· * ·) (txt (Lib.decDigits A)) (txt (Lib.decDigits B)) = txt (Lib.decDigits C) := by
  unfold opS
  rw [txt_data, txt_data, if_pos ⟨figs_of_dec (dec_len (by omega) hA), figs_of_dec (dec_len (by omega) hB)⟩, (digV_dec A).1, (digV_dec B).1]
  unfold greatS
  show (if (Lib.decDigits (A * B)).length ≤ 800 then txt (Lib.decDigits (A * B)) else ⟨#[]⟩) = _
  rw [hC, if_pos (dec_len (by omega) h)]
theorem pow_txt {b n P : Nat} (hb : 2 ≤ b ∧ b ≤ 10) (hn : n ≤ 1100) (hP : b ^ n = P) (h : P < 10 ^ 800) : powS b n = txt (Lib.decDigits P) := by
  unfold powS greatS
  rw [if_pos (by omega), Int.toNat_natCast, Int.toNat_natCast, hP, if_pos (dec_len (by omega) h)]

/-- what exact figures are worth -/
theorem exact_up {m k : Nat} (h0 : m ≠ 0) : ∃ X : Nat, exactX m k = X ∧ exactF m k * 10 ^ X = m * 2 ^ k ∧ exactF m k % 10 ≠ 0 := by
  have hN : exactN m k = m * 2 ^ k := by unfold exactN; rw [if_pos (by omega), Int.toNat_natCast]
  have hN0 : m * 2 ^ k ≠ 0 := Nat.mul_ne_zero h0 (by have := Nat.two_pow_pos k; omega)
  obtain ⟨a, b⟩ := strip_val hN0
  refine ⟨(stripN (m * 2 ^ k)).2, ?_, ?_, ?_⟩
  · unfold exactX; rw [hN, if_pos (by omega)]; omega
  · unfold exactF; rw [hN]; exact a
  · unfold exactF; rw [hN]; exact b
theorem exact_down {m k : Nat} (h0 : m ≠ 0) (hk : k ≠ 0) : ∃ z : Nat, exactX m (-(k : Int)) = z - k ∧ exactF m (-(k : Int)) * 10 ^ z = m * 5 ^ k ∧ exactF m (-(k : Int)) % 10 ≠ 0 := by
  have hN : exactN m (-(k : Int)) = m * 5 ^ k := by unfold exactN; rw [if_neg (by omega), Int.neg_neg, Int.toNat_natCast]
  have hN0 : m * 5 ^ k ≠ 0 := Nat.mul_ne_zero h0 (by have : 0 < 5 ^ k := Nat.pow_pos (by decide); omega)
  obtain ⟨a, b⟩ := strip_val hN0
  refine ⟨(stripN (m * 5 ^ k)).2, ?_, ?_, ?_⟩
  · unfold exactX; rw [hN, if_neg (by omega)]; omega
  · unfold exactF; rw [hN]; exact a
  · unfold exactF; rw [hN]; exact b

theorem ten_pow (k : Nat) : (10 : Nat) ^ k = 2 ^ k * 5 ^ k := by rw [← Nat.mul_pow]
theorem down_high {m k z X F : Nat} (h : F * 10 ^ z = m * 5 ^ k) (hz : z = X + k) : F * 10 ^ X * 2 ^ k = m := by
  subst hz
  rw [Nat.pow_add, ← Nat.mul_assoc, ten_pow k, ← Nat.mul_assoc] at h
  exact Nat.eq_of_mul_eq_mul_right (Nat.pow_pos (by decide)) h
theorem down_low {m k z Y F : Nat} (h : F * 10 ^ z = m * 5 ^ k) (hz : k = z + Y) : F * 2 ^ k = m * 10 ^ Y := by
  have h1 : F * 10 ^ z * 2 ^ k = m * 5 ^ k * 2 ^ k := by rw [h]
  rw [Nat.mul_assoc m, Nat.mul_comm (5 ^ k), ← ten_pow, hz, Nat.pow_add 10, Nat.mul_right_comm, ← hz, Nat.mul_comm (10 ^ z), ← Nat.mul_assoc m] at h1
  exact Nat.eq_of_mul_eq_mul_right (Nat.pow_pos (by decide)) h1

theorem pow_less {X n : Nat} (h : (10 : Nat) ^ X < 10 ^ n) : X < n := by
  rcases Nat.lt_or_ge X n with h' | h'
  · exact h'
  · have : (10 : Nat) ^ n ≤ 10 ^ X := Nat.pow_le_pow_right (by decide) h'
    omega
theorem pow_up {a n m : Nat} (h : a < 10 ^ n) (hnm : n ≤ m) : a < 10 ^ m := Nat.lt_of_lt_of_le h (Nat.pow_le_pow_right (by decide) hnm)
theorem huge_up : (2 : Nat) ^ 53 * 2 ^ 971 < 10 ^ 400 := by decide +kernel
theorem huge_down : (2 : Nat) ^ 53 * 5 ^ 1074 < 10 ^ 800 := by decide +kernel

theorem up_bound {m k : Nat} (hm : m < 9007199254740992) (hk : k ≤ 971) : m * 2 ^ k < 10 ^ 400 := by
  have a : m ≤ 2 ^ 53 := by omega
  exact Nat.lt_of_le_of_lt (Nat.mul_le_mul a (Nat.pow_le_pow_right (n := 2) (by decide) hk)) huge_up
theorem down_bound {m k : Nat} (hm : m < 9007199254740992) (hk : k ≤ 1074) : m * 5 ^ k < 10 ^ 800 := by
  have a : m ≤ 2 ^ 53 := by omega
  exact Nat.lt_of_le_of_lt (Nat.mul_le_mul a (Nat.pow_le_pow_right (n := 5) (by decide) hk)) huge_down

/-- how many figures, and where they stand -/
theorem exact_bounds {m : Nat} {e : Int} (h0 : m ≠ 0) (hm : m < 9007199254740992) (h1 : -1074 ≤ e) (h2 : e ≤ 971) : exactF m e < 10 ^ 800 ∧ exactX m e ≤ 400 ∧ -1074 ≤ exactX m e ∧ exactF m e % 10 ≠ 0 := by
  by_cases he : 0 ≤ e
  · obtain ⟨k, rfl⟩ : ∃ k : Nat, e = k := ⟨e.toNat, by omega⟩
    obtain ⟨X, a1, a2, a3⟩ := exact_up (k := k) h0
    have hk971 : k ≤ 971 := by omega
    have hF : 1 ≤ exactF m k := by omega
    have c2 : 1 * 10 ^ X ≤ exactF m k * 10 ^ X := Nat.mul_le_mul_right _ hF
    have c3 : exactF m k * 1 ≤ exactF m k * 10 ^ X := Nat.mul_le_mul_left _ (Nat.pow_pos (by decide))
    have c6 : 10 ^ X ≤ m * 2 ^ k := by omega
    have c7 : exactF m k ≤ m * 2 ^ k := by omega
    have c1 : m * 2 ^ k < 10 ^ 400 := up_bound hm hk971
    have c4 : X < 400 := pow_less (Nat.lt_of_le_of_lt c6 c1)
    refine ⟨pow_up (n := 400) (m := 800) (Nat.lt_of_le_of_lt c7 c1) (by decide), ?_, ?_, a3⟩
    · clear c1; omega
    · clear c1; omega
  · obtain ⟨k, hk⟩ : ∃ k : Nat, e = -(k : Int) := ⟨(-e).toNat, by omega⟩
    subst hk
    obtain ⟨z, a1, a2, a3⟩ := exact_down (k := k) h0 (by omega)
    have hF : 1 ≤ exactF m (-(k : Int)) := by omega
    have c3 : exactF m (-(k : Int)) * 1 ≤ exactF m (-(k : Int)) * 10 ^ z := Nat.mul_le_mul_left _ (Nat.pow_pos (by decide))
    have c8 : exactF m (-(k : Int)) ≤ m * 5 ^ k := by omega
    have c9 : -1074 ≤ exactX m (-(k : Int)) := by omega
    have hk1074 : k ≤ 1074 := by omega
    have c1 : m * 5 ^ k < 10 ^ 800 := down_bound hm hk1074
    refine ⟨?_, ?_, c9, a3⟩
    · exact Nat.lt_of_le_of_lt c8 c1
    · clear c1
      rcases Nat.lt_or_ge z k with h | h
      · omega
      · have hd := down_high (X := z - k) a2 (by omega)
        rcases Nat.lt_or_ge (z - k) 400 with h' | h'
        · omega
        · exfalso
          have q1 : (10 : Nat) ^ 16 ≤ 10 ^ (z - k) := Nat.pow_le_pow_right (by decide) (by omega)
          have q2 : 1 * 10 ^ (z - k) ≤ exactF m (-(k : Int)) * 10 ^ (z - k) := Nat.mul_le_mul_right _ hF
          have q3 : exactF m (-(k : Int)) * 10 ^ (z - k) * 1 ≤ exactF m (-(k : Int)) * 10 ^ (z - k) * 2 ^ k := Nat.mul_le_mul_left _ (Nat.two_pow_pos k)
          omega

theorem exact_same (x : Nat) : exactS (x % 9223372036854775808) = exactS x ∧ exactE (x % 9223372036854775808) = exactE x := by
  have e1 : expBits (x % 9223372036854775808) = expBits x := by unfold expBits; omega
  have e2 : fracBits (x % 9223372036854775808) = fracBits x := by unfold fracBits; omega
  have k : kindN (x % 9223372036854775808) = kindN x := by unfold kindN; rw [e1, e2]
  have m : mantN (x % 9223372036854775808) = mantN x := by unfold mantN; rw [k, e1, e2]
  have e : expN (x % 9223372036854775808) = expN x := by unfold expN; rw [k, e1]
  unfold exactS exactE
  rw [k, m, e]
  exact ⟨rfl, rfl⟩

theorem le_of_mul {a b c : Nat} (h : a * b = c) (hb : b ≠ 0) : a ≤ c := by
  have : a * 1 ≤ a * b := Nat.mul_le_mul_left _ (by omega)
  omega
theorem le_of_mul' {a b c : Nat} (h : a * b = c) (ha : a ≠ 0) : b ≤ c := le_of_mul (by rw [Nat.mul_comm]; exact h) ha
theorem small_mul {M n : Nat} (hM : M < 10 ^ 16) (hn : n ≤ 10 ^ 60) : M * n < 10 ^ 100 := by
  have h1 : M * n ≤ 10 ^ 16 * 10 ^ 60 := Nat.mul_le_mul (by omega) hn
  omega
theorem two_le_ten (k : Nat) : 2 ^ k ≤ 10 ^ k := Nat.pow_le_pow_left (by decide) k
theorem pow_ten_60 {k : Nat} (h : k ≤ 60) : 10 ^ k ≤ 10 ^ 60 := Nat.pow_le_pow_right (by decide) h

theorem texts_up {M j v F : Nat} (h0 : M ≠ 0) (hM : M < 10 ^ 16) (hj : j ≤ 60) (hv : v ≤ 1100) (h : F * 10 ^ v = M * 2 ^ j) :
    powS 10 v = txt (Lib.decDigits (10 ^ v)) ∧ opS (· * ·) (txt (Lib.decDigits F)) (txt (Lib.decDigits (10 ^ v))) = txt (Lib.decDigits (M * 2 ^ j)) ∧ powS 2 j = txt (Lib.decDigits (2 ^ j)) ∧ opS (· * ·) (txt (Lib.decDigits M)) (txt (Lib.decDigits (2 ^ j))) = txt (Lib.decDigits (M * 2 ^ j)) := by
  have hC : M * 2 ^ j < 10 ^ 100 := small_mul hM (Nat.le_trans (two_le_ten j) (pow_ten_60 hj))
  have hC0 : M * 2 ^ j ≠ 0 := Nat.mul_ne_zero h0 (by have := Nat.two_pow_pos j; omega)
  have hF0 : F ≠ 0 := fun e => by rw [e, Nat.zero_mul] at h; exact hC0 h.symm
  have hv0 : (10 : Nat) ^ v ≠ 0 := by have : 0 < 10 ^ v := Nat.pow_pos (by decide); omega
  have hj0 : (2 : Nat) ^ j ≠ 0 := by have := Nat.two_pow_pos j; omega
  have up : ∀ n, n ≤ M * 2 ^ j → n < 10 ^ 800 := fun n hn => pow_up (n := 100) (m := 800) (Nat.lt_of_le_of_lt hn hC) (by decide)
  have b1 := up _ (le_of_mul h hv0)
  have b2 := up _ (le_of_mul' h hF0)
  have b3 := up _ (Nat.le_refl _)
  have b4 := up _ (le_of_mul (a := M) rfl hj0)
  have b5 := up _ (le_of_mul' (b := 2 ^ j) rfl h0)
  exact ⟨pow_txt (b := 10) (by decide) hv rfl b2, mul_txt b1 b2 h b3, pow_txt (b := 2) (by decide) (Nat.le_trans hj (by decide)) rfl b5, mul_txt b4 b5 rfl b3⟩

theorem texts_high {M k v F : Nat} (h0 : M ≠ 0) (hM : M < 10 ^ 16) (hk : k ≤ 60) (hv : v ≤ 1100) (h : F * 10 ^ v * 2 ^ k = M) :
    powS 10 v = txt (Lib.decDigits (10 ^ v)) ∧ opS (· * ·) (txt (Lib.decDigits F)) (txt (Lib.decDigits (10 ^ v))) = txt (Lib.decDigits (F * 10 ^ v)) ∧ powS 2 k = txt (Lib.decDigits (2 ^ k)) ∧ opS (· * ·) (txt (Lib.decDigits (F * 10 ^ v))) (txt (Lib.decDigits (2 ^ k))) = txt (Lib.decDigits M) := by
  have hk0 : (2 : Nat) ^ k ≠ 0 := by have := Nat.two_pow_pos k; omega
  have hv0 : (10 : Nat) ^ v ≠ 0 := by have : 0 < 10 ^ v := Nat.pow_pos (by decide); omega
  have hG : F * 10 ^ v ≠ 0 := fun e => by rw [e, Nat.zero_mul] at h; exact h0 h.symm
  have hF0 : F ≠ 0 := fun e => by rw [e, Nat.zero_mul] at hG; exact hG rfl
  have up : ∀ n, n ≤ M → n < 10 ^ 800 := fun n hn => pow_up (n := 16) (m := 800) (Nat.lt_of_le_of_lt hn hM) (by decide)
  have a1 : F * 10 ^ v ≤ M := le_of_mul h hk0
  have b1 := up _ a1
  have b2 := up _ (le_of_mul' h hG)
  have b3 := up _ (Nat.le_refl _)
  have b4 := up _ (Nat.le_trans (le_of_mul (a := F) rfl hv0) a1)
  have b5 := up _ (Nat.le_trans (le_of_mul' (b := 10 ^ v) rfl hF0) a1)
  exact ⟨pow_txt (b := 10) (by decide) hv rfl b5, mul_txt b4 b5 rfl b1, pow_txt (b := 2) (by decide) (Nat.le_trans hk (by decide)) rfl b2, mul_txt b1 b2 h b3⟩

theorem texts_low {M k v F : Nat} (h0 : M ≠ 0) (hM : M < 10 ^ 16) (hk : k ≤ 60) (hv : v ≤ 60) (h : F * 2 ^ k = M * 10 ^ v) :
    powS 10 v = txt (Lib.decDigits (10 ^ v)) ∧ opS (· * ·) (txt (Lib.decDigits M)) (txt (Lib.decDigits (10 ^ v))) = txt (Lib.decDigits (M * 10 ^ v)) ∧ powS 2 k = txt (Lib.decDigits (2 ^ k)) ∧ opS (· * ·) (txt (Lib.decDigits F)) (txt (Lib.decDigits (2 ^ k))) = txt (Lib.decDigits (M * 10 ^ v)) := by
  have hC : M * 10 ^ v < 10 ^ 100 := small_mul hM (pow_ten_60 hv)
  have hv0 : (10 : Nat) ^ v ≠ 0 := by have : 0 < 10 ^ v := Nat.pow_pos (by decide); omega
  have hC0 : M * 10 ^ v ≠ 0 := Nat.mul_ne_zero h0 hv0
  have hF0 : F ≠ 0 := fun e => by rw [e, Nat.zero_mul] at h; exact hC0 h.symm
  have hk0 : (2 : Nat) ^ k ≠ 0 := by have := Nat.two_pow_pos k; omega
  have up : ∀ n, n ≤ M * 10 ^ v → n < 10 ^ 800 := fun n hn => pow_up (n := 100) (m := 800) (Nat.lt_of_le_of_lt hn hC) (by decide)
  have b1 := up _ (le_of_mul h hk0)
  have b2 := up _ (le_of_mul' h hF0)
  have b3 := up _ (Nat.le_refl _)
  have b4 := up _ (le_of_mul (a := M) rfl hv0)
  have b5 := up _ (le_of_mul' (b := 10 ^ v) rfl h0)
  exact ⟨pow_txt (b := 10) (by decide) (Nat.le_trans hv (by decide)) rfl b5, mul_txt b4 b5 rfl b3, pow_txt (b := 2) (by decide) (Nat.le_trans hk (by decide)) rfl b2, mul_txt b1 b2 h b3⟩

end Go.Proofs.YtcabanghegddhaaGreatDoor
