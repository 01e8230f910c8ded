/-
  Check sums of 32 bits, over no program: halved bit by bit; one byte that is another makes another sum.
-/
import Derived.Test.YtgaphgejpnepfaaTxt
import Derived.Laws.BitsAllLaws
namespace Go.Proofs.Ytgaphgejpnepfaa
open Go.RowKit

def halfS (s : Nat) : Nat := if s % 2 = 1 then s / 2 ^^^ 3558460437 else s / 2
def halfs : Nat → Nat → Nat
  | 0, s => s
  | k + 1, s => halfs k (halfS s)
def sumByte (s : Nat) (c : UInt8) : Nat := halfs 8 (s ^^^ c.toNat)
def sumL (s : Nat) (l : List UInt8) : Nat := l.foldl sumByte s

theorem halfS_lt {s : Nat} (h : s < 4294967296) : halfS s < 4294967296 := by
  unfold halfS
  split
  · exact Nat.xor_lt_two_pow (n := 32) (by omega) (by decide)
  · omega
theorem halfs_lt (k : Nat) {s : Nat} (h : s < 4294967296) : halfs k s < 4294967296 := by
  induction k generalizing s with
  | zero => exact h
  | succ k ih => exact ih (halfS_lt h)
theorem xor_byte_lt {s : Nat} (c : UInt8) (h : s < 4294967296) : s ^^^ c.toNat < 4294967296 :=
  Nat.xor_lt_two_pow (n := 32) h (by have := c.toNat_lt; omega)
theorem sumByte_lt {s : Nat} (c : UInt8) (h : s < 4294967296) : sumByte s c < 4294967296 := halfs_lt 8 (xor_byte_lt c h)
theorem sumL_lt {s : Nat} (l : List UInt8) (h : s < 4294967296) : sumL s l < 4294967296 := by
  induction l generalizing s with
  | nil => exact h
  | cons c l ih => exact ih (sumByte_lt c h)
theorem sumL_append (s : Nat) (l r : List UInt8) : sumL s (l ++ r) = sumL (sumL s l) r := by simp [sumL]
theorem sumL_snoc (s : Nat) (l : List UInt8) (c : UInt8) : sumL s (l ++ [c]) = sumByte (sumL s l) c := by simp [sumL]

theorem xor_cancel {a b c : Nat} (h : a ^^^ c = b ^^^ c) : a = b := by
  have : (a ^^^ c) ^^^ c = (b ^^^ c) ^^^ c := by rw [h]
  simpa [Nat.xor_assoc] using this

/-- a sum that was odd has its highest bit, one that was even has not -/
theorem halfS_top {s : Nat} (h : s < 4294967296) : (halfS s).testBit 31 = decide (s % 2 = 1) := by
  have h2 : (s / 2).testBit 31 = false := Nat.testBit_lt_two_pow (by omega)
  unfold halfS
  split
  · next ho =>
    rw [Nat.testBit_xor, h2]
    simp [ho]
    decide
  · next ho => rw [h2]; simp [ho]
theorem halfS_inj {a b : Nat} (ha : a < 4294967296) (hb : b < 4294967296) (h : halfS a = halfS b) : a = b := by
  have ht : decide (a % 2 = 1) = decide (b % 2 = 1) := by rw [← halfS_top ha, ← halfS_top hb, h]
  have hp : a % 2 = 1 ↔ b % 2 = 1 := by simpa using ht
  unfold halfS at h
  by_cases ho : a % 2 = 1
  · rw [if_pos ho, if_pos (hp.1 ho)] at h
    have := xor_cancel h
    have := hp.1 ho
    omega
  · have hob : ¬b % 2 = 1 := fun x => ho (hp.2 x)
    rw [if_neg ho, if_neg hob] at h
    omega
theorem halfs_inj (k : Nat) {a b : Nat} (ha : a < 4294967296) (hb : b < 4294967296) (h : halfs k a = halfs k b) : a = b := by
  induction k generalizing a b with
  | zero => exact h
  | succ k ih => exact halfS_inj ha hb (ih (halfS_lt ha) (halfS_lt hb) h)
theorem sumByte_inj {a b : Nat} {c : UInt8} (ha : a < 4294967296) (hb : b < 4294967296) (h : sumByte a c = sumByte b c) : a = b :=
  xor_cancel (halfs_inj 8 (xor_byte_lt c ha) (xor_byte_lt c hb) h)
theorem sumByte_byte {a : Nat} {c d : UInt8} (ha : a < 4294967296) (h : sumByte a c = sumByte a d) : c = d := by
  have := halfs_inj 8 (xor_byte_lt c ha) (xor_byte_lt d ha) h
  rw [Nat.xor_comm a, Nat.xor_comm a] at this
  exact UInt8.toNat_inj.1 (xor_cancel this)
theorem sumL_inj {a b : Nat} (l : List UInt8) (ha : a < 4294967296) (hb : b < 4294967296) (h : sumL a l = sumL b l) : a = b := by
  induction l generalizing a b with
  | nil => exact h
  | cons c l ih => exact sumByte_inj ha hb (ih (sumByte_lt c ha) (sumByte_lt c hb) h)

/-- one byte that is another makes another sum -/
theorem sumL_turned {s : Nat} (l r : List UInt8) {c d : UInt8} (hs : s < 4294967296) (hcd : c ≠ d) : sumL s (l ++ c :: r) ≠ sumL s (l ++ d :: r) := by
  intro h
  rw [sumL_append, sumL_append] at h
  have h1 := sumL_lt l hs
  have h2 : sumL (sumByte (sumL s l) c) r = sumL (sumByte (sumL s l) d) r := h
  exact hcd (sumByte_byte h1 (sumL_inj r (sumByte_lt c h1) (sumByte_lt d h1) h2))

/-- the four bytes of a sum, the highest first -/
def fourB (x : Nat) : List Int := [((x / 16777216 : Nat) : Int), ((x / 65536 % 256 : Nat) : Int), ((x / 256 % 256 : Nat) : Int), ((x % 256 : Nat) : Int)]
theorem fourB_inj {a b : Nat} (ha : a < 4294967296) (hb : b < 4294967296) (h : fourB a = fourB b) : a = b := by
  simp only [fourB, List.cons.injEq, and_true, Int.ofNat_inj] at h
  omega

end Go.Proofs.Ytgaphgejpnepfaa
