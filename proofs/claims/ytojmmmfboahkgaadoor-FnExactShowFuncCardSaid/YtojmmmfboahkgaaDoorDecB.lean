/-
  Decimal figures, as plain functions.
-/
import Derived.Test.YtojmmmfboahkgaaDoorHexB
import Derived.Lib.ItoaNum
namespace Go.Proofs.YtojmmmfboahkgaaDoor
open Go.RowKit

/-- the figures of a number that is still to be written; none of 0 -/
def decMore (m : Nat) : List UInt8 := if m = 0 then [] else Lib.decDigits m
theorem decMore_zero : decMore 0 = [] := rfl
theorem decMore_step {m : Nat} (h : m ≠ 0) : decMore m = decMore (m / 10) ++ [UInt8.ofNat (48 + m % 10)] := by
  unfold decMore
  rw [if_neg h]
  by_cases h10 : m < 10
  · rw [Lib.decDigits, dif_pos h10, if_pos (by omega), show m % 10 = m by omega]; rfl
  · rw [Lib.decDigits, dif_neg h10, if_neg (by omega)]
theorem decMore_pos {m : Nat} (h : m ≠ 0) : decMore m = Lib.decDigits m := if_neg h

/-- u: the number; m: what is left; l: the figures that are written -/
def DecAt (u m : Nat) (l : List UInt8) : Prop := decMore m ++ l = Lib.decDigits u ∧ m ≤ u ∧ (1 ≤ m → 2 * l.length + m ≤ u) ∧ (m = 0 → 2 * l.length ≤ u + 1)
theorem decAt_first {u : Nat} (h : u ≠ 0) : DecAt u u [] := ⟨by rw [decMore_pos h, List.append_nil], Nat.le_refl _, fun _ => by simp, fun e => absurd e h⟩
theorem decAt_step {u m : Nat} {l : List UInt8} (hm : m ≠ 0) (h : DecAt u m l) : DecAt u (m / 10) (UInt8.ofNat (48 + m % 10) :: l) := by
  obtain ⟨h1, h2, h3, h4⟩ := h
  refine ⟨?_, by omega, fun _ => ?_, fun _ => ?_⟩
  · rw [← h1, decMore_step hm, List.append_assoc]; rfl
  · have := h3 (by omega)
    rw [List.length_cons]; omega
  · have := h3 (by omega)
    rw [List.length_cons]; omega
theorem decAt_len {u m : Nat} {l : List UInt8} (h : DecAt u m l) : 2 * l.length ≤ u + 1 := by
  obtain ⟨_, _, h3, h4⟩ := h
  by_cases e : m = 0
  · exact h4 e
  · have := h3 (by omega); omega
theorem decAt_last {u : Nat} {l : List UInt8} (h : DecAt u 0 l) : l = Lib.decDigits u := by
  have := h.1
  rwa [decMore_zero, List.nil_append] at this
theorem str_cons (a : Nat) (l : List UInt8) : strOfNums [(fig a : Int)] ++ (⟨l.toArray⟩ : ByteArray) = ⟨(UInt8.ofNat (fig a) :: l).toArray⟩ := by
  apply ByteArray.ext
  rw [ByteArray.data_append]
  simp [strOfNums]
theorem fig_small {a : Nat} (h : a < 10) : fig a = 48 + a := if_pos h

end Go.Proofs.YtojmmmfboahkgaaDoor
