/-
  The walks of the specification's GreatAdd, GreatMul and GreatPower.
-/
import Derived.Test.YtdejncgnoadcjaaLimbPow
namespace Go.Proofs.Ytdejncgnoadcjaa
open Go.RowKit
set_option linter.unusedVariables false

/-- a great number as it is answered: its figures, and whether they are not too many -/
def greatS (n : Nat) : ByteArray := if (Lib.decDigits n).length ≤ 800 then txt (Lib.decDigits n) else ⟨#[]⟩
def greatB (n : Nat) : Bool := decide ((Lib.decDigits n).length ≤ 800)
/-- what is answered of two texts: the text, and whether there is one -/
def opS (f : Nat → Nat → Nat) (a b : ByteArray) : ByteArray := if figsOk a.data.toList = true ∧ figsOk b.data.toList = true then greatS (f (digV a.data.toList) (digV b.data.toList)) else ⟨#[]⟩
def opB (f : Nat → Nat → Nat) (a b : ByteArray) : Bool := if figsOk a.data.toList = true ∧ figsOk b.data.toList = true then greatB (f (digV a.data.toList) (digV b.data.toList)) else false
def powS (b n : Int) : ByteArray := if 2 ≤ b ∧ b ≤ 10 ∧ 0 ≤ n ∧ n ≤ 1100 then greatS (b.toNat ^ n.toNat) else ⟨#[]⟩
def powB (b n : Int) : Bool := if 2 ≤ b ∧ b ≤ 10 ∧ 0 ≤ n ∧ n ≤ 1100 then greatB (b.toNat ^ n.toNat) else false

theorem figsOk_size {s : ByteArray} (h : figsOk s.data.toList = true) : s.size ≤ 800 := by
  unfold figsOk at h
  simp only [Bool.and_eq_true, decide_eq_true_eq] at h
  rw [← size_list]; exact h.1.1.2

end Go.Proofs.Ytdejncgnoadcjaa
