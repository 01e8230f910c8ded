/-
  The walks of the specification's figures of limbs: written, noughts ahead left out.
-/
import Derived.Test.YtdejncgnoadcjaaLimbMul
import Derived.Test.YtdejncgnoadcjaaLimbTxtB
namespace Go.Proofs.Ytdejncgnoadcjaa
open Go.RowKit
set_option linter.unusedVariables false

/-- figures as a text -/
def txt (l : List UInt8) : ByteArray := ⟨l.toArray⟩
theorem txt_data (l : List UInt8) : (txt l).data.toList = l := rfl
theorem txt_self (s : ByteArray) : txt s.data.toList = s := by
  apply ByteArray.ext
  simp [txt]
theorem txt_size (l : List UInt8) : (txt l).size = l.length := by rw [← size_list, txt_data]
theorem extract_tail (s : ByteArray) (k : Nat) : s.extract k s.size = txt (s.data.toList.drop k) := by
  rw [Lib.extract_eq, List.take_of_length_le (by rw [List.length_drop, size_list]; omega)]
  rfl

theorem trim_go {s : ByteArray} {k : Nat} (h : k + 1 < s.size) (hc : (s[k]'(by omega)).toNat = 48) : trimL (s.data.toList.drop k) = trimL (s.data.toList.drop (k + 1)) := by
  have h1 : s.data.toList.drop k = s[k] :: s.data.toList.drop (k + 1) := List.drop_eq_getElem_cons (by rw [size_list]; omega)
  have h2 : s.data.toList.drop (k + 1) = s[k + 1] :: s.data.toList.drop (k + 2) := List.drop_eq_getElem_cons (by rw [size_list]; omega)
  rw [h1, h2]
  simp [trimL, hc]
theorem trim_end {s : ByteArray} {k : Nat} (h : k < s.size) (hc : s.size ≤ k + 1 ∨ (s[k]).toNat ≠ 48) : trimL (s.data.toList.drop k) = s.data.toList.drop k := by
  have h1 : s.data.toList.drop k = s[k] :: s.data.toList.drop (k + 1) := List.drop_eq_getElem_cons (by rw [size_list]; omega)
  rw [h1]
  by_cases h2 : s.size ≤ k + 1
  · rw [List.drop_eq_nil_of_le (by rw [size_list]; omega)]
    rfl
  · have h3 : (s[k]).toNat ≠ 48 := by rcases hc with h' | h'; exact absurd h' h2; exact h'
    have h4 : s.data.toList.drop (k + 1) = s[k + 1] :: s.data.toList.drop (k + 2) := List.drop_eq_getElem_cons (by rw [size_list]; omega)
    rw [h4]
    simp [trimL, h3]

end Go.Proofs.Ytdejncgnoadcjaa
