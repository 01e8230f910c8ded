/-
  Pieces of a text, as lists of bytes.
-/
import Derived.Test.YtojmmmfboahkgaaDoorBase
import Derived.Lib.Strings
namespace Go.Proofs.YtojmmmfboahkgaaDoor
open Go.RowKit

theorem take_snoc (s : ByteArray) (k : Nat) (h : k < s.size) : s.data.toList.take (k + 1) = s.data.toList.take k ++ [s[k]] := by
  rw [List.take_succ_eq_append_getElem (by rw [← Lib.size_eq]; exact h)]; rfl
theorem take_len (s : ByteArray) (k : Nat) (h : k ≤ s.size) : (s.data.toList.take k).length = k := by
  have : s.size = s.data.toList.length := Lib.size_eq s
  rw [List.length_take]; omega
theorem take_all (s : ByteArray) : s.data.toList.take s.size = s.data.toList := by rw [Lib.size_eq, List.take_length]

/-- the bytes of s from a on, up to b -/
def sl (s : ByteArray) (a b : Nat) : List UInt8 := (s.data.toList.drop a).take (b - a)

theorem sl_self (s : ByteArray) (a : Nat) : sl s a a = [] := by simp [sl]
theorem sl_length {s : ByteArray} {a b : Nat} (hb : b ≤ s.size) : (sl s a b).length = b - a := by
  have : s.size = s.data.toList.length := Lib.size_eq s
  simp only [sl, List.length_take, List.length_drop]; omega
theorem sl_snoc {s : ByteArray} {a i : Nat} (ha : a ≤ i) (h : i < s.size) : sl s a (i + 1) = sl s a i ++ [s[i]] := by
  have hl : s.size = s.data.toList.length := Lib.size_eq s
  unfold sl
  have e : i + 1 - a = (i - a) + 1 := by omega
  have hlt : i - a < (s.data.toList.drop a).length := by rw [List.length_drop]; omega
  rw [e, List.take_succ_eq_append_getElem hlt, List.getElem_drop]
  congr 2
  have e2 : a + (i - a) = i := by omega
  simp only [e2]
  rfl

end Go.Proofs.YtojmmmfboahkgaaDoor
