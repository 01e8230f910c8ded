/-
  What reading figures of sixteen answers, as plain functions.
-/
import Derived.Test.YtemgbffdllhhfaaDoorHexB
namespace Go.Proofs.YtemgbffdllhhfaaDoor
open Go.RowKit

def hv (x : Nat) : Int := if 48 ≤ x ∧ x ≤ 57 then (x : Int) - 48 else if 97 ≤ x ∧ x ≤ 102 then (x : Int) - 87 else -1
theorem hv_dig {x : Nat} (h1 : 48 ≤ x) (h2 : x ≤ 57) : hv x = (x : Int) - 48 := if_pos ⟨h1, h2⟩
theorem hv_low {x : Nat} (h1 : 97 ≤ x) (h2 : x ≤ 102) : hv x = (x : Int) - 87 := by unfold hv; rw [if_neg (by omega), if_pos ⟨h1, h2⟩]
theorem hv_none {x : Nat} (h1 : ¬ (48 ≤ x ∧ x ≤ 57)) (h2 : ¬ (97 ≤ x ∧ x ≤ 102)) : hv x = -1 := by unfold hv; rw [if_neg h1, if_neg h2]
theorem hv_bd (x : Nat) : -1 ≤ hv x ∧ hv x ≤ 15 := by
  by_cases h1 : 48 ≤ x ∧ x ≤ 57
  · rw [hv_dig h1.1 h1.2]; omega
  · by_cases h2 : 97 ≤ x ∧ x ≤ 102
    · rw [hv_low h2.1 h2.2]; omega
    · rw [hv_none h1 h2]; omega

def okH (c : UInt8) : Bool := decide (0 ≤ hv c.toNat)

def pairsH : List UInt8 → List Int
  | a :: b :: r => (16 * hv a.toNat + hv b.toNat) :: pairsH r
  | _ => []

theorem pairsH_snoc : ∀ (l : List UInt8) (a b : UInt8), l.length % 2 = 0 → pairsH (l ++ [a, b]) = pairsH l ++ [16 * hv a.toNat + hv b.toNat]
  | [], a, b, _ => rfl
  | [x], a, b, h => by simp at h
  | x :: y :: r, a, b, h => by
    have := pairsH_snoc r a b (by simp only [List.length_cons] at h; omega)
    simp only [List.cons_append, pairsH, this]

def unOut (s : ByteArray) : Value := if s.data.toList.all okH = true then .tuple #[.string (strOfNums (pairsH s.data.toList)), .bool true] else .tuple #[.string ⟨#[]⟩, .bool false]
theorem unOut_yes {s : ByteArray} (h : s.data.toList.all okH = true) : unOut s = .tuple #[.string (strOfNums (pairsH s.data.toList)), .bool true] := if_pos h
theorem unOut_no {s : ByteArray} (h : ¬ s.data.toList.all okH = true) : unOut s = .tuple #[.string ⟨#[]⟩, .bool false] := if_neg h
theorem unOut_bad {s : ByteArray} {i : Nat} (hi : i < s.size) (h : hv (s[i]).toNat < 0) : unOut s = .tuple #[.string ⟨#[]⟩, .bool false] := by
  refine unOut_no fun hall => ?_
  have := List.all_eq_true.1 hall (s[i]) (by
    have hl : i < s.data.toList.length := by rw [← Lib.size_eq]; exact hi
    exact List.getElem_mem hl)
  simp only [okH, decide_eq_true_eq] at this
  omega
theorem all_snoc (s : ByteArray) (k : Nat) (h : k < s.size) (ha : (s.data.toList.take k).all okH = true) (hb : 0 ≤ hv (s[k]).toNat) : (s.data.toList.take (k + 1)).all okH = true := by
  rw [take_snoc s k h, List.all_append, ha]
  simp [okH, hb]

end Go.Proofs.YtemgbffdllhhfaaDoor
