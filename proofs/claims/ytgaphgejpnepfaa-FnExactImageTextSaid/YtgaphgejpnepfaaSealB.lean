/-
  A sealed text is unsealed as it was; with one byte that is another it is not; over no program.
-/
import Derived.Test.YtgaphgejpnepfaaSumB
namespace Go.Proofs.Ytgaphgejpnepfaa
open Go.RowKit

/-- the four bytes of a sum, as bytes -/
def four (x : Nat) : List UInt8 := (fourB x).map fun n => UInt8.ofNat n.toNat

theorem four_length (x : Nat) : (four x).length = 4 := rfl
theorem byte_inj {a b : Nat} (ha : a < 256) (hb : b < 256) (h : UInt8.ofNat a = UInt8.ofNat b) : a = b := by
  have := congrArg UInt8.toNat h
  simp only [UInt8.toNat_ofNat'] at this
  omega
theorem four_inj {a b : Nat} (ha : a < 4294967296) (hb : b < 4294967296) (h : four a = four b) : a = b := by
  unfold four fourB at h
  simp only [List.map_cons, List.map_nil, List.cons.injEq, and_true, Int.toNat_natCast] at h
  obtain ⟨h1, h2, h3, h4⟩ := h
  have e1 := byte_inj (by omega) (by omega) h1
  have e2 := byte_inj (by omega) (by omega) h2
  have e3 := byte_inj (by omega) (by omega) h3
  have e4 := byte_inj (by omega) (by omega) h4
  omega

/-- what lies ahead of the four last bytes, and whether they are its sum -/
theorem seal_list {t : ByteArray} {l f : List UInt8} (h : t.data.toList = l ++ f) (hf : f.length = 4) :
    (t.extract 0 (t.size - 4)).data.toList = l ∧ (t.extract (t.size - 4) t.size).toList = f := by
  have hs : t.size = l.length + 4 := by rw [Lib.size_eq, h, List.length_append, hf]
  constructor
  · rw [Lib.extract_data, h, hs]
    simp
  · rw [Lib.extract_toList, h, hs]
    simp
    rw [← hf, List.take_length]

/-- the list whose one byte is another has another sum, or another seal -/
theorem turned_list {l : List UInt8} {i : Nat} {c : UInt8} (hi : i < l.length + 4) (hc : (l ++ four (sumL 4294967295 l))[i]? ≠ some c) :
    ∃ l' f', (l ++ four (sumL 4294967295 l)).set i c = l' ++ f' ∧ f'.length = 4 ∧ f' ≠ four (sumL 4294967295 l') := by
  by_cases h : i < l.length
  · refine ⟨l.set i c, four (sumL 4294967295 l), List.set_append_left _ _ h, rfl, ?_⟩
    intro e
    have e2 := four_inj (sumL_lt _ (by decide)) (sumL_lt _ (by decide)) e
    rw [List.getElem?_append_left h, List.getElem?_eq_getElem h] at hc
    have hne : l[i] ≠ c := fun x => hc (by rw [x])
    have d1 : l = l.take i ++ l[i] :: l.drop (i + 1) := by simp
    have d2 : l.set i c = l.take i ++ c :: l.drop (i + 1) := by rw [List.set_eq_take_append_cons_drop, if_pos h]
    rw [d2] at e2
    exact sumL_turned (s := 4294967295) (l.take i) (l.drop (i + 1)) (by decide) hne (by rw [← d1]; exact e2)
  · refine ⟨l, (four (sumL 4294967295 l)).set (i - l.length) c, List.set_append_right _ _ (by omega), by simp [four_length], ?_⟩
    intro e
    have hj : i - l.length < (four (sumL 4294967295 l)).length := by rw [four_length]; omega
    have h1 : ((four (sumL 4294967295 l)).set (i - l.length) c)[i - l.length]? = some c := by rw [List.getElem?_set_self hj]
    rw [e] at h1
    rw [List.getElem?_append_right (by omega)] at hc
    exact hc h1

end Go.Proofs.Ytgaphgejpnepfaa
