/-
  The walks of the specification's figures of limbs: written, noughts ahead left out.
-/
import Derived.Test.YtfocaoliadbhcaaDoorLimbMul
import Derived.Test.YtfocaoliadbhcaaDoorLimbTxtB
namespace Go.Proofs.YtfocaoliadbhcaaDoor
open Go.RowKit
set_option linter.unusedVariables false

/-- figures as a text -/
def txt (l : List UInt8) : ByteArray := ⟨l.toArray⟩
theorem txt_data (l : List UInt8) : (txt l).data.toList = l := rfl
theorem txt_self (s : ByteArray) : txt s.data.toList = s := by
  apply ByteArray.ext
  simp [txt]
theorem txt_size (l : List UInt8) : (txt l).size = l.length := by rw [← size_list, txt_data]
theorem extract_tail (s : ByteArray) (k : Nat) : s.extract k s.size = txt (s.data.toList.drop k) := by
  rw [Lib.extract_eq, List.take_of_length_le (by rw [List.length_drop, size_list]; omega)]
  rfl

theorem trim_go {s : ByteArray} {k : Nat} (h : k + 1 < s.size) (hc : (s[k]'(by omega)).toNat = 48) : trimL (s.data.toList.drop k) = trimL (s.data.toList.drop (k + 1)) := by
  have h1 : s.data.toList.drop k = s[k] :: s.data.toList.drop (k + 1) := List.drop_eq_getElem_cons (by rw [size_list]; omega)
  have h2 : s.data.toList.drop (k + 1) = s[k + 1] :: s.data.toList.drop (k + 2) := List.drop_eq_getElem_cons (by rw [size_list]; omega)
  rw [h1, h2]
  simp [trimL, hc]
theorem trim_end {s : ByteArray} {k : Nat} (h : k < s.size) (hc : s.size ≤ k + 1 ∨ (s[k]).toNat ≠ 48) : trimL (s.data.toList.drop k) = s.data.toList.drop k := by
  have h1 : s.data.toList.drop k = s[k] :: s.data.toList.drop (k + 1) := List.drop_eq_getElem_cons (by rw [size_list]; omega)
  rw [h1]
  by_cases h2 : s.size ≤ k + 1
  · rw [List.drop_eq_nil_of_le (by rw [size_list]; omega)]
    rfl
  · have h3 : (s[k]).toNat ≠ 48 := by rcases hc with h' | h'; exact absurd h' h2; exact h'
    have h4 : s.data.toList.drop (k + 1) = s[k + 1] :: s.data.toList.drop (k + 2) := List.drop_eq_getElem_cons (by rw [size_list]; omega)
    rw [h4]
    simp [trimL, h3]

set_option maxHeartbeats 1000000 in
set_option maxRecDepth 100000 in
theorem l06Trim_any (s : ByteArray) (w : World) (hs : s.size ≤ 10000000) :
    Calls Tryd.prog 53 #[.string s] w fun e w' => e = .returned (.string (txt (trimL s.data.toList))) ∧ w = w' := by
  obtain ⟨R, hR⟩ : ∃ R, txt (trimL s.data.toList) = R := ⟨_, rfl⟩
  have HR : Hid (txt (trimL s.data.toList) = R) := hR
  rw [hR]
  clear hR
  go_enter Tryd.func53, Tryd.ntmps53
  go_upto_region 2 with fail
  go_loop [3] (fun x => ∃ k : Nat, x = .int .i64 k ∧ k ≤ s.size ∧ (k < s.size ∨ s.size = 0) ∧ Hid (trimL (s.data.toList.drop k) = trimL s.data.toList)) (fun x => s.size - (intOf x).toNat)
  case atStart => exact ⟨0, rfl, by omega, by omega, by rw [List.drop_zero]; exact rfl⟩
  case round =>
    obtain ⟨k, rfl, hk, hk2, HK⟩ := hrel
    by_cases h1 : (k : Int) + 1 < s.size
    · have hks : k < s.size := by omega
      by_cases h2 : (s[k]).toNat = 48
      · have h2' : ((s[k]).toNat : Int) = 48 := by omega
        have HN : Hid (trimL (s.data.toList.drop (k + 1)) = trimL s.data.toList) := by
          show _ = _
          rw [← trim_go (by omega) h2]; exact HK.out
        go_wp2
        go_round
        case rel => exact ⟨k + 1, by go_num, by omega, by omega, HN⟩
        case measure => simp [intOf]; omega
      · have h2' : (((s[k]).toNat : Int) == 48) = false := by rw [beq_eq_false_iff_ne]; omega
        have HE : Hid (s.extract k s.size = R) := by
          show _ = _
          rw [extract_tail, ← trim_end hks (.inr h2), HK.out]; exact HR.out
        have hz : ((s.size : Int) == 0) = false := by rw [beq_eq_false_iff_ne]; omega
        have hz2 : s.size ≠ 0 := by omega
        go_wp2
        go_ret
        exact ⟨by rw [← HE.out]; rfl, rfl⟩
    · have h1' : decide ((k : Int) + 1 < s.size) = false := by simp; omega
      by_cases h0 : s.size = 0
      · have HE : Hid (R = ⟨#[48]⟩) := by
          show _ = _
          rw [← HR.out]
          have : s.data.toList = [] := List.eq_nil_of_length_eq_zero (by rw [size_list]; exact h0)
          rw [this]; rfl
        go_wp2
        go_ret
        exact ⟨by rw [HE.out]; rfl, rfl⟩
      · have hks : k < s.size := by omega
        have HE : Hid (s.extract k s.size = R) := by
          show _ = _
          rw [extract_tail, ← trim_end hks (.inl (by omega)), HK.out]; exact HR.out
        have hz : ((s.size : Int) == 0) = false := by rw [beq_eq_false_iff_ne]; omega
        go_wp2
        go_ret
        exact ⟨by rw [← HE.out]; rfl, rfl⟩

end Go.Proofs.YtfocaoliadbhcaaDoor
