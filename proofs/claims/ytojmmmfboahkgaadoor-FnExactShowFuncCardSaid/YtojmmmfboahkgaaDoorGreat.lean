/-
  The walks of the specification's FiguresOk, of limbs and of their figures.
-/
import Derived.Test.YtojmmmfboahkgaaDoorBase
import Derived.Test.YtojmmmfboahkgaaDoorInfo
import Derived.Test.YtojmmmfboahkgaaDoorTxt
import Derived.Test.YtojmmmfboahkgaaDoorGreatB
import Derived.Deep.DeepCutAuto
namespace Go.Proofs.YtojmmmfboahkgaaDoor
open Go.RowKit
set_option linter.unusedVariables false

theorem size_list (s : ByteArray) : s.data.toList.length = s.size := (Lib.size_eq s).symm
theorem getD_first (s : ByteArray) (h : 0 < s.size) : s.data.toList.getD 0 0 = s[0] := by
  rw [List.getD_eq_getElem?_getD, List.getElem?_eq_getElem (by rw [size_list]; exact h)]
  rfl
theorem fo_size {s : ByteArray} (h : ¬(1 ≤ s.size ∧ s.size ≤ 800)) : figsOk s.data.toList = false := by
  unfold figsOk
  rw [size_list, decide_eq_false h]
  rfl
theorem fo_lead {s : ByteArray} (h : 1 < s.size) (h0 : (s[0]).toNat = 48) : figsOk s.data.toList = false := by
  unfold figsOk
  rw [size_list, getD_first s (by omega), decide_eq_false (by omega : ¬s.size ≤ 1), decide_eq_false (by omega : ¬(s[0]).toNat ≠ 48)]
  simp
theorem fo_bad {s : ByteArray} {k : Nat} (h : k < s.size) (hb : ¬(48 ≤ (s[k]).toNat ∧ (s[k]).toNat ≤ 57)) : figsOk s.data.toList = false := by
  have hm : s[k] ∈ s.data.toList := by
    have : s[k] = s.data.toList[k]'(by rw [size_list]; exact h) := rfl
    rw [this]; exact List.getElem_mem _
  have ha : (s.data.toList.all fun c => decide (48 ≤ c.toNat ∧ c.toNat ≤ 57)) = false := by
    rw [List.all_eq_false]
    exact ⟨_, hm, by simp only [decide_eq_true_eq]; exact hb⟩
  unfold figsOk
  rw [ha, Bool.and_false]
theorem fo_good {s : ByteArray} (h1 : 1 ≤ s.size) (h2 : s.size ≤ 800) (h3 : s.size ≤ 1 ∨ (s.data.toList.getD 0 0).toNat ≠ 48) (h4 : Figs s.data.toList) : figsOk s.data.toList = true := by
  have ha : (s.data.toList.all fun c => decide (48 ≤ c.toNat ∧ c.toNat ≤ 57)) = true := by
    rw [List.all_eq_true]
    intro c hc
    rw [decide_eq_true_eq]; exact h4 c hc
  unfold figsOk
  rw [ha, size_list, decide_eq_true ⟨h1, h2⟩, Bool.and_true, Bool.true_and]
  rcases h3 with h | h
  · rw [decide_eq_true h]; rfl
  · rw [decide_eq_true h, Bool.or_true]

set_option maxHeartbeats 400000 in
set_option maxRecDepth 100000 in
theorem l01In_any (x a b : Int) (w : World) :
    Calls Tryd.prog 13 #[.int .i64 x, .int .i64 a, .int .i64 b] w fun e w' => e = .returned (.bool (decide (a ≤ x) && decide (x ≤ b))) ∧ w = w' := by
  by_cases h1 : a ≤ x
  · by_cases h2 : x ≤ b
    · have e2 : decide (x ≤ b) = true := by simpa using h2
      go_enter Tryd.func13, Tryd.ntmps13
      go_wp2
      go_ret
      exact ⟨by rw [decide_eq_true h1, e2]; rfl, rfl⟩
    · have e2 : decide (x ≤ b) = false := by simpa using h2
      go_enter Tryd.func13, Tryd.ntmps13
      go_wp2
      go_ret
      exact ⟨rfl, rfl⟩
  · have e1 : decide (a ≤ x) = false := by simpa using h1
    go_enter Tryd.func13, Tryd.ntmps13
    go_wp2
    go_ret
    exact ⟨rfl, rfl⟩

end Go.Proofs.YtojmmmfboahkgaaDoor
