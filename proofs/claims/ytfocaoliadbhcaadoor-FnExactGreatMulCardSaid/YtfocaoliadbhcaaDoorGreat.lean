/-
  The walks of the specification's FiguresOk, of limbs and of their figures.
-/
import Derived.Test.YtfocaoliadbhcaaDoorBase
import Derived.Test.YtfocaoliadbhcaaDoorInfo
import Derived.Test.YtfocaoliadbhcaaDoorTxt
import Derived.Test.YtfocaoliadbhcaaDoorGreatB
import Derived.Deep.DeepCutAuto
namespace Go.Proofs.YtfocaoliadbhcaaDoor
open Go.RowKit
set_option linter.unusedVariables false

theorem size_list (s : ByteArray) : s.data.toList.length = s.size := (Lib.size_eq s).symm
theorem getD_first (s : ByteArray) (h : 0 < s.size) : s.data.toList.getD 0 0 = s[0] := by
  rw [List.getD_eq_getElem?_getD, List.getElem?_eq_getElem (by rw [size_list]; exact h)]
  rfl
theorem fo_size {s : ByteArray} (h : ¬(1 ≤ s.size ∧ s.size ≤ 800)) : figsOk s.data.toList = false := by
  unfold figsOk
  rw [size_list, decide_eq_false h]
  rfl
theorem fo_lead {s : ByteArray} (h : 1 < s.size) (h0 : (s[0]).toNat = 48) : figsOk s.data.toList = false := by
  unfold figsOk
  rw [size_list, getD_first s (by omega), decide_eq_false (by omega : ¬s.size ≤ 1), decide_eq_false (by omega : ¬(s[0]).toNat ≠ 48)]
  simp
theorem fo_bad {s : ByteArray} {k : Nat} (h : k < s.size) (hb : ¬(48 ≤ (s[k]).toNat ∧ (s[k]).toNat ≤ 57)) : figsOk s.data.toList = false := by
  have hm : s[k] ∈ s.data.toList := by
    have : s[k] = s.data.toList[k]'(by rw [size_list]; exact h) := rfl
    rw [this]; exact List.getElem_mem _
  have ha : (s.data.toList.all fun c => decide (48 ≤ c.toNat ∧ c.toNat ≤ 57)) = false := by
    rw [List.all_eq_false]
    exact ⟨_, hm, by simp only [decide_eq_true_eq]; exact hb⟩
  unfold figsOk
  rw [ha, Bool.and_false]
theorem fo_good {s : ByteArray} (h1 : 1 ≤ s.size) (h2 : s.size ≤ 800) (h3 : s.size ≤ 1 ∨ (s.data.toList.getD 0 0).toNat ≠ 48) (h4 : Figs s.data.toList) : figsOk s.data.toList = true := by
  have ha : (s.data.toList.all fun c => decide (48 ≤ c.toNat ∧ c.toNat ≤ 57)) = true := by
    rw [List.all_eq_true]
    intro c hc
    rw [decide_eq_true_eq]; exact h4 c hc
  unfold figsOk
  rw [ha, size_list, decide_eq_true ⟨h1, h2⟩, Bool.and_true, Bool.true_and]
  rcases h3 with h | h
  · rw [decide_eq_true h]; rfl
  · rw [decide_eq_true h, Bool.or_true]

set_option maxHeartbeats 400000 in
set_option maxRecDepth 100000 in
theorem l01In_any (x a b : Int) (w : World) :
    Calls Tryd.prog 43 #[.int .i64 x, .int .i64 a, .int .i64 b] w fun e w' => e = .returned (.bool (decide (a ≤ x) && decide (x ≤ b))) ∧ w = w' := by
  by_cases h1 : a ≤ x
  · by_cases h2 : x ≤ b
    · have e2 : decide (x ≤ b) = true := by simpa using h2
      go_enter Tryd.func43, Tryd.ntmps43
      go_wp2
      go_ret
      exact ⟨by rw [decide_eq_true h1, e2]; rfl, rfl⟩
    · have e2 : decide (x ≤ b) = false := by simpa using h2
      go_enter Tryd.func43, Tryd.ntmps43
      go_wp2
      go_ret
      exact ⟨rfl, rfl⟩
  · have e1 : decide (a ≤ x) = false := by simpa using h1
    go_enter Tryd.func43, Tryd.ntmps43
    go_wp2
    go_ret
    exact ⟨rfl, rfl⟩

set_option maxHeartbeats 1000000 in
set_option maxRecDepth 100000 in
theorem specFiguresOk_any (s : ByteArray) (w : World) :
    Calls Tryd.prog 23 #[.string s] w fun e w' => e = .returned (.bool (figsOk s.data.toList)) ∧ w = w' := by
  have cI := fun W => l01In_any (s.size : Int) 1 800 W
  obtain ⟨R, hR⟩ : ∃ R, figsOk s.data.toList = R := ⟨_, rfl⟩
  by_cases h1 : 1 ≤ s.size ∧ s.size ≤ 800
  · rw [decide_eq_true (by omega : (1 : Int) ≤ s.size), decide_eq_true (by omega : (s.size : Int) ≤ 800)] at cI
    by_cases h2 : 1 < s.size ∧ (s.data.toList.getD 0 0).toNat = 48
    · have h0 : (s[0]'(by omega)).toNat = 48 := by rw [← getD_first s (by omega)]; exact h2.2
      have HR : Hid (Unit → R = false) := fun _ => by rw [← hR]; exact fo_lead h2.1 h0
      have hz : 0 < s.size := by omega
      have h3 : (1 : Int) < s.size := by omega
      have h0' : ((s[0]'(by omega)).toNat : Int) = 48 := by omega
      rw [hR]
      clear hR h2 h1 h0
      go_enter Tryd.func23, Tryd.ntmps23
      go_wp2_with (go_at_call 43; refine (cI _).mono ?_; rintro e w' ⟨rfl, rfl⟩)
      go_ret
      exact ⟨by rw [HR.out ()]; rfl, rfl⟩
    · have HRR : Hid (figsOk s.data.toList = R) := hR
      have HG : Hid (s.size ≤ 1 ∨ (s.data.toList.getD 0 0).toNat ≠ 48) := by
        show s.size ≤ 1 ∨ (s.data.toList.getD 0 0).toNat ≠ 48
        omega
      rw [hR]
      clear hR
      by_cases hs1 : (1 : Int) < s.size
      · have h0 : (s[0]'(by omega)).toNat ≠ 48 := by rw [← getD_first s (by omega)]; exact fun h => h2 ⟨by omega, h⟩
        have hz : 0 < s.size := by omega
        have h0' : (((s[0]'(by omega)).toNat : Int) == 48) = false := by rw [beq_eq_false_iff_ne]; omega
        clear h2 h0
        go_enter Tryd.func23, Tryd.ntmps23
        go_upto_region 4 with (go_at_call 43; refine (cI _).mono ?_; rintro e w' ⟨rfl, rfl⟩)
        go_loop [3] (fun i => ∃ k : Nat, k ≤ s.size ∧ i = .int .i64 k ∧ Hid (Figs (s.data.toList.take k))) (fun i => s.size - (intOf i).toNat)
        case atStart => exact ⟨0, Nat.zero_le _, rfl, by rw [List.take_zero]; exact figs_nil⟩
        case round =>
          obtain ⟨k, hk, rfl, HK⟩ := hrel
          by_cases hlt : k < s.size
          · by_cases hc1 : ((s[k]).toNat : Int) < 48
            · have HR : Hid (Unit → R = false) := fun _ => by rw [← HRR.out]; exact fo_bad hlt (by omega)
              go_wp2
              go_ret
              exact ⟨by rw [HR.out ()]; rfl, rfl⟩
            · have hc1' : decide (((s[k]).toNat : Int) < 48) = false := by simp; omega
              by_cases hc2 : (57 : Int) < ((s[k]).toNat : Int)
              · have HR : Hid (Unit → R = false) := fun _ => by rw [← HRR.out]; exact fo_bad hlt (by omega)
                go_wp2
                go_ret
                exact ⟨by rw [HR.out ()]; rfl, rfl⟩
              · have hc2' : decide ((57 : Int) < ((s[k]).toNat : Int)) = false := by simp; omega
                have HN : Hid (Figs (s.data.toList.take (k + 1))) := by
                  show Figs _
                  rw [take_snoc s k hlt]
                  exact figs_snoc HK.out (by omega)
                go_wp2
                go_round
                case rel => exact ⟨k + 1, by omega, by go_num, HN⟩
                case measure => simp [intOf]; omega
          · have hkk : k = s.size := by omega
            have HR : Hid (Unit → R = true) := fun _ => by
              rw [← HRR.out]
              have h4 := HK.out
              rw [hkk, take_all] at h4
              exact fo_good h1.1 h1.2 HG.out h4
            go_wp2
            go_ret
            exact ⟨by rw [HR.out ()]; rfl, rfl⟩
      · have hs1' : decide ((1 : Int) < s.size) = false := by simp; omega
        clear h2
        go_enter Tryd.func23, Tryd.ntmps23
        go_upto_region 4 with (go_at_call 43; refine (cI _).mono ?_; rintro e w' ⟨rfl, rfl⟩)
        go_loop [3] (fun i => ∃ k : Nat, k ≤ s.size ∧ i = .int .i64 k ∧ Hid (Figs (s.data.toList.take k))) (fun i => s.size - (intOf i).toNat)
        case atStart => exact ⟨0, Nat.zero_le _, rfl, by rw [List.take_zero]; exact figs_nil⟩
        case round =>
          obtain ⟨k, hk, rfl, HK⟩ := hrel
          by_cases hlt : k < s.size
          · by_cases hc1 : ((s[k]).toNat : Int) < 48
            · have HR : Hid (Unit → R = false) := fun _ => by rw [← HRR.out]; exact fo_bad hlt (by omega)
              go_wp2
              go_ret
              exact ⟨by rw [HR.out ()]; rfl, rfl⟩
            · have hc1' : decide (((s[k]).toNat : Int) < 48) = false := by simp; omega
              by_cases hc2 : (57 : Int) < ((s[k]).toNat : Int)
              · have HR : Hid (Unit → R = false) := fun _ => by rw [← HRR.out]; exact fo_bad hlt (by omega)
                go_wp2
                go_ret
                exact ⟨by rw [HR.out ()]; rfl, rfl⟩
              · have hc2' : decide ((57 : Int) < ((s[k]).toNat : Int)) = false := by simp; omega
                have HN : Hid (Figs (s.data.toList.take (k + 1))) := by
                  show Figs _
                  rw [take_snoc s k hlt]
                  exact figs_snoc HK.out (by omega)
                go_wp2
                go_round
                case rel => exact ⟨k + 1, by omega, by go_num, HN⟩
                case measure => simp [intOf]; omega
          · have hkk : k = s.size := by omega
            have HR : Hid (Unit → R = true) := fun _ => by
              rw [← HRR.out]
              have h4 := HK.out
              rw [hkk, take_all] at h4
              exact fo_good h1.1 h1.2 HG.out h4
            go_wp2
            go_ret
            exact ⟨by rw [HR.out ()]; rfl, rfl⟩
  · have HR : Hid (Unit → R = false) := fun _ => by rw [← hR]; exact fo_size h1
    have e1 : (decide ((1 : Int) ≤ s.size) && decide ((s.size : Int) ≤ 800)) = false := by
      rw [Bool.and_eq_false_iff, decide_eq_false_iff_not, decide_eq_false_iff_not]; omega
    rw [e1] at cI
    rw [hR]
    clear hR h1 e1
    go_enter Tryd.func23, Tryd.ntmps23
    go_wp2_with (go_at_call 43; refine (cI _).mono ?_; rintro e w' ⟨rfl, rfl⟩)
    go_ret
    exact ⟨by rw [HR.out ()]; rfl, rfl⟩

end Go.Proofs.YtfocaoliadbhcaaDoor
