/-
  The walks of the program's FiguresOk, bothOk, lesser and GreatLess.
-/
import Derived.Test.YtcabanghegddhaaGreatDoorGreatC
namespace Go.Proofs.YtcabanghegddhaaGreatDoor
open Go.RowKit
set_option linter.unusedVariables false

set_option maxHeartbeats 1000000 in
set_option maxRecDepth 100000 in
theorem okWalk (s : ByteArray) (w : World) :
    Calls Tryz.prog 73 #[.string s] w fun e w' => e = .returned (.bool (figsOk s.data.toList)) ∧ w = w' := by
  obtain ⟨R, hR⟩ : ∃ R, figsOk s.data.toList = R := ⟨_, rfl⟩
  by_cases hz : s.size = 0
  · have HR : Hid (Unit → R = false) := fun _ => by rw [← hR]; exact fo_size (by omega)
    have hz' : (s.size : Int) = 0 := by omega
    rw [hR]
    clear hR
    go_enter Tryz.func73, Tryz.ntmps73
    go_wp2
    go_ret
    exact ⟨by rw [HR.out ()]; rfl, rfl⟩
  have hz1 : ((s.size : Int) == 0) = false := by rw [beq_eq_false_iff_ne]; omega
  have hz2 : s.size ≠ 0 := hz
  by_cases hm : 800 < s.size
  · have HR : Hid (Unit → R = false) := fun _ => by rw [← hR]; exact fo_size (by omega)
    have hm' : (800 : Int) < s.size := by omega
    rw [hR]
    clear hR
    go_enter Tryz.func73, Tryz.ntmps73
    go_wp2
    go_ret
    exact ⟨by rw [HR.out ()]; rfl, rfl⟩
  have hm1 : decide ((800 : Int) < s.size) = false := by simp; omega
  have hp : 0 < s.size := by omega
  have hh := getD_first s hp
  by_cases h2 : (s[0]).toNat = 48 ∧ 1 < s.size
  · have h0' : ((s[0]'(by omega)).toNat : Int) = 48 := by omega
    have h3 : (1 : Int) < s.size := by omega
    have HR : Hid (Unit → R = false) := fun _ => by rw [← hR]; exact fo_lead h2.2 h2.1
    rw [hR]
    clear hR h2 hh
    go_enter Tryz.func73, Tryz.ntmps73
    go_wp2
    go_ret
    exact ⟨by rw [HR.out ()]; rfl, rfl⟩
  have HRR : Hid (figsOk s.data.toList = R) := hR
  have HG : Hid (s.size ≤ 1 ∨ (s.data.toList.getD 0 0).toNat ≠ 48) := by
    show s.size ≤ 1 ∨ (s.data.toList.getD 0 0).toNat ≠ 48
    rw [hh]; omega
  rw [hR]
  clear hR hh
  go_enter Tryz.func73, Tryz.ntmps73
  by_cases h0 : (s[0]).toNat = 48
  · have h0' : ((s[0]'(by omega)).toNat : Int) = 48 := by omega
    have h3 : decide ((1 : Int) < s.size) = false := by simp; omega
    clear h2
    go_upto_region 4 with fail
    go_loop [3] (fun i => ∃ k : Nat, k ≤ s.size ∧ i = .int .i64 k ∧ Hid (Figs (s.data.toList.take k))) (fun i => s.size - (intOf i).toNat)
    case atStart => exact ⟨0, Nat.zero_le _, rfl, by rw [List.take_zero]; exact figs_nil⟩
    case round =>
      obtain ⟨k, hk, rfl, HK⟩ := hrel
      by_cases hlt : k < s.size
      · by_cases hc1 : ((s[k]).toNat : Int) < 48
        · have HR : Hid (Unit → R = false) := fun _ => by rw [← HRR.out]; exact fo_bad hlt (by omega)
          go_wp2
          go_ret
          exact ⟨by rw [HR.out ()]; rfl, rfl⟩
        · have hc1' : decide (((s[k]).toNat : Int) < 48) = false := by simp; omega
          by_cases hc2 : (57 : Int) < ((s[k]).toNat : Int)
          · have HR : Hid (Unit → R = false) := fun _ => by rw [← HRR.out]; exact fo_bad hlt (by omega)
            go_wp2
            go_ret
            exact ⟨by rw [HR.out ()]; rfl, rfl⟩
          · have hc2' : decide ((57 : Int) < ((s[k]).toNat : Int)) = false := by simp; omega
            have HN : Hid (Figs (s.data.toList.take (k + 1))) := by
              show Figs _
              rw [take_snoc s k hlt]
              exact figs_snoc HK.out (by omega)
            go_wp2
            go_round
            case rel => exact ⟨k + 1, by omega, by go_num, HN⟩
            case measure => simp [intOf]; omega
      · have hkk : k = s.size := by omega
        have HR : Hid (Unit → R = true) := fun _ => by
          rw [← HRR.out]
          have h4 := HK.out
          rw [hkk, take_all] at h4
          exact fo_good (by omega) (by omega) HG.out h4
        go_wp2
        go_ret
        exact ⟨by rw [HR.out ()]; rfl, rfl⟩
  · have h0' : (((s[0]'(by omega)).toNat : Int) == 48) = false := by rw [beq_eq_false_iff_ne]; omega
    clear h2 h0
    go_upto_region 4 with fail
    go_loop [3] (fun i => ∃ k : Nat, k ≤ s.size ∧ i = .int .i64 k ∧ Hid (Figs (s.data.toList.take k))) (fun i => s.size - (intOf i).toNat)
    case atStart => exact ⟨0, Nat.zero_le _, rfl, by rw [List.take_zero]; exact figs_nil⟩
    case round =>
      obtain ⟨k, hk, rfl, HK⟩ := hrel
      by_cases hlt : k < s.size
      · by_cases hc1 : ((s[k]).toNat : Int) < 48
        · have HR : Hid (Unit → R = false) := fun _ => by rw [← HRR.out]; exact fo_bad hlt (by omega)
          go_wp2
          go_ret
          exact ⟨by rw [HR.out ()]; rfl, rfl⟩
        · have hc1' : decide (((s[k]).toNat : Int) < 48) = false := by simp; omega
          by_cases hc2 : (57 : Int) < ((s[k]).toNat : Int)
          · have HR : Hid (Unit → R = false) := fun _ => by rw [← HRR.out]; exact fo_bad hlt (by omega)
            go_wp2
            go_ret
            exact ⟨by rw [HR.out ()]; rfl, rfl⟩
          · have hc2' : decide ((57 : Int) < ((s[k]).toNat : Int)) = false := by simp; omega
            have HN : Hid (Figs (s.data.toList.take (k + 1))) := by
              show Figs _
              rw [take_snoc s k hlt]
              exact figs_snoc HK.out (by omega)
            go_wp2
            go_round
            case rel => exact ⟨k + 1, by omega, by go_num, HN⟩
            case measure => simp [intOf]; omega
      · have hkk : k = s.size := by omega
        have HR : Hid (Unit → R = true) := fun _ => by
          rw [← HRR.out]
          have h4 := HK.out
          rw [hkk, take_all] at h4
          exact fo_good (by omega) (by omega) HG.out h4
        go_wp2
        go_ret
        exact ⟨by rw [HR.out ()]; rfl, rfl⟩

theorem iFiguresOk (s : ByteArray) (w : World) (hs : s.size ≤ 1048576) :
    Calls Tryz.prog 73 #[.string s] w fun e w' => e = .returned (.bool (figsOk s.data.toList)) ∧ Below w.heap.size w w' :=
  (okWalk s w).mono fun e w' ⟨h1, h2⟩ => ⟨h1, by subst h2; exact Below.refl _ _⟩

end Go.Proofs.YtcabanghegddhaaGreatDoor
