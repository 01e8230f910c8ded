/-
  The walks of Unhex.
-/
import Derived.Test.YtemgbffdllhhfaiHex
import Derived.Test.YtemgbffdllhhfaiUnhexB
namespace Go.Proofs.Ytemgbffdllhhfai
open Go.RowKit
set_option linter.unusedVariables false

set_option maxHeartbeats 400000 in
set_option maxRecDepth 100000 in
theorem l01Value_any (x : Nat) (w : World) (h : x < 256) :
    Calls Try.prog 13 #[.int .u8 x] w fun e w' => e = .returned (.int .i64 (hv x)) ∧ w = w' := by
  by_cases h1 : 48 ≤ x
  · by_cases h2 : x ≤ 57
    · have E : Hid (hv x = (x : Int) - 48) := hv_dig h1 h2
      go_enter Try.func13, Try.ntmps13
      go_wp2
      go_ret
      exact ⟨ret_int (by rw [E.out]), rfl⟩
    · by_cases h3 : 97 ≤ x
      · by_cases h4 : x ≤ 102
        · have E : Hid (hv x = (x : Int) - 87) := hv_low h3 h4
          have d2 : decide ((x : Int) ≤ 57) = false := by simp; omega
          go_enter Try.func13, Try.ntmps13
          go_wp2
          go_ret
          exact ⟨ret_int (by rw [E.out]; omega), rfl⟩
        · have E : Hid (hv x = -1) := hv_none (by omega) (by omega)
          have d2 : decide ((x : Int) ≤ 57) = false := by simp; omega
          have d4 : decide ((x : Int) ≤ 102) = false := by simp; omega
          go_enter Try.func13, Try.ntmps13
          go_wp2
          go_ret
          exact ⟨ret_int (by rw [E.out]), rfl⟩
      · have E : Hid (hv x = -1) := hv_none (by omega) (by omega)
        have d2 : decide ((x : Int) ≤ 57) = false := by simp; omega
        have d3 : decide ((97 : Int) ≤ x) = false := by simp; omega
        go_enter Try.func13, Try.ntmps13
        go_wp2
        go_ret
        exact ⟨ret_int (by rw [E.out]), rfl⟩
  · have E : Hid (hv x = -1) := hv_none (by omega) (by omega)
    have d1 : decide ((48 : Int) ≤ x) = false := by simp; omega
    have d3 : decide ((97 : Int) ≤ x) = false := by simp; omega
    go_enter Try.func13, Try.ntmps13
    go_wp2
    go_ret
    exact ⟨ret_int (by rw [E.out]), rfl⟩

set_option maxHeartbeats 1000000 in
set_option maxRecDepth 100000 in
theorem specUnhex_in (s : ByteArray) (w : World) (hs : s.size ≤ 24000) (hev : s.size % 2 = 0) :
    Calls Try.prog 8 #[.string s] w fun e w' => e = .returned (unOut s) ∧ Below w.heap.size w w' := by
  obtain ⟨i0, hi, hz0, hz1, hz2⟩ := info_parts Try.infoByte
  have hev2 : ((s.size : Int) % 2 != 0) = false := by simp; omega
  go_enter Try.func8, Try.ntmps8
  go_wp2
  go_loopw [4, 5] (fun v x wr => ∃ i : Nat, i % 2 = 0 ∧ i ≤ s.size ∧ x = .int .i64 i ∧ (s.data.toList.take i).all okH = true ∧ wr.ownsRow w.heap.size 5 1 v (i / 2) ((pairsH (s.data.toList.take i)).map (Value.int .u8)) ∧ Below w.heap.size w wr) (fun _ x _ => s.size - (intOf x).toNat)
  case atStart => exact ⟨0, rfl, Nat.zero_le _, rfl, rfl, World.ownsRow_made w #[] 0 (Nat.le_refl _) (Nat.zero_le _) rfl, (Below.refl _ _).alloc (Nat.le_refl _) _⟩
  case round =>
    obtain ⟨i, hi2, hk, rfl, hall, hown, hbel⟩ := hrel
    have hsz := hbel.size
    have HA : Hid ((s.data.toList.take i).all okH = true) := hall
    clear hall
    by_cases hlt : i < s.size
    · have hlt1 : i + 1 < s.size := by omega
      have c1 : (s[i]).toNat < 256 := (s[i]).toNat_lt
      have c2 : (s[i + 1]).toNat < 256 := (s[i + 1]).toNat_lt
      have v1 := hv_bd (s[i]).toNat
      have v2 := hv_bd (s[i + 1]).toNat
      by_cases h1 : hv (s[i]).toNat < 0
      · have E : Hid (unOut s = _) := unOut_bad hlt h1
        go_wp2_with (go_at_call 13; refine (l01Value_any _ _ ?_).mono ?_; with_reducible assumption; rintro e w' ⟨rfl, rfl⟩)
        go_ret2
        exact ⟨by rw [E.out]; rfl, hbel⟩
      · by_cases h2 : hv (s[i + 1]).toNat < 0
        · have E : Hid (unOut s = _) := unOut_bad hlt1 h2
          go_wp2_with (go_at_call 13; refine (l01Value_any _ _ ?_).mono ?_; with_reducible assumption; rintro e w' ⟨rfl, rfl⟩)
          go_ret2
          exact ⟨by rw [E.out]; rfl, hbel⟩
        · go_wp2_with (first | (go_at_call 13; refine (l01Value_any _ _ ?_).mono ?_; with_reducible assumption; rintro e w' ⟨rfl, rfl⟩) | (at_builtin; refine append_one rfl _ _ 27 rfl w.heap.size 5 i0 (.int .u8 0) 1 Try.underlying27 hi hz0 hz1 hz2 rfl _ _ _ rfl hown (.int .u8 (16 * hv (s[i]).toNat + hv (s[i + 1]).toNat)) rfl rfl (by omega) (by decide) hbel hsz ?_))
          intro v' w1 hown' hbel'
          have hrow : w1.ownsRow w.heap.size 5 1 v' ((i + 2) / 2) ((pairsH (s.data.toList.take (i + 2))).map (Value.int .u8)) := by
            have e2 : (i + 2) / 2 = i / 2 + 1 := by omega
            rw [take_snoc s (i + 1) hlt1, take_snoc s i hlt, List.append_assoc, List.singleton_append, pairsH_snoc _ _ _ (by rw [take_len s i hk]; exact hi2), List.map_append, e2]
            exact hown'
          have HA2 : Hid ((s.data.toList.take (i + 2)).all okH = true) := all_snoc s (i + 1) hlt1 (all_snoc s i hlt HA.out (by omega)) (by omega)
          clear hown'
          go_wp2
          go_roundw
          case rel => exact ⟨i + 2, by omega, by omega, by go_num, HA2.out, hrow, hbel'⟩
          case measure => simp [intOf]; omega
    · have hkk : i = s.size := by omega
      subst hkk
      have E : Hid (unOut s = _) := unOut_yes (by rw [← take_all]; exact HA.out)
      rw [take_all] at hown
      have hcv := conv_own (P := Try.prog) _ Try.underlying27 Try.underlying5 Try.underlying9 hown
      go_wp2
      go_ret2
      exact ⟨by rw [E.out]; rfl, hbel⟩

end Go.Proofs.Ytemgbffdllhhfai
