/-
  The walk of spec.PartsOf.
-/
import Derived.Test.YtemgbffdllhhfaiDoorParts
namespace Go.Proofs.YtemgbffdllhhfaiDoor
open Go.RowKit
set_option linter.unusedVariables false

set_option maxHeartbeats 2000000 in
set_option maxRecDepth 100000 in
theorem specPartsOf_any (s : ByteArray) (w : World) (hs : s.size ≤ 1048576) :
    Calls Tryd.prog 7 #[.string s] w fun e w' => PartsOut s w e w' := by
  obtain ⟨i0, hi, hz0, hz1, hz2⟩ := info_parts Tryd.infoText
  by_cases hl : 300 < s.size
  · have E : Hid (okParts s = false) := ok_long hl
    go_enter Tryd.func7, Tryd.ntmps7
    go_wp2
    go_ret2
    exact partsOut_no E.out (own_empty w _ _ (Nat.le_refl _)) ((Below.refl _ _).alloc (Nat.le_refl _) _)
  · have hfl := fields_le s
    go_enter Tryd.func7, Tryd.ntmps7
    go_wp2
    go_loopw [4, 5, 6] (fun v x y wr => ∃ (i b : Nat) (outs : List (List UInt8)), x = .int .i64 b ∧ y = .int .i64 i ∧ PartsAt s i b outs ∧ (s.data.toList.take i).all plainB = true ∧ wr.ownsRow w.heap.size 9 1 v outs.length ((outs.map asText).map Value.string) ∧ Below w.heap.size w wr) (fun _ _ y _ => s.size + 1 - (intOf y).toNat)
    case atStart => exact ⟨0, 0, [], rfl, rfl, partsAt_first s, rfl, own_empty w _ _ (Nat.le_refl _), (Below.refl _ _).alloc (Nat.le_refl _) _⟩
    case round =>
      obtain ⟨i, b, outs, rfl, rfl, hP, ha, hown, hbel⟩ := hrel
      have hsz := hbel.size
      obtain ⟨hi1, hbi⟩ := partsAt_le hP
      have hol := partsAt_len hP
      have HA : Hid ((s.data.toList.take i).all plainB = true) := ha
      have HP : Hid (PartsAt s i b outs) := hP
      clear ha hP
      by_cases hlt : i < s.size
      · have h256 : (s[i]).toNat < 256 := (s[i]).toNat_lt
        by_cases h1 : (s[i]).toNat < 32
        · have E : Hid (okParts s = false) := ok_odd (odd_at hlt (.inl h1))
          go_wp2
          go_ret2
          exact partsOut_no E.out (own_empty wr _ _ hsz) (hbel.alloc hsz _)
        · have d1 : decide (((s[i]).toNat : Int) < 32) = false := by simp; omega
          by_cases h2 : 126 < (s[i]).toNat
          · have E : Hid (okParts s = false) := ok_odd (odd_at hlt (.inr h2))
            go_wp2
            go_ret2
            exact partsOut_no E.out (own_empty wr _ _ hsz) (hbel.alloc hsz _)
          · have d2 : decide ((126 : Int) < ((s[i]).toNat : Int)) = false := by simp; omega
            have HA2 : Hid ((s.data.toList.take (i + 1)).all plainB = true) := all_more s i hlt HA.out (by omega) (by omega)
            by_cases h32 : (s[i]).toNat = 32
            · have hsp : Lib.isSp (s[i]) = true := by rw [sp_plain (by omega)]; simp [h32]
              have SP : Hid (Lib.isSp (s[i]) = true) := hsp
              have e32 : (((s[i]).toNat : Int) != 32) = false := by simp; omega
              clear hsp h32
              by_cases hb : b < i
              · have S : Hid (PartsAt s (i + 1) (i + 1) (outs ++ [sl s b i])) := partsAt_end HP.out hlt SP.out hb
                go_wp2_with (at_builtin; refine append_one rfl _ _ 24 rfl w.heap.size 9 i0 (.string ⟨#[]⟩) 16 Tryd.underlying24 hi hz0 hz1 hz2 rfl _ _ _ rfl hown (.string (s.extract b i)) rfl rfl (by omega) (by decide) hbel hsz ?_)
                intro v' w1 hown' hbel'
                have hrow : w1.ownsRow w.heap.size 9 1 v' (outs ++ [sl s b i]).length (((outs ++ [sl s b i]).map asText).map Value.string) := by
                  rw [extract_text] at hown'
                  simpa using hown'
                clear hown'
                go_wp2
                go_roundw
                case rel => exact ⟨i + 1, i + 1, _, by go_num, by go_num, S.out, HA2.out, hrow, hbel'⟩
                case measure => simp [intOf]; omega
              · have S : Hid (PartsAt s (i + 1) (i + 1) outs) := partsAt_blank HP.out hlt SP.out hb
                go_wp2
                go_roundw
                case rel => exact ⟨i + 1, i + 1, _, by go_num, by go_num, S.out, HA2.out, hown, hbel⟩
                case measure => simp [intOf]; omega
            · have hsp : Lib.isSp (s[i]) = false := by rw [sp_plain (by omega)]; simp [h32]
              have S : Hid (PartsAt s (i + 1) b outs) := partsAt_more HP.out hlt hsp
              have e32 : (((s[i]).toNat : Int) != 32) = true := by simp; omega
              clear hsp
              go_wp2
              go_roundw
              case rel => exact ⟨i + 1, b, _, rfl, by go_num, S.out, HA2.out, hown, hbel⟩
              case measure => simp [intOf]; omega
      · by_cases hend : i = s.size
        · subst hend
          have dl : decide ((s.size : Int) < (s.size : Int)) = false := by simp
          have HA2 : Hid ((s.data.toList.take (s.size + 1)).all plainB = true) := by
            have e : s.data.toList.take (s.size + 1) = s.data.toList.take s.size := by rw [Lib.size_eq, List.take_length, List.take_of_length_le (by omega)]
            rw [e]; exact HA.out
          by_cases hb : b < s.size
          · have S : Hid (PartsAt s (s.size + 1) (s.size + 1) (outs ++ [sl s b s.size])) := partsAt_last HP.out hb
            go_wp2_with (at_builtin; refine append_one rfl _ _ 24 rfl w.heap.size 9 i0 (.string ⟨#[]⟩) 16 Tryd.underlying24 hi hz0 hz1 hz2 rfl _ _ _ rfl hown (.string (s.extract b s.size)) rfl rfl (by omega) (by decide) hbel hsz ?_)
            intro v' w1 hown' hbel'
            have hrow : w1.ownsRow w.heap.size 9 1 v' (outs ++ [sl s b s.size]).length (((outs ++ [sl s b s.size]).map asText).map Value.string) := by
              rw [extract_text] at hown'
              simpa using hown'
            clear hown'
            go_wp2
            go_roundw
            case rel => exact ⟨s.size + 1, s.size + 1, _, by go_num, by go_num, S.out, HA2.out, hrow, hbel'⟩
            case measure => simp [intOf]
          · have S : Hid (PartsAt s (s.size + 1) (s.size + 1) outs) := partsAt_none HP.out hb
            go_wp2
            go_roundw
            case rel => exact ⟨s.size + 1, s.size + 1, _, by go_num, by go_num, S.out, HA2.out, hown, hbel⟩
            case measure => simp [intOf]
        · have hgt : s.size < i := by omega
          have EF : Hid (outs = Lib.fields s.data.toList) := partsAt_done HP.out hgt
          have PL : Hid (s.data.toList.all plainB = true) := by
            have := HA.out
            rwa [List.take_of_length_le (by rw [← Lib.size_eq]; omega)] at this
          obtain ⟨xo, co, rfl, _, _, _⟩ := own_open hown
          by_cases h8 : 8 < outs.length
          · have E : Hid (okParts s = false) := ok_many (by rw [← EF.out]; exact h8)
            go_wp2
            go_ret2
            exact partsOut_no E.out (own_empty wr _ _ hsz) (hbel.alloc hsz _)
          · have E : Hid (okParts s = true) := ok_yes (by omega) PL.out (by rw [← EF.out]; omega)
            go_wp2
            go_ret2
            exact partsOut_yes E.out (by rw [← EF.out]; exact hown) hbel

end Go.Proofs.YtemgbffdllhhfaiDoor
