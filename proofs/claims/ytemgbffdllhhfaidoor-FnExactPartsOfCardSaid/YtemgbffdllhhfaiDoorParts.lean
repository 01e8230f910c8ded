/-
  The walks of PartsOf.
-/
import Derived.Test.YtemgbffdllhhfaiDoorStrs
import Derived.Test.YtemgbffdllhhfaiDoorPartsB
import Derived.Test.YtemgbffdllhhfaiDoorTab
import Derived.Test.YtemgbffdllhhfaiDoorShelf
namespace Go.Proofs.YtemgbffdllhhfaiDoor
open Go.RowKit
set_option linter.unusedVariables false

theorem Tryd.infoText : (Tryd.prog.info? 9).map (fun i => (i.zero, i.size, i.bytes)) = some (some (.string ⟨#[]⟩), 1, 16) := by kernel_rfl

set_option maxHeartbeats 400000 in
set_option maxRecDepth 100000 in
theorem plainLine_any (s : ByteArray) (w : World) (hs : s.size ≤ 1048576) :
    Calls Tryd.prog 14 #[.string s] w fun e w' => e = .returned (.bool (plainS s)) ∧ w = w' := by
  go_enter Tryd.func14, Tryd.ntmps14
  go_wp2
  go_loop [3] (fun i => ∃ k : Nat, k ≤ s.size ∧ i = .int .i64 k ∧ (s.data.toList.take k).all plainB = true) (fun i => s.size - (intOf i).toNat)
  case atStart => exact ⟨0, Nat.zero_le _, rfl, rfl⟩
  case round =>
    obtain ⟨k, hk, rfl, ha⟩ := hrel
    have HA : Hid ((s.data.toList.take k).all plainB = true) := ha
    clear ha
    by_cases hlt : k < s.size
    · have h256 : (s[k]).toNat < 256 := (s[k]).toNat_lt
      by_cases h1 : (s[k]).toNat < 32
      · have E : Hid (plainS s = false) := odd_at hlt (.inl h1)
        go_wp2
        go_ret
        exact ⟨by rw [E.out]; rfl, rfl⟩
      · have d1 : decide (((s[k]).toNat : Int) < 32) = false := by simp; omega
        by_cases h2 : 126 < (s[k]).toNat
        · have E : Hid (plainS s = false) := odd_at hlt (.inr h2)
          go_wp2
          go_ret
          exact ⟨by rw [E.out]; rfl, rfl⟩
        · have d2 : decide ((126 : Int) < ((s[k]).toNat : Int)) = false := by simp; omega
          have S : Hid ((s.data.toList.take (k + 1)).all plainB = true) := all_more s k hlt HA.out (by omega) (by omega)
          go_wp2
          go_round
          case rel => exact ⟨k + 1, by omega, by go_num, S.out⟩
          case measure => simp [intOf]; omega
    · obtain rfl : k = s.size := by omega
      have E : Hid (plainS s = true) := by show s.data.toList.all plainB = true; rw [← take_all]; exact HA.out
      go_wp2
      go_ret
      exact ⟨by rw [E.out]; rfl, rfl⟩

/-- what PartsOf answers, in which world -/
def PartsOut (s : ByteArray) (w : World) (e : Ending) (w' : World) : Prop :=
  ∃ v, e = .returned (.tuple #[v, .bool (okParts s)]) ∧ w'.ownsRow w.heap.size 9 1 v (resParts s).length ((resParts s).map Value.string) ∧ Below w.heap.size w w'

theorem own_empty (w : World) (B : Nat) (e : TypeId) (hB : B ≤ w.heap.size) : (w.alloc (.cells #[] e)).ownsRow B e 1 (.slice (some ⟨w.heap.size, 0, none⟩) 0 0) 0 [] := World.ownsRow_made w #[] 0 hB (Nat.zero_le _) rfl

theorem partsOut_no {s : ByteArray} {w w' : World} {v : Value} (h : okParts s = false) (hv : w'.ownsRow w.heap.size 9 1 v 0 []) (hb : Below w.heap.size w w') : PartsOut s w (.returned (.tuple #[v, .bool false])) w' :=
  ⟨v, by rw [h], by rw [res_no h]; exact hv, hb⟩
theorem partsOut_yes {s : ByteArray} {w w' : World} {v : Value} (h : okParts s = true) (hv : w'.ownsRow w.heap.size 9 1 v (Lib.fields s.data.toList).length (((Lib.fields s.data.toList).map asText).map Value.string)) (hb : Below w.heap.size w w') : PartsOut s w (.returned (.tuple #[v, .bool true])) w' :=
  ⟨v, by rw [h], by rw [res_yes h, List.length_map]; exact hv, hb⟩

set_option maxHeartbeats 1000000 in
set_option maxRecDepth 100000 in
theorem implPartsOf_any (s : ByteArray) (w : World) (hs : s.size ≤ 1048576) (hlt : 0 < w.heap.size) (htab : Lib.TabIs Tryd.prog w "strings.asciiSpace" .u8 Lib.asciiSpaceTab) :
    Calls Tryd.prog 8 #[.string s] w fun e w' => PartsOut s w e w' := by
  by_cases hl : 300 < s.size
  · have E : Hid (okParts s = false) := ok_long hl
    clear htab
    go_enter Tryd.func8, Tryd.ntmps8
    go_wp2
    go_ret2
    exact partsOut_no E.out (World.ownsRow_nil _ _ _ _) (Below.refl _ _)
  · have cP := fun w1 => plainLine_any s w1 hs
    by_cases hp : plainS s = true
    · rw [hp] at cP
      have hcl := fun w1 => Tryd.stringslite_Clone s w1 (by omega)
      have hf := fun w1 (hb : Below w.heap.size w w1) => Tryd.strings_Fields s w1 (by omega) (fun j b hj => by
        have := List.all_eq_true.1 (show s.data.toList.all plainB = true from hp) b (List.mem_of_getElem? hj)
        simp only [plainB, decide_eq_true_eq] at this
        omega) (tabIs_later hb (by kernel_rfl) hlt htab)
      have HP : Hid (plainS s = true) := hp
      obtain ⟨fs, hfs⟩ : ∃ fs, fs = Lib.fields s.data.toList := ⟨_, rfl⟩
      have hfl := fields_le s
      rw [← hfs] at hf hfl
      have HF : Hid (fs = Lib.fields s.data.toList) := hfs
      clear hp hfs htab
      have d1 : decide ((300 : Int) < (s.size : Int)) = false := by simp; omega
      by_cases h8 : 8 < fs.length
      · have E : Hid (okParts s = false) := ok_many (by rw [← HF.out]; exact h8)
        go_enter Tryd.func8, Tryd.ntmps8
        go_wp2_with (first | (go_at_call 14; refine (cP _).mono ?_; rintro e w' ⟨rfl, rfl⟩) | (go_at_call 21; refine (hcl _).mono ?_; rintro e w1 ⟨rfl, hb1⟩) | (go_at_call 15; refine (hf _ ?_).mono ?_; assumption; rintro e w2 ⟨rfl, rfl⟩) | go_in)
        go_ret2
        exact partsOut_no E.out (World.ownsRow_nil _ _ _ _) (hb1.alloc hb1.size _)
      · have E : Hid (okParts s = true) := ok_yes (by omega) HP.out (by rw [← HF.out]; omega)
        go_enter Tryd.func8, Tryd.ntmps8
        go_wp2_with (first | (go_at_call 14; refine (cP _).mono ?_; rintro e w' ⟨rfl, rfl⟩) | (go_at_call 21; refine (hcl _).mono ?_; rintro e w1 ⟨rfl, hb1⟩) | (go_at_call 15; refine (hf _ ?_).mono ?_; assumption; rintro e w2 ⟨rfl, rfl⟩) | go_in)
        go_ret2
        refine partsOut_yes E.out ?_ (hb1.alloc hb1.size _)
        rw [← HF.out]
        refine ⟨by simp, .inr ⟨_, _, _, rfl, hb1.size, heap_alloc_new _ _, Nat.le_refl _, by unfold maxLen; omega, by simp, ?_⟩⟩
        simp [asText, Function.comp_def]
        rw [List.take_of_length_le (by simp)]
    · have hp' : plainS s = false := by simpa using hp
      have E : Hid (okParts s = false) := ok_odd hp'
      rw [hp'] at cP
      clear htab hp hp'
      have d1 : decide ((300 : Int) < (s.size : Int)) = false := by simp; omega
      go_enter Tryd.func8, Tryd.ntmps8
      go_wp2_with (go_at_call 14; refine (cP _).mono ?_; rintro e w' ⟨rfl, rfl⟩)
      go_ret2
      exact partsOut_no E.out (World.ownsRow_nil _ _ _ _) (Below.refl _ _)

end Go.Proofs.YtemgbffdllhhfaiDoor
