/-
  The walks of the program's figures without noughts ahead, and behind.
-/
import Derived.Test.YtcabanghegddhaaGreatDoorGreatC
import Derived.Test.YtcabanghegddhaaGreatDoorShelf
namespace Go.Proofs.YtcabanghegddhaaGreatDoor
open Go.RowKit
set_option linter.unusedVariables false

theorem trim_shelf : ∀ l : List UInt8, trimL l = if Lib.trimLeftB l 48 = [] then [48] else Lib.trimLeftB l 48
  | [] => rfl
  | [c] => by
    by_cases h : c = 48
    · subst h; rfl
    · have hb : (c == (48 : UInt8)) = false := by rw [beq_eq_false_iff_ne]; exact h
      simp [trimL, Lib.trimLeftB, List.dropWhile, hb]
  | c :: d :: l => by
    have ih := trim_shelf (d :: l)
    by_cases h : c = 48
    · subst h
      have e : Lib.trimLeftB (48 :: d :: l) 48 = Lib.trimLeftB (d :: l) 48 := by simp [Lib.trimLeftB, List.dropWhile]
      rw [e, ← ih]
      simp [trimL]
    · have hb : (c == (48 : UInt8)) = false := by rw [beq_eq_false_iff_ne]; exact h
      have hn : c.toNat ≠ 48 := fun e => h (UInt8.toNat_inj.1 e)
      simp [trimL, Lib.trimLeftB, List.dropWhile, hb, hn]

set_option maxHeartbeats 1000000 in
set_option maxRecDepth 100000 in
theorem aheadWalk (t : ByteArray) (w : World) :
    Calls Tryz.prog 63 #[.string t] w fun e w' => e = .returned (.string (txt (trimL t.data.toList))) ∧ w = w' := by
  have cT := fun W => Tryz.strings_TrimLeft_one t 48 (by decide) W
  have hte := trim_shelf t.data.toList
  obtain ⟨R, hR⟩ : ∃ R, trimL t.data.toList = R := ⟨_, rfl⟩
  rw [hR] at hte ⊢
  clear hR
  by_cases hnil : Lib.trimLeftB t.data.toList 48 = []
  · rw [if_pos hnil] at hte
    rw [hnil] at cT
    subst hte
    clear hnil
    go_enter Tryz.func63, Tryz.ntmps63
    go_wp2_with (go_at_call 79; refine (cT _).mono ?_; rintro e w' ⟨rfl, rfl⟩)
    go_ret
    exact ⟨rfl, rfl⟩
  · rw [if_neg hnil] at hte
    rw [← hte] at cT hnil
    obtain ⟨T, hT⟩ : ∃ T, (⟨R.toArray⟩ : ByteArray) = T := ⟨_, rfl⟩
    have hTn : T.toList.isEmpty = false := by
      rw [← hT, Lib.toList_data, List.isEmpty_eq_false_iff]
      exact hnil
    have HT : Hid (txt R = T) := hT
    rw [hT] at cT
    clear hT hnil hte
    go_enter Tryz.func63, Tryz.ntmps63
    go_wp2_with (go_at_call 79; refine (cT _).mono ?_; rintro e w' ⟨rfl, rfl⟩)
    go_ret
    exact ⟨by rw [HT.out]; rfl, rfl⟩

end Go.Proofs.YtcabanghegddhaaGreatDoor
