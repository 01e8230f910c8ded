/-
  The walks of Hex.
-/
import Derived.Test.YtemgbffdllhhfaaDoorFigure
import Derived.Test.YtemgbffdllhhfaaDoorStep
namespace Go.Proofs.YtemgbffdllhhfaaDoor
open Go.RowKit
set_option linter.unusedVariables false

set_option maxHeartbeats 400000 in
set_option maxRecDepth 100000 in
theorem implHex_out (s : ByteArray) (w : World) (hs : 12000 < s.size) :
    Calls Tryd.prog 13 #[.string s] w fun e w' => e = .returned (.tuple #[.string ⟨#[]⟩, .bool false]) ∧ w = w' := by
  go_enter Tryd.func13, Tryd.ntmps13
  go_wp2
  go_ret2
  exact ⟨rfl, rfl⟩

set_option maxHeartbeats 1000000 in
set_option maxRecDepth 100000 in
theorem implHex_in (s : ByteArray) (w : World) (hs : s.size ≤ 12000) :
    Calls Tryd.prog 13 #[.string s] w fun e w' => e = .returned (.tuple #[.string (strOfNums (hexOf s.data.toList)), .bool true]) ∧ Below w.heap.size w w' := by
  obtain ⟨i0, hi, hz0, hz1, hz2⟩ := info_parts Tryd.infoByte
  have hmk := fun W : World => run_make (P := Tryd.prog) W 22 5 i0 (.int .u8 0) Tryd.underlying22 hi hz0 .i64 .i64 0 (2 * (s.size : Int)) (by omega) (by omega) (by rw [hz2]; omega) (by omega)
  go_enter Tryd.func13, Tryd.ntmps13
  go_wp2
  go_loopw [4, 5] (fun v x wr => ∃ k : Nat, k ≤ s.size ∧ x = .int .i64 k ∧ wr.ownsRow w.heap.size 5 1 v (2 * k) ((hexOf (s.data.toList.take k)).map (Value.int .u8)) ∧ Below w.heap.size w wr) (fun _ x _ => s.size - (intOf x).toNat)
  case atStart => exact ⟨0, Nat.zero_le _, rfl, World.ownsRow_made w _ (2 * s.size) (Nat.le_refl _) (by unfold maxLen; omega) (by simp [size_madeCells]), (Below.refl _ _).alloc (Nat.le_refl _) _⟩
  case round =>
    obtain ⟨k, hk, rfl, hown, hbel⟩ := hrel
    have hsz := hbel.size
    clear hmk
    by_cases hlt : k < s.size
    · have h255 : (s[k]).toNat < 256 := (s[k]).toNat_lt
      have a1 : (0 : Int) ≤ ((s[k]).toNat : Int) / 16 := by omega
      have a2 : ((s[k]).toNat : Int) / 16 < 16 := by omega
      have a3 : bits .and .u8 ((s[k]).toNat : Int) 15 = ((s[k]).toNat : Int) % 16 := u8_and15 _ (by omega) (by omega)
      have a4 : (0 : Int) ≤ ((s[k]).toNat : Int) % 16 := by omega
      have a5 : ((s[k]).toNat : Int) % 16 < 16 := by omega
      go_wp2
      go_region_law (refine step_append_own rfl _ _ 22 rfl w.heap.size 5 i0 (.int .u8 0) 1 Tryd.underlying22 hi hz0 hz1 hz2 rfl _ _ _ rfl hown _ 2 (by rfl) rfl (two_cells _ _ _) (Or.inr rfl) (by omega) (by decide) hbel hsz ?_; intro v' w1 hown' hbel')
      all_goals
        have hrow : w1.ownsRow w.heap.size 5 1 v' (2 * (k + 1)) ((hexOf (s.data.toList.take (k + 1))).map (Value.int .u8)) := by
          rw [take_snoc s k hlt, hexOf_snoc, List.map_append]
          rw [figS_eq _ ((s[k]).toNat / 16) (by omega) (by omega), figS_eq _ ((s[k]).toNat % 16) (by omega) (by omega)] at hown'
          exact hown'
        clear hown'
        go_wp2
        go_roundw
        case rel => exact ⟨k + 1, by omega, by go_num, hrow, hbel'⟩
        case measure => simp [intOf]; omega
    · have hkk : k = s.size := by omega
      subst hkk
      rw [take_all] at hown
      have hcv := conv_own (P := Tryd.prog) _ Tryd.underlying22 Tryd.underlying5 Tryd.underlying9 hown
      go_wp2
      go_ret2
      exact ⟨rfl, hbel⟩

end Go.Proofs.YtemgbffdllhhfaaDoor
