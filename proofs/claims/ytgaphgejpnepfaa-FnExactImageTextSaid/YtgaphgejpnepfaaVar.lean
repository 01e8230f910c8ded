/-
  The walks of spec.l01Var and impl.VarText: both answer the bytes of a number, seven bits each.
-/
import Derived.Test.YtgaphgejpnepfaaInfo
namespace Go.Proofs.Ytgaphgejpnepfaa
open Go.RowKit

set_option maxHeartbeats 400000 in
set_option maxRecDepth 100000 in
theorem l01In_yes (x a b : Int) (w : World) (h1 : a ≤ x) (h2 : x ≤ b) :
    Calls Try.prog 76 #[.int .i64 x, .int .i64 a, .int .i64 b] w fun e w' => e = .returned (.bool true) ∧ w = w' := by
  go_enter Try.func76, Try.ntmps76
  go_wp2
  go_ret
  exact ⟨rfl, rfl⟩

set_option maxHeartbeats 400000 in
set_option maxRecDepth 100000 in
theorem l01In_no (x a b : Int) (w : World) (h : x < a ∨ b < x) :
    Calls Try.prog 76 #[.int .i64 x, .int .i64 a, .int .i64 b] w fun e w' => e = .returned (.bool false) ∧ w = w' := by
  by_cases h1 : x < a
  · go_enter Try.func76, Try.ntmps76
    go_wp2
    go_ret
    exact ⟨rfl, rfl⟩
  · have h2 : decide (x ≤ b) = false := by simp; omega
    have h3 : a ≤ x := by omega
    clear h h1
    go_enter Try.func76, Try.ntmps76
    go_wp2
    go_ret
    exact ⟨rfl, rfl⟩

set_option maxHeartbeats 400000 in
set_option maxRecDepth 100000 in
theorem l01Var_any (n : Nat) (w : World) (hn : n ≤ 1000000000) :
    Calls Try.prog 40 #[.int .i64 n] w fun e w' => e = .returned (.string (strOfNums (varB n))) ∧ Below w.heap.size w w' := by
  obtain ⟨i0, hi, hz0, hz1, hz2⟩ := info_parts Try.infoByte
  have hvl := varB_le n
  go_enter Try.func40, Try.ntmps40
  go_wp2
  go_loopw [0, 3] (fun x v wr => ∃ (m : Nat) (pre : List Int), m ≤ 1000000000 ∧ x = .int .i64 m ∧ pre ++ varB m = varB n ∧ wr.ownsRow w.heap.size 5 1 v pre.length (pre.map (Value.int .u8)) ∧ Below w.heap.size w wr) (fun x _ _ => (intOf x).toNat)
  case atStart => exact ⟨n, [], hn, rfl, rfl, World.ownsRow_made w #[] 0 (Nat.le_refl _) (Nat.zero_le _) rfl, (Below.refl _ _).alloc (Nat.le_refl _) _⟩
  case round =>
    obtain ⟨m, pre, hm, rfl, hpre, hown, hbel⟩ := hrel
    have HP : Hid (pre ++ varB m = varB n) := hpre
    have hlen : pre.length ≤ n := by
      have h1 := congrArg List.length hpre
      have h2 := varB_pos m
      simp only [List.length_append] at h1
      omega
    clear hpre
    have hsz := hbel.size
    by_cases hlt : 127 < m
    · go_wp2_with (at_builtin; refine append_one rfl _ _ 22 rfl w.heap.size 5 i0 (.int .u8 0) 1 Try.underlying22 hi hz0 hz1 hz2 rfl _ _ _ rfl hown (.int .u8 ((m : Int) % 128 + 128)) rfl rfl (by omega) (by decide) hbel hsz ?_)
      intro v' w1 hown' hbel'
      go_wp2
      go_roundw
      case rel => exact ⟨m / 128, pre ++ [((m % 128 + 128 : Nat) : Int)], by omega, by go_num, by rw [List.append_assoc, List.singleton_append, ← varB_more hlt]; exact HP.out, by simpa using hown', hbel'⟩
      case measure => simp [intOf]; omega
    · go_wp2_with (at_builtin; refine append_one rfl _ _ 22 rfl w.heap.size 5 i0 (.int .u8 0) 1 Try.underlying22 hi hz0 hz1 hz2 rfl _ _ _ rfl hown (.int .u8 (m : Int)) rfl rfl (by omega) (by decide) hbel hsz ?_)
      intro v' w1 hown' hbel'
      have hcv := conv_own (P := Try.prog) (pre ++ [(m : Int)]) Try.underlying22 Try.underlying5 Try.underlying9 (by simpa using hown')
      have HE : Hid (pre ++ [(m : Int)] = varB n) := by rw [← varB_last (show m ≤ 127 by omega)]; exact HP
      go_wp2
      go_ret
      exact ⟨by rw [HE.out]; rfl, hbel'⟩

set_option maxHeartbeats 400000 in
set_option maxRecDepth 100000 in
theorem implVarText_in (n : Nat) (w : World) (hn : n ≤ 1000000000) :
    Calls Try.prog 170 #[.int .i64 n] w fun e w' => e = .returned (.tuple #[.string (strOfNums (varB n)), .bool true]) ∧ Below w.heap.size w w' := by
  obtain ⟨i0, hi, hz0, hz1, hz2⟩ := info_parts Try.infoByte
  have hvl := varB_le n
  go_enter Try.func170, Try.ntmps170
  go_wp2
  go_loopw [0, 4] (fun x v wr => ∃ (m : Nat) (pre : List Int), m ≤ 1000000000 ∧ x = .int .i64 m ∧ pre ++ varB m = varB n ∧ wr.ownsRow w.heap.size 5 1 v pre.length (pre.map (Value.int .u8)) ∧ Below w.heap.size w wr) (fun x _ _ => (intOf x).toNat)
  case atStart => exact ⟨n, [], hn, rfl, rfl, World.ownsRow_nil _ _ _ _, Below.refl _ _⟩
  case round =>
    obtain ⟨m, pre, hm, rfl, hpre, hown, hbel⟩ := hrel
    have HP : Hid (pre ++ varB m = varB n) := hpre
    have hlen : pre.length ≤ n := by
      have h1 := congrArg List.length hpre
      have h2 := varB_pos m
      simp only [List.length_append] at h1
      omega
    clear hpre
    have hsz := hbel.size
    by_cases hlt : 127 < m
    · go_wp2_with (at_builtin; refine append_one rfl _ _ 22 rfl w.heap.size 5 i0 (.int .u8 0) 1 Try.underlying22 hi hz0 hz1 hz2 rfl _ _ _ rfl hown (.int .u8 ((m : Int) % 128 + 128)) rfl rfl (by omega) (by decide) hbel hsz ?_)
      intro v' w1 hown' hbel'
      go_wp2
      go_roundw
      case rel => exact ⟨m / 128, pre ++ [((m % 128 + 128 : Nat) : Int)], by omega, by go_num, by rw [List.append_assoc, List.singleton_append, ← varB_more hlt]; exact HP.out, by simpa using hown', hbel'⟩
      case measure => simp [intOf]; omega
    · go_wp2_with (at_builtin; refine append_one rfl _ _ 22 rfl w.heap.size 5 i0 (.int .u8 0) 1 Try.underlying22 hi hz0 hz1 hz2 rfl _ _ _ rfl hown (.int .u8 (m : Int)) rfl rfl (by omega) (by decide) hbel hsz ?_)
      intro v' w1 hown' hbel'
      have hcv := conv_own (P := Try.prog) (pre ++ [(m : Int)]) Try.underlying22 Try.underlying5 Try.underlying9 (by simpa using hown')
      have HE : Hid (pre ++ [(m : Int)] = varB n) := by rw [← varB_last (show m ≤ 127 by omega)]; exact HP
      go_wp2
      go_ret2
      exact ⟨by rw [HE.out]; rfl, hbel'⟩

set_option maxHeartbeats 400000 in
set_option maxRecDepth 100000 in
theorem implVarText_out (n : Int) (w : World) (hn : n < 0 ∨ 1000000000 < n) :
    Calls Try.prog 170 #[.int .i64 n] w fun e w' => e = .returned (.tuple #[.string ⟨#[]⟩, .bool false]) ∧ w = w' := by
  by_cases h : n < 0
  · go_enter Try.func170, Try.ntmps170
    go_wp2
    go_ret2
    exact ⟨rfl, rfl⟩
  · have h2 : 1000000000 < n := by omega
    go_enter Try.func170, Try.ntmps170
    go_wp2
    go_ret2
    exact ⟨rfl, rfl⟩

end Go.Proofs.Ytgaphgejpnepfaa
