/-
  The walks of Hex.
-/
import Derived.Test.YtemgbffdllhhfaiRows
import Derived.Test.YtemgbffdllhhfaiStep
import Derived.Test.YtemgbffdllhhfaiHexB
namespace Go.Proofs.Ytemgbffdllhhfai
open Go.RowKit
set_option linter.unusedVariables false

theorem Try.infoByte : (Try.prog.info? 5).map (fun i => (i.zero, i.size, i.bytes)) = some (some (.int .u8 0), 1, 1) := by kernel_rfl

set_option maxHeartbeats 400000 in
set_option maxRecDepth 100000 in
theorem l01Figure_any (x : Nat) (w : World) (h : x < 16) :
    Calls Try.prog 12 #[.int .i64 x] w fun e w' => e = .returned (.int .u8 (fig x)) ∧ w = w' := by
  by_cases h10 : x < 10
  · have E : Hid (fig x = 48 + x) := if_pos h10
    go_enter Try.func12, Try.ntmps12
    go_wp2
    go_ret
    exact ⟨by rw [E.out]; rfl, rfl⟩
  · have E : Hid (fig x = 87 + x) := if_neg h10
    go_enter Try.func12, Try.ntmps12
    go_wp2
    go_ret
    exact ⟨ret_int (by rw [E.out]; omega), rfl⟩

theorem l01Figure_int (x : Int) (w : World) (h0 : 0 ≤ x) (h : x < 16) :
    Calls Try.prog 12 #[.int .i64 x] w fun e w' => e = .returned (.int .u8 (fig x.toNat)) ∧ w = w' := by
  obtain ⟨N, rfl⟩ : ∃ N : Nat, x = N := ⟨x.toNat, by omega⟩
  exact l01Figure_any N w (by omega)

set_option maxHeartbeats 1000000 in
set_option maxRecDepth 100000 in
theorem specHex_in (s : ByteArray) (w : World) (hs : s.size ≤ 12000) :
    Calls Try.prog 6 #[.string s] w fun e w' => e = .returned (.tuple #[.string (strOfNums (hexOf s.data.toList)), .bool true]) ∧ Below w.heap.size w w' := by
  obtain ⟨i0, hi, hz0, hz1, hz2⟩ := info_parts Try.infoByte
  go_enter Try.func6, Try.ntmps6
  go_wp2
  go_loopw [4, 5] (fun v x wr => ∃ k : Nat, k ≤ s.size ∧ x = .int .i64 k ∧ wr.ownsRow w.heap.size 5 1 v (2 * k) ((hexOf (s.data.toList.take k)).map (Value.int .u8)) ∧ Below w.heap.size w wr) (fun _ x _ => s.size - (intOf x).toNat)
  case atStart => exact ⟨0, Nat.zero_le _, rfl, World.ownsRow_made w #[] 0 (Nat.le_refl _) (Nat.zero_le _) rfl, (Below.refl _ _).alloc (Nat.le_refl _) _⟩
  case round =>
    obtain ⟨k, hk, rfl, hown, hbel⟩ := hrel
    have hsz := hbel.size
    by_cases hlt : k < s.size
    · have h255 : (s[k]).toNat < 256 := (s[k]).toNat_lt
      have hq1 : IntKind.i64.wrap ((IntKind.i64.wrap ((s[k]).toNat : Int)).tdiv 16) = (((s[k]).toNat / 16 : Nat) : Int) := wrap_div 16 (by omega)
      have hq2 : (IntKind.i64.wrap ((s[k]).toNat : Int)).tmod 16 = (((s[k]).toNat % 16 : Nat) : Int) := wrap_mod 16 (by omega)
      have b1 : 0 ≤ IntKind.i64.wrap ((IntKind.i64.wrap ((s[k]).toNat : Int)).tdiv 16) := by rw [hq1]; omega
      have b2 : IntKind.i64.wrap ((IntKind.i64.wrap ((s[k]).toNat : Int)).tdiv 16) < 16 := by rw [hq1]; omega
      have b3 : 0 ≤ (IntKind.i64.wrap ((s[k]).toNat : Int)).tmod 16 := by rw [hq2]; omega
      have b4 : (IntKind.i64.wrap ((s[k]).toNat : Int)).tmod 16 < 16 := by rw [hq2]; omega
      have Q1 : Hid _ := hq1
      have Q2 : Hid _ := hq2
      clear hq1 hq2
      go_wp2
      go_region_law (first | (refine step_append_own rfl _ _ 27 rfl w.heap.size 5 i0 (.int .u8 0) 1 Try.underlying27 hi hz0 hz1 hz2 rfl _ _ _ rfl hown [.int .u8 (fig (IntKind.i64.wrap ((IntKind.i64.wrap ((s[k]).toNat : Int)).tdiv 16)).toNat), .int .u8 (fig ((IntKind.i64.wrap ((s[k]).toNat : Int)).tmod 16).toNat)] 2 rfl rfl (two_cells _ _ _) (Or.inr rfl) (by omega) (by decide) hbel hsz ?_; intro v' w1 hown' hbel') | (go_simp; go_at_call 12; refine (l01Figure_int _ _ ?_ ?_).mono ?_; with_reducible assumption; with_reducible assumption; rintro e w' ⟨rfl, rfl⟩))
      all_goals
        have hrow : w1.ownsRow w.heap.size 5 1 v' (2 * (k + 1)) ((hexOf (s.data.toList.take (k + 1))).map (Value.int .u8)) := by
          rw [take_snoc s k hlt, hexOf_snoc, List.map_append]
          rw [Q1.out, Q2.out] at hown'
          exact hown'
        clear hown' b1 b2 b3 b4
        go_wp2
        go_roundw
        case rel => exact ⟨k + 1, by omega, by go_num, hrow, hbel'⟩
        case measure => simp [intOf]; omega
    · have hkk : k = s.size := by omega
      subst hkk
      rw [take_all] at hown
      have hcv := conv_own (P := Try.prog) _ Try.underlying27 Try.underlying5 Try.underlying9 hown
      go_wp2
      go_ret2
      exact ⟨rfl, hbel⟩

set_option maxHeartbeats 400000 in
set_option maxRecDepth 100000 in
theorem specHex_out (s : ByteArray) (w : World) (hs : 12000 < s.size) :
    Calls Try.prog 6 #[.string s] w fun e w' => e = .returned (.tuple #[.string ⟨#[]⟩, .bool false]) ∧ w = w' := by
  go_enter Try.func6, Try.ntmps6
  go_wp2
  go_ret2
  exact ⟨rfl, rfl⟩

set_option maxHeartbeats 400000 in
set_option maxRecDepth 100000 in
theorem implHex_out (s : ByteArray) (w : World) (hs : 12000 < s.size) :
    Calls Try.prog 7 #[.string s] w fun e w' => e = .returned (.tuple #[.string ⟨#[]⟩, .bool false]) ∧ w = w' := by
  go_enter Try.func7, Try.ntmps7
  go_wp2
  go_ret2
  exact ⟨rfl, rfl⟩

set_option maxHeartbeats 1000000 in
set_option maxRecDepth 100000 in
theorem implHex_in (s : ByteArray) (w : World) (hs : s.size ≤ 12000) :
    Calls Try.prog 7 #[.string s] w fun e w' => e = .returned (.tuple #[.string (strOfNums (hexOf s.data.toList)), .bool true]) ∧ Below w.heap.size w w' := by
  obtain ⟨i0, hi, hz0, hz1, hz2⟩ := info_parts Try.infoByte
  have hmk := fun W : World => run_make (P := Try.prog) W 27 5 i0 (.int .u8 0) Try.underlying27 hi hz0 .i64 .i64 0 (2 * (s.size : Int)) (by omega) (by omega) (by rw [hz2]; omega) (by omega)
  go_enter Try.func7, Try.ntmps7
  go_wp2
  go_loopw [4, 5] (fun v x wr => ∃ k : Nat, k ≤ s.size ∧ x = .int .i64 k ∧ wr.ownsRow w.heap.size 5 1 v (2 * k) ((hexOf (s.data.toList.take k)).map (Value.int .u8)) ∧ Below w.heap.size w wr) (fun _ x _ => s.size - (intOf x).toNat)
  case atStart => exact ⟨0, Nat.zero_le _, rfl, World.ownsRow_made w _ (2 * s.size) (Nat.le_refl _) (by unfold maxLen; omega) (by simp [size_madeCells]), (Below.refl _ _).alloc (Nat.le_refl _) _⟩
  case round =>
    obtain ⟨k, hk, rfl, hown, hbel⟩ := hrel
    have hsz := hbel.size
    clear hmk
    by_cases hlt : k < s.size
    · have h255 : (s[k]).toNat < 256 := (s[k]).toNat_lt
      have a1 : (0 : Int) ≤ ((s[k]).toNat : Int) / 16 := by omega
      have a2 : ((s[k]).toNat : Int) / 16 < 16 := by omega
      have a3 : bits .and .u8 ((s[k]).toNat : Int) 15 = ((s[k]).toNat : Int) % 16 := u8_and15 _ (by omega) (by omega)
      have a4 : (0 : Int) ≤ ((s[k]).toNat : Int) % 16 := by omega
      have a5 : ((s[k]).toNat : Int) % 16 < 16 := by omega
      go_wp2
      go_region_law (refine step_append_own rfl _ _ 27 rfl w.heap.size 5 i0 (.int .u8 0) 1 Try.underlying27 hi hz0 hz1 hz2 rfl _ _ _ rfl hown _ 2 (by rfl) rfl (two_cells _ _ _) (Or.inr rfl) (by omega) (by decide) hbel hsz ?_; intro v' w1 hown' hbel')
      all_goals
        have hrow : w1.ownsRow w.heap.size 5 1 v' (2 * (k + 1)) ((hexOf (s.data.toList.take (k + 1))).map (Value.int .u8)) := by
          rw [take_snoc s k hlt, hexOf_snoc, List.map_append]
          rw [figS_eq _ ((s[k]).toNat / 16) (by omega) (by omega), figS_eq _ ((s[k]).toNat % 16) (by omega) (by omega)] at hown'
          exact hown'
        clear hown'
        go_wp2
        go_roundw
        case rel => exact ⟨k + 1, by omega, by go_num, hrow, hbel'⟩
        case measure => simp [intOf]; omega
    · have hkk : k = s.size := by omega
      subst hkk
      rw [take_all] at hown
      have hcv := conv_own (P := Try.prog) _ Try.underlying27 Try.underlying5 Try.underlying9 hown
      go_wp2
      go_ret2
      exact ⟨rfl, hbel⟩

end Go.Proofs.Ytemgbffdllhhfai
