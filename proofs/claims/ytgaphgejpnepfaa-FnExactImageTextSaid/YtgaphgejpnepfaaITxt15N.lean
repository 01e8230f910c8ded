/-
  The program's own numText.
-/
import Derived.Test.YtgaphgejpnepfaaTxt15S
import Derived.Test.YtgaphgejpnepfaaSums
import Derived.Laws.Shifts
namespace Go.Proofs.Ytgaphgejpnepfaa
open Go.RowKit
set_option linter.unusedVariables false

theorem dv_pow (k x : Nat) : dv k x = x / 2 ^ (8 * k) := by
  induction k with
  | zero => simp [dv]
  | succ k ih =>
    unfold dv
    rw [ih, Nat.div_div_eq_div_mul, Nat.mul_add, Nat.pow_add]

set_option maxHeartbeats 1000000 in
set_option maxRecDepth 100000 in
theorem iNumText (x : Nat) (w : World) (hx : x < 18446744073709551616) :
    Calls Try.prog 109 #[.int .u64 x] w fun e w' => e = .returned (.string (strOfNums (eightK 8 x))) ∧ Below w.heap.size w w' := by
  have hmk : ∀ W : World, (Instr.makeSlice 22 (.int .i64 8) (.int .i64 8)).run Try.prog W = .ok (.slice (some ⟨W.heap.size, 0, none⟩) 8 8) (W.alloc (.cells #[.int .u8 0, .int .u8 0, .int .u8 0, .int .u8 0, .int .u8 0, .int .u8 0, .int .u8 0, .int .u8 0] 5)) := fun W => by
    have h := run_make_row' (P := Try.prog) 22 5 (.int .u8 0) 1 Try.underlying22 Try.infoByte rfl .i64 .i64 8 (by omega) (by omega) W
    have e : madeCells #[.int .u8 0] 8 = #[.int .u8 0, .int .u8 0, .int .u8 0, .int .u8 0, .int .u8 0, .int .u8 0, .int .u8 0, .int .u8 0] := by kernel_rfl
    rw [e] at h
    exact h
  have f0 : BytesAt (w.alloc (.cells #[.int .u8 0, .int .u8 0, .int .u8 0, .int .u8 0, .int .u8 0, .int .u8 0, .int .u8 0, .int .u8 0] 5)) w.heap.size 8 (fun j => if 8 ≤ j then ((dv (7 - j) x % 256 : Nat) : Int) else 0) := by
    refine ⟨_, heap_alloc_new w _, rfl, fun j hj => ?_⟩
    match j, hj with
    | 0, _ => rfl
    | 1, _ => rfl
    | 2, _ => rfl
    | 3, _ => rfl
    | 4, _ => rfl
    | 5, _ => rfl
    | 6, _ => rfl
    | 7, _ => rfl
  have b0 : Below w.heap.size w (w.alloc (.cells #[.int .u8 0, .int .u8 0, .int .u8 0, .int .u8 0, .int .u8 0, .int .u8 0, .int .u8 0, .int .u8 0] 5)) := (Below.refl _ _).alloc (Nat.le_refl _) _
  have hcv : ∀ W : World, BytesAt W w.heap.size 8 (fun j => ((dv (7 - j) x % 256 : Nat) : Int)) → (convert 22 9 (.slice (some ⟨w.heap.size, 0, none⟩) 8 8)).run Try.prog W = .ok (.string (strOfNums (eightK 8 x))) W := fun W h => by
    refine run_convert_bytes_arg W 22 5 Try.underlying22 Try.underlying5 w.heap.size 0 8 8 (eightK 8 x) rfl (fun i hi => ?_) 9 Try.underlying9
    rw [Nat.zero_add, h.cell i hi, eight_dv]
    match i, hi with
    | 0, _ => rfl
    | 1, _ => rfl
    | 2, _ => rfl
    | 3, _ => rfl
    | 4, _ => rfl
    | 5, _ => rfl
    | 6, _ => rfl
    | 7, _ => rfl
  obtain ⟨W0, hW0⟩ : ∃ W, w.alloc (.cells #[.int .u8 0, .int .u8 0, .int .u8 0, .int .u8 0, .int .u8 0, .int .u8 0, .int .u8 0, .int .u8 0] 5) = W := ⟨_, rfl⟩
  rw [hW0] at f0 b0
  have HW0 : Hid (_ = W0) := hW0
  have HC : Hid _ := hcv
  have HX : Hid (x < 18446744073709551616) := hx
  clear hcv hW0 hx
  go_enter Try.func109, Try.ntmps109
  go_upto_region 2 with fail
  rw [HW0.out]
  clear HW0 hmk
  go_wp2
  go_loopw [8] (fun i wr => ∃ k : Nat, k ≤ 8 ∧ i = .int .i64 k ∧ BytesAt wr w.heap.size 8 (fun j => if 8 ≤ j + k then ((dv (7 - j) x % 256 : Nat) : Int) else 0) ∧ Below w.heap.size w wr) (fun i _ => 8 - (intOf i).toNat)
  case atStart => exact ⟨0, Nat.zero_le _, rfl, f0, b0⟩
  case round =>
    clear f0 b0
    obtain ⟨k, hk, rfl, f0, hb⟩ := hrel
    by_cases hk8 : k < 8
    · have g1 := f0.cell (7 - k) (by omega)
      have g2 := f0.free (7 - k)
      have HF : Hid (BytesAt _ _ _ _) := f0
      obtain ⟨q, hq⟩ : ∃ q, 7 - k = q := ⟨_, rfl⟩
      rw [hq] at g1 g2
      have HQ : Hid (7 - k = q) := hq
      have hkn : (7 - (k : Int)) = (q : Int) := by omega
      have hki : (k : Int) < 8 := by omega
      have hk0 : (0 : Int) ≤ (k : Int) := by omega
      have hq8 : (q : Int) < 8 := by omega
      have hq0 : (0 : Int) ≤ (q : Int) := by omega
      clear f0 hq
      go_wp2
      go_roundw
      case rel =>
        refine ⟨k + 1, by omega, by go_num, ?_, ?_⟩
        · refine HF.out.set q _ _ fun j hj => ?_
          have hq := HQ.out
          by_cases e : j = q
          · subst e
            rw [if_pos (by omega), if_pos rfl]
            have e2 : 7 - j = k := by omega
            rw [e2, dv_pow, Int.natCast_emod, Int.natCast_ediv]
            rfl
          · rw [if_neg e]
            by_cases e2 : 8 ≤ j + k
            · rw [if_pos (by omega), if_pos e2]
            · rw [if_neg (by omega), if_neg e2]
        · exact hb.setCell (by show w.heap.size ≤ w.heap.size; omega) _
      case measure => simp [intOf]; omega
    · have e8 : k = 8 := by omega
      subst e8
      have f1 : BytesAt wr w.heap.size 8 (fun j => ((dv (7 - j) x % 256 : Nat) : Int)) := by
        obtain ⟨cs, h1, h2, h3⟩ := f0.all
        refine ⟨cs, h1, h2, fun j hj => ?_⟩
        rw [h3 j hj, if_pos (by omega)]
      have hcv := HC.out wr f1
      clear f0 HC f1
      go_wp2
      go_ret
      exact ⟨rfl, hb⟩

end Go.Proofs.Ytgaphgejpnepfaa
