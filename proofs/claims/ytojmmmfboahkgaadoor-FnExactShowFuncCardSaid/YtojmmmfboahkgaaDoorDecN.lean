/-
  The walk of spec.Decimal at numbers below 0; of every int.
-/
import Derived.Test.YtojmmmfboahkgaaDoorDec
namespace Go.Proofs.YtojmmmfboahkgaaDoor
open Go.RowKit
set_option linter.unusedVariables false

theorem neg_mod (m : Nat) : (-(m : Int)).tmod 10 = -((m % 10 : Nat) : Int) := by
  rw [Int.neg_tmod]; rfl
theorem neg_div (m : Nat) : (-(m : Int)).tdiv 10 = -((m / 10 : Nat) : Int) := by
  rw [Int.neg_tdiv]; rfl

set_option maxHeartbeats 1000000 in
set_option maxRecDepth 100000 in
theorem specDecimal_neg (u : Nat) (w : World) (h0 : 1 ≤ u) (hu : u ≤ 9223372036854775808) :
    Calls Tryd.prog 15 #[.int .i64 (-(u : Int))] w fun e w' => e = .returned (.string ⟨(45 :: Lib.decDigits u).toArray⟩) ∧ Below w.heap.size w w' := by
  have hne : (-(u : Int) == 0) = false := by rw [beq_eq_false_iff_ne]; omega
  have hlt : -(u : Int) < 0 := by omega
  go_enter Tryd.func15, Tryd.ntmps15
  go_wp2
  go_loopw [0, 4] (fun x v wr => ∃ (m : Nat) (l : List UInt8), x = .int .i64 (-(m : Int)) ∧ v = .string ⟨l.toArray⟩ ∧ DecAt u m l ∧ Below w.heap.size w wr) (fun x _ _ => (-(intOf x)).toNat)
  case atStart => exact ⟨u, [], rfl, rfl, decAt_first (by omega), Below.refl _ _⟩
  case round =>
    obtain ⟨m, l, rfl, rfl, hD, hbel⟩ := hrel
    have hsz := hbel.size
    have hlen := decAt_len hD
    have hmu : m ≤ u := hD.2.1
    have HD : Hid (DecAt u m l) := hD
    clear hD
    by_cases hm : m = 0
    · subst hm
      have E : Hid (l = Lib.decDigits u) := decAt_last HD.out
      go_wp2
      go_ret
      exact ⟨by rw [← E.out]; rfl, hbel⟩
    · have hne2 : (-(m : Int) != 0) = true := by rw [bne_iff_ne]; omega
      have hq1 := neg_mod m
      have hq2 := neg_div m
      have hcv := fun y => conv_new (P := Tryd.prog) wr y Tryd.underlying49 Tryd.underlying5 Tryd.underlying9
      have hz : (strOfNums [(fig (m % 10) : Int)]).size = 1 := by rw [strOfNums_size]; rfl
      by_cases hd : (m : Int) % 10 = 0
      · have HM : Hid ((m : Int) % 10 = 0) := hd
        have c1 : (0 : Int) ≤ -((m : Int) % 10) := by omega
        have c2 : -((m : Int) % 10) < 16 := by omega
        have hz2 : (strOfNums [(fig (-((m : Int) % 10)).toNat : Int)]).size = 1 := by rw [strOfNums_size]; rfl
        clear hd
        go_wp2_with (go_at_call 28; refine (l01Figure_int _ _ ?_ ?_).mono ?_; with_reducible assumption; with_reducible assumption; rintro e w' ⟨rfl, rfl⟩)
        go_roundw
        case rel =>
          refine ⟨m / 10, UInt8.ofNat (48 + m % 10) :: l, by go_num, ?_, decAt_step hm HD.out, hbel.alloc hsz _⟩
          have := HM.out
          rw [str_cons, show (-((m : Int) % 10)).toNat = m % 10 by omega, fig_small (by omega)]
        case measure => simp [intOf]; omega
      · have hd1 : -((m : Int) % 10) < 0 := by omega
        have c1 : (0 : Int) ≤ (m : Int) % 10 := by omega
        have c2 : (m : Int) % 10 < 16 := by omega
        clear hd
        go_wp2_with (go_at_call 28; refine (l01Figure_int _ _ ?_ ?_).mono ?_; with_reducible assumption; with_reducible assumption; rintro e w' ⟨rfl, rfl⟩)
        go_roundw
        case rel =>
          refine ⟨m / 10, UInt8.ofNat (48 + m % 10) :: l, by go_num, ?_, decAt_step hm HD.out, hbel.alloc hsz _⟩
          rw [str_cons, fig_small (by omega)]
        case measure => simp [intOf]; omega

end Go.Proofs.YtojmmmfboahkgaaDoor
