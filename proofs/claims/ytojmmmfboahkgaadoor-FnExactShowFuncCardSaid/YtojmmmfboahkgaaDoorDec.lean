/-
  The walk of spec.Decimal.
-/
import Derived.Test.YtojmmmfboahkgaaDoorFigure
import Derived.Test.YtojmmmfboahkgaaDoorStep
import Derived.Test.YtojmmmfboahkgaaDoorDecB
namespace Go.Proofs.YtojmmmfboahkgaaDoor
open Go.RowKit
set_option linter.unusedVariables false

theorem conv_new {P : Program} (w : World) {e src dst : TypeId} (y : Int) (hs : P.underlying src = some (.slice e)) (he : P.underlying e = some (.int .u8)) (hd : P.underlying dst = some .string) :
    (convert src dst (.slice (some ⟨w.heap.size, 0, none⟩) 1 1)).run P (w.alloc (.cells #[.int .u8 y] e)) = .ok (.string (strOfNums [y])) (w.alloc (.cells #[.int .u8 y] e)) := by
  refine run_convert_bytes_arg _ src e hs he w.heap.size 0 1 1 [y] rfl (fun i hi => ?_) dst hd
  obtain rfl : i = 0 := by omega
  exact cells_new w [.int .u8 y] e 0 _ rfl

set_option maxHeartbeats 1000000 in
set_option maxRecDepth 100000 in
theorem specDecimal_pos (u : Nat) (w : World) (h0 : u ≠ 0) (hu : u ≤ 9223372036854775807) :
    Calls Tryd.prog 15 #[.int .i64 u] w fun e w' => e = .returned (.string ⟨(Lib.decDigits u).toArray⟩) ∧ Below w.heap.size w w' := by
  have hne : ((u : Int) == 0) = false := by simp; omega
  go_enter Tryd.func15, Tryd.ntmps15
  go_wp2
  go_loopw [0, 4] (fun x v wr => ∃ (m : Nat) (l : List UInt8), x = .int .i64 m ∧ v = .string ⟨l.toArray⟩ ∧ DecAt u m l ∧ Below w.heap.size w wr) (fun x _ _ => (intOf x).toNat)
  case atStart => exact ⟨u, [], rfl, rfl, decAt_first h0, Below.refl _ _⟩
  case round =>
    obtain ⟨m, l, rfl, rfl, hD, hbel⟩ := hrel
    have hsz := hbel.size
    have hlen := decAt_len hD
    have hmu : m ≤ u := hD.2.1
    have HD : Hid (DecAt u m l) := hD
    clear hD
    by_cases hm : m = 0
    · subst hm
      have E : Hid (l = Lib.decDigits u) := decAt_last HD.out
      go_wp2
      go_ret
      exact ⟨by rw [← E.out]; rfl, hbel⟩
    · have hne2 : ((m : Int) != 0) = true := by simp; omega
      have b1 : (0 : Int) ≤ (m : Int) % 10 := by omega
      have b2 : (m : Int) % 10 < 16 := by omega
      have hcv := fun y => conv_new (P := Tryd.prog) wr y Tryd.underlying49 Tryd.underlying5 Tryd.underlying9
      have hz : (strOfNums [(fig (m % 10) : Int)]).size = 1 := by rw [strOfNums_size]; rfl
      go_wp2_with (go_at_call 28; refine (l01Figure_int _ _ ?_ ?_).mono ?_; with_reducible assumption; with_reducible assumption; rintro e w' ⟨rfl, rfl⟩)
      go_roundw
      case rel =>
        refine ⟨m / 10, UInt8.ofNat (48 + m % 10) :: l, by go_num, ?_, decAt_step hm HD.out, hbel.alloc hsz _⟩
        rw [str_cons, fig_small (by omega)]
      case measure => simp [intOf]; omega

set_option maxHeartbeats 400000 in
set_option maxRecDepth 100000 in
theorem specDecimal_zero (w : World) :
    Calls Tryd.prog 15 #[.int .i64 0] w fun e w' => e = .returned (.string ⟨(Lib.decDigits 0).toArray⟩) ∧ Below w.heap.size w w' := by
  have E : Hid (Lib.decDigits 0 = [48]) := by
    show Lib.decDigits 0 = [48]
    rw [Lib.decDigits, dif_pos (by omega)]; rfl
  go_enter Tryd.func15, Tryd.ntmps15
  go_wp2
  go_ret
  exact ⟨by rw [E.out]; rfl, Below.refl _ _⟩

theorem specDecimal_nat (u : Nat) (w : World) (hu : u ≤ 9223372036854775807) :
    Calls Tryd.prog 15 #[.int .i64 u] w fun e w' => e = .returned (.string ⟨(Lib.decDigits u).toArray⟩) ∧ Below w.heap.size w w' := by
  by_cases h : u = 0
  · subst h; exact specDecimal_zero w
  · exact specDecimal_pos u w h hu

end Go.Proofs.YtojmmmfboahkgaaDoor
