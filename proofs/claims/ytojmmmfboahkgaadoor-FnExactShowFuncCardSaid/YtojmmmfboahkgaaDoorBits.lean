/-
  The walks of the specification's small helpers over numbers in bits: powers of 2, the sign, the parts.
-/
import Derived.Test.YtojmmmfboahkgaaDoorRows
import Derived.Test.YtojmmmfboahkgaaDoorBase
import Derived.Test.YtojmmmfboahkgaaDoorBitsB
import Derived.Handy
namespace Go.Proofs.YtojmmmfboahkgaaDoor
open Go.RowKit
set_option linter.unusedVariables false

theorem pow_le63 {k : Nat} (h : k ≤ 63) : (2 : Nat) ^ k ≤ 9223372036854775808 := Nat.pow_le_pow_right (n := 2) (by decide) h

set_option maxHeartbeats 400000 in
set_option maxRecDepth 100000 in
theorem l03Pow_any (n : Nat) (w : World) (hn : n ≤ 63) :
    Calls Tryd.prog 78 #[.int .i64 n] w fun e w' => e = .returned (.int .u64 ((2 ^ n : Nat) : Int)) ∧ w = w' := by
  go_enter Tryd.func78, Tryd.ntmps78
  go_wp2
  go_loop [3, 4] (fun x i => ∃ (p k : Nat), k ≤ n ∧ p = 2 ^ k ∧ x = .int .u64 p ∧ i = .int .i64 k) (fun _ i => n - (intOf i).toNat)
  case atStart => exact ⟨1, 0, Nat.zero_le _, rfl, rfl, rfl⟩
  case round =>
    obtain ⟨p, k, hk, hp, rfl, rfl⟩ := hrel
    have HP : Hid (p = 2 ^ k) := hp
    by_cases hlt : k < n
    · have hb : p ≤ 4611686018427387904 := by rw [hp]; exact Nat.pow_le_pow_right (n := 2) (j := 62) (by decide) (by omega)
      clear hp
      go_wp2
      go_round
      case rel => exact ⟨2 * p, k + 1, by omega, by rw [HP.out, Nat.pow_succ, Nat.mul_comm], by go_num, by go_num⟩
      case measure => simp [intOf]; omega
    · have hkn : k = n := by omega
      subst hkn
      clear hp
      go_wp2
      go_ret
      exact ⟨by rw [HP.out]; rfl, rfl⟩

theorem l03Pow_63 (w : World) : Calls Tryd.prog 78 #[.int .i64 63] w fun e w' => e = .returned (.int .u64 9223372036854775808) ∧ w = w' := l03Pow_any 63 w (by decide)

theorem l03Pow_56 (w : World) : Calls Tryd.prog 78 #[.int .i64 56] w fun e w' => e = .returned (.int .u64 72057594037927936) ∧ w = w' := l03Pow_any 56 w (by decide)

/-- a number's parts as the model has them -/
def partsV (x : Nat) : Value := .agg #[.int .i64 (kindN x), .bool (belowN x), .int .u64 (mantN x), .int .i64 (expN x)]

theorem parts_nan {x : Nat} (he : x / 4503599627370496 % 2048 = 2047) (hf : x % 4503599627370496 ≠ 0) : partsV x = .agg #[.int .i64 1, .bool false, .int .u64 0, .int .i64 0] := by
  have hk : kindN x = 1 := by unfold kindN expBits fracBits; rw [if_pos he, if_neg hf]
  simp [partsV, mantN, expN, belowN, hk]
theorem parts_inf {x : Nat} (he : x / 4503599627370496 % 2048 = 2047) (hf : x % 4503599627370496 = 0) : partsV x = .agg #[.int .i64 2, .bool (decide (9223372036854775808 ≤ x)), .int .u64 0, .int .i64 0] := by
  have hk : kindN x = 2 := by unfold kindN expBits fracBits; rw [if_pos he, if_pos hf]
  simp [partsV, mantN, expN, belowN, hk]
theorem parts_zero {x : Nat} (he : x / 4503599627370496 % 2048 = 0) (hf : x % 4503599627370496 = 0) : partsV x = .agg #[.int .i64 3, .bool (decide (9223372036854775808 ≤ x)), .int .u64 0, .int .i64 0] := by
  have hk : kindN x = 3 := by unfold kindN expBits fracBits; rw [if_neg (by omega), if_pos ⟨he, hf⟩]
  simp [partsV, mantN, expN, belowN, hk]
theorem parts_low {x : Nat} (he : x / 4503599627370496 % 2048 = 0) (hf : x % 4503599627370496 ≠ 0) : partsV x = .agg #[.int .i64 4, .bool (decide (9223372036854775808 ≤ x)), .int .u64 ((x : Int) % 4503599627370496), .int .i64 (-1074)] := by
  have hk : kindN x = 4 := by unfold kindN expBits fracBits; rw [if_neg (by omega), if_neg (by omega)]
  simp [partsV, mantN, expN, belowN, hk, expBits, fracBits, he]
theorem parts_high {x : Nat} (he : x / 4503599627370496 % 2048 ≠ 0) (he' : x / 4503599627370496 % 2048 ≠ 2047) : partsV x = .agg #[.int .i64 4, .bool (decide (9223372036854775808 ≤ x)), .int .u64 ((x : Int) % 4503599627370496 + 4503599627370496), .int .i64 ((x : Int) / 4503599627370496 % 2048 - 1075)] := by
  have hk : kindN x = 4 := by unfold kindN expBits fracBits; rw [if_neg he', if_neg (by omega)]
  simp [partsV, mantN, expN, belowN, hk, expBits, fracBits, he]

theorem cells_four {w : World} {g : Nat} {a b c d : Value} {t : TypeId} {r : Nat × Nat} (h : w.heap[g]? = some (.cells #[a, b, c, d] t r)) :
    w.cell? ⟨g, 0, none⟩ = some a ∧ w.cell? ⟨g, 1, none⟩ = some b ∧ w.cell? ⟨g, 2, none⟩ = some c ∧ w.cell? ⟨g, 3, none⟩ = some d := by
  refine ⟨?_, ?_, ?_, ?_⟩
  · unfold World.cell?; simp only [h]; rfl
  · unfold World.cell?; simp only [h]; rfl
  · unfold World.cell?; simp only [h]; rfl
  · unfold World.cell?; simp only [h]; rfl
theorem alloc_kept {w w' : World} {o : Obj} (h : Below (w.alloc o).heap.size (w.alloc o) w') : w'.heap[w.heap.size]? = some o := by
  rw [h.block w.heap.size (by simp)]
  have e : (w.alloc o).heap = w.heap.push o := rfl
  rw [e]
  simp

theorem below_two (w : World) (o1 o2 : Obj) : Below w.heap.size w ((w.alloc o1).alloc o2) := ((Below.refl _ _).alloc (Nat.le_refl _) _).alloc (by simp) _

set_option maxHeartbeats 1000000 in
set_option maxRecDepth 100000 in
theorem specParts_any (x : Nat) (w : World) (hx : x < 18446744073709551616) :
    Calls Tryd.prog 60 #[.int .u64 x] w fun e w' => e = .returned (partsV x) ∧ Below w.heap.size w w' := by
  have ht := top_bit hx
  by_cases h1 : x / 4503599627370496 % 2048 = 2047
  · have g1 : (x : Int) / 4503599627370496 % 2048 = 2047 := by omega
    by_cases h2 : x % 4503599627370496 = 0
    · have g2 : (x : Int) % 4503599627370496 = 0 := by omega
      have hp : Hid _ := parts_inf h1 h2
      clear h1 h2
      go_enter Tryd.func60, Tryd.ntmps60
      go_wp2_with (go_at_call 78; refine (l03Pow_63 _).mono ?_; rintro e w' ⟨rfl, rfl⟩)
      go_returns
      exact ⟨by rw [hp.out], below_two _ _ _⟩
    · have g2 : ((x : Int) % 4503599627370496 != 0) = true := by simp; omega
      have hp : Hid _ := parts_nan h1 h2
      clear h1 h2
      go_enter Tryd.func60, Tryd.ntmps60
      go_wp2_with (go_at_call 78; refine (l03Pow_63 _).mono ?_; rintro e w' ⟨rfl, rfl⟩)
      go_returns
      exact ⟨by rw [hp.out], below_two _ _ _⟩
  · have g1 : ((x : Int) / 4503599627370496 % 2048 == 2047) = false := by rw [beq_eq_false_iff_ne]; omega
    by_cases h3 : x / 4503599627370496 % 2048 = 0
    · have g3 : (x : Int) / 4503599627370496 % 2048 = 0 := by omega
      by_cases h2 : x % 4503599627370496 = 0
      · have g2 : (x : Int) % 4503599627370496 = 0 := by omega
        have hp : Hid _ := parts_zero h3 h2
        clear h1 h2 h3
        go_enter Tryd.func60, Tryd.ntmps60
        go_wp2_with (go_at_call 78; refine (l03Pow_63 _).mono ?_; rintro e w' ⟨rfl, rfl⟩)
        go_returns
        exact ⟨by rw [hp.out], below_two _ _ _⟩
      · have g2 : ((x : Int) % 4503599627370496 == 0) = false := by rw [beq_eq_false_iff_ne]; omega
        have hp : Hid _ := parts_low h3 h2
        clear h1 h2 h3
        go_enter Tryd.func60, Tryd.ntmps60
        go_wp2_with (go_at_call 78; refine (l03Pow_63 _).mono ?_; rintro e w' ⟨rfl, rfl⟩)
        go_returns
        exact ⟨by rw [hp.out], below_two _ _ _⟩
    · have g3 : ((x : Int) / 4503599627370496 % 2048 == 0) = false := by rw [beq_eq_false_iff_ne]; omega
      have hp : Hid _ := parts_high h3 h1
      clear h1 h3
      go_enter Tryd.func60, Tryd.ntmps60
      go_wp2_with (go_at_call 78; refine (l03Pow_63 _).mono ?_; rintro e w' ⟨rfl, rfl⟩)
      go_returns
      exact ⟨by rw [hp.out], below_two _ _ _⟩

end Go.Proofs.YtojmmmfboahkgaaDoor
