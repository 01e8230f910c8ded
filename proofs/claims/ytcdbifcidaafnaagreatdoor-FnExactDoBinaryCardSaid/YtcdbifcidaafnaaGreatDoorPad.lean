/-
  Part 4 of what is proved of drawn right trees.
-/
import Derived.Test.YtcdbifcidaafnaaGreatDoorPaa
import Derived.Test.YtcdbifcidaafnaaGreatDoorPac
import Derived.Laws.BitsAllLaws
import Derived.Shelf.Strings.Builder1
import Derived.Shelf.Strings.Builder2
import Derived.Shelf.Small.Utf8
import Derived.Shelf.Small.Bits
import Derived.Shelf.Small.Strs
import Derived.Shelf.Strings.BuilderF
import Derived.Shelf.Strings.BuilderK
import Derived.Shelf.Strconv.Itoa0
import Derived.Shelf.LaysM
import Derived.Shelf.Strconv.Clone
import Derived.Shelf.Strings.Search1
import Derived.Shelf.Strings.Prefix
import Derived.Shelf.Strings.Runes
import Derived.Shelf.Strings.AsciiSet
import Derived.Shelf.Bits.Mul64
import Derived.Shelf.Unicode.DecodeSlow
import Derived.Test.YtcdbifcidaafnaaGreatDoorProg

namespace Go.Proofs.YtcdbifcidaafnaaGreatDoor
open Go.RowKit Go.Sort
set_option linter.unusedVariables false
set_option linter.unusedSimpArgs false
def isNum (p : PVal) : Bool := decide (p.kind = 2)
def numP (p : PVal) : Nat := if p.kind = 2 then p.num else 0
def isTxt (p : PVal) : Bool := decide (p.kind = 3)
def txtP (p : PVal) : ByteArray := if p.kind = 3 then p.text else ByteArray.empty
set_option maxRecDepth 100000 in
theorem assertNum {p : PVal} {T : TypeId} {v : Value} {fv : FuncId} (h : Cont17 p T v fv) (W : World) : (Instr.typeAssert (.iface T v) 47 64 true).run Tryz.prog W = .ok (.tuple #[.int .u64 (numP p : Int), .bool (isNum p)]) W := by
  obtain ⟨k, x, s, r⟩ := p
  rcases h with ⟨rfl, rfl, rfl, rfl⟩ | ⟨rfl, rfl, rfl, rfl⟩ | ⟨rfl, rfl, rfl, rfl⟩ | ⟨rfl, rfl, rfl, rfl⟩ | ⟨rfl, rfl, rfl, rfl⟩ | ⟨⟨k0, k1, k2, k3, k4⟩, rfl, rfl, rfl⟩
  · kernel_rfl
  · kernel_rfl
  · kernel_rfl
  · kernel_rfl
  · kernel_rfl
  · simp only at k2
    have e1 : isNum ⟨k, x, s, r⟩ = false := by simp [isNum, k2]
    have e2 : numP ⟨k, x, s, r⟩ = 0 := by simp [numP, k2]
    rw [e1, e2]
    clear e1 e2 k0 k1 k2 k3 k4
    have q : (Instr.typeAssert (.iface 83 (.agg #[])) 47 64 true).run Tryz.prog W = .ok (.tuple #[.int .u64 ((0 : Nat) : Int), .bool false]) W := by kernel_rfl
    exact q
set_option maxRecDepth 100000 in
theorem assertTxt {p : PVal} {T : TypeId} {v : Value} {fv : FuncId} (h : Cont17 p T v fv) (W : World) : (Instr.typeAssert (.iface T v) 47 81 true).run Tryz.prog W = .ok (.tuple #[.string (txtP p), .bool (isTxt p)]) W := by
  obtain ⟨k, x, s, r⟩ := p
  rcases h with ⟨rfl, rfl, rfl, rfl⟩ | ⟨rfl, rfl, rfl, rfl⟩ | ⟨rfl, rfl, rfl, rfl⟩ | ⟨rfl, rfl, rfl, rfl⟩ | ⟨rfl, rfl, rfl, rfl⟩ | ⟨⟨k0, k1, k2, k3, k4⟩, rfl, rfl, rfl⟩
  · kernel_rfl
  · kernel_rfl
  · kernel_rfl
  · kernel_rfl
  · kernel_rfl
  · simp only at k3
    have e1 : isTxt ⟨k, x, s, r⟩ = false := by simp [isTxt, k3]
    have e2 : txtP ⟨k, x, s, r⟩ = ByteArray.empty := by simp [txtP, k3]
    rw [e1, e2]
    clear e1 e2 k0 k1 k2 k3 k4
    have q : (Instr.typeAssert (.iface 83 (.agg #[])) 47 81 true).run Tryz.prog W = .ok (.tuple #[.string ByteArray.empty, .bool false]) W := by kernel_rfl
    exact q
set_option maxHeartbeats 1000000 in
set_option maxRecDepth 100000 in
theorem iNumbersIn (a b : PVal) (w : World) :
    Calls Tryz.prog 42 #[.agg #[.int .i64 a.kind, .int .u64 (a.num : Int), .string a.text, .int .i64 a.ref], .agg #[.int .i64 b.kind, .int .u64 (b.num : Int), .string b.text, .int .i64 b.ref]] w fun e w' => e = .returned (.tuple #[.int .u64 (numP a : Int), .int .u64 (numP b : Int), .bool (isNum a && isNum b)]) ∧ Below w.heap.size w w' := by
  obtain ⟨TA, va, fa, ha⟩ := cont17_some a
  obtain ⟨TB, vb, fb, hb⟩ := cont17_some b
  have cA := fun W => iContentAs ha W
  have cB := fun W => iContentAs hb W
  have tA := fun W => assertNum ha W
  have tB := fun W => assertNum hb W
  obtain ⟨A, hA⟩ : ∃ A, isNum a = A := ⟨_, rfl⟩
  obtain ⟨B, hB⟩ : ∃ B, isNum b = B := ⟨_, rfl⟩
  obtain ⟨NA, hNA⟩ : ∃ A, numP a = A := ⟨_, rfl⟩
  obtain ⟨NB, hNB⟩ : ∃ B, numP b = B := ⟨_, rfl⟩
  simp only [hA, hNA] at tA
  simp only [hB, hNB] at tB
  rw [hA, hB, hNA, hNB]
  clear hA hB hNA hNB ha hb
  obtain ⟨ak, ax, sa, ra⟩ := a
  obtain ⟨bk, bx, sb, rb⟩ := b
  simp only at cA cB ⊢
  obtain ⟨t0, t1, tz, tb⟩ := two_made w (.cells #[.int .i64 ak, .int .u64 (ax : Int), .string sa, .int .i64 ra] 26) (.cells #[.int .i64 bk, .int .u64 (bx : Int), .string sb, .int .i64 rb] 26)
  obtain ⟨W2, hW2⟩ : ∃ W, ((w.alloc (.cells #[.int .i64 ak, .int .u64 (ax : Int), .string sa, .int .i64 ra] 26)).alloc (.cells #[.int .i64 bk, .int .u64 (bx : Int), .string sb, .int .i64 rb] 26)) = W := ⟨_, rfl⟩
  rw [hW2] at t0 t1 tz tb
  have HW : Hid (_ = W2) := hW2
  clear hW2
  obtain ⟨G, hG⟩ : ∃ G, w.heap.size = G := ⟨_, rfl⟩
  rw [hG] at t0 t1 tz
  have KA := fun W (h : Below W2.heap.size W2 W) => four_cells ((h.block G (by omega)).trans t0)
  have KB := fun W (h : Below W2.heap.size W2 W) => four_cells ((h.block (G + 1) (by omega)).trans t1)
  have HTB : Hid (Below w.heap.size w W2) := tb
  clear t0 t1 tz tb
  go_enter Tryz.func42, Tryz.ntmps42
  go_upto_region 1 with fail
  rw [HW.out]
  clear HW
  try simp only [hG]
  obtain ⟨a0, a1, a2, a3⟩ := KA W2 (Below.refl _ _)
  go_wp2_with fail
  refine (cA _).mono ?_
  rintro e w1 ⟨rfl, b1⟩
  clear a0 a1 a2 a3
  obtain ⟨d0, d1, d2, d3⟩ := KB w1 b1
  go_wp2_with fail
  refine (cB _).mono ?_
  rintro e w2 ⟨rfl, b2⟩
  clear d0 d1 d2 d3 KA KB
  cases A <;> cases B <;>
  · go_wp2
    go_ret3
    exact ⟨rfl, chain HTB.out (chain b1 b2)⟩
set_option maxHeartbeats 1000000 in
set_option maxRecDepth 100000 in
theorem iTextsIn (a b : PVal) (w : World) :
    Calls Tryz.prog 54 #[.agg #[.int .i64 a.kind, .int .u64 (a.num : Int), .string a.text, .int .i64 a.ref], .agg #[.int .i64 b.kind, .int .u64 (b.num : Int), .string b.text, .int .i64 b.ref]] w fun e w' => e = .returned (.tuple #[.string (txtP a), .string (txtP b), .bool (isTxt a && isTxt b)]) ∧ Below w.heap.size w w' := by
  obtain ⟨TA, va, fa, ha⟩ := cont17_some a
  obtain ⟨TB, vb, fb, hb⟩ := cont17_some b
  have cA := fun W => iContentAs ha W
  have cB := fun W => iContentAs hb W
  have tA := fun W => assertTxt ha W
  have tB := fun W => assertTxt hb W
  obtain ⟨A, hA⟩ : ∃ A, isTxt a = A := ⟨_, rfl⟩
  obtain ⟨B, hB⟩ : ∃ B, isTxt b = B := ⟨_, rfl⟩
  obtain ⟨NA, hNA⟩ : ∃ A, txtP a = A := ⟨_, rfl⟩
  obtain ⟨NB, hNB⟩ : ∃ B, txtP b = B := ⟨_, rfl⟩
  simp only [hA, hNA] at tA
  simp only [hB, hNB] at tB
  rw [hA, hB, hNA, hNB]
  clear hA hB hNA hNB ha hb
  obtain ⟨ak, ax, sa, ra⟩ := a
  obtain ⟨bk, bx, sb, rb⟩ := b
  simp only at cA cB ⊢
  obtain ⟨t0, t1, tz, tb⟩ := two_made w (.cells #[.int .i64 ak, .int .u64 (ax : Int), .string sa, .int .i64 ra] 26) (.cells #[.int .i64 bk, .int .u64 (bx : Int), .string sb, .int .i64 rb] 26)
  obtain ⟨W2, hW2⟩ : ∃ W, ((w.alloc (.cells #[.int .i64 ak, .int .u64 (ax : Int), .string sa, .int .i64 ra] 26)).alloc (.cells #[.int .i64 bk, .int .u64 (bx : Int), .string sb, .int .i64 rb] 26)) = W := ⟨_, rfl⟩
  rw [hW2] at t0 t1 tz tb
  have HW : Hid (_ = W2) := hW2
  clear hW2
  obtain ⟨G, hG⟩ : ∃ G, w.heap.size = G := ⟨_, rfl⟩
  rw [hG] at t0 t1 tz
  have KA := fun W (h : Below W2.heap.size W2 W) => four_cells ((h.block G (by omega)).trans t0)
  have KB := fun W (h : Below W2.heap.size W2 W) => four_cells ((h.block (G + 1) (by omega)).trans t1)
  have HTB : Hid (Below w.heap.size w W2) := tb
  clear t0 t1 tz tb
  go_enter Tryz.func54, Tryz.ntmps54
  go_upto_region 1 with fail
  rw [HW.out]
  clear HW
  try simp only [hG]
  obtain ⟨a0, a1, a2, a3⟩ := KA W2 (Below.refl _ _)
  go_wp2_with fail
  refine (cA _).mono ?_
  rintro e w1 ⟨rfl, b1⟩
  clear a0 a1 a2 a3
  obtain ⟨d0, d1, d2, d3⟩ := KB w1 b1
  go_wp2_with fail
  refine (cB _).mono ?_
  rintro e w2 ⟨rfl, b2⟩
  clear d0 d1 d2 d3 KA KB
  cases A <;> cases B <;>
  · go_wp2
    go_ret3
    exact ⟨rfl, chain HTB.out (chain b1 b2)⟩
end Go.Proofs.YtcdbifcidaafnaaGreatDoor
namespace Go.Proofs.YtcdbifcidaafnaaGreatDoor
open Go.RowKit Go.Sort
set_option linter.unusedVariables false
def typeS : ByteArray := ⟨#[116, 121, 112, 101]⟩
def longS : ByteArray := ⟨#[108, 111, 110, 103]⟩
end Go.Proofs.YtcdbifcidaafnaaGreatDoor
namespace Go.Proofs.YtcdbifcidaafnaaGreatDoor
theorem roundN_nil (e : Int) (st : Bool) : roundN 0 e st = 0 := by simp [roundN]
theorem rne_ge (m k : Nat) (st : Bool) : m / 2 ^ k ≤ rne m k st := by unfold rne; split <;> omega
theorem rne_le (m k : Nat) (st : Bool) : rne m k st ≤ m / 2 ^ k + 1 := by unfold rne; split <;> omega
theorem roundN_inf64 {M : Nat} {E : Int} (st : Bool) (h1 : 9223372036854775808 ≤ M) (h2 : M < 18446744073709551616) (hE : 961 ≤ E) :
    roundN M E st = 9218868437227405312 := by
  rw [roundN_at (k := 11) st (by omega) (by omega) (by simpa using h2) (.inr (by simpa using h1))]
  have h : M / 2 ^ 11 ≤ rne M 11 st := rne_ge M 11 st
  have : (2 : Nat) ^ 11 = 2048 := rfl
  rw [this] at h
  simp only [Int.cast_ofNat_Int] at *
  omega
theorem roundN_mid64 {M d : Nat} {E : Int} (st : Bool) (h1 : 9223372036854775808 ≤ M) (h2 : M < 18446744073709551616) (hd1 : 11 ≤ d) (h0 : -1074 ≤ E + d) (hE : E + d = -1074 ∨ d = 11) (h4 : E + d ≤ 971) :
    roundN M E st = (E + d + 1074).toNat * 4503599627370496 + rne M d st := by
  have hp : (2 : Nat) ^ 64 ≤ 2 ^ (53 + d) := Nat.pow_le_pow_right (by decide) (by omega)
  have hq : (2 : Nat) ^ 11 ≤ 2 ^ d := Nat.pow_le_pow_right (by decide) hd1
  have h64 : (2 : Nat) ^ 64 = 18446744073709551616 := rfl
  have h11 : (2 : Nat) ^ 11 = 2048 := rfl
  rw [h64] at hp
  rw [h11] at hq
  rw [roundN_at (k := d) st (by omega) h0 (by omega) (by rcases hE with h | h; exact .inl h; exact .inr (by subst h; simpa using h1))]
  have hr := rne_le M d st
  have hm : M / 2 ^ d ≤ M / 2048 := Nat.div_le_div_left hq (by decide)
  omega
theorem drop_top {M d : Nat} (hd : d ≤ 64) : M * 2 ^ (64 - d) % 18446744073709551616 = M % 2 ^ d * 2 ^ (64 - d) := by
  have e : (18446744073709551616 : Nat) = 2 ^ d * 2 ^ (64 - d) := by rw [← Nat.pow_add, Nat.add_sub_of_le hd]
  rw [e, Nat.mul_mod_mul_right]
theorem drop_gt {r d : Nat} (hd : d ≤ 64) : 9223372036854775808 < r * 2 ^ (64 - d) ↔ 2 ^ d < 2 * r := by
  have e : 2 * 9223372036854775808 = 2 ^ d * 2 ^ (64 - d) := by rw [← Nat.pow_add, Nat.add_sub_of_le hd]
  have hp : 0 < 2 ^ (64 - d) := Nat.two_pow_pos _
  have h : 2 ^ d * 2 ^ (64 - d) < 2 * r * 2 ^ (64 - d) ↔ 2 ^ d < 2 * r := Nat.mul_lt_mul_right hp
  rw [← h, ← e, Nat.mul_assoc]
  omega
theorem drop_eq {r d : Nat} (hd : d ≤ 64) : r * 2 ^ (64 - d) = 9223372036854775808 ↔ 2 * r = 2 ^ d := by
  have e : 2 * 9223372036854775808 = 2 ^ d * 2 ^ (64 - d) := by rw [← Nat.pow_add, Nat.add_sub_of_le hd]
  have hp : 0 < 2 ^ (64 - d) := Nat.two_pow_pos _
  have h : 2 * r * 2 ^ (64 - d) = 2 ^ d * 2 ^ (64 - d) ↔ 2 * r = 2 ^ d := Nat.mul_right_cancel_iff hp
  rw [← h, ← e, Nat.mul_assoc]
  omega
theorem rne_drop {M d S : Nat} (st : Bool) (hd : d ≤ 64) (hS : S % 2 = M / 2 ^ d % 2) :
    rne M d st = M / 2 ^ d + (if 9223372036854775808 < M * 2 ^ (64 - d) % 18446744073709551616 ∨ (M * 2 ^ (64 - d) % 18446744073709551616 = 9223372036854775808 ∧ (st = true ∨ S % 2 = 1)) then 1 else 0) := by
  rw [drop_top hd, hS]
  simp only [drop_gt hd, drop_eq hd]
  unfold rne
  split <;> rfl
theorem len_top {m l : Nat} (h1 : 2 ^ (l - 1) ≤ m) (h2 : m < 2 ^ l) (hl : 1 ≤ l) (hl2 : l ≤ 64) : 9223372036854775808 ≤ m * 2 ^ (64 - l) ∧ m * 2 ^ (64 - l) < 18446744073709551616 := by
  have e1 : 2 ^ (l - 1) * 2 ^ (64 - l) = 9223372036854775808 := by rw [← Nat.pow_add, (by omega : l - 1 + (64 - l) = 63)]
  have e2 : 2 ^ l * 2 ^ (64 - l) = 18446744073709551616 := by rw [← Nat.pow_add, (by omega : l + (64 - l) = 64)]
  rw [← e1, ← e2]
  exact ⟨Nat.mul_le_mul_right _ h1, Nat.mul_lt_mul_of_pos_right h2 (Nat.two_pow_pos _)⟩
theorem kind_nan {x : Nat} (h : 9218868437227405312 < x % 9223372036854775808) : kindN x = 1 := by
  unfold kindN expBits fracBits
  rw [if_pos (by omega), if_neg (by omega)]
theorem kind_inf {x : Nat} (h : x % 9223372036854775808 = 9218868437227405312) : kindN x = 2 := by
  unfold kindN expBits fracBits
  rw [if_pos (by omega), if_pos (by omega)]
theorem kind_zero {x : Nat} (h : x % 9223372036854775808 = 0) : kindN x = 3 := by
  unfold kindN expBits fracBits
  rw [if_neg (by omega), if_pos (by omega)]
theorem kind_fin {x : Nat} (h : x % 9223372036854775808 < 9218868437227405312) (h0 : x % 9223372036854775808 ≠ 0) : kindN x = 4 := by
  unfold kindN expBits fracBits
  rw [if_neg (by omega), if_neg (by omega)]
end Go.Proofs.YtcdbifcidaafnaaGreatDoor
namespace Go.Proofs.YtcdbifcidaafnaaGreatDoor
open Go.RowKit
set_option linter.unusedVariables false
set_option maxRecDepth 100000 in
theorem iBelow (x : Nat) (w : World) :
    Calls Tryz.prog 83 #[.int .u64 x] w fun e w' => e = .returned (.bool (decide (9223372036854775808 ≤ x))) ∧ w = w' := by
  by_cases h : (9223372036854775808 : Int) ≤ x
  · have H : Hid (Unit → decide (9223372036854775808 ≤ x) = true) := fun _ => by simp; omega
    go_enter Tryz.func83, Tryz.ntmps83
    go_wp2
    go_ret
    exact ⟨by rw [H.out ()]; rfl, rfl⟩
  · have H : Hid (Unit → decide (9223372036854775808 ≤ x) = false) := fun _ => by simp; omega
    have h' : decide ((9223372036854775808 : Int) ≤ x) = false := by simp; omega
    clear h
    go_enter Tryz.func83, Tryz.ntmps83
    go_wp2
    go_ret
    exact ⟨by rw [H.out ()]; rfl, rfl⟩
set_option maxRecDepth 100000 in
theorem iSize (x : Nat) (w : World) :
    Calls Tryz.prog 84 #[.int .u64 x] w fun e w' => e = .returned (.int .u64 ((x : Int) % 9223372036854775808)) ∧ w = w' := by
  go_enter Tryz.func84, Tryz.ntmps84
  go_wp2
  go_ret
  exact ⟨rfl, rfl⟩
set_option maxHeartbeats 400000 in
set_option maxRecDepth 100000 in
theorem iKind (x : Nat) (w : World) :
    Calls Tryz.prog 82 #[.int .u64 x] w fun e w' => e = .returned (.int .i64 (kindN x : Nat)) ∧ w = w' := by
  have cS := fun W => iSize x W
  obtain ⟨s, hs⟩ : ∃ s : Int, (x : Int) % 9223372036854775808 = s := ⟨_, rfl⟩
  rw [hs] at cS
  by_cases h1 : 9218868437227405312 < s
  · have HK : Hid (Unit → kindN x = 1) := fun _ => kind_nan (by omega)
    clear hs
    go_enter Tryz.func82, Tryz.ntmps82
    go_wp2_with (go_at_call 84; refine (cS _).mono ?_; rintro e w' ⟨rfl, rfl⟩)
    go_ret
    exact ⟨by rw [HK.out ()]; rfl, rfl⟩
  · have d1 : decide (9218868437227405312 < s) = false := by simp; omega
    by_cases h2 : s = 9218868437227405312
    · have HK : Hid (Unit → kindN x = 2) := fun _ => kind_inf (by omega)
      clear hs h1 d1
      subst h2
      go_enter Tryz.func82, Tryz.ntmps82
      go_wp2_with (go_at_call 84; refine (cS _).mono ?_; rintro e w' ⟨rfl, rfl⟩)
      go_ret
      exact ⟨by rw [HK.out ()]; rfl, rfl⟩
    · have d2 : (s == 9218868437227405312) = false := by rw [beq_eq_false_iff_ne]; exact h2
      by_cases h3 : s = 0
      · have HK : Hid (Unit → kindN x = 3) := fun _ => kind_zero (by omega)
        clear hs h1 d1 h2 d2
        subst h3
        go_enter Tryz.func82, Tryz.ntmps82
        go_wp2_with (go_at_call 84; refine (cS _).mono ?_; rintro e w' ⟨rfl, rfl⟩)
        go_ret
        exact ⟨by rw [HK.out ()]; rfl, rfl⟩
      · have d3 : (s == 0) = false := by rw [beq_eq_false_iff_ne]; exact h3
        have HK : Hid (Unit → kindN x = 4) := fun _ => kind_fin (by omega) (by omega)
        clear hs h1 h2 h3
        go_enter Tryz.func82, Tryz.ntmps82
        go_wp2_with (go_at_call 84; refine (cS _).mono ?_; rintro e w' ⟨rfl, rfl⟩)
        go_ret
        exact ⟨by rw [HK.out ()]; rfl, rfl⟩
set_option maxHeartbeats 400000 in
set_option maxRecDepth 100000 in
theorem iMantExp (x : Nat) (w : World) (hx : x < 18446744073709551616) (hk : kindN x = 4) :
    Calls Tryz.prog 101 #[.int .u64 x] w fun e w' => e = .returned (.tuple #[.int .u64 (mantN x : Nat), .int .i64 (expN x)]) ∧ w = w' := by
  have hx' : (x : Int) < 18446744073709551616 := by omega
  by_cases h : x / 4503599627370496 % 2048 = 0
  · have g : (x : Int) / 4503599627370496 % 2048 = 0 := by omega
    have HM : Hid (Unit → (mantN x : Int) = (x : Int) % 4503599627370496) := fun _ => by simp [mantN, hk, expBits, fracBits, h]
    have HE : Hid (Unit → expN x = -1074) := fun _ => by simp [expN, hk, expBits, h]
    clear h hx hk
    go_enter Tryz.func101, Tryz.ntmps101
    go_wp2
    go_ret2
    exact ⟨by rw [HM.out (), HE.out ()]; rfl, rfl⟩
  · have g : ((x : Int) / 4503599627370496 % 2048 == 0) = false := by rw [beq_eq_false_iff_ne]; omega
    have HM : Hid (Unit → (mantN x : Int) = 4503599627370496 + (x : Int) % 4503599627370496) := fun _ => by simp [mantN, hk, expBits, fracBits, h]; omega
    have HE : Hid (Unit → expN x = -1074 + (x : Int) / 4503599627370496 % 2048 - 1) := fun _ => by simp [expN, hk, expBits, h]; omega
    clear h hx hk
    go_enter Tryz.func101, Tryz.ntmps101
    go_wp2
    go_ret2
    exact ⟨by rw [HM.out (), HE.out ()]; rfl, rfl⟩
theorem or_top {x : Nat} (h : x < 9223372036854775808) : x ||| 9223372036854775808 = x + 9223372036854775808 := by
  have := Nat.two_pow_add_eq_or_of_lt (i := 63) (b := x) (by simpa using h) 1
  simp at this
  rw [Nat.or_comm, Nat.add_comm, ← this]
set_option maxHeartbeats 400000 in
set_option maxRecDepth 100000 in
theorem iSigned (x : Nat) (b : Bool) (w : World) (hx : x ≤ 9218868437227405312) :
    Calls Tryz.prog 91 #[.int .u64 x, .bool b] w fun e w' => e = .returned (.int .u64 (signN b x : Nat)) ∧ w = w' := by
  cases b
  · go_enter Tryz.func91, Tryz.ntmps91
    go_wp2
    go_ret
    exact ⟨rfl, rfl⟩
  · have HS : Hid (Unit → signN true x = x + 9223372036854775808) := fun _ => by simp [signN]
    have ho : bits .or .u64 (x : Int) 9223372036854775808 = ((x + 9223372036854775808 : Nat) : Int) := by rw [← or_top (x := x) (by omega)]; exact u64_or_nat x 9223372036854775808 (by omega) (by decide)
    clear hx
    go_enter Tryz.func91, Tryz.ntmps91
    go_wp2
    go_ret
    exact ⟨by rw [HS.out ()]; rfl, rfl⟩
end Go.Proofs.YtcdbifcidaafnaaGreatDoor
namespace Go.Proofs
open Go.Shelf
def Tryz.lays169_ren : Go.Shelf.Ren := ⟨fun | 169 => 98 | n => n, fun | 70 => 147 | 9 => 9 | 0 => 0 | 72 => 149 | 37 => 22 | 127 => 160 | 3 => 3 | 5 => 5 | n => n, fun | n => n⟩
theorem Tryz.lays169 : Go.Proofs.Lays.n169 Tryz.prog Tryz.lays169_ren := {
  mixed := by kernel_rfl
  f169 := Tryz.func98.trans (congrArg some (by kernel_rfl))
  t0 := Tryz.underlying0
  a0 := Tryz.isAgg0
  z0 := Tryz.sizeOf0
  v0 := Tryz.zeroValue0
  t3 := Tryz.underlying3
  a3 := Tryz.isAgg3
  z3 := Tryz.sizeOf3
  v3 := Tryz.zeroValue3
  t9 := Tryz.underlying9
  a9 := Tryz.isAgg9
  z9 := Tryz.sizeOf9
  v9 := Tryz.zeroValue9
  t37 := Tryz.underlying22
  a37 := Tryz.isAgg22
  z37 := Tryz.sizeOf22
  v37 := Tryz.zeroValue22
  t70 := Tryz.underlying147
  a70 := Tryz.isAgg147
  z70 := Tryz.sizeOf147
  v70 := Tryz.zeroValue147
  t72 := Tryz.underlying149
  a72 := Tryz.isAgg149
  z72 := Tryz.sizeOf149
  v72 := Tryz.zeroValue149
  t127 := Tryz.underlying160
  a127 := Tryz.isAgg160
  z127 := Tryz.sizeOf160
  v127 := Tryz.zeroValue160 }
theorem Tryz.Builder_Extra_169 : Builder.Extra Tryz.prog Tryz.lays169_ren := {
  sizeBuilder := by kernel_rfl
  liesBuilder := by kernel_rfl
  t5 := Tryz.underlying5
  a5 := Tryz.isAgg5
  z5 := Tryz.sizeOf5
  v5 := Tryz.zeroValue5
  infoByte := by kernel_rfl
  cellsByte := by kernel_rfl
  sizeByte := by kernel_rfl
  neB5 := by decide }
open Go.RowKit in
theorem Tryz.Builder_String_any (B b : Nat) (l : List UInt8) (w : World) (h : Lib.IsBuilder 149 5 B b (Lib.byteCells l) w) (hBw : B ≤ w.heap.size) :
    Calls Tryz.prog 98 #[.pointer (some ⟨b, 0, none⟩)] w fun e w' => e = .returned (.string ⟨l.toArray⟩) ∧ Below B w w' := Any.Builder_String_any Tryz.lays169 Tryz.Builder_Extra_169 B b l w h hBw
def Tryz.lays165_ren : Go.Shelf.Ren := ⟨fun | 165 => 96 | 240 => 106 | 241 => 107 | 276 => 112 | 277 => 113 | n => n, fun | 70 => 147 | 3 => 3 | 0 => 0 | 4 => 4 | 9 => 9 | 20 => 20 | 72 => 149 | 37 => 22 | 164 => 106 | 5 => 5 | n => n, fun | n => n⟩
theorem Tryz.lays165 : Go.Proofs.Lays.n165 Tryz.prog Tryz.lays165_ren := {
  mixed := by kernel_rfl
  f165 := Tryz.func96.trans (congrArg some (by kernel_rfl))
  f240 := Tryz.func106.trans (congrArg some (by kernel_rfl))
  f241 := Tryz.func107.trans (congrArg some (by kernel_rfl))
  f276 := Tryz.func112.trans (congrArg some (by kernel_rfl))
  f277 := Tryz.func113.trans (congrArg some (by kernel_rfl))
  t0 := Tryz.underlying0
  a0 := Tryz.isAgg0
  z0 := Tryz.sizeOf0
  v0 := Tryz.zeroValue0
  t3 := Tryz.underlying3
  a3 := Tryz.isAgg3
  z3 := Tryz.sizeOf3
  v3 := Tryz.zeroValue3
  t4 := Tryz.underlying4
  a4 := Tryz.isAgg4
  z4 := Tryz.sizeOf4
  v4 := Tryz.zeroValue4
  t9 := Tryz.underlying9
  a9 := Tryz.isAgg9
  z9 := Tryz.sizeOf9
  v9 := Tryz.zeroValue9
  t20 := Tryz.underlying20
  a20 := Tryz.isAgg20
  z20 := Tryz.sizeOf20
  v20 := Tryz.zeroValue20
  t37 := Tryz.underlying22
  a37 := Tryz.isAgg22
  z37 := Tryz.sizeOf22
  v37 := Tryz.zeroValue22
  t70 := Tryz.underlying147
  a70 := Tryz.isAgg147
  z70 := Tryz.sizeOf147
  v70 := Tryz.zeroValue147
  t72 := Tryz.underlying149
  a72 := Tryz.isAgg149
  z72 := Tryz.sizeOf149
  v72 := Tryz.zeroValue149
  t164 := Tryz.underlying106
  a164 := Tryz.isAgg106
  z164 := Tryz.sizeOf106
  v164 := Tryz.zeroValue106 }
theorem Tryz.Builder_Extra_165 : Builder.Extra Tryz.prog Tryz.lays165_ren := {
  sizeBuilder := by kernel_rfl
  liesBuilder := by kernel_rfl
  t5 := Tryz.underlying5
  a5 := Tryz.isAgg5
  z5 := Tryz.sizeOf5
  v5 := Tryz.zeroValue5
  infoByte := by kernel_rfl
  cellsByte := by kernel_rfl
  sizeByte := by kernel_rfl
  neB5 := by decide }
open Go.RowKit in
theorem Tryz.Builder_Grow_fresh (B b n : Nat) (w : World) (hB : B ≤ b) (hbk : w.heap[b]? = some (.cells #[.pointer none, .slice none 0 0] 149 (0, 0))) (hBw : B ≤ w.heap.size) (hn : n ≤ 281474976710656) :
    Calls Tryz.prog 96 #[.pointer (some ⟨b, 0, none⟩), .int .i64 n] w fun e w' => e = .returned (.tuple #[]) ∧ (Lib.BuilderAt 149 5 B b (.pointer (some ⟨b, 0, none⟩)) [] w' ∧ Below B w w') := Any.Builder_Grow_fresh Tryz.lays165 Tryz.Builder_Extra_165 B b n w hB hbk hBw hn
def Tryz.lays134_ren : Go.Shelf.Ren := ⟨fun | 134 => 111 | 129 => 114 | n => n, fun | 53 => 24 | 3 => 3 | 4 => 4 | 46 => 126 | 5 => 5 | 9 => 9 | n => n, fun | n => n⟩
theorem Tryz.lays134 : Go.Proofs.Lays.n134 Tryz.prog Tryz.lays134_ren := {
  mixed := by kernel_rfl
  f129 := Tryz.func114.trans (congrArg some (by kernel_rfl))
  f134 := Tryz.func111.trans (congrArg some (by kernel_rfl))
  t3 := Tryz.underlying3
  a3 := Tryz.isAgg3
  z3 := Tryz.sizeOf3
  v3 := Tryz.zeroValue3
  t4 := Tryz.underlying4
  a4 := Tryz.isAgg4
  z4 := Tryz.sizeOf4
  v4 := Tryz.zeroValue4
  t5 := Tryz.underlying5
  a5 := Tryz.isAgg5
  z5 := Tryz.sizeOf5
  v5 := Tryz.zeroValue5
  t9 := Tryz.underlying9
  a9 := Tryz.isAgg9
  z9 := Tryz.sizeOf9
  v9 := Tryz.zeroValue9
  t46 := Tryz.underlying126
  a46 := Tryz.isAgg126
  z46 := Tryz.sizeOf126
  v46 := Tryz.zeroValue126
  t53 := Tryz.underlying24
  a53 := Tryz.isAgg24
  z53 := Tryz.sizeOf24
  v53 := Tryz.zeroValue24 }
theorem Tryz.bits_LeadingZeros64 (x : Int) (w : World) (h0 : 0 ≤ x) (h1 : x ≤ 18446744073709551615) :
    Calls Tryz.prog 111 #[.int .u64 x] w fun e w' => e = .returned (.int .i64 (64 - (Lib.bitLen x.toNat : Int))) ∧ w' = w := Any.bits_LeadingZeros64 Tryz.lays134 x w h0 h1
def Tryz.lays264_ren : Go.Shelf.Ren := ⟨fun | 264 => 110 | n => n, fun | 53 => 24 | 46 => 126 | n => n, fun | n => n⟩
theorem Tryz.lays264 : Go.Proofs.Lays.n264 Tryz.prog Tryz.lays264_ren := {
  mixed := by kernel_rfl
  f264 := Tryz.func110.trans (congrArg some (by kernel_rfl))
  t46 := Tryz.underlying126
  a46 := Tryz.isAgg126
  z46 := Tryz.sizeOf126
  v46 := Tryz.zeroValue126
  t53 := Tryz.underlying24
  a53 := Tryz.isAgg24
  z53 := Tryz.sizeOf24
  v53 := Tryz.zeroValue24 }
open Go.RowKit Go.Lib in
theorem Tryz.bits_Mul64 (x y : Nat) (hx : x < 18446744073709551616) (hy : y < 18446744073709551616) (w : World) :
    Calls Tryz.prog 110 #[.int .u64 x, .int .u64 y] w fun e w' => e = .returned (.tuple #[.int .u64 ((x * y / 18446744073709551616 : Nat) : Int), .int .u64 ((x * y % 18446744073709551616 : Nat) : Int)]) ∧ w' = w := Any.bits_Mul64 Tryz.lays264 x y hx hy w
end Go.Proofs
