/-
  Part 3 of what is proved of drawn right trees.
-/
import Derived.Test.YtcdbifcidaafnaaGreatDoorPab
import Derived.Test.YtcdbifcidaafnaaGreatDoorPaa
import Derived.Lib.Strings
import Derived.Deep.RegionLaw
import Derived.Lib.ItoaNum
import Derived.WalkKit
import Derived.Deep.DeepCutAuto
import Derived.Deep.QuietTactic
import Derived.BigQuiet
import Derived.Deep.CutBlock
import Derived.Deep.CutRange
import Derived.Deep.RegionWith

namespace Go.Proofs.YtcdbifcidaafnaaGreatDoor
open Go.RowKit
set_option linter.unusedVariables false
set_option maxHeartbeats 400000 in
set_option maxRecDepth 100000 in
theorem l03Bits64_any (ac : Option Addr) (len cap g : Nat) (w : World) (hC : Cur ac len cap w g) :
    Calls Tryz.prog 68 #[.pointer (some ⟨g, 0, none⟩)] w fun e w' => ∃ x : Nat, x < 18446744073709551616 ∧ e = .returned (.int .u64 x) ∧ Cur ac len cap w' g ∧ w.grownBy w' (some g) := by
  go_enter Tryz.func68, Tryz.ntmps68
  go_wp2_with fail
  refine (l01Below_nat ac len cap g 4294967296 _ hC (by decide) (by decide)).mono ?_
  rintro e w1 ⟨x, hx, rfl, hC1, gr1⟩
  have hx' : (x : Int) < 4294967296 := by omega
  have HX : Hid (Unit → x < 4294967296) := fun _ => hx
  clear hx
  go_wp2_with fail
  refine (l01Below_nat ac len cap g 4294967296 _ hC1 (by decide) (by decide)).mono ?_
  rintro e w2 ⟨y, hy, rfl, hC2, gr2⟩
  have hy' : (y : Int) < 4294967296 := by omega
  have HY : Hid (Unit → y < 4294967296) := fun _ => hy
  clear hy
  go_wp2_with fail
  go_ret
  exact ⟨x * 4294967296 + y, by have := HX.out (); have := HY.out (); omega, ret_int (by omega), hC2, gr1.trans gr2⟩
theorem signN_lt (b : Bool) (m : Nat) (e : Int) (st : Bool) : signN b (roundN m e st) < 18446744073709551616 := by
  have := roundN_le m e st
  unfold signN
  split <;> omega
theorem specRound_int (b : Bool) (m e : Int) (w : World) (h0 : 0 ≤ m) (hm : m < 18446744073709551616) (he0 : -9223372036854775808 ≤ e) (he2 : e ≤ 9223372036854775807) :
    Calls Tryz.prog 57 #[.bool b, .int .u64 m, .int .i64 e, .bool false] w fun en w' => ∃ x : Nat, x < 18446744073709551616 ∧ en = .returned (.int .u64 x) ∧ w = w' := by
  obtain ⟨n, rfl⟩ : ∃ n : Nat, m = n := ⟨m.toNat, by omega⟩
  exact (specRound_any b false n e w (by omega) he0 he2).mono fun en w' h => ⟨_, signN_lt _ _ _ _, h.1, h.2⟩
theorem specFromInt_some (n : Int) (w : World) (h0 : -9223372036854775808 ≤ n) (h1 : n ≤ 9223372036854775807) :
    Calls Tryz.prog 67 #[.int .i64 n] w fun e w' => ∃ x : Nat, x < 18446744073709551616 ∧ e = .returned (.int .u64 x) ∧ w = w' :=
  (specFromInt_any n w h0 h1).mono fun en w' h => ⟨_, signN_lt _ _ _ _, h.1, h.2⟩
def edgeNumbers : List Int := [0, 9223372036854775808, 1, 2, 4503599627370495, 4503599627370496, 4503599627370497, 9218868437227405312, 9218868437227405311, 9218868437227405310, 9221120237041090560, 9221120237041090561, 18442240474082181120, 18444492273895866368, 9218868437227405313, 4607182418800017408, 4607182418800017409]
theorem edge_ok : ∀ i : Fin 17, 0 ≤ edgeNumbers.getD i.val 0 ∧ edgeNumbers.getD i.val 0 < 18446744073709551616 := by decide
theorem edge_cell (w : World) (t : TypeId) (y : Nat) (hy : y < 17) : ∃ v : Nat, v < 18446744073709551616 ∧ (w.alloc (.cells (edgeNumbers.map (Value.int .u64)).toArray t)).cell? ⟨w.heap.size, y, none⟩ = some (.int .u64 v) := by
  have h := heap_alloc_new w (.cells (edgeNumbers.map (Value.int .u64)).toArray t)
  have ho := edge_ok ⟨y, hy⟩
  have hl : y < edgeNumbers.length := hy
  refine ⟨(edgeNumbers.getD y 0).toNat, by simp only at ho; omega, ?_⟩
  have e : (((edgeNumbers.getD y 0).toNat : Nat) : Int) = edgeNumbers.getD y 0 := Int.toNat_of_nonneg ho.1
  rw [e]
  unfold World.cell?
  simp only [h]
  simp [List.getElem?_eq_getElem hl]
set_option maxHeartbeats 1000000 in
set_option maxRecDepth 100000 in
theorem l03Number_any (ac : Option Addr) (len cap g : Nat) (w : World) (hC : Cur ac len cap w g) :
    Calls Tryz.prog 49 #[.pointer (some ⟨g, 0, none⟩)] w fun e w' => ∃ x : Nat, x < 18446744073709551616 ∧ e = .returned (.int .u64 x) ∧ Cur ac len cap w' g ∧ w.grownBy w' (some g) := by
  go_enter Tryz.func49, Tryz.ntmps49
  go_wp2_with fail
  refine (l01Below_nat ac len cap g 8 _ hC (by omega) (by omega)).mono ?_
  rintro e w1 ⟨x, hx, rfl, hC1, gr1⟩
  rcases (by omega : x = 0 ∨ x = 1 ∨ x = 2 ∨ x = 3 ∨ x = 4 ∨ x = 5 ∨ 5 < x) with rfl | rfl | rfl | rfl | rfl | rfl | h5
  · go_wp2_with (go_at_call 46; refine (l03Pow_63 _).mono ?_; rintro e w' ⟨rfl, rfl⟩)
    refine (l01Below_nat ac len cap g 17 _ (cur_alloc hC1 _) (by omega) (by omega)).mono ?_
    rintro e w2 ⟨y, hy, rfl, hC2, gr2⟩
    have hyi : (y : Int) < 17 := by omega
    have hy0 : (0 : Int) ≤ (y : Int) := by omega
    obtain ⟨v, hv, hcell⟩ := edge_cell w1 24 y hy
    have hg := hC1.2.1
    have hc2 : w2.cell? ⟨w1.heap.size, y, none⟩ = some (.int .u64 v) := gr2.cell hcell (by simp; omega)
    have HV : Hid (Unit → v < 18446744073709551616) := fun _ => hv
    clear hv hcell
    go_wp2_with fail
    go_ret
    exact ⟨v, HV.out (), rfl, hC2, (gr1.trans (World.grownBy_alloc _ _ _)).trans gr2⟩
  · go_wp2_with fail
    refine (l01Below_nat ac len cap g 2000 _ hC1 (by omega) (by omega)).mono ?_
    rintro e w2 ⟨y, hy, rfl, hC2, gr2⟩
    go_wp2_with fail
    refine (specFromInt_some _ _ (by omega) (by omega)).mono ?_
    rintro e w3 ⟨v, hv, rfl, rfl⟩
    have HV : Hid (Unit → v < 18446744073709551616) := fun _ => hv
    clear hv
    go_wp2_with fail
    go_ret
    exact ⟨v, HV.out (), rfl, hC2, gr1.trans gr2⟩
  · go_wp2_with fail
    refine (l01Below_nat ac len cap g 2000 _ hC1 (by omega) (by omega)).mono ?_
    rintro e w2 ⟨y, hy, rfl, hC2, gr2⟩
    go_wp2_with fail
    refine (specFromInt_some _ _ (by omega) (by omega)).mono ?_
    rintro e w3 ⟨v, hv, rfl, rfl⟩
    have HV : Hid (Unit → v < 18446744073709551616) := fun _ => hv
    clear hv
    go_wp2_with fail
    go_ret
    exact ⟨v, HV.out (), rfl, hC2, gr1.trans gr2⟩
  · go_wp2_with fail
    refine (l01Once_any ac len cap g 2 _ hC1 (by omega) (by omega)).mono ?_
    rintro e w2 ⟨b, rfl, hC2, gr2⟩
    go_wp2_with fail
    refine (l01Below_nat ac len cap g 1000000 _ hC2 (by omega) (by omega)).mono ?_
    rintro e w3 ⟨y, hy, rfl, hC3, gr3⟩
    go_wp2_with fail
    refine (l01Below_nat ac len cap g 40 _ hC3 (by omega) (by omega)).mono ?_
    rintro e w4 ⟨z, hz, rfl, hC4, gr4⟩
    go_wp2_with fail
    refine (specRound_int b _ _ _ (by omega) (by omega) (by omega) (by omega)).mono ?_
    rintro e w5 ⟨v, hv, rfl, rfl⟩
    have HV : Hid (Unit → v < 18446744073709551616) := fun _ => hv
    clear hv
    go_wp2_with fail
    go_ret
    exact ⟨v, HV.out (), rfl, hC4, ((gr1.trans gr2).trans gr3).trans gr4⟩
  · go_wp2_with fail
    refine (l01Below_nat ac len cap g 2048 _ hC1 (by omega) (by omega)).mono ?_
    rintro e w2 ⟨y, hy, rfl, hC2, gr2⟩
    go_wp2_with fail
    refine (l01Below_nat ac len cap g 4 _ hC2 (by omega) (by omega)).mono ?_
    rintro e w3 ⟨z, hz, rfl, hC3, gr3⟩
    go_wp2_with fail
    go_ret
    exact ⟨y * 4503599627370496 + z, by omega, ret_int (by omega), hC3, (gr1.trans gr2).trans gr3⟩
  · go_wp2_with fail
    refine (l01Once_any ac len cap g 2 _ hC1 (by omega) (by omega)).mono ?_
    rintro e w2 ⟨b, rfl, hC2, gr2⟩
    go_wp2_with fail
    refine (l03Bits64_any ac len cap g _ hC2).mono ?_
    rintro e w3 ⟨y, hy, rfl, hC3, gr3⟩
    have hy' : (y : Int) < 18446744073709551616 := by omega
    clear hy
    go_wp2_with fail
    refine (l01Below_nat ac len cap g 120 _ hC3 (by omega) (by omega)).mono ?_
    rintro e w4 ⟨z, hz, rfl, hC4, gr4⟩
    go_wp2_with fail
    refine (specRound_int b _ _ _ (by omega) (by omega) (by omega) (by omega)).mono ?_
    rintro e w5 ⟨v, hv, rfl, rfl⟩
    have HV : Hid (Unit → v < 18446744073709551616) := fun _ => hv
    clear hv
    go_wp2_with fail
    go_ret
    exact ⟨v, HV.out (), rfl, hC4, ((gr1.trans gr2).trans gr3).trans gr4⟩
  · have e0 : ((x : Int) == 0) = false := by rw [beq_eq_false_iff_ne]; omega
    have e1 : ((x : Int) == 1) = false := by rw [beq_eq_false_iff_ne]; omega
    have e2 : ((x : Int) == 2) = false := by rw [beq_eq_false_iff_ne]; omega
    have e3 : ((x : Int) == 3) = false := by rw [beq_eq_false_iff_ne]; omega
    have e4 : ((x : Int) == 4) = false := by rw [beq_eq_false_iff_ne]; omega
    have e5 : ((x : Int) == 5) = false := by rw [beq_eq_false_iff_ne]; omega
    go_wp2_with fail
    refine (l03Bits64_any ac len cap g _ hC1).mono ?_
    rintro e w2 ⟨v, hv, rfl, hC2, gr2⟩
    have HV : Hid (Unit → v < 18446744073709551616) := fun _ => hv
    clear hv
    go_wp2_with fail
    go_ret
    exact ⟨v, HV.out (), rfl, hC2, gr1.trans gr2⟩
end Go.Proofs.YtcdbifcidaafnaaGreatDoor
namespace Go.Proofs.YtcdbifcidaafnaaGreatDoor
theorem roundN_mark {M d low : Nat} {E : Int} (st : Bool) (hl : low < 2 ^ d) (hM : 9007199254740992 ≤ M) : roundN (M * 2 ^ d + low) (E - d) st = roundN M E (st || decide (low ≠ 0)) := by
  cases st
  · rw [Bool.false_or]; exact roundN_sticky hl (.inr hM)
  · have hp := Nat.two_pow_pos d
    have h1 : M * 1 ≤ M * 2 ^ d := Nat.mul_le_mul_left _ hp
    have a := roundN_sticky (M := M * 2 ^ d + low) (d := 1) (low := 1) (E := E - d) (by decide) (.inr (by omega))
    have b := roundN_sticky (M := M) (d := d + 1) (low := low * 2 + 1) (E := E) (by rw [Nat.pow_succ]; omega) (.inr hM)
    have e1 : (M * 2 ^ d + low) * 2 ^ 1 + 1 = M * 2 ^ (d + 1) + (low * 2 + 1) := by rw [Nat.pow_succ 2 d, Nat.pow_one, Nat.add_mul, ← Nat.mul_assoc]; omega
    have e2 : E - d - ((1 : Nat) : Int) = E - ((d + 1 : Nat) : Int) := by omega
    rw [e1, e2, b] at a
    have t1 : decide (low * 2 + 1 ≠ 0) = true := by simp
    have t2 : decide ((1 : Nat) ≠ 0) = true := by simp
    rw [t1, t2] at a
    rw [← a, Bool.true_or]
theorem round_off {P k n : Nat} {l : Bool} {E : Int} (hn : n = P / 2 ^ k) (hl : l = decide (P % 2 ^ k ≠ 0)) (h : k = 0 ∨ 72057594037927936 ≤ n) : roundN n (E + k) (l && decide (72057594037927936 ≤ n)) = roundN P E false := by
  have hp := Nat.div_add_mod P (2 ^ k)
  rw [← hn, Nat.mul_comm] at hp
  have hlow : P % 2 ^ k < 2 ^ k := Nat.mod_lt _ (Nat.two_pow_pos k)
  have h0 : k = 0 → P % 2 ^ k = 0 := fun e => by subst e; simp [Nat.mod_one]
  obtain ⟨low, hq⟩ : ∃ q, P % 2 ^ k = q := ⟨_, rfl⟩
  rw [hq] at hp hlow hl h0
  have hs : (l && decide (72057594037927936 ≤ n)) = decide (low ≠ 0) := by
    rcases h with h | h
    · have := h0 h
      subst this
      simp [hl]
    · rw [hl]; simp [h]
  have hE : E = E + k - k := by omega
  rw [hs, ← roundN_sticky (M := n) (d := k) (low := low) (E := E + k) hlow (by omega), ← hE, hp]
def quoN (m n : Nat) (e : Int) : Nat := roundN (m * 2 ^ 170 / n) (e - 170) (decide (m * 2 ^ 170 % n ≠ 0))
theorem quo_more {m n k d : Nat} {e : Int} (hn : n ≠ 0) (h : 9007199254740992 ≤ m * 2 ^ k / n) :
    roundN (m * 2 ^ (k + d) / n) (e - ((k + d : Nat) : Int)) (decide (m * 2 ^ (k + d) % n ≠ 0)) = roundN (m * 2 ^ k / n) (e - k) (decide (m * 2 ^ k % n ≠ 0)) := by
  have hp := Nat.div_add_mod (m * 2 ^ k) n
  obtain ⟨q, hq⟩ : ∃ q, m * 2 ^ k / n = q := ⟨_, rfl⟩
  obtain ⟨r, hr⟩ : ∃ q, m * 2 ^ k % n = q := ⟨_, rfl⟩
  have hrn : r < n := by rw [← hr]; exact Nat.mod_lt _ (by omega)
  rw [hq, hr] at hp ⊢
  rw [hq] at h
  have hD := Nat.two_pow_pos d
  have e1 : m * 2 ^ (k + d) = n * (q * 2 ^ d) + r * 2 ^ d := by rw [Nat.pow_add, ← Nat.mul_assoc, ← hp, Nat.add_mul, Nat.mul_assoc]
  have e2 : m * 2 ^ (k + d) / n = q * 2 ^ d + r * 2 ^ d / n := by rw [e1, Nat.mul_add_div (by omega)]
  have e3 : m * 2 ^ (k + d) % n = r * 2 ^ d % n := by rw [e1, Nat.mul_add_mod]
  have hlow : r * 2 ^ d / n < 2 ^ d := by
    rw [Nat.div_lt_iff_lt_mul (by omega), Nat.mul_comm]
    exact Nat.mul_lt_mul_of_pos_left hrn hD
  have hx : e - ((k + d : Nat) : Int) = e - k - d := by omega
  rw [e2, e3, hx, roundN_mark _ hlow h]
  congr 1
  have hz := Nat.div_add_mod (r * 2 ^ d) n
  rw [Bool.eq_iff_iff, Bool.or_eq_true, decide_eq_true_iff, decide_eq_true_iff, decide_eq_true_iff]
  constructor
  · intro h0 hr0
    subst hr0
    simp at h0
  · intro hr0
    rcases Nat.eq_zero_or_pos (r * 2 ^ d % n) with h1 | h1
    · right
      intro h2
      rw [h1, h2] at hz
      have : 0 < r * 2 ^ d := Nat.mul_pos (by omega) hD
      omega
    · left; omega
theorem quo_at {m n k : Nat} {e : Int} (hn : n ≠ 0) (h : 9007199254740992 ≤ m * 2 ^ k / n) (hk : k ≤ 170) : roundN (m * 2 ^ k / n) (e - k) (decide (m * 2 ^ k % n ≠ 0)) = quoN m n e := by
  obtain ⟨d, hd⟩ : ∃ d, k + d = 170 := ⟨170 - k, by omega⟩
  rw [← quo_more (d := d) hn h, hd]
  rfl
theorem quo_scale {m n u v : Nat} {e : Int} (hm : m ≠ 0) (hn : n ≠ 0) (hn2 : n < 9007199254740992) (hv : v ≤ 63) (hu : u ≤ 63) : quoN (m * 2 ^ u) (n * 2 ^ v) (e - u + v) = quoN m n e := by
  have h1 : ∀ k, 107 ≤ k → 9007199254740992 ≤ m * 2 ^ k / n := by
    intro k hk
    rw [Nat.le_div_iff_mul_le (by omega)]
    have : 2 ^ 107 ≤ 2 ^ k := Nat.pow_le_pow_right (by decide) hk
    have : 1 * 2 ^ k ≤ m * 2 ^ k := Nat.mul_le_mul_right _ (by omega)
    omega
  have key : ∀ k, 170 + u = k + v → 107 ≤ k → quoN (m * 2 ^ u) (n * 2 ^ v) (e - u + v) = roundN (m * 2 ^ k / n) (e - k) (decide (m * 2 ^ k % n ≠ 0)) := by
    intro k hk _
    have e1 : m * 2 ^ u * 2 ^ 170 = m * 2 ^ k * 2 ^ v := by rw [Nat.mul_assoc, Nat.mul_assoc, ← Nat.pow_add, ← Nat.pow_add, ← hk, Nat.add_comm]
    have hp := Nat.two_pow_pos v
    have e2 : m * 2 ^ k * 2 ^ v / (n * 2 ^ v) = m * 2 ^ k / n := Nat.mul_div_mul_right _ _ hp
    have e3 : m * 2 ^ k * 2 ^ v % (n * 2 ^ v) = m * 2 ^ k % n * 2 ^ v := Nat.mul_mod_mul_right _ _ _
    have e4 : decide (m * 2 ^ k % n * 2 ^ v ≠ 0) = decide (m * 2 ^ k % n ≠ 0) := by
      rw [Bool.eq_iff_iff, decide_eq_true_iff, decide_eq_true_iff]
      simp only [ne_eq, Nat.mul_eq_zero, not_or]
      exact ⟨fun h => h.1, fun h => ⟨h, by omega⟩⟩
    have e5 : e - u + v - 170 = e - k := by omega
    unfold quoN
    rw [e1, e2, e3, e4, e5]
  rw [key (170 + u - v) (by omega) (by omega)]
  have a := quo_more (m := m) (n := n) (k := 107) (d := 170 + u - v - 107) (e := e) hn (h1 _ (by omega))
  have b := quo_at (m := m) (n := n) (k := 107) (e := e) hn (h1 _ (by omega)) (by omega)
  rw [(by omega : 107 + (170 + u - v - 107) = 170 + u - v)] at a
  rw [a, b]
def mulP (k1 k2 : Nat) (s1 s2 : Bool) (m1 m2 : Nat) (e1 e2 : Int) : Nat :=
  if k1 = 1 ∨ k2 = 1 ∨ (k1 = 2 ∧ k2 = 3) ∨ (k1 = 3 ∧ k2 = 2) then 9221120237041090560
  else if k1 = 2 ∨ k2 = 2 then signN (s1 != s2) 9218868437227405312
  else if k1 = 3 ∨ k2 = 3 then signN (s1 != s2) 0
  else signN (s1 != s2) (roundN (m1 * m2) (e1 + e2) false)
def mulN (a b : Nat) : Nat := mulP (kindN a) (kindN b) (belowN a) (belowN b) (mantN a) (mantN b) (expN a) (expN b)
def divP (k1 k2 : Nat) (s1 s2 : Bool) (m1 m2 : Nat) (e1 e2 : Int) : Nat :=
  if k1 = 1 ∨ k2 = 1 ∨ (k1 = k2 ∧ (k1 = 2 ∨ k1 = 3)) then 9221120237041090560
  else if k1 = 2 ∨ k2 = 3 then signN (s1 != s2) 9218868437227405312
  else if k1 = 3 ∨ k2 = 2 then signN (s1 != s2) 0
  else signN (s1 != s2) (quoN m1 m2 (e1 - e2))
def divN (a b : Nat) : Nat := divP (kindN a) (kindN b) (belowN a) (belowN b) (mantN a) (mantN b) (expN a) (expN b)
def restN (m : Nat) (e : Int) (n : Nat) (f : Int) : Nat := roundN (m * 2 ^ (e - min e f).toNat % (n * 2 ^ (f - min e f).toNat)) (min e f) false
def remP (a k1 k2 : Nat) (s1 : Bool) (m1 m2 : Nat) (e1 e2 : Int) : Nat :=
  if k1 = 1 ∨ k2 = 1 ∨ k1 = 2 ∨ k2 = 3 then 9221120237041090560
  else if k1 = 3 ∨ k2 = 2 then a
  else signN s1 (restN m1 e1 m2 e2)
def remN (a b : Nat) : Nat := remP a (kindN a) (kindN b) (belowN a) (mantN a) (mantN b) (expN a) (expN b)
end Go.Proofs.YtcdbifcidaafnaaGreatDoor
namespace Go.Proofs.YtcdbifcidaafnaaGreatDoor
open Go.RowKit
set_option linter.unusedVariables false
structure Two (g c : Nat) (w w' : World) : Prop where
  os : w'.os = w.os
  tape : w'.tape = w.tape
  output : w'.output = w.output
  size : w.heap.size ≤ w'.heap.size
  block : ∀ k, k < w.heap.size → k ≠ g → k ≠ c → w'.heap[k]? = w.heap[k]?
theorem Two.of_grown {g c : Nat} {w w' : World} (h : w.grownBy w' (some c)) : Two g c w w' := ⟨h.os, h.tape, h.output, h.size, fun k hk _ h2 => h.block k hk (fun e => h2 (Option.some.inj e))⟩
theorem Two.cell {g c : Nat} {w w' : World} (h : Two g c w w') {b j : Nat} (hb : b < w.heap.size) (h1 : b ≠ g) (h2 : b ≠ c) : w'.cell? ⟨b, j, none⟩ = w.cell? ⟨b, j, none⟩ := by
  unfold World.cell?
  rw [h.block b hb h1 h2]
def StrRow (w : World) (b n m : Nat) : Prop := ∀ j, j < n → ∃ s : ByteArray, w.cell? ⟨b, j, none⟩ = some (.string s) ∧ s.size ≤ m
theorem row_new (w : World) (xs : List Value) (t : TypeId) (n m : Nat) (hn : xs.length = n) (h : ∀ v ∈ xs, ∃ s : ByteArray, v = .string s ∧ s.size ≤ m) : StrRow (w.alloc (.cells xs.toArray t)) w.heap.size n m := fun j hj => by
  rw [cell_of_row _ _ _ _ _ _ (heap_alloc_new w (.cells xs.toArray t))]
  obtain ⟨s, hs, h2⟩ := h xs[j] (List.getElem_mem _)
  refine ⟨s, ?_, h2⟩
  rw [← hs]
  simp
set_option maxHeartbeats 1000000 in
set_option maxRecDepth 100000 in
theorem l01Pick_any (ac : Option Addr) (len cap c gl n m k : Nat) (w : World) (hC : Cur ac len cap w c) (hgl : gl ≠ c) (hb : gl < w.heap.size) (h0 : 0 < n) (hn : n ≤ 1000) (hz : StrRow w gl n m) :
    Calls Tryz.prog 64 #[.pointer (some ⟨c, 0, none⟩), .slice (some ⟨gl, 0, none⟩) n k] w fun e w' => ∃ s : ByteArray, s.size ≤ m ∧ e = .returned (.string s) ∧ Cur ac len cap w' c ∧ w.grownBy w' (some c) := by
  go_enter Tryz.func64, Tryz.ntmps64
  go_wp2_with fail
  refine (l01Below_nat ac len cap c n _ hC h0 (by omega)).mono ?_
  rintro e w1 ⟨x, hx, rfl, hc, gr⟩
  obtain ⟨s, hs, hsm⟩ := hz x hx
  have hcell : w1.cell? ⟨gl, x, none⟩ = some (.string s) := by rw [Two.cell (Two.of_grown (g := c) gr) hb hgl hgl]; exact hs
  have hx' : (x : Int) < n := by omega
  clear hz hs
  go_wp2
  go_ret
  exact ⟨s, hsm, rfl, hc, gr⟩
end Go.Proofs.YtcdbifcidaafnaaGreatDoor
