/-
  Part 7 of what is proved of drawn right trees.
-/
import Derived.Test.YtcdbifcidaafnaaGreatDoorPae
import Derived.Test.YtcdbifcidaafnaaGreatDoorPaf
import Derived.Laws.BitsAllLaws
import Derived.Deep.QuietTactic
import Derived.BigQuiet
import Derived.Test.YtcdbifcidaafnaaGreatDoorPab
import Derived.Test.YtcdbifcidaafnaaGreatDoorPad
import Derived.Test.YtcdbifcidaafnaaGreatDoorPac

namespace Go.Proofs.YtcdbifcidaafnaaGreatDoor
open Go.RowKit Go.Sort
set_option linter.unusedVariables false
set_option maxHeartbeats 400000 in
set_option maxRecDepth 100000 in
theorem iNegate_w (x : Nat) (w : World) (hx : x < 18446744073709551616) :
    Calls Tryz.prog 63 #[.int .u64 x] w fun e w' => e = .returned (.int .u64 (negN x : Nat)) ∧ w = w' := by
  have cK := fun W => iKind x W
  by_cases hk : kindN x = 1
  · have HN : Hid (Unit → negN x = 9221120237041090560) := fun _ => by unfold negN; rw [if_pos hk]
    rw [hk] at cK
    clear hx hk
    go_enter Tryz.func63, Tryz.ntmps63
    go_wp2_with (go_at_call 82; refine (cK _).mono ?_; rintro e w' ⟨rfl, rfl⟩)
    go_ret
    exact ⟨by rw [HN.out ()]; rfl, rfl⟩
  · have HN : Hid (Unit → negN x = x ^^^ 9223372036854775808) := fun _ => by rw [xor_top hx]; unfold negN; rw [if_neg hk]
    have hxr : bits .xor .u64 (x : Int) 9223372036854775808 = ((x ^^^ 9223372036854775808 : Nat) : Int) := u64_xor_nat x 9223372036854775808 hx (by decide)
    obtain ⟨Z, hZ⟩ : ∃ Z, x ^^^ 9223372036854775808 = Z := ⟨_, rfl⟩
    rw [hZ] at HN hxr
    obtain ⟨k, hk2⟩ : ∃ k, kindN x = k := ⟨_, rfl⟩
    rw [hk2] at cK hk
    have d : ((k : Int) == 1) = false := by rw [beq_eq_false_iff_ne]; omega
    clear hx hk hZ hk2
    go_enter Tryz.func63, Tryz.ntmps63
    go_wp2_with (go_at_call 82; refine (cK _).mono ?_; rintro e w' ⟨rfl, rfl⟩)
    go_ret
    exact ⟨by rw [HN.out ()]; rfl, rfl⟩
set_option maxHeartbeats 400000 in
set_option maxRecDepth 100000 in
theorem iMantRaw (x : Nat) (w : World) (hx : x < 18446744073709551616) :
    Calls Tryz.prog 101 #[.int .u64 x] w fun e w' => e = .returned (.tuple #[.int .u64 (rawM x : Nat), .int .i64 (rawE x)]) ∧ w = w' := by
  have hx' : (x : Int) < 18446744073709551616 := by omega
  by_cases h : x / 4503599627370496 % 2048 = 0
  · have g : (x : Int) / 4503599627370496 % 2048 = 0 := by omega
    have HM : Hid (Unit → (rawM x : Int) = (x : Int) % 4503599627370496) := fun _ => by simp [rawM, h]
    have HE : Hid (Unit → rawE x = -1074) := fun _ => by simp [rawE, h]
    clear h hx
    go_enter Tryz.func101, Tryz.ntmps101
    go_wp2
    go_ret2
    exact ⟨by rw [HM.out (), HE.out ()]; rfl, rfl⟩
  · have g : ((x : Int) / 4503599627370496 % 2048 == 0) = false := by rw [beq_eq_false_iff_ne]; omega
    have HM : Hid (Unit → (rawM x : Int) = 4503599627370496 + (x : Int) % 4503599627370496) := fun _ => by simp [rawM, h]
    have HE : Hid (Unit → rawE x = -1074 + (x : Int) / 4503599627370496 % 2048 - 1) := fun _ => by simp [rawE, h]; omega
    clear h hx
    go_enter Tryz.func101, Tryz.ntmps101
    go_wp2
    go_ret2
    exact ⟨by rw [HM.out (), HE.out ()]; rfl, rfl⟩
set_option maxHeartbeats 400000 in
set_option maxRecDepth 100000 in
theorem iStand (g l : Nat) (w : World) :
    Calls Tryz.prog 99 #[.agg #[.int .u64 g, .int .u64 l]] w fun e w' => e = .returned (.agg #[.int .u64 g, .int .u64 l]) ∧ ∃ o p, w' = (w.alloc o).alloc p := by
  go_enter Tryz.func99, Tryz.ntmps99
  go_wp2
  go_returns
  exact ⟨rfl, _, _, rfl⟩
set_option maxHeartbeats 400000 in
set_option maxRecDepth 100000 in
theorem iSwapped (g l : Nat) (w : World) :
    Calls Tryz.prog 100 #[.agg #[.int .u64 g, .int .u64 l]] w fun e w' => e = .returned (.agg #[.int .u64 l, .int .u64 g]) ∧ ∃ o p, w' = (w.alloc o).alloc p := by
  go_enter Tryz.func100, Tryz.ntmps100
  go_wp2
  go_returns
  exact ⟨rfl, _, _, rfl⟩
set_option maxHeartbeats 400000 in
set_option maxRecDepth 100000 in
theorem iAddends (a b : Nat) (w : World) :
    Calls Tryz.prog 88 #[.int .u64 a, .int .u64 b] w fun e w' => e = .returned (.agg #[.int .u64 ((if a % 9223372036854775808 < b % 9223372036854775808 then b else a : Nat) : Int), .int .u64 ((if a % 9223372036854775808 < b % 9223372036854775808 then a else b : Nat) : Int)]) ∧ Below w.heap.size w w' := by
  have cA := fun W => iSize a W
  have cB := fun W => iSize b W
  have c1 := fun W => iStand a b W
  have c2 := fun W => iSwapped a b W
  obtain ⟨p, hp⟩ : ∃ p : Int, (a : Int) % 9223372036854775808 = p := ⟨_, rfl⟩
  obtain ⟨q, hq⟩ : ∃ p : Int, (b : Int) % 9223372036854775808 = p := ⟨_, rfl⟩
  rw [hp] at cA
  rw [hq] at cB
  by_cases h : p < q
  · rw [if_pos (by omega), if_pos (by omega)]
    clear hp hq c1
    go_enter Tryz.func88, Tryz.ntmps88
    go_wp2_with fail
    refine (cB _).mono ?_
    rintro e w' ⟨rfl, rfl⟩
    go_wp2_with fail
    refine (cA _).mono ?_
    rintro e w' ⟨rfl, rfl⟩
    go_wp2_with fail
    refine (c2 _).mono ?_
    rintro e w' ⟨rfl, o, p, rfl⟩
    go_wp2
    go_returns
    exact ⟨rfl, by go_grown⟩
  · rw [if_neg (by omega), if_neg (by omega)]
    have d : decide (p < q) = false := by simpa using h
    clear hp hq c2
    go_enter Tryz.func88, Tryz.ntmps88
    go_wp2_with fail
    refine (cB _).mono ?_
    rintro e w' ⟨rfl, rfl⟩
    go_wp2_with fail
    refine (cA _).mono ?_
    rintro e w' ⟨rfl, rfl⟩
    go_wp2_with fail
    refine (c1 _).mono ?_
    rintro e w' ⟨rfl, o, p, rfl⟩
    go_wp2
    go_returns
    exact ⟨rfl, by go_grown⟩
set_option maxHeartbeats 1000000 in
set_option maxRecDepth 100000 in
theorem iUnlike (g l : Nat) (w : World) :
    Calls Tryz.prog 89 #[.agg #[.int .u64 g, .int .u64 l]] w fun e w' => e = .returned (.bool (decide (9223372036854775808 ≤ g) != decide (9223372036854775808 ≤ l))) ∧ ∃ o n, w' = (w.alloc o).drewN n := by
  have cG := fun W => iBelow g W
  have cL := fun W => iBelow l W
  obtain ⟨p, hp⟩ : ∃ p, decide (9223372036854775808 ≤ g) = p := ⟨_, rfl⟩
  obtain ⟨q, hq⟩ : ∃ p, decide (9223372036854775808 ≤ l) = p := ⟨_, rfl⟩
  rw [hp] at cG ⊢
  rw [hq] at cL ⊢
  clear hp hq
  have qG := fun (W : World) (n : Nat) => Calls.quiet_of_same ((cG (W.drewN n)).mono (by rintro e w' ⟨rfl, rfl⟩; exact ⟨rfl, rfl⟩))
  have qL := fun (W : World) (n : Nat) => Calls.quiet_of_same ((cL (W.drewN n)).mono (by rintro e w' ⟨rfl, rfl⟩; exact ⟨rfl, rfl⟩))
  go_enter Tryz.func89, Tryz.ntmps89
  go_wp2_with fail
  go_quiet (first | exact qG _ _ | exact qL _ _)
  go_wp2
  go_ret
  exact ⟨rfl, _, _, rfl⟩
end Go.Proofs.YtcdbifcidaafnaaGreatDoor
namespace Go.Proofs.YtcdbifcidaafnaaGreatDoor
open Go.RowKit Go.Sort
set_option linter.unusedVariables false
theorem cut_low {m D : Nat} (h : m < 9007199254740992) : ((m : Int) * 1024 / 2 ^ min D 64) = ((m * 1024 / 2 ^ D : Nat) : Int) ∧ (IntKind.u64.wrap ((m : Int) * 1024 / 2 ^ min D 64 * 2 ^ min D 64) != (m : Int) * 1024) = decide (m * 1024 % 2 ^ D ≠ 0) := by
  have e1 : (m : Int) * 1024 / 2 ^ min D 64 = ((m * 1024 / 2 ^ min D 64 : Nat) : Int) := by simp
  have e2 : m * 1024 / 2 ^ min D 64 = m * 1024 / 2 ^ D ∧ m * 1024 % 2 ^ min D 64 = m * 1024 % 2 ^ D := by
    by_cases h64 : D ≤ 64
    · rw [Nat.min_eq_left h64]; exact ⟨rfl, rfl⟩
    · have hp : 2 ^ 64 ≤ 2 ^ D := Nat.pow_le_pow_right (by decide) (by omega)
      rw [Nat.min_eq_right (by omega), Nat.div_eq_of_lt (by omega), Nat.div_eq_of_lt (by omega), Nat.mod_eq_of_lt (by omega), Nat.mod_eq_of_lt (by omega)]
      exact ⟨rfl, rfl⟩
  rw [e1, e2.1]
  refine ⟨rfl, ?_⟩
  have e3 := Nat.div_add_mod (m * 1024) (2 ^ min D 64)
  rw [e2.1, e2.2, Nat.mul_comm] at e3
  have e4 : ((m * 1024 / 2 ^ D : Nat) : Int) * 2 ^ min D 64 = ((m * 1024 / 2 ^ D * 2 ^ min D 64 : Nat) : Int) := by simp
  rw [e4]
  generalize m * 1024 / 2 ^ D * 2 ^ min D 64 = q at *
  generalize m * 1024 % 2 ^ D = r at *
  have e5 : IntKind.u64.wrap (q : Int) = q := by
    show (q : Int) % 18446744073709551616 = q
    omega
  rw [e5, Bool.eq_iff_iff]
  simp
  omega
set_option maxHeartbeats 2000000 in
set_option maxRecDepth 100000 in
theorem iFinite (g l : Nat) (w : World) (hg : g < 18446744073709551616) (hl : l < 18446744073709551616) (kg : kindN g = 3 ∨ kindN g = 4) (kl : kindN l = 3 ∨ kindN l = 4) (hs : l % 9223372036854775808 ≤ g % 9223372036854775808) :
    Calls Tryz.prog 90 #[.agg #[.int .u64 g, .int .u64 l]] w fun e w' => e = .returned (.int .u64 (addN g l : Nat)) ∧ Below w.heap.size w w' := by
  obtain ⟨D, hD, hE⟩ := sumEnd_of hg kg kl hs
  rw [belowN_of (by omega : kindN g ≠ 1), belowN_of (by omega : kindN l ≠ 1)] at hE
  have cB := fun W => iBelow g W
  have cM := fun W => iMantRaw g W hg
  have cN := fun W => iMantRaw l W hl
  have cU := fun W => iUnlike g l W
  have m1 := rawM_lt g
  have m2 := rawM_lt l
  have e1 := rawE_ge g
  have e2 := rawE_le g
  have e3 := rawE_ge l
  have e4 := rawE_le l
  obtain ⟨s, hs1⟩ : ∃ p, decide (9223372036854775808 ≤ g) = p := ⟨_, rfl⟩
  obtain ⟨t, ht1⟩ : ∃ p, decide (9223372036854775808 ≤ l) = p := ⟨_, rfl⟩
  rw [hs1] at cB
  rw [hs1, ht1] at cU hE
  generalize rawM g = mg at *
  generalize rawM l = ml at *
  generalize rawE g = eg at *
  generalize rawE l = el at *
  obtain ⟨R, hR⟩ : ∃ R, addN g l = R := ⟨_, rfl⟩
  rw [hR] at hE ⊢
  clear hs1 ht1 hR hg hl kg kl hs
  obtain ⟨c1, c2⟩ := cut_low (D := D) m2
  have b1 : mg * 1024 < 9223372036854775808 := by omega
  have b2 : ml * 1024 / 2 ^ D < 9223372036854775808 := Nat.lt_of_le_of_lt (Nat.div_le_self _ _) (by omega)
  obtain ⟨X, hX⟩ : ∃ X, mg * 1024 = X := ⟨_, rfl⟩
  have hX' : (mg : Int) * 1024 = X := by omega
  obtain ⟨n, hn⟩ : ∃ n, ml * 1024 / 2 ^ D = n := ⟨_, rfl⟩
  obtain ⟨L, hL⟩ : ∃ n, decide (ml * 1024 % 2 ^ D ≠ 0) = n := ⟨_, rfl⟩
  rw [hX] at hE b1
  rw [hn] at hE b2 c1
  rw [hL] at hE c2
  have HE : Hid (Unit → SumEnd R s t X n (eg - 10) L) := fun _ => hE
  have cR := fun W => iRound_w s L (X + n) (eg - 10) W (by omega) (by omega) (by omega)
  rw [Int.natCast_add] at cR
  have M1 : (mg : Int) < 9007199254740992 := by omega
  have M2 : (ml : Int) < 9007199254740992 := by omega
  have B1 : (X : Int) < 9223372036854775808 := by omega
  have B2 : (n : Int) < 9223372036854775808 := by omega
  have C1 : Hid _ := c1
  have C2 : Hid _ := c2
  have X1 : Hid _ := hX'
  clear hE m1 m2 c1 c2 hX' b1 b2 hn hL hX
  go_enter Tryz.func90, Tryz.ntmps90
  go_wp2_with fail
  refine (cB _).mono ?_
  rintro e w' ⟨rfl, rfl⟩
  go_wp2_with fail
  refine (cM _).mono ?_
  rintro e w' ⟨rfl, rfl⟩
  go_wp2_with fail
  refine (cN _).mono ?_
  rintro e w' ⟨rfl, rfl⟩
  go_wp2_with fail
  simp only [C2.out]
  simp only [C1.out]
  simp only [X1.out]
  clear C1 C2 X1 cM cN cB M1 M2
  refine (cU _).mono ?_
  rintro e w' ⟨rfl, o, j, rfl⟩
  clear cU
  by_cases hst : s = t
  · have HR := (HE.out ()).same hst
    subst hst
    rw [← HR] at cR
    have d : (s != s) = false := by simp
    clear HE HR
    go_wp2_with (go_at_call 102; refine (cR _).mono ?_; rintro e w' ⟨rfl, rfl⟩)
    go_ret
    exact ⟨rfl, below_drewN (below_two _ _ _) _⟩
  · have d : (s != t) = true := by simpa using hst
    clear cR
    cases L
    · by_cases hXn : X = n
      · have HR := (HE.out ()).none hst rfl hXn
        subst hXn HR
        clear HE hst
        go_wp2
        go_ret
        exact ⟨rfl, below_drewN (below_two _ _ _) _⟩
      · obtain ⟨h1, HR⟩ := (HE.out ()).more hst rfl hXn
        have cR := fun W => iRound_w s false (X - n) (eg - 10) W (by omega) (by omega) (by omega)
        rw [Bool.false_and, ← HR, Int.natCast_sub (by omega)] at cR
        have d2 : ((X : Int) == n) = false := by rw [beq_eq_false_iff_ne]; omega
        have h2 : (n : Int) < X := by omega
        clear HE HR hXn h1 hst
        go_wp2_with (go_at_call 102; refine (cR _).mono ?_; rintro e w' ⟨rfl, rfl⟩)
        go_ret
        exact ⟨rfl, below_drewN (below_two _ _ _) _⟩
    · obtain ⟨h1, HR⟩ := (HE.out ()).less hst rfl
      have cR := fun W => iRound_w s true (X - (n + 1)) (eg - 10) W (by omega) (by omega) (by omega)
      rw [← HR, Int.natCast_sub (by omega), Int.natCast_add] at cR
      have d2 : ((X : Int) == (n : Int) + 1) = false := by rw [beq_eq_false_iff_ne]; omega
      have h2 : (n : Int) + 1 < X := by omega
      clear HE HR h1 hst
      go_wp2_with (go_at_call 102; refine (cR _).mono ?_; rintro e w' ⟨rfl, rfl⟩)
      go_ret
      exact ⟨rfl, below_drewN (below_two _ _ _) _⟩
theorem kind_le {g l : Nat} (h : l % 9223372036854775808 ≤ g % 9223372036854775808) : (kindN g ≠ 1 → kindN l ≠ 1) ∧ (kindN g = 3 ∨ kindN g = 4 → kindN l = 3 ∨ kindN l = 4) := by
  have hl : l % 9223372036854775808 ≤ 9218868437227405312 → kindN l ≠ 1 := fun h => by
    unfold kindN expBits fracBits
    split
    · rw [if_pos (by omega)]; decide
    · split <;> decide
  have hl2 : l % 9223372036854775808 < 9218868437227405312 → kindN l = 3 ∨ kindN l = 4 := fun h => by
    unfold kindN expBits fracBits
    rw [if_neg (by omega)]
    split
    · exact .inl rfl
    · exact .inr rfl
  constructor
  · intro hg
    refine hl ?_
    rcases Nat.lt_or_ge 9218868437227405312 (g % 9223372036854775808) with h' | h'
    · exact absurd (kind_nan h') hg
    · omega
  · intro hg
    refine hl2 ?_
    rcases Nat.lt_trichotomy 9218868437227405312 (g % 9223372036854775808) with h' | h' | h'
    · have := kind_nan h'; omega
    · have := kind_inf h'.symm; omega
    · omega
set_option maxHeartbeats 2000000 in
set_option maxRecDepth 100000 in
theorem iAdd (a b : Nat) (w : World) (ha : a < 18446744073709551616) (hb : b < 18446744073709551616) :
    Calls Tryz.prog 73 #[.int .u64 a, .int .u64 b] w fun e w' => e = .returned (.int .u64 (addN a b : Nat)) ∧ Below w.heap.size w w' := by
  have cS := fun W => iAddends a b W
  have HG : ∃ g l : Nat, (if a % 9223372036854775808 < b % 9223372036854775808 then b else a) = g ∧ (if a % 9223372036854775808 < b % 9223372036854775808 then a else b) = l ∧
      g < 18446744073709551616 ∧ l < 18446744073709551616 ∧ l % 9223372036854775808 ≤ g % 9223372036854775808 ∧ addN a b = addN g l := by
    by_cases h : a % 9223372036854775808 < b % 9223372036854775808
    · rw [if_pos h, if_pos h]
      exact ⟨b, a, rfl, rfl, hb, ha, by omega, addN_comm ha hb⟩
    · rw [if_neg h, if_neg h]
      exact ⟨a, b, rfl, rfl, ha, hb, by omega, rfl⟩
  obtain ⟨g, l, h1, h2, hg, hl, hs, hR⟩ := HG
  rw [h1, h2] at cS
  rw [hR]
  clear h1 h2 hR ha hb
  obtain ⟨n1, n2⟩ := kind_le hs
  have cK := fun W => iKind g W
  have cL := fun W => iKind l W
  have cU := fun W => iUnlike g l W
  obtain ⟨kg, hkg⟩ : ∃ k, kindN g = k := ⟨_, rfl⟩
  obtain ⟨kl, hkl⟩ : ∃ k, kindN l = k := ⟨_, rfl⟩
  have hK := kindN_cases g
  rw [hkg] at hK cK
  rw [hkl] at cL
  rcases hK with rfl | rfl | hk34
  · have HR : Hid (Unit → addN g l = 9221120237041090560) := fun _ => by unfold addN; simp [hkg]
    clear hkg hkl n1 n2 hs hg hl cL cU
    obtain ⟨R, hR⟩ : ∃ R, addN g l = R := ⟨_, rfl⟩
    rw [hR] at HR ⊢
    clear hR
    go_enter Tryz.func73, Tryz.ntmps73
    go_wp2_with fail
    refine (cS _).mono ?_
    rintro e w1 ⟨rfl, hb1⟩
    go_wp2_with fail
    refine (cK _).mono ?_
    rintro e w' ⟨rfl, rfl⟩
    go_wp2
    go_ret
    exact ⟨by rw [HR.out ()]; rfl, hb1.alloc hb1.size _⟩
  · have n3 := n1 (by omega)
    have HR : Hid (Unit → addN g l = if kl = 2 ∧ (decide (9223372036854775808 ≤ g) != decide (9223372036854775808 ≤ l)) = true then 9221120237041090560 else g) := fun _ => by
      unfold addN
      rw [belowN_of (by omega : kindN g ≠ 1), belowN_of n3, hkg, hkl]
      rw [hkl] at n3
      simp [n3]
    obtain ⟨R, hR⟩ : ∃ R, addN g l = R := ⟨_, rfl⟩
    obtain ⟨u, hu⟩ : ∃ u, (decide (9223372036854775808 ≤ g) != decide (9223372036854775808 ≤ l)) = u := ⟨_, rfl⟩
    rw [hu] at HR cU
    rw [hR] at HR ⊢
    clear hkg hkl n1 n2 hs hg hl hR n3 hu
    by_cases hk : kl = 2
    · subst hk
      cases u
      · have HR2 : Hid (Unit → R = g) := fun _ => by rw [HR.out ()]; simp
        clear HR
        go_enter Tryz.func73, Tryz.ntmps73
        go_wp2_with fail
        refine (cS _).mono ?_
        rintro e w1 ⟨rfl, hb1⟩
        go_wp2_with fail
        refine (cK _).mono ?_
        rintro e w' ⟨rfl, rfl⟩
        go_wp2_with fail
        refine (cL _).mono ?_
        rintro e w' ⟨rfl, rfl⟩
        go_wp2_with fail
        refine (cU _).mono ?_
        rintro e w' ⟨rfl, o, j, rfl⟩
        go_wp2
        go_ret
        exact ⟨by rw [HR2.out ()]; rfl, below_drewN ((hb1.alloc hb1.size _).alloc (by have := hb1.size; simp; omega) _) _⟩
      · have HR2 : Hid (Unit → R = 9221120237041090560) := fun _ => by rw [HR.out ()]; simp
        clear HR
        go_enter Tryz.func73, Tryz.ntmps73
        go_wp2_with fail
        refine (cS _).mono ?_
        rintro e w1 ⟨rfl, hb1⟩
        go_wp2_with fail
        refine (cK _).mono ?_
        rintro e w' ⟨rfl, rfl⟩
        go_wp2_with fail
        refine (cL _).mono ?_
        rintro e w' ⟨rfl, rfl⟩
        go_wp2_with fail
        refine (cU _).mono ?_
        rintro e w' ⟨rfl, o, j, rfl⟩
        go_wp2
        go_ret
        exact ⟨by rw [HR2.out ()]; rfl, below_drewN ((hb1.alloc hb1.size _).alloc (by have := hb1.size; simp; omega) _) _⟩
    · have HR2 : Hid (Unit → R = g) := fun _ => by rw [HR.out ()]; simp [hk]
      have d : ((kl : Int) == 2) = false := by rw [beq_eq_false_iff_ne]; omega
      clear HR hk
      go_enter Tryz.func73, Tryz.ntmps73
      go_wp2_with fail
      refine (cS _).mono ?_
      rintro e w1 ⟨rfl, hb1⟩
      go_wp2_with fail
      refine (cK _).mono ?_
      rintro e w' ⟨rfl, rfl⟩
      go_wp2_with fail
      refine (cL _).mono ?_
      rintro e w' ⟨rfl, rfl⟩
      go_wp2
      go_ret
      exact ⟨by rw [HR2.out ()]; rfl, hb1.alloc hb1.size _⟩
  · have cF := fun W => iFinite g l W hg hl (by omega) (n2 (by omega)) hs
    have d1 : ((kg : Int) == 1) = false := by rw [beq_eq_false_iff_ne]; omega
    have d2 : ((kg : Int) == 2) = false := by rw [beq_eq_false_iff_ne]; omega
    obtain ⟨R, hR⟩ : ∃ R, addN g l = R := ⟨_, rfl⟩
    rw [hR] at cF ⊢
    clear hkg hkl n1 n2 hs hg hl hR hk34 cL cU
    go_enter Tryz.func73, Tryz.ntmps73
    go_wp2_with fail
    refine (cS _).mono ?_
    rintro e w1 ⟨rfl, hb1⟩
    go_wp2_with fail
    refine (cK _).mono ?_
    rintro e w' ⟨rfl, rfl⟩
    go_wp2_with fail
    refine (cF _).mono ?_
    rintro e w' ⟨rfl, hb2⟩
    go_wp2
    go_ret
    exact ⟨rfl, chain (hb1.alloc hb1.size _) hb2⟩
set_option maxHeartbeats 400000 in
set_option maxRecDepth 100000 in
theorem iSub (a b : Nat) (w : World) (ha : a < 18446744073709551616) (hb : b < 18446744073709551616) :
    Calls Tryz.prog 74 #[.int .u64 a, .int .u64 b] w fun e w' => e = .returned (.int .u64 (subN a b : Nat)) ∧ Below w.heap.size w w' := by
  have cN := fun W => iNegate_w b W hb
  have cA := fun W => iAdd a (negN b) W ha (negN_lt hb)
  unfold subN
  obtain ⟨n, hn⟩ : ∃ n, negN b = n := ⟨_, rfl⟩
  rw [hn] at cN cA ⊢
  obtain ⟨r, hr⟩ : ∃ r, addN a n = r := ⟨_, rfl⟩
  rw [hr] at cA ⊢
  clear hn hr ha hb
  go_enter Tryz.func74, Tryz.ntmps74
  go_wp2_with (first | (go_at_call 63; refine (cN _).mono ?_; rintro e w1 ⟨rfl, rfl⟩) | (go_at_call 73; refine (cA _).mono ?_; rintro e w2 ⟨rfl, hb2⟩))
  go_ret
  exact ⟨rfl, hb2⟩
end Go.Proofs.YtcdbifcidaafnaaGreatDoor
namespace Go.Proofs.YtcdbifcidaafnaaGreatDoor
open Go.RowKit Go.Sort
set_option linter.unusedVariables false
set_option linter.unusedSimpArgs false
def EtOk (w : World) : Prop := w.cell? ⟨0, 0, none⟩ = some (.iface 128 (.agg #[.pointer (some ⟨9, 52, none⟩)]))
theorem EtOk.lt {w : World} (h : EtOk w) : 0 < w.heap.size := World.block_lt_of_cell? w ⟨0, 0, none⟩ h
theorem EtOk.below {w w' : World} {B : Nat} (h : EtOk w) (h0 : 0 < B) (hb : Below B w w') : EtOk w' := (hb.cell (p := ⟨0, 0, none⟩) h0).trans h
theorem EtOk.more {w w' : World} (h : EtOk w) (hb : Below w.heap.size w w') : EtOk w' := h.below h.lt hb
theorem as_hit2 (T : Nat) (s : ByteArray) (old : Value) (w : World) (hg : EtOk w) (hT : w.heap[T]? = some (.cells #[old] 85 (0, 0))) :
    Calls Tryz.prog 52 #[.iface 85 (.agg #[.string s]), .iface 87 (.pointer (some ⟨T, 0, none⟩))] w fun ev w' => ev = .returned (.bool true) ∧ w'.heap[T]? = some (.cells #[.string s] 85 (0, 0)) ∧ w.grownBy w' (some T) := by
  refine (as_hit T s old w hg (by rw [cell_of_row _ _ _ _ _ _ hT]; rfl) (frozen_of_row w T 0 _ _ hT)).mono fun ev w' ⟨e1, e2⟩ => ⟨e1, ?_, ?_⟩
  · subst e2
    have hl := (Array.getElem?_eq_some_iff.1 hT).1
    have k : ∀ (o1 o2 o3 o4 : Obj), ((((w.alloc o1).alloc o2).alloc o3).alloc o4).heap[T]? = some (.cells #[old] 85 (0, 0)) := fun o1 o2 o3 o4 => by
      rw [heap_alloc_old (r := T) _ _ (by simp; omega), heap_alloc_old (r := T) _ _ (by simp; omega), heap_alloc_old (r := T) _ _ (by simp; omega), heap_alloc_old (r := T) _ _ hl]
      exact hT
    exact heap_setCell_same _ T 0 #[old] _ (.string s) (k _ _ _ _)
  · subst e2
    refine ⟨rfl, rfl, rfl, by simp [World.setCell]; omega, fun k hk hne => ?_⟩
    rw [heap_setCell_other _ ⟨T, 0, none⟩ k _ (fun e => hne (by rw [show k = T from e]))]
    rw [heap_alloc_old (r := k) _ _ (by simp; omega), heap_alloc_old (r := k) _ _ (by simp; omega), heap_alloc_old (r := k) _ _ (by simp; omega), heap_alloc_old (r := k) _ _ hk]
set_option maxHeartbeats 1000000 in
set_option maxRecDepth 100000 in
theorem iValueOrText_ok {p : PVal} {T : TypeId} {v : Value} {fv : FuncId} (h : Cont17 p T v fv) (w : World) :
    Calls Tryz.prog 26 #[.iface T v, .nilIface] w fun e w' => e = .returned (.tuple #[.agg #[.int .i64 (cvP p).kind, .int .u64 ((cvP p).num : Int), .string (cvP p).text, .int .i64 (cvP p).ref], .string ⟨#[]⟩]) ∧ Below w.heap.size w w' := by
  have cV := fun W => iValueOf h W
  obtain ⟨q, hq⟩ : ∃ q, cvP p = q := ⟨_, rfl⟩
  simp only [hq] at cV ⊢
  clear hq
  obtain ⟨t0, t1, tz, tb⟩ := two_made w (.cells #[.int .i64 0, .int .u64 0, .string ⟨#[]⟩, .int .i64 0] 26) (.cells #[.string ⟨#[]⟩] 85)
  rcases h with ⟨_, rfl, rfl, rfl⟩ | ⟨_, rfl, rfl, rfl⟩ | ⟨_, rfl, rfl, rfl⟩ | ⟨_, rfl, rfl, rfl⟩ | ⟨_, rfl, rfl, rfl⟩ | ⟨_, rfl, rfl, rfl⟩
  all_goals
    go_enter Tryz.func26, Tryz.ntmps26
    go_upto_region 4 with (go_at_call 52; (with_reducible refine (as_nil _ _).mono ?_); rintro e w1 ⟨rfl, rfl⟩)
    go_wp2_with fail
    refine (cV _).mono ?_
    rintro e w2 ⟨rfl, b2⟩
    obtain ⟨⟨c0, c1, c2, c3⟩, fz, ⟨g0, g1, g2, g3⟩, hbe⟩ := four_ready (G := w.heap.size) (b0 := .int .i64 q.kind) (b1 := .int .u64 (q.num : Int)) (b2 := .string q.text) (b3 := .int .i64 q.ref) ((b2.block w.heap.size (by omega)).trans t0) (chain tb b2) (by omega)
    clear t0 t1 tz tb cV
    go_wp2
    refine bodyPost_ret (by simp [results, Tryz.results26, go_sem, g0, g1, g2, g3]; try rfl) rfl ?_
    exact ⟨rfl, hbe⟩
set_option maxHeartbeats 1000000 in
set_option maxRecDepth 100000 in
theorem iValueOrText_no (s : ByteArray) (w : World) (hg : EtOk w) :
    Calls Tryz.prog 26 #[.nilIface, .iface 85 (.agg #[.string s])] w fun e w' => e = .returned (.tuple #[.agg #[.int .i64 0, .int .u64 0, .string ⟨#[]⟩, .int .i64 0], .string s]) ∧ Below w.heap.size w w' := by
  obtain ⟨t0, t1, tz, tb⟩ := two_made w (.cells #[.int .i64 0, .int .u64 0, .string ⟨#[]⟩, .int .i64 0] 26) (.cells #[.string ⟨#[]⟩] 85)
  have cA := as_hit2 (w.heap.size + 1) s _ _ (hg.more tb) t1
  have hbT : ∀ W, (Instr.build 26 #[]).run Tryz.prog W = .ok (.agg #[.int .i64 0, .int .u64 0, .string ⟨#[]⟩, .int .i64 0]) W := fun W => run_build W 26 _ _ (by kernel_rfl)
  clear hg
  go_enter Tryz.func26, Tryz.ntmps26
  go_upto_region 3 with (go_at_call 52; (with_reducible refine cA.mono ?_); rintro e w3 ⟨rfl, hT, gr⟩)
  have r3 : w3.heap[w.heap.size]? = some (.cells #[.int .i64 0, .int .u64 0, .string ⟨#[]⟩, .int .i64 0] 26 (0, 0)) := (gr.block w.heap.size (by omega) (by simp)).trans t0
  have b3 : Below w.heap.size w w3 := ⟨gr.os.trans tb.os, gr.tape.trans tb.tape, gr.output.trans tb.output, Nat.le_trans tb.size gr.size, fun k hk => (gr.block k (by omega) (by simp; omega)).trans (tb.block k hk)⟩
  obtain ⟨⟨c0, c1, c2, c3⟩, fz, ⟨g0, g1, g2, g3⟩, hbe⟩ := four_ready (G := w.heap.size) (b0 := .int .i64 0) (b1 := .int .u64 0) (b2 := .string ⟨#[]⟩) (b3 := .int .i64 0) r3 b3 (Nat.le_refl _)
  have s0 : w3.cell? ⟨w.heap.size + 1, 0, none⟩ = some (.string s) := by rw [cell_of_row _ _ _ _ _ _ hT]; rfl
  clear t0 t1 tz tb cA hT gr r3 b3
  go_region
  all_goals
    go_wp2
    refine bodyPost_ret (by simp [results, Tryz.results26, go_sem, g0, g1, g2, g3]; try rfl) rfl ?_
    exact ⟨rfl, hbe.drew⟩
end Go.Proofs.YtcdbifcidaafnaaGreatDoor
namespace Go.Proofs.YtcdbifcidaafnaaGreatDoor
theorem roundN_mark {M d low : Nat} {E : Int} (st : Bool) (hl : low < 2 ^ d) (hM : 9007199254740992 ≤ M) : roundN (M * 2 ^ d + low) (E - d) st = roundN M E (st || decide (low ≠ 0)) := by
  cases st
  · rw [Bool.false_or]; exact roundN_sticky hl (.inr hM)
  · have hp := Nat.two_pow_pos d
    have h1 : M * 1 ≤ M * 2 ^ d := Nat.mul_le_mul_left _ hp
    have a := roundN_sticky (M := M * 2 ^ d + low) (d := 1) (low := 1) (E := E - d) (by decide) (.inr (by omega))
    have b := roundN_sticky (M := M) (d := d + 1) (low := low * 2 + 1) (E := E) (by rw [Nat.pow_succ]; omega) (.inr hM)
    have e1 : (M * 2 ^ d + low) * 2 ^ 1 + 1 = M * 2 ^ (d + 1) + (low * 2 + 1) := by rw [Nat.pow_succ 2 d, Nat.pow_one, Nat.add_mul, ← Nat.mul_assoc]; omega
    have e2 : E - d - ((1 : Nat) : Int) = E - ((d + 1 : Nat) : Int) := by omega
    rw [e1, e2, b] at a
    have t1 : decide (low * 2 + 1 ≠ 0) = true := by simp
    have t2 : decide ((1 : Nat) ≠ 0) = true := by simp
    rw [t1, t2] at a
    rw [← a, Bool.true_or]
theorem round_off {P k n : Nat} {l : Bool} {E : Int} (hn : n = P / 2 ^ k) (hl : l = decide (P % 2 ^ k ≠ 0)) (h : k = 0 ∨ 72057594037927936 ≤ n) : roundN n (E + k) (l && decide (72057594037927936 ≤ n)) = roundN P E false := by
  have hp := Nat.div_add_mod P (2 ^ k)
  rw [← hn, Nat.mul_comm] at hp
  have hlow : P % 2 ^ k < 2 ^ k := Nat.mod_lt _ (Nat.two_pow_pos k)
  have h0 : k = 0 → P % 2 ^ k = 0 := fun e => by subst e; simp [Nat.mod_one]
  obtain ⟨low, hq⟩ : ∃ q, P % 2 ^ k = q := ⟨_, rfl⟩
  rw [hq] at hp hlow hl h0
  have hs : (l && decide (72057594037927936 ≤ n)) = decide (low ≠ 0) := by
    rcases h with h | h
    · have := h0 h
      subst this
      simp [hl]
    · rw [hl]; simp [h]
  have hE : E = E + k - k := by omega
  rw [hs, ← roundN_sticky (M := n) (d := k) (low := low) (E := E + k) hlow (by omega), ← hE, hp]
def quoN (m n : Nat) (e : Int) : Nat := roundN (m * 2 ^ 170 / n) (e - 170) (decide (m * 2 ^ 170 % n ≠ 0))
theorem quo_more {m n k d : Nat} {e : Int} (hn : n ≠ 0) (h : 9007199254740992 ≤ m * 2 ^ k / n) :
    roundN (m * 2 ^ (k + d) / n) (e - ((k + d : Nat) : Int)) (decide (m * 2 ^ (k + d) % n ≠ 0)) = roundN (m * 2 ^ k / n) (e - k) (decide (m * 2 ^ k % n ≠ 0)) := by
  have hp := Nat.div_add_mod (m * 2 ^ k) n
  obtain ⟨q, hq⟩ : ∃ q, m * 2 ^ k / n = q := ⟨_, rfl⟩
  obtain ⟨r, hr⟩ : ∃ q, m * 2 ^ k % n = q := ⟨_, rfl⟩
  have hrn : r < n := by rw [← hr]; exact Nat.mod_lt _ (by omega)
  rw [hq, hr] at hp ⊢
  rw [hq] at h
  have hD := Nat.two_pow_pos d
  have e1 : m * 2 ^ (k + d) = n * (q * 2 ^ d) + r * 2 ^ d := by rw [Nat.pow_add, ← Nat.mul_assoc, ← hp, Nat.add_mul, Nat.mul_assoc]
  have e2 : m * 2 ^ (k + d) / n = q * 2 ^ d + r * 2 ^ d / n := by rw [e1, Nat.mul_add_div (by omega)]
  have e3 : m * 2 ^ (k + d) % n = r * 2 ^ d % n := by rw [e1, Nat.mul_add_mod]
  have hlow : r * 2 ^ d / n < 2 ^ d := by
    rw [Nat.div_lt_iff_lt_mul (by omega), Nat.mul_comm]
    exact Nat.mul_lt_mul_of_pos_left hrn hD
  have hx : e - ((k + d : Nat) : Int) = e - k - d := by omega
  rw [e2, e3, hx, roundN_mark _ hlow h]
  congr 1
  have hz := Nat.div_add_mod (r * 2 ^ d) n
  rw [Bool.eq_iff_iff, Bool.or_eq_true, decide_eq_true_iff, decide_eq_true_iff, decide_eq_true_iff]
  constructor
  · intro h0 hr0
    subst hr0
    simp at h0
  · intro hr0
    rcases Nat.eq_zero_or_pos (r * 2 ^ d % n) with h1 | h1
    · right
      intro h2
      rw [h1, h2] at hz
      have : 0 < r * 2 ^ d := Nat.mul_pos (by omega) hD
      omega
    · left; omega
theorem quo_at {m n k : Nat} {e : Int} (hn : n ≠ 0) (h : 9007199254740992 ≤ m * 2 ^ k / n) (hk : k ≤ 170) : roundN (m * 2 ^ k / n) (e - k) (decide (m * 2 ^ k % n ≠ 0)) = quoN m n e := by
  obtain ⟨d, hd⟩ : ∃ d, k + d = 170 := ⟨170 - k, by omega⟩
  rw [← quo_more (d := d) hn h, hd]
  rfl
theorem quo_scale {m n u v : Nat} {e : Int} (hm : m ≠ 0) (hn : n ≠ 0) (hn2 : n < 9007199254740992) (hv : v ≤ 63) (hu : u ≤ 63) : quoN (m * 2 ^ u) (n * 2 ^ v) (e - u + v) = quoN m n e := by
  have h1 : ∀ k, 107 ≤ k → 9007199254740992 ≤ m * 2 ^ k / n := by
    intro k hk
    rw [Nat.le_div_iff_mul_le (by omega)]
    have : 2 ^ 107 ≤ 2 ^ k := Nat.pow_le_pow_right (by decide) hk
    have : 1 * 2 ^ k ≤ m * 2 ^ k := Nat.mul_le_mul_right _ (by omega)
    omega
  have key : ∀ k, 170 + u = k + v → 107 ≤ k → quoN (m * 2 ^ u) (n * 2 ^ v) (e - u + v) = roundN (m * 2 ^ k / n) (e - k) (decide (m * 2 ^ k % n ≠ 0)) := by
    intro k hk _
    have e1 : m * 2 ^ u * 2 ^ 170 = m * 2 ^ k * 2 ^ v := by rw [Nat.mul_assoc, Nat.mul_assoc, ← Nat.pow_add, ← Nat.pow_add, ← hk, Nat.add_comm]
    have hp := Nat.two_pow_pos v
    have e2 : m * 2 ^ k * 2 ^ v / (n * 2 ^ v) = m * 2 ^ k / n := Nat.mul_div_mul_right _ _ hp
    have e3 : m * 2 ^ k * 2 ^ v % (n * 2 ^ v) = m * 2 ^ k % n * 2 ^ v := Nat.mul_mod_mul_right _ _ _
    have e4 : decide (m * 2 ^ k % n * 2 ^ v ≠ 0) = decide (m * 2 ^ k % n ≠ 0) := by
      rw [Bool.eq_iff_iff, decide_eq_true_iff, decide_eq_true_iff]
      simp only [ne_eq, Nat.mul_eq_zero, not_or]
      exact ⟨fun h => h.1, fun h => ⟨h, by omega⟩⟩
    have e5 : e - u + v - 170 = e - k := by omega
    unfold quoN
    rw [e1, e2, e3, e4, e5]
  rw [key (170 + u - v) (by omega) (by omega)]
  have a := quo_more (m := m) (n := n) (k := 107) (d := 170 + u - v - 107) (e := e) hn (h1 _ (by omega))
  have b := quo_at (m := m) (n := n) (k := 107) (e := e) hn (h1 _ (by omega)) (by omega)
  rw [(by omega : 107 + (170 + u - v - 107) = 170 + u - v)] at a
  rw [a, b]
def mulP (k1 k2 : Nat) (s1 s2 : Bool) (m1 m2 : Nat) (e1 e2 : Int) : Nat :=
  if k1 = 1 ∨ k2 = 1 ∨ (k1 = 2 ∧ k2 = 3) ∨ (k1 = 3 ∧ k2 = 2) then 9221120237041090560
  else if k1 = 2 ∨ k2 = 2 then signN (s1 != s2) 9218868437227405312
  else if k1 = 3 ∨ k2 = 3 then signN (s1 != s2) 0
  else signN (s1 != s2) (roundN (m1 * m2) (e1 + e2) false)
def mulN (a b : Nat) : Nat := mulP (kindN a) (kindN b) (belowN a) (belowN b) (mantN a) (mantN b) (expN a) (expN b)
def divP (k1 k2 : Nat) (s1 s2 : Bool) (m1 m2 : Nat) (e1 e2 : Int) : Nat :=
  if k1 = 1 ∨ k2 = 1 ∨ (k1 = k2 ∧ (k1 = 2 ∨ k1 = 3)) then 9221120237041090560
  else if k1 = 2 ∨ k2 = 3 then signN (s1 != s2) 9218868437227405312
  else if k1 = 3 ∨ k2 = 2 then signN (s1 != s2) 0
  else signN (s1 != s2) (quoN m1 m2 (e1 - e2))
def divN (a b : Nat) : Nat := divP (kindN a) (kindN b) (belowN a) (belowN b) (mantN a) (mantN b) (expN a) (expN b)
def restN (m : Nat) (e : Int) (n : Nat) (f : Int) : Nat := roundN (m * 2 ^ (e - min e f).toNat % (n * 2 ^ (f - min e f).toNat)) (min e f) false
def remP (a k1 k2 : Nat) (s1 : Bool) (m1 m2 : Nat) (e1 e2 : Int) : Nat :=
  if k1 = 1 ∨ k2 = 1 ∨ k1 = 2 ∨ k2 = 3 then 9221120237041090560
  else if k1 = 3 ∨ k2 = 2 then a
  else signN s1 (restN m1 e1 m2 e2)
def remN (a b : Nat) : Nat := remP a (kindN a) (kindN b) (belowN a) (mantN a) (mantN b) (expN a) (expN b)
end Go.Proofs.YtcdbifcidaafnaaGreatDoor
namespace Go.Proofs.YtcdbifcidaafnaaGreatDoor
open Go.RowKit
set_option linter.unusedVariables false
theorem wide_of {a b a1 a0 b1 b0 p00 p10 p01 p11 : Nat} (ha : a = a1 * 4294967296 + a0) (hb : b = b1 * 4294967296 + b0) (h0 : a0 * b0 = p00) (h1 : a1 * b0 = p10) (h2 : a0 * b1 = p01) (h3 : a1 * b1 = p11) :
    a * b = p11 * 18446744073709551616 + (p10 + p01) * 4294967296 + p00 := by
  subst ha hb h0 h1 h2 h3
  have x1 : a1 * 4294967296 * (b1 * 4294967296) = a1 * b1 * (4294967296 * 4294967296) := Nat.mul_mul_mul_comm _ _ _ _
  have x2 : a1 * 4294967296 * b0 = a1 * b0 * 4294967296 := Nat.mul_right_comm _ _ _
  have x3 : a0 * (b1 * 4294967296) = a0 * b1 * 4294967296 := (Nat.mul_assoc _ _ _).symm
  rw [Nat.add_mul, Nat.mul_add, Nat.mul_add, x1, x2, x3]
  omega
theorem mul_le32 {x y p : Nat} (hx : x < 4294967296) (hy : y < 4294967296) (h : x * y = p) : p ≤ 18446744065119617025 := by
  have : x * y ≤ 4294967295 * 4294967295 := Nat.mul_le_mul (by omega) (by omega)
  omega
set_option maxHeartbeats 1000000 in
set_option maxRecDepth 100000 in
theorem specWide_any (a b : Nat) (w : World) (ha : a < 18446744073709551616) (hb : b < 18446744073709551616) :
    Calls Tryz.prog 59 #[.int .u64 a, .int .u64 b] w fun e w' => e = .returned (.tuple #[.int .u64 (a * b / 18446744073709551616 : Nat), .int .u64 (a * b % 18446744073709551616 : Nat)]) ∧ w = w' := by
  obtain ⟨a1, ha1⟩ : ∃ q, a / 4294967296 = q := ⟨_, rfl⟩
  obtain ⟨a0, ha0⟩ : ∃ q, a % 4294967296 = q := ⟨_, rfl⟩
  obtain ⟨b1, hb1⟩ : ∃ q, b / 4294967296 = q := ⟨_, rfl⟩
  obtain ⟨b0, hb0⟩ : ∃ q, b % 4294967296 = q := ⟨_, rfl⟩
  obtain ⟨p00, h0⟩ : ∃ q, a0 * b0 = q := ⟨_, rfl⟩
  obtain ⟨p10, h1⟩ : ∃ q, a1 * b0 = q := ⟨_, rfl⟩
  obtain ⟨p01, h2⟩ : ∃ q, a0 * b1 = q := ⟨_, rfl⟩
  obtain ⟨p11, h3⟩ : ∃ q, a1 * b1 = q := ⟨_, rfl⟩
  have hw := wide_of (a := a) (b := b) (by omega) (by omega) h0 h1 h2 h3
  have l0 := mul_le32 (by omega) (by omega) h0
  have l1 := mul_le32 (by omega) (by omega) h1
  have l2 := mul_le32 (by omega) (by omega) h2
  have l3 := mul_le32 (by omega) (by omega) h3
  obtain ⟨mid, hm⟩ : ∃ q, p10 + p00 / 4294967296 = q := ⟨_, rfl⟩
  obtain ⟨oth, ho⟩ : ∃ q, p01 + mid % 4294967296 = q := ⟨_, rfl⟩
  have hH : a * b / 18446744073709551616 = p11 + mid / 4294967296 + oth / 4294967296 := by omega
  have hL : a * b % 18446744073709551616 = oth % 4294967296 * 4294967296 + p00 % 4294967296 := by omega
  have hO : oth < 18446744073709551616 := by omega
  rw [hH, hL]
  have z1 : (a1 : Int) < 4294967296 := by omega
  have z2 : (b1 : Int) < 4294967296 := by omega
  have z3 : (a0 : Int) < 4294967296 := by omega
  have z4 : (b0 : Int) < 4294967296 := by omega
  have A1 : (a : Int) / 4294967296 = a1 := by omega
  have A0 : (a : Int) % 4294967296 = a0 := by omega
  have B1 : (b : Int) / 4294967296 = b1 := by omega
  have B0 : (b : Int) % 4294967296 = b0 := by omega
  have P0 : (a0 : Int) * b0 = p00 := by rw [← h0]; simp
  have P1 : (a1 : Int) * b0 = p10 := by rw [← h1]; simp
  have P2 : (a0 : Int) * b1 = p01 := by rw [← h2]; simp
  have P3 : (a1 : Int) * b1 = p11 := by rw [← h3]; simp
  have M1 : (p10 : Int) + p00 / 4294967296 = mid := by omega
  have M2 : (p01 : Int) + mid % 4294967296 = oth := by omega
  have L0 : (p00 : Int) ≤ 18446744065119617025 := by omega
  have L1 : (p10 : Int) ≤ 18446744065119617025 := by omega
  have L2 : (p01 : Int) ≤ 18446744065119617025 := by omega
  have L3 : (p11 : Int) + (mid : Int) / 4294967296 + (oth : Int) / 4294967296 < 18446744073709551616 := by
    have : a * b < 18446744073709551616 * 18446744073709551616 := Nat.mul_lt_mul'' ha hb
    omega
  have L4 : (mid : Int) < 18446744073709551616 := by omega
  have L5 : (oth : Int) < 18446744073709551616 := by omega
  have HW : Hid (Unit → IntKind.u64.wrap ((oth : Int) * 4294967296) = (oth : Int) % 4294967296 * 4294967296) := fun _ => by
    show (oth : Int) * 4294967296 % 18446744073709551616 = _
    omega
  have HW := HW.out ()
  clear hw l0 l1 l2 l3 hH hL hO ha1 ha0 hb1 hb0 h0 h1 h2 h3 hm ho ha hb
  go_enter Tryz.func59, Tryz.ntmps59
  go_wp2
  go_ret2
  exact ⟨rfl, rfl⟩
theorem sign_zero (s : Bool) (w : World) : Calls Tryz.prog 58 #[.int .u64 0, .bool s] w fun e w' => e = .returned (.int .u64 (signN s 0 : Nat)) ∧ w = w' := l03Sign_int 0 s w (by omega) (by omega)
theorem sign_inf (s : Bool) (w : World) : Calls Tryz.prog 58 #[.int .u64 9218868437227405312, .bool s] w fun e w' => e = .returned (.int .u64 (signN s 9218868437227405312 : Nat)) ∧ w = w' := l03Sign_int 9218868437227405312 s w (by omega) (by omega)
theorem lost_bits {P k H L : Nat} {l : Bool} (h : LostAt P k (H * 18446744073709551616 + L) l) : LostAt P (k + 1) (H / 2 * 18446744073709551616 + (L / 2 + H % 2 * 9223372036854775808)) (l || decide (L % 2 = 1)) := by
  have := lost_step h
  have e1 : (H * 18446744073709551616 + L) / 2 = H / 2 * 18446744073709551616 + (L / 2 + H % 2 * 9223372036854775808) := by omega
  have e2 : (H * 18446744073709551616 + L) % 2 = L % 2 := by omega
  rw [e1, e2] at this
  exact this
theorem lost_room {P k H L : Nat} {l : Bool} (h : LostAt P k (H * 18446744073709551616 + L) l) (hH : 0 < H) (hP : P < 81129638414606681695789005144064) : k ≤ 41 := by
  have h1 := h.1
  have h2 := Nat.div_mul_le_self P (2 ^ k)
  rw [← h1] at h2
  rcases Nat.lt_or_ge 41 k with hk | hk
  · have h3 : 2 ^ 42 ≤ 2 ^ k := Nat.pow_le_pow_right (by decide) hk
    have h4 : 18446744073709551616 * 2 ^ 42 ≤ (H * 18446744073709551616 + L) * 2 ^ k := Nat.mul_le_mul (by omega) h3
    have e : (18446744073709551616 : Nat) * 2 ^ 42 = 81129638414606681695789005144064 := by decide
    omega
  · exact hk
end Go.Proofs.YtcdbifcidaafnaaGreatDoor
