/-
  The walks of the program's own Add and Sub.
-/
import Derived.Test.YtdaebbejpoejcaaIAdd
namespace Go.Proofs.Ytdaebbejpoejcaa
open Go.RowKit Go.Sort
set_option linter.unusedVariables false

theorem cut_low {m D : Nat} (h : m < 9007199254740992) : ((m : Int) * 1024 / 2 ^ min D 64) = ((m * 1024 / 2 ^ D : Nat) : Int) ∧ (IntKind.u64.wrap ((m : Int) * 1024 / 2 ^ min D 64 * 2 ^ min D 64) != (m : Int) * 1024) = decide (m * 1024 % 2 ^ D ≠ 0) := by
  have e1 : (m : Int) * 1024 / 2 ^ min D 64 = ((m * 1024 / 2 ^ min D 64 : Nat) : Int) := by simp
  have e2 : m * 1024 / 2 ^ min D 64 = m * 1024 / 2 ^ D ∧ m * 1024 % 2 ^ min D 64 = m * 1024 % 2 ^ D := by
    by_cases h64 : D ≤ 64
    · rw [Nat.min_eq_left h64]; exact ⟨rfl, rfl⟩
    · have hp : 2 ^ 64 ≤ 2 ^ D := Nat.pow_le_pow_right (by decide) (by omega)
      rw [Nat.min_eq_right (by omega), Nat.div_eq_of_lt (by omega), Nat.div_eq_of_lt (by omega), Nat.mod_eq_of_lt (by omega), Nat.mod_eq_of_lt (by omega)]
      exact ⟨rfl, rfl⟩
  rw [e1, e2.1]
  refine ⟨rfl, ?_⟩
  have e3 := Nat.div_add_mod (m * 1024) (2 ^ min D 64)
  rw [e2.1, e2.2, Nat.mul_comm] at e3
  have e4 : ((m * 1024 / 2 ^ D : Nat) : Int) * 2 ^ min D 64 = ((m * 1024 / 2 ^ D * 2 ^ min D 64 : Nat) : Int) := by simp
  rw [e4]
  generalize m * 1024 / 2 ^ D * 2 ^ min D 64 = q at *
  generalize m * 1024 % 2 ^ D = r at *
  have e5 : IntKind.u64.wrap (q : Int) = q := by
    show (q : Int) % 18446744073709551616 = q
    omega
  rw [e5, Bool.eq_iff_iff]
  simp
  omega

set_option maxHeartbeats 2000000 in
set_option maxRecDepth 100000 in
theorem iFinite (g l : Nat) (w : World) (hg : g < 18446744073709551616) (hl : l < 18446744073709551616) (kg : kindN g = 3 ∨ kindN g = 4) (kl : kindN l = 3 ∨ kindN l = 4) (hs : l % 9223372036854775808 ≤ g % 9223372036854775808) :
    Calls Try.prog 48 #[.agg #[.int .u64 g, .int .u64 l]] w fun e w' => e = .returned (.int .u64 (addN g l : Nat)) ∧ Below w.heap.size w w' := by
  obtain ⟨D, hD, hE⟩ := sumEnd_of hg kg kl hs
  rw [belowN_of (by omega : kindN g ≠ 1), belowN_of (by omega : kindN l ≠ 1)] at hE
  have cB := fun W => iBelow g W
  have cM := fun W => iMantRaw g W hg
  have cN := fun W => iMantRaw l W hl
  have cU := fun W => iUnlike g l W
  have m1 := rawM_lt g
  have m2 := rawM_lt l
  have e1 := rawE_ge g
  have e2 := rawE_le g
  have e3 := rawE_ge l
  have e4 := rawE_le l
  obtain ⟨s, hs1⟩ : ∃ p, decide (9223372036854775808 ≤ g) = p := ⟨_, rfl⟩
  obtain ⟨t, ht1⟩ : ∃ p, decide (9223372036854775808 ≤ l) = p := ⟨_, rfl⟩
  rw [hs1] at cB
  rw [hs1, ht1] at cU hE
  generalize rawM g = mg at *
  generalize rawM l = ml at *
  generalize rawE g = eg at *
  generalize rawE l = el at *
  obtain ⟨R, hR⟩ : ∃ R, addN g l = R := ⟨_, rfl⟩
  rw [hR] at hE ⊢
  clear hs1 ht1 hR hg hl kg kl hs
  obtain ⟨c1, c2⟩ := cut_low (D := D) m2
  have b1 : mg * 1024 < 9223372036854775808 := by omega
  have b2 : ml * 1024 / 2 ^ D < 9223372036854775808 := Nat.lt_of_le_of_lt (Nat.div_le_self _ _) (by omega)
  obtain ⟨X, hX⟩ : ∃ X, mg * 1024 = X := ⟨_, rfl⟩
  have hX' : (mg : Int) * 1024 = X := by omega
  obtain ⟨n, hn⟩ : ∃ n, ml * 1024 / 2 ^ D = n := ⟨_, rfl⟩
  obtain ⟨L, hL⟩ : ∃ n, decide (ml * 1024 % 2 ^ D ≠ 0) = n := ⟨_, rfl⟩
  rw [hX] at hE b1
  rw [hn] at hE b2 c1
  rw [hL] at hE c2
  have HE : Hid (Unit → SumEnd R s t X n (eg - 10) L) := fun _ => hE
  have cR := fun W => iRound_w s L (X + n) (eg - 10) W (by omega) (by omega) (by omega)
  rw [Int.natCast_add] at cR
  have M1 : (mg : Int) < 9007199254740992 := by omega
  have M2 : (ml : Int) < 9007199254740992 := by omega
  have B1 : (X : Int) < 9223372036854775808 := by omega
  have B2 : (n : Int) < 9223372036854775808 := by omega
  have C1 : Hid _ := c1
  have C2 : Hid _ := c2
  have X1 : Hid _ := hX'
  clear hE m1 m2 c1 c2 hX' b1 b2 hn hL hX
  go_enter Try.func48, Try.ntmps48
  go_wp2_with fail
  refine (cB _).mono ?_
  rintro e w' ⟨rfl, rfl⟩
  go_wp2_with fail
  refine (cM _).mono ?_
  rintro e w' ⟨rfl, rfl⟩
  go_wp2_with fail
  refine (cN _).mono ?_
  rintro e w' ⟨rfl, rfl⟩
  go_wp2_with fail
  simp only [C2.out]
  simp only [C1.out]
  simp only [X1.out]
  clear C1 C2 X1 cM cN cB M1 M2
  refine (cU _).mono ?_
  rintro e w' ⟨rfl, o, j, rfl⟩
  clear cU
  by_cases hst : s = t
  · have HR := (HE.out ()).same hst
    subst hst
    rw [← HR] at cR
    have d : (s != s) = false := by simp
    clear HE HR
    go_wp2_with (go_at_call 16; refine (cR _).mono ?_; rintro e w' ⟨rfl, rfl⟩)
    go_ret
    exact ⟨rfl, below_drewN (below_two _ _ _) _⟩
  · have d : (s != t) = true := by simpa using hst
    clear cR
    cases L
    · by_cases hXn : X = n
      · have HR := (HE.out ()).none hst rfl hXn
        subst hXn HR
        clear HE hst
        go_wp2
        go_ret
        exact ⟨rfl, below_drewN (below_two _ _ _) _⟩
      · obtain ⟨h1, HR⟩ := (HE.out ()).more hst rfl hXn
        have cR := fun W => iRound_w s false (X - n) (eg - 10) W (by omega) (by omega) (by omega)
        rw [Bool.false_and, ← HR, Int.natCast_sub (by omega)] at cR
        have d2 : ((X : Int) == n) = false := by rw [beq_eq_false_iff_ne]; omega
        have h2 : (n : Int) < X := by omega
        clear HE HR hXn h1 hst
        go_wp2_with (go_at_call 16; refine (cR _).mono ?_; rintro e w' ⟨rfl, rfl⟩)
        go_ret
        exact ⟨rfl, below_drewN (below_two _ _ _) _⟩
    · obtain ⟨h1, HR⟩ := (HE.out ()).less hst rfl
      have cR := fun W => iRound_w s true (X - (n + 1)) (eg - 10) W (by omega) (by omega) (by omega)
      rw [← HR, Int.natCast_sub (by omega), Int.natCast_add] at cR
      have d2 : ((X : Int) == (n : Int) + 1) = false := by rw [beq_eq_false_iff_ne]; omega
      have h2 : (n : Int) + 1 < X := by omega
      clear HE HR h1 hst
      go_wp2_with (go_at_call 16; refine (cR _).mono ?_; rintro e w' ⟨rfl, rfl⟩)
      go_ret
      exact ⟨rfl, below_drewN (below_two _ _ _) _⟩

theorem kind_le {g l : Nat} (h : l % 9223372036854775808 ≤ g % 9223372036854775808) : (kindN g ≠ 1 → kindN l ≠ 1) ∧ (kindN g = 3 ∨ kindN g = 4 → kindN l = 3 ∨ kindN l = 4) := by
  have hl : l % 9223372036854775808 ≤ 9218868437227405312 → kindN l ≠ 1 := fun h => by
    unfold kindN expBits fracBits
    split
    · rw [if_pos (by omega)]; decide
    · split <;> decide
  have hl2 : l % 9223372036854775808 < 9218868437227405312 → kindN l = 3 ∨ kindN l = 4 := fun h => by
    unfold kindN expBits fracBits
    rw [if_neg (by omega)]
    split
    · exact .inl rfl
    · exact .inr rfl
  constructor
  · intro hg
    refine hl ?_
    rcases Nat.lt_or_ge 9218868437227405312 (g % 9223372036854775808) with h' | h'
    · exact absurd (kind_nan h') hg
    · omega
  · intro hg
    refine hl2 ?_
    rcases Nat.lt_trichotomy 9218868437227405312 (g % 9223372036854775808) with h' | h' | h'
    · have := kind_nan h'; omega
    · have := kind_inf h'.symm; omega
    · omega

set_option maxHeartbeats 2000000 in
set_option maxRecDepth 100000 in
theorem iAdd (a b : Nat) (w : World) (ha : a < 18446744073709551616) (hb : b < 18446744073709551616) :
    Calls Try.prog 24 #[.int .u64 a, .int .u64 b] w fun e w' => e = .returned (.int .u64 (addN a b : Nat)) ∧ Below w.heap.size w w' := by
  have cS := fun W => iAddends a b W
  have HG : ∃ g l : Nat, (if a % 9223372036854775808 < b % 9223372036854775808 then b else a) = g ∧ (if a % 9223372036854775808 < b % 9223372036854775808 then a else b) = l ∧
      g < 18446744073709551616 ∧ l < 18446744073709551616 ∧ l % 9223372036854775808 ≤ g % 9223372036854775808 ∧ addN a b = addN g l := by
    by_cases h : a % 9223372036854775808 < b % 9223372036854775808
    · rw [if_pos h, if_pos h]
      exact ⟨b, a, rfl, rfl, hb, ha, by omega, addN_comm ha hb⟩
    · rw [if_neg h, if_neg h]
      exact ⟨a, b, rfl, rfl, ha, hb, by omega, rfl⟩
  obtain ⟨g, l, h1, h2, hg, hl, hs, hR⟩ := HG
  rw [h1, h2] at cS
  rw [hR]
  clear h1 h2 hR ha hb
  obtain ⟨n1, n2⟩ := kind_le hs
  have cK := fun W => iKind g W
  have cL := fun W => iKind l W
  have cU := fun W => iUnlike g l W
  obtain ⟨kg, hkg⟩ : ∃ k, kindN g = k := ⟨_, rfl⟩
  obtain ⟨kl, hkl⟩ : ∃ k, kindN l = k := ⟨_, rfl⟩
  have hK := kindN_cases g
  rw [hkg] at hK cK
  rw [hkl] at cL
  rcases hK with rfl | rfl | hk34
  · have HR : Hid (Unit → addN g l = 9221120237041090560) := fun _ => by unfold addN; simp [hkg]
    clear hkg hkl n1 n2 hs hg hl cL cU
    obtain ⟨R, hR⟩ : ∃ R, addN g l = R := ⟨_, rfl⟩
    rw [hR] at HR ⊢
    clear hR
    go_enter Try.func24, Try.ntmps24
    go_wp2_with fail
    refine (cS _).mono ?_
    rintro e w1 ⟨rfl, hb1⟩
    go_wp2_with fail
    refine (cK _).mono ?_
    rintro e w' ⟨rfl, rfl⟩
    go_wp2
    go_ret
    exact ⟨by rw [HR.out ()]; rfl, hb1.alloc hb1.size _⟩
  · have n3 := n1 (by omega)
    have HR : Hid (Unit → addN g l = if kl = 2 ∧ (decide (9223372036854775808 ≤ g) != decide (9223372036854775808 ≤ l)) = true then 9221120237041090560 else g) := fun _ => by
      unfold addN
      rw [belowN_of (by omega : kindN g ≠ 1), belowN_of n3, hkg, hkl]
      rw [hkl] at n3
      simp [n3]
    obtain ⟨R, hR⟩ : ∃ R, addN g l = R := ⟨_, rfl⟩
    obtain ⟨u, hu⟩ : ∃ u, (decide (9223372036854775808 ≤ g) != decide (9223372036854775808 ≤ l)) = u := ⟨_, rfl⟩
    rw [hu] at HR cU
    rw [hR] at HR ⊢
    clear hkg hkl n1 n2 hs hg hl hR n3 hu
    by_cases hk : kl = 2
    · subst hk
      cases u
      · have HR2 : Hid (Unit → R = g) := fun _ => by rw [HR.out ()]; simp
        clear HR
        go_enter Try.func24, Try.ntmps24
        go_wp2_with fail
        refine (cS _).mono ?_
        rintro e w1 ⟨rfl, hb1⟩
        go_wp2_with fail
        refine (cK _).mono ?_
        rintro e w' ⟨rfl, rfl⟩
        go_wp2_with fail
        refine (cL _).mono ?_
        rintro e w' ⟨rfl, rfl⟩
        go_wp2_with fail
        refine (cU _).mono ?_
        rintro e w' ⟨rfl, o, j, rfl⟩
        go_wp2
        go_ret
        exact ⟨by rw [HR2.out ()]; rfl, below_drewN ((hb1.alloc hb1.size _).alloc (by have := hb1.size; simp; omega) _) _⟩
      · have HR2 : Hid (Unit → R = 9221120237041090560) := fun _ => by rw [HR.out ()]; simp
        clear HR
        go_enter Try.func24, Try.ntmps24
        go_wp2_with fail
        refine (cS _).mono ?_
        rintro e w1 ⟨rfl, hb1⟩
        go_wp2_with fail
        refine (cK _).mono ?_
        rintro e w' ⟨rfl, rfl⟩
        go_wp2_with fail
        refine (cL _).mono ?_
        rintro e w' ⟨rfl, rfl⟩
        go_wp2_with fail
        refine (cU _).mono ?_
        rintro e w' ⟨rfl, o, j, rfl⟩
        go_wp2
        go_ret
        exact ⟨by rw [HR2.out ()]; rfl, below_drewN ((hb1.alloc hb1.size _).alloc (by have := hb1.size; simp; omega) _) _⟩
    · have HR2 : Hid (Unit → R = g) := fun _ => by rw [HR.out ()]; simp [hk]
      have d : ((kl : Int) == 2) = false := by rw [beq_eq_false_iff_ne]; omega
      clear HR hk
      go_enter Try.func24, Try.ntmps24
      go_wp2_with fail
      refine (cS _).mono ?_
      rintro e w1 ⟨rfl, hb1⟩
      go_wp2_with fail
      refine (cK _).mono ?_
      rintro e w' ⟨rfl, rfl⟩
      go_wp2_with fail
      refine (cL _).mono ?_
      rintro e w' ⟨rfl, rfl⟩
      go_wp2
      go_ret
      exact ⟨by rw [HR2.out ()]; rfl, hb1.alloc hb1.size _⟩
  · have cF := fun W => iFinite g l W hg hl (by omega) (n2 (by omega)) hs
    have d1 : ((kg : Int) == 1) = false := by rw [beq_eq_false_iff_ne]; omega
    have d2 : ((kg : Int) == 2) = false := by rw [beq_eq_false_iff_ne]; omega
    obtain ⟨R, hR⟩ : ∃ R, addN g l = R := ⟨_, rfl⟩
    rw [hR] at cF ⊢
    clear hkg hkl n1 n2 hs hg hl hR hk34 cL cU
    go_enter Try.func24, Try.ntmps24
    go_wp2_with fail
    refine (cS _).mono ?_
    rintro e w1 ⟨rfl, hb1⟩
    go_wp2_with fail
    refine (cK _).mono ?_
    rintro e w' ⟨rfl, rfl⟩
    go_wp2_with fail
    refine (cF _).mono ?_
    rintro e w' ⟨rfl, hb2⟩
    go_wp2
    go_ret
    exact ⟨rfl, chain (hb1.alloc hb1.size _) hb2⟩

set_option maxHeartbeats 400000 in
set_option maxRecDepth 100000 in
theorem iSub (a b : Nat) (w : World) (ha : a < 18446744073709551616) (hb : b < 18446744073709551616) :
    Calls Try.prog 27 #[.int .u64 a, .int .u64 b] w fun e w' => e = .returned (.int .u64 (subN a b : Nat)) ∧ Below w.heap.size w w' := by
  have cN := fun W => iNegate_w b W hb
  have cA := fun W => iAdd a (negN b) W ha (negN_lt hb)
  unfold subN
  obtain ⟨n, hn⟩ : ∃ n, negN b = n := ⟨_, rfl⟩
  rw [hn] at cN cA ⊢
  obtain ⟨r, hr⟩ : ∃ r, addN a n = r := ⟨_, rfl⟩
  rw [hr] at cA ⊢
  clear hn hr ha hb
  go_enter Try.func27, Try.ntmps27
  go_wp2_with (first | (go_at_call 29; refine (cN _).mono ?_; rintro e w1 ⟨rfl, rfl⟩) | (go_at_call 24; refine (cA _).mono ?_; rintro e w2 ⟨rfl, hb2⟩))
  go_ret
  exact ⟨rfl, hb2⟩

end Go.Proofs.Ytdaebbejpoejcaa
