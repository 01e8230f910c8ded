/-
  Part 9 of what is proved of drawn right trees.
-/
import Derived.Test.YtcdbifcidaafnaaGreatDoorPab
import Derived.Test.YtcdbifcidaafnaaGreatDoorPah
import Derived.Test.YtcdbifcidaafnaaGreatDoorPag
import Derived.Laws.BitsAllLaws
import Derived.Deep.QuietTactic
import Derived.BigQuiet

namespace Go.Proofs.YtcdbifcidaafnaaGreatDoor
theorem round_sgn {S : Int} (h0 : S ≠ 0) (e : Int) : roundZ S e = signN (decide (S < 0)) (roundN S.natAbs e false) := by unfold roundZ; rw [if_neg h0]
theorem roundZ_scale (S : Int) (e : Int) (j : Nat) : roundZ (S * 2 ^ j) (e - j) = roundZ S e := by
  have hp : (0 : Int) < 2 ^ j := Int.pow_pos (by decide)
  by_cases h0 : S = 0
  · subst h0; simp [roundZ]
  · have h1 : S * 2 ^ j ≠ 0 := Int.mul_ne_zero h0 (by omega)
    rw [round_sgn h1, round_sgn h0, Int.natAbs_mul, Int.natAbs_pow]
    have e1 : decide (S * 2 ^ j < 0) = decide (S < 0) := by
      rw [Bool.eq_iff_iff, decide_eq_true_iff, decide_eq_true_iff]
      constructor
      · intro h
        rcases Int.lt_or_le S 0 with hs | hs
        · exact hs
        · have := Int.mul_nonneg hs (Int.le_of_lt hp); omega
      · intro h; exact Int.mul_neg_of_neg_of_pos h hp
    rw [e1]
    congr 1
    exact roundN_times j S.natAbs e false
end Go.Proofs.YtcdbifcidaafnaaGreatDoor
namespace Go.Proofs.YtcdbifcidaafnaaGreatDoor
theorem roundZ_lt (S e : Int) : roundZ S e < 18446744073709551616 := by
  unfold roundZ
  split
  · decide
  · have := roundN_le S.natAbs e false
    exact sign_small _ (by omega)
theorem addN_lt {a b : Nat} (ha : a < 18446744073709551616) (hb : b < 18446744073709551616) : addN a b < 18446744073709551616 := by
  unfold addN
  repeat' split
  all_goals first | decide | exact ha | exact hb | exact roundZ_lt _ _
theorem subN_lt {a b : Nat} (ha : a < 18446744073709551616) (hb : b < 18446744073709551616) : subN a b < 18446744073709551616 := addN_lt ha (negN_lt hb)
theorem inf_bits {x : Nat} (hx : x < 18446744073709551616) (h : kindN x = 2) : x = signN (belowN x) 9218868437227405312 := by
  have hb := belowN_of (x := x) (by omega)
  rw [hb]
  unfold kindN expBits fracBits at h
  split at h
  · split at h
    · unfold signN
      by_cases h2 : 9223372036854775808 ≤ x
      · rw [decide_eq_true h2, if_pos rfl]; omega
      · rw [decide_eq_false h2, if_neg (by decide)]; omega
    · omega
  · split at h <;> omega
theorem zero_bits {x : Nat} (hx : x < 18446744073709551616) (h : kindN x = 3) : x = signN (belowN x) 0 := by
  have hb := belowN_of (x := x) (by omega)
  rw [hb]
  unfold kindN expBits fracBits at h
  split at h
  · split at h <;> omega
  · split at h
    · unfold signN
      by_cases h2 : 9223372036854775808 ≤ x
      · rw [decide_eq_true h2, if_pos rfl]; omega
      · rw [decide_eq_false h2, if_neg (by decide)]; omega
    · omega
theorem addN_comm {a b : Nat} (ha : a < 18446744073709551616) (hb : b < 18446744073709551616) : addN a b = addN b a := by
  have i1 := inf_bits ha
  have i2 := inf_bits hb
  have z1 := zero_bits ha
  have z2 := zero_bits hb
  have hs := sumZ_comm (belowN a) (mantN a) (expN a) (belowN b) (mantN b) (expN b)
  have hm := Int.min_comm (expN a) (expN b)
  unfold addN
  rcases kindN_cases a with k1 | k1 | k1 | k1 <;> rcases kindN_cases b with k2 | k2 | k2 | k2 <;> simp only [k1, k2] at i1 i2 z1 z2 ⊢
  all_goals simp
  · by_cases h : belowN a = belowN b
    · rw [if_pos h, if_pos h.symm]
      exact (i1 trivial).trans (by rw [h]; exact (i2 trivial).symm)
    · rw [if_neg h, if_neg (fun e => h e.symm)]
  · by_cases h1 : belowN a = true
    · by_cases h2 : belowN b = true
      · rw [if_pos ⟨h1, h2⟩, if_pos ⟨h2, h1⟩]
        exact (z1 trivial).trans (by rw [h1, ← h2]; exact (z2 trivial).symm)
      · rw [if_neg (fun h => h2 h.2), if_neg (fun h => h2 h.1)]
    · rw [if_neg (fun h => h1 h.1), if_neg (fun h => h1 h.2)]
  · rw [hs, hm]
theorem neg_kind {x : Nat} (h : kindN x ≠ 1) (hx : x < 18446744073709551616) : kindN (negN x) = kindN x ∧ belowN (negN x) = !belowN x ∧ mantN (negN x) = mantN x ∧ expN (negN x) = expN x := by
  have e1 : expBits (negN x) = expBits x ∧ fracBits (negN x) = fracBits x := by
    unfold negN expBits fracBits
    rw [if_neg h]
    split <;> omega
  have hk : kindN (negN x) = kindN x := by unfold kindN; rw [e1.1, e1.2]
  refine ⟨hk, ?_, by unfold mantN; rw [hk, e1.1, e1.2], by unfold expN; rw [hk, e1.1]⟩
  rw [belowN_of h, belowN_of (by rw [hk]; exact h)]
  unfold negN
  rw [if_neg h]
  by_cases h2 : 9223372036854775808 ≤ x
  · rw [if_pos h2, decide_eq_true h2, decide_eq_false (by omega)]; rfl
  · rw [if_neg h2, decide_eq_false h2, decide_eq_true (by omega)]; rfl
end Go.Proofs.YtcdbifcidaafnaaGreatDoor
namespace Go.Proofs.YtcdbifcidaafnaaGreatDoor
def rawM (x : Nat) : Nat := if x / 4503599627370496 % 2048 = 0 then x % 4503599627370496 else 4503599627370496 + x % 4503599627370496
def rawE (x : Nat) : Int := if x / 4503599627370496 % 2048 = 0 then -1074 else ((x / 4503599627370496 % 2048 : Nat) : Int) - 1075
theorem raw_fin {x : Nat} (h : kindN x = 4) : rawM x = mantN x ∧ rawE x = expN x := by
  unfold rawM rawE mantN expN expBits fracBits
  rw [if_pos h, if_pos h]
  constructor
  · split
    · rfl
    · omega
  · rfl
theorem raw_zero {x : Nat} (h : kindN x = 3) : rawM x = 0 ∧ rawE x = -1074 := by
  have hz : expBits x = 0 ∧ fracBits x = 0 := by
    unfold kindN at h
    split at h
    · split at h <;> omega
    · split at h
      · assumption
      · omega
  unfold expBits fracBits at hz
  unfold rawM rawE
  rw [if_pos hz.1, if_pos hz.1]
  exact ⟨hz.2, rfl⟩
theorem rawM_lt (x : Nat) : rawM x < 9007199254740992 := by
  unfold rawM
  split <;> omega
theorem rawE_ge (x : Nat) : -1074 ≤ rawE x := by
  unfold rawE
  split <;> omega
theorem rawE_le (x : Nat) : rawE x ≤ 972 := by
  unfold rawE
  split <;> omega
theorem raw_order {g l : Nat} (h : l % 9223372036854775808 ≤ g % 9223372036854775808) : rawE l ≤ rawE g ∧ (rawE l = rawE g → rawM l ≤ rawM g) ∧ (rawE g = -1074 ∨ 4503599627370496 ≤ rawM g) := by
  have a1 : l % 9223372036854775808 / 4503599627370496 = l / 4503599627370496 % 2048 := by omega
  have a2 : g % 9223372036854775808 / 4503599627370496 = g / 4503599627370496 % 2048 := by omega
  have a3 : l % 9223372036854775808 % 4503599627370496 = l % 4503599627370496 := by omega
  have a4 : g % 9223372036854775808 % 4503599627370496 = g % 4503599627370496 := by omega
  unfold rawM rawE
  rw [← a1, ← a2, ← a3, ← a4]
  generalize l % 9223372036854775808 = u at *
  generalize g % 9223372036854775808 = v at *
  clear a1 a2 a3 a4
  refine ⟨?_, ?_, ?_⟩
  · split <;> split <;> omega
  · split <;> split <;> omega
  · split
    · exact .inl rfl
    · exact .inr (by omega)
structure SumEnd (R : Nat) (s t : Bool) (X n : Nat) (E : Int) (lost : Bool) : Prop where
  same : s = t → R = signN s (roundN (X + n) E (lost && decide (72057594037927936 ≤ X + n)))
  none : s ≠ t → lost = false → X = n → R = 0
  more : s ≠ t → lost = false → X ≠ n → n < X ∧ R = signN s (roundN (X - n) E false)
  less : s ≠ t → lost = true → n + 1 < X ∧ R = signN s (roundN (X - (n + 1)) E (true && decide (72057594037927936 ≤ X - (n + 1))))
theorem sgnM_times (b : Bool) (m k : Nat) : sgnM b (m * k) = sgnM b m * k := by
  unfold sgnM
  cases b
  · simp
  · simp [Int.neg_mul]
theorem sumZ_ten (s : Bool) (m : Nat) (e : Int) (t : Bool) (n : Nat) (f : Int) : sumZ s (m * 1024) (e - 10) t (n * 1024) (f - 10) = sumZ s m e t n f * 2 ^ 10 := by
  unfold sumZ
  rw [(by omega : (e - 10 - min (e - 10) (f - 10)).toNat = (e - min e f).toNat), (by omega : (f - 10 - min (e - 10) (f - 10)).toNat = (f - min e f).toNat), sgnM_times, sgnM_times, Int.add_mul]
  have e2 : (2 : Int) ^ 10 = ((1024 : Nat) : Int) := by decide
  rw [e2, Int.mul_right_comm, Int.mul_right_comm (sgnM t n)]
theorem sumEnd_fin {g l : Nat} (kg : kindN g = 4) (kl : kindN l = 4) (hs : l % 9223372036854775808 ≤ g % 9223372036854775808) {D : Nat} (hD : rawE g - rawE l = D) :
    SumEnd (addN g l) (belowN g) (belowN l) (rawM g * 1024) (rawM l * 1024 / 2 ^ D) (rawE g - 10) (decide (rawM l * 1024 % 2 ^ D ≠ 0)) := by
  obtain ⟨o1, o2, o3⟩ := raw_order hs
  have mg := rawM_lt g
  have ml := rawM_lt l
  have gl := rawE_ge l
  have pg : rawM g ≠ 0 := by rw [(raw_fin kg).1]; exact mantN_pos kg
  have e1 : addN g l = roundZ (sumZ (belowN g) (rawM g * 1024) (rawE g - 10) (belowN l) (rawM l * 1024) (rawE l - 10)) (rawE g - 10 - D) := by
    have : addN g l = roundZ (sumZ (belowN g) (mantN g) (expN g) (belowN l) (mantN l) (expN l)) (min (expN g) (expN l)) := by unfold addN; simp [kg, kl]
    rw [this, sumZ_ten, (by omega : rawE g - 10 - D = rawE l - ((10 : Nat) : Int)), roundZ_scale, (raw_fin kg).1, (raw_fin kg).2, (raw_fin kl).1, (raw_fin kl).2]
    rw [(raw_fin kg).2, (raw_fin kl).2] at o1
    rw [(by omega : min (expN g) (expN l) = expN l)]
  have hc := (sumZ_cut (b1 := belowN g) (b2 := belowN l) (pm := rawM g * 1024) (qm := rawM l * 1024) (j := 0) (d := D) (pe := rawE g - 10) (qe := rawE l - 10) (by omega)).2
  rw [hc, Nat.pow_zero, Nat.mul_one] at e1
  clear hc
  have hlow : rawM l * 1024 % 2 ^ D < 2 ^ D := Nat.mod_lt _ (Nat.two_pow_pos D)
  have hdiv : rawM l * 1024 / 2 ^ D * 2 ^ D ≤ rawM l * 1024 := Nat.div_mul_le_self _ _
  have hten : D ≤ 10 → rawM l * 1024 % 2 ^ D = 0 := fun h => by
    have h1 : 2 ^ D ∣ 2 ^ 10 := Nat.pow_dvd_pow 2 h
    exact Nat.mod_eq_zero_of_dvd (Nat.dvd_trans h1 (Nat.dvd_mul_left _ _))
  have hbig : rawM l * 1024 % 2 ^ D ≠ 0 → 4611686018427387904 ≤ rawM g * 1024 ∧ rawM l * 1024 / 2 ^ D ≤ 4503599627370496 := fun h => by
    have h11 : 11 ≤ D := by
      rcases Nat.lt_or_ge 10 D with h' | h'
      · exact h'
      · exact absurd (hten h') h
    refine ⟨by omega, ?_⟩
    have h2 : 2 ^ 11 ≤ 2 ^ D := Nat.pow_le_pow_right (by decide) h11
    have h3 : rawM l * 1024 / 2 ^ D ≤ rawM l * 1024 / 2 ^ 11 := Nat.div_le_div_left h2 (by decide)
    omega
  have hle : rawM l * 1024 / 2 ^ D ≤ rawM g * 1024 := by
    by_cases h0 : D = 0
    · subst h0
      rw [Nat.pow_zero, Nat.div_one]
      have := o2 (by omega)
      omega
    · have h1 : 2 ^ 1 ≤ 2 ^ D := Nat.pow_le_pow_right (by decide) (by omega)
      have h3 : rawM l * 1024 / 2 ^ D ≤ rawM l * 1024 / 2 ^ 1 := Nat.div_le_div_left h1 (by decide)
      omega
  generalize rawM l * 1024 % 2 ^ D = low at *
  generalize rawM l * 1024 / 2 ^ D = n at *
  obtain ⟨X, hX⟩ : ∃ X, rawM g * 1024 = X := ⟨_, rfl⟩
  rw [hX] at e1 hbig hle ⊢
  have hX0 : X ≠ 0 := by omega
  clear mg ml gl pg hX o1 o2 o3 hten hdiv
  generalize belowN g = s at *
  generalize belowN l = t at *
  refine ⟨?_, ?_, ?_, ?_⟩
  · intro e
    subst e
    rw [e1]
    exact round_same hlow hX0 (by omega)
  · intro hs' hz e
    have hst : t = !s := by cases s <;> cases t <;> simp at hs' ⊢
    have hz' : low = 0 := by simpa using hz
    subst hst hz' e
    rw [e1, Nat.add_zero]
    exact round_none _ _ _
  · intro hs' hz hne
    have hst : t = !s := by cases s <;> cases t <;> simp at hs' ⊢
    have hz' : low = 0 := by simpa using hz
    subst hst hz'
    rw [e1, Nat.add_zero]
    exact ⟨by omega, round_more (by omega)⟩
  · intro hs' hz
    have hst : t = !s := by cases s <;> cases t <;> simp at hs' ⊢
    have hz' : low ≠ 0 := by simpa using hz
    have hb := hbig hz'
    subst hst
    rw [e1, round_lost hlow hz' (by omega) (by omega), Nat.sub_sub]
    exact ⟨by omega, rfl⟩
theorem sumEnd_of {g l : Nat} (hg : g < 18446744073709551616) (kg : kindN g = 3 ∨ kindN g = 4) (kl : kindN l = 3 ∨ kindN l = 4) (hs : l % 9223372036854775808 ≤ g % 9223372036854775808) :
    ∃ D : Nat, rawE g - rawE l = D ∧ SumEnd (addN g l) (belowN g) (belowN l) (rawM g * 1024) (rawM l * 1024 / 2 ^ D) (rawE g - 10) (decide (rawM l * 1024 % 2 ^ D ≠ 0)) := by
  have ho := (raw_order hs).1
  refine ⟨(rawE g - rawE l).toNat, by omega, ?_⟩
  have hD : rawE g - rawE l = ((rawE g - rawE l).toNat : Nat) := by omega
  generalize (rawE g - rawE l).toNat = D at *
  rcases kl with kl | kl
  · rw [(raw_zero kl).1, Nat.zero_mul, Nat.zero_div, Nat.zero_mod]
    rcases kg with kg | kg
    · have hR : addN g l = if belowN g = true ∧ belowN l = true then g else 0 := by unfold addN; simp [kg, kl]
      have hz := zero_bits hg kg
      rw [(raw_zero kg).1, Nat.zero_mul]
      refine ⟨?_, ?_, ?_, ?_⟩
      · intro e
        rw [roundN_nil, hR, ← e]
        cases hb : belowN g
        · simp [signN]
        · rw [hb] at hz; simpa using hz
      · intro e _ _
        rw [hR, if_neg]
        rintro ⟨h1, h2⟩
        exact e (h1.trans h2.symm)
      · intro _ _ h; exact absurd rfl h
      · intro _ h; simp at h
    · have hR : addN g l = g := by unfold addN; simp [kg, kl]
      have hp : signN (belowN g) (roundN (rawM g * 1024) (rawE g - 10) false) = g := by
        have h := round_parts false kg hg
        have h2 : roundN (mantN g * 1024) (expN g - 10) false = roundN (mantN g) (expN g) false := roundN_times 10 (mantN g) (expN g) false
        rw [(raw_fin kg).1, (raw_fin kg).2, h2]
        exact h
      have pg : rawM g ≠ 0 := by rw [(raw_fin kg).1]; exact mantN_pos kg
      rw [hR]
      refine ⟨?_, ?_, ?_, ?_⟩
      · intro _; rw [Nat.add_zero, (by decide : decide ((0 : Nat) ≠ 0) = false), Bool.false_and]; exact hp.symm
      · intro _ _ h; omega
      · intro _ _ _; exact ⟨by omega, by rw [Nat.sub_zero]; exact hp.symm⟩
      · intro _ h; simp at h
  · have kg4 : kindN g = 4 := by
      rcases kg with kg | kg
      · exfalso
        have hz := (raw_zero kg)
        have hm : rawM l ≠ 0 := by rw [(raw_fin kl).1]; exact mantN_pos kl
        obtain ⟨o1, o2, o3⟩ := raw_order hs
        have := rawE_ge l
        have := o2 (by omega)
        omega
      · exact kg
    exact sumEnd_fin kg4 kl hs hD
end Go.Proofs.YtcdbifcidaafnaaGreatDoor
namespace Go.Proofs.YtcdbifcidaafnaaGreatDoor
open Go.RowKit Go.Sort
set_option linter.unusedVariables false
set_option maxHeartbeats 400000 in
set_option maxRecDepth 100000 in
theorem iNegate_w (x : Nat) (w : World) (hx : x < 18446744073709551616) :
    Calls Tryz.prog 63 #[.int .u64 x] w fun e w' => e = .returned (.int .u64 (negN x : Nat)) ∧ w = w' := by
  have cK := fun W => iKind x W
  by_cases hk : kindN x = 1
  · have HN : Hid (Unit → negN x = 9221120237041090560) := fun _ => by unfold negN; rw [if_pos hk]
    rw [hk] at cK
    clear hx hk
    go_enter Tryz.func63, Tryz.ntmps63
    go_wp2_with (go_at_call 82; refine (cK _).mono ?_; rintro e w' ⟨rfl, rfl⟩)
    go_ret
    exact ⟨by rw [HN.out ()]; rfl, rfl⟩
  · have HN : Hid (Unit → negN x = x ^^^ 9223372036854775808) := fun _ => by rw [xor_top hx]; unfold negN; rw [if_neg hk]
    have hxr : bits .xor .u64 (x : Int) 9223372036854775808 = ((x ^^^ 9223372036854775808 : Nat) : Int) := u64_xor_nat x 9223372036854775808 hx (by decide)
    obtain ⟨Z, hZ⟩ : ∃ Z, x ^^^ 9223372036854775808 = Z := ⟨_, rfl⟩
    rw [hZ] at HN hxr
    obtain ⟨k, hk2⟩ : ∃ k, kindN x = k := ⟨_, rfl⟩
    rw [hk2] at cK hk
    have d : ((k : Int) == 1) = false := by rw [beq_eq_false_iff_ne]; omega
    clear hx hk hZ hk2
    go_enter Tryz.func63, Tryz.ntmps63
    go_wp2_with (go_at_call 82; refine (cK _).mono ?_; rintro e w' ⟨rfl, rfl⟩)
    go_ret
    exact ⟨by rw [HN.out ()]; rfl, rfl⟩
theorem iNegate (x : Nat) (w : World) (hx : x < 18446744073709551616) :
    Calls Tryz.prog 63 #[.int .u64 x] w fun e w' => e = .returned (.int .u64 (negN x : Nat)) ∧ Below w.heap.size w w' :=
  (iNegate_w x w hx).mono (by rintro e w' ⟨rfl, rfl⟩; exact ⟨rfl, Below.refl _ _⟩)
set_option maxHeartbeats 400000 in
set_option maxRecDepth 100000 in
theorem iMantRaw (x : Nat) (w : World) (hx : x < 18446744073709551616) :
    Calls Tryz.prog 101 #[.int .u64 x] w fun e w' => e = .returned (.tuple #[.int .u64 (rawM x : Nat), .int .i64 (rawE x)]) ∧ w = w' := by
  have hx' : (x : Int) < 18446744073709551616 := by omega
  by_cases h : x / 4503599627370496 % 2048 = 0
  · have g : (x : Int) / 4503599627370496 % 2048 = 0 := by omega
    have HM : Hid (Unit → (rawM x : Int) = (x : Int) % 4503599627370496) := fun _ => by simp [rawM, h]
    have HE : Hid (Unit → rawE x = -1074) := fun _ => by simp [rawE, h]
    clear h hx
    go_enter Tryz.func101, Tryz.ntmps101
    go_wp2
    go_ret2
    exact ⟨by rw [HM.out (), HE.out ()]; rfl, rfl⟩
  · have g : ((x : Int) / 4503599627370496 % 2048 == 0) = false := by rw [beq_eq_false_iff_ne]; omega
    have HM : Hid (Unit → (rawM x : Int) = 4503599627370496 + (x : Int) % 4503599627370496) := fun _ => by simp [rawM, h]
    have HE : Hid (Unit → rawE x = -1074 + (x : Int) / 4503599627370496 % 2048 - 1) := fun _ => by simp [rawE, h]; omega
    clear h hx
    go_enter Tryz.func101, Tryz.ntmps101
    go_wp2
    go_ret2
    exact ⟨by rw [HM.out (), HE.out ()]; rfl, rfl⟩
set_option maxHeartbeats 400000 in
set_option maxRecDepth 100000 in
theorem iStand (g l : Nat) (w : World) :
    Calls Tryz.prog 99 #[.agg #[.int .u64 g, .int .u64 l]] w fun e w' => e = .returned (.agg #[.int .u64 g, .int .u64 l]) ∧ ∃ o p, w' = (w.alloc o).alloc p := by
  go_enter Tryz.func99, Tryz.ntmps99
  go_wp2
  go_returns
  exact ⟨rfl, _, _, rfl⟩
set_option maxHeartbeats 400000 in
set_option maxRecDepth 100000 in
theorem iSwapped (g l : Nat) (w : World) :
    Calls Tryz.prog 100 #[.agg #[.int .u64 g, .int .u64 l]] w fun e w' => e = .returned (.agg #[.int .u64 l, .int .u64 g]) ∧ ∃ o p, w' = (w.alloc o).alloc p := by
  go_enter Tryz.func100, Tryz.ntmps100
  go_wp2
  go_returns
  exact ⟨rfl, _, _, rfl⟩
set_option maxHeartbeats 400000 in
set_option maxRecDepth 100000 in
theorem iAddends (a b : Nat) (w : World) :
    Calls Tryz.prog 88 #[.int .u64 a, .int .u64 b] w fun e w' => e = .returned (.agg #[.int .u64 ((if a % 9223372036854775808 < b % 9223372036854775808 then b else a : Nat) : Int), .int .u64 ((if a % 9223372036854775808 < b % 9223372036854775808 then a else b : Nat) : Int)]) ∧ Below w.heap.size w w' := by
  have cA := fun W => iSize a W
  have cB := fun W => iSize b W
  have c1 := fun W => iStand a b W
  have c2 := fun W => iSwapped a b W
  obtain ⟨p, hp⟩ : ∃ p : Int, (a : Int) % 9223372036854775808 = p := ⟨_, rfl⟩
  obtain ⟨q, hq⟩ : ∃ p : Int, (b : Int) % 9223372036854775808 = p := ⟨_, rfl⟩
  rw [hp] at cA
  rw [hq] at cB
  by_cases h : p < q
  · rw [if_pos (by omega), if_pos (by omega)]
    clear hp hq c1
    go_enter Tryz.func88, Tryz.ntmps88
    go_wp2_with fail
    refine (cB _).mono ?_
    rintro e w' ⟨rfl, rfl⟩
    go_wp2_with fail
    refine (cA _).mono ?_
    rintro e w' ⟨rfl, rfl⟩
    go_wp2_with fail
    refine (c2 _).mono ?_
    rintro e w' ⟨rfl, o, p, rfl⟩
    go_wp2
    go_returns
    exact ⟨rfl, by go_grown⟩
  · rw [if_neg (by omega), if_neg (by omega)]
    have d : decide (p < q) = false := by simpa using h
    clear hp hq c2
    go_enter Tryz.func88, Tryz.ntmps88
    go_wp2_with fail
    refine (cB _).mono ?_
    rintro e w' ⟨rfl, rfl⟩
    go_wp2_with fail
    refine (cA _).mono ?_
    rintro e w' ⟨rfl, rfl⟩
    go_wp2_with fail
    refine (c1 _).mono ?_
    rintro e w' ⟨rfl, o, p, rfl⟩
    go_wp2
    go_returns
    exact ⟨rfl, by go_grown⟩
set_option maxHeartbeats 1000000 in
set_option maxRecDepth 100000 in
theorem iUnlike (g l : Nat) (w : World) :
    Calls Tryz.prog 89 #[.agg #[.int .u64 g, .int .u64 l]] w fun e w' => e = .returned (.bool (decide (9223372036854775808 ≤ g) != decide (9223372036854775808 ≤ l))) ∧ ∃ o n, w' = (w.alloc o).drewN n := by
  have cG := fun W => iBelow g W
  have cL := fun W => iBelow l W
  obtain ⟨p, hp⟩ : ∃ p, decide (9223372036854775808 ≤ g) = p := ⟨_, rfl⟩
  obtain ⟨q, hq⟩ : ∃ p, decide (9223372036854775808 ≤ l) = p := ⟨_, rfl⟩
  rw [hp] at cG ⊢
  rw [hq] at cL ⊢
  clear hp hq
  have qG := fun (W : World) (n : Nat) => Calls.quiet_of_same ((cG (W.drewN n)).mono (by rintro e w' ⟨rfl, rfl⟩; exact ⟨rfl, rfl⟩))
  have qL := fun (W : World) (n : Nat) => Calls.quiet_of_same ((cL (W.drewN n)).mono (by rintro e w' ⟨rfl, rfl⟩; exact ⟨rfl, rfl⟩))
  go_enter Tryz.func89, Tryz.ntmps89
  go_wp2_with fail
  go_quiet (first | exact qG _ _ | exact qL _ _)
  go_wp2
  go_ret
  exact ⟨rfl, _, _, rfl⟩
end Go.Proofs.YtcdbifcidaafnaaGreatDoor
namespace Go.Proofs.YtcdbifcidaafnaaGreatDoor
open Go.RowKit Go.Sort
set_option linter.unusedVariables false
theorem cut_low {m D : Nat} (h : m < 9007199254740992) : ((m : Int) * 1024 / 2 ^ min D 64) = ((m * 1024 / 2 ^ D : Nat) : Int) ∧ (IntKind.u64.wrap ((m : Int) * 1024 / 2 ^ min D 64 * 2 ^ min D 64) != (m : Int) * 1024) = decide (m * 1024 % 2 ^ D ≠ 0) := by
  have e1 : (m : Int) * 1024 / 2 ^ min D 64 = ((m * 1024 / 2 ^ min D 64 : Nat) : Int) := by simp
  have e2 : m * 1024 / 2 ^ min D 64 = m * 1024 / 2 ^ D ∧ m * 1024 % 2 ^ min D 64 = m * 1024 % 2 ^ D := by
    by_cases h64 : D ≤ 64
    · rw [Nat.min_eq_left h64]; exact ⟨rfl, rfl⟩
    · have hp : 2 ^ 64 ≤ 2 ^ D := Nat.pow_le_pow_right (by decide) (by omega)
      rw [Nat.min_eq_right (by omega), Nat.div_eq_of_lt (by omega), Nat.div_eq_of_lt (by omega), Nat.mod_eq_of_lt (by omega), Nat.mod_eq_of_lt (by omega)]
      exact ⟨rfl, rfl⟩
  rw [e1, e2.1]
  refine ⟨rfl, ?_⟩
  have e3 := Nat.div_add_mod (m * 1024) (2 ^ min D 64)
  rw [e2.1, e2.2, Nat.mul_comm] at e3
  have e4 : ((m * 1024 / 2 ^ D : Nat) : Int) * 2 ^ min D 64 = ((m * 1024 / 2 ^ D * 2 ^ min D 64 : Nat) : Int) := by simp
  rw [e4]
  generalize m * 1024 / 2 ^ D * 2 ^ min D 64 = q at *
  generalize m * 1024 % 2 ^ D = r at *
  have e5 : IntKind.u64.wrap (q : Int) = q := by
    show (q : Int) % 18446744073709551616 = q
    omega
  rw [e5, Bool.eq_iff_iff]
  simp
  omega
set_option maxHeartbeats 2000000 in
set_option maxRecDepth 100000 in
theorem iFinite (g l : Nat) (w : World) (hg : g < 18446744073709551616) (hl : l < 18446744073709551616) (kg : kindN g = 3 ∨ kindN g = 4) (kl : kindN l = 3 ∨ kindN l = 4) (hs : l % 9223372036854775808 ≤ g % 9223372036854775808) :
    Calls Tryz.prog 90 #[.agg #[.int .u64 g, .int .u64 l]] w fun e w' => e = .returned (.int .u64 (addN g l : Nat)) ∧ Below w.heap.size w w' := by
  obtain ⟨D, hD, hE⟩ := sumEnd_of hg kg kl hs
  rw [belowN_of (by omega : kindN g ≠ 1), belowN_of (by omega : kindN l ≠ 1)] at hE
  have cB := fun W => iBelow g W
  have cM := fun W => iMantRaw g W hg
  have cN := fun W => iMantRaw l W hl
  have cU := fun W => iUnlike g l W
  have m1 := rawM_lt g
  have m2 := rawM_lt l
  have e1 := rawE_ge g
  have e2 := rawE_le g
  have e3 := rawE_ge l
  have e4 := rawE_le l
  obtain ⟨s, hs1⟩ : ∃ p, decide (9223372036854775808 ≤ g) = p := ⟨_, rfl⟩
  obtain ⟨t, ht1⟩ : ∃ p, decide (9223372036854775808 ≤ l) = p := ⟨_, rfl⟩
  rw [hs1] at cB
  rw [hs1, ht1] at cU hE
  generalize rawM g = mg at *
  generalize rawM l = ml at *
  generalize rawE g = eg at *
  generalize rawE l = el at *
  obtain ⟨R, hR⟩ : ∃ R, addN g l = R := ⟨_, rfl⟩
  rw [hR] at hE ⊢
  clear hs1 ht1 hR hg hl kg kl hs
  obtain ⟨c1, c2⟩ := cut_low (D := D) m2
  have b1 : mg * 1024 < 9223372036854775808 := by omega
  have b2 : ml * 1024 / 2 ^ D < 9223372036854775808 := Nat.lt_of_le_of_lt (Nat.div_le_self _ _) (by omega)
  obtain ⟨X, hX⟩ : ∃ X, mg * 1024 = X := ⟨_, rfl⟩
  have hX' : (mg : Int) * 1024 = X := by omega
  obtain ⟨n, hn⟩ : ∃ n, ml * 1024 / 2 ^ D = n := ⟨_, rfl⟩
  obtain ⟨L, hL⟩ : ∃ n, decide (ml * 1024 % 2 ^ D ≠ 0) = n := ⟨_, rfl⟩
  rw [hX] at hE b1
  rw [hn] at hE b2 c1
  rw [hL] at hE c2
  have HE : Hid (Unit → SumEnd R s t X n (eg - 10) L) := fun _ => hE
  have cR := fun W => iRound_w s L (X + n) (eg - 10) W (by omega) (by omega) (by omega)
  rw [Int.natCast_add] at cR
  have M1 : (mg : Int) < 9007199254740992 := by omega
  have M2 : (ml : Int) < 9007199254740992 := by omega
  have B1 : (X : Int) < 9223372036854775808 := by omega
  have B2 : (n : Int) < 9223372036854775808 := by omega
  have C1 : Hid _ := c1
  have C2 : Hid _ := c2
  have X1 : Hid _ := hX'
  clear hE m1 m2 c1 c2 hX' b1 b2 hn hL hX
  go_enter Tryz.func90, Tryz.ntmps90
  go_wp2_with fail
  refine (cB _).mono ?_
  rintro e w' ⟨rfl, rfl⟩
  go_wp2_with fail
  refine (cM _).mono ?_
  rintro e w' ⟨rfl, rfl⟩
  go_wp2_with fail
  refine (cN _).mono ?_
  rintro e w' ⟨rfl, rfl⟩
  go_wp2_with fail
  simp only [C2.out]
  simp only [C1.out]
  simp only [X1.out]
  clear C1 C2 X1 cM cN cB M1 M2
  refine (cU _).mono ?_
  rintro e w' ⟨rfl, o, j, rfl⟩
  clear cU
  by_cases hst : s = t
  · have HR := (HE.out ()).same hst
    subst hst
    rw [← HR] at cR
    have d : (s != s) = false := by simp
    clear HE HR
    go_wp2_with (go_at_call 102; refine (cR _).mono ?_; rintro e w' ⟨rfl, rfl⟩)
    go_ret
    exact ⟨rfl, below_drewN (below_two _ _ _) _⟩
  · have d : (s != t) = true := by simpa using hst
    clear cR
    cases L
    · by_cases hXn : X = n
      · have HR := (HE.out ()).none hst rfl hXn
        subst hXn HR
        clear HE hst
        go_wp2
        go_ret
        exact ⟨rfl, below_drewN (below_two _ _ _) _⟩
      · obtain ⟨h1, HR⟩ := (HE.out ()).more hst rfl hXn
        have cR := fun W => iRound_w s false (X - n) (eg - 10) W (by omega) (by omega) (by omega)
        rw [Bool.false_and, ← HR, Int.natCast_sub (by omega)] at cR
        have d2 : ((X : Int) == n) = false := by rw [beq_eq_false_iff_ne]; omega
        have h2 : (n : Int) < X := by omega
        clear HE HR hXn h1 hst
        go_wp2_with (go_at_call 102; refine (cR _).mono ?_; rintro e w' ⟨rfl, rfl⟩)
        go_ret
        exact ⟨rfl, below_drewN (below_two _ _ _) _⟩
    · obtain ⟨h1, HR⟩ := (HE.out ()).less hst rfl
      have cR := fun W => iRound_w s true (X - (n + 1)) (eg - 10) W (by omega) (by omega) (by omega)
      rw [← HR, Int.natCast_sub (by omega), Int.natCast_add] at cR
      have d2 : ((X : Int) == (n : Int) + 1) = false := by rw [beq_eq_false_iff_ne]; omega
      have h2 : (n : Int) + 1 < X := by omega
      clear HE HR h1 hst
      go_wp2_with (go_at_call 102; refine (cR _).mono ?_; rintro e w' ⟨rfl, rfl⟩)
      go_ret
      exact ⟨rfl, below_drewN (below_two _ _ _) _⟩
theorem kind_le {g l : Nat} (h : l % 9223372036854775808 ≤ g % 9223372036854775808) : (kindN g ≠ 1 → kindN l ≠ 1) ∧ (kindN g = 3 ∨ kindN g = 4 → kindN l = 3 ∨ kindN l = 4) := by
  have hl : l % 9223372036854775808 ≤ 9218868437227405312 → kindN l ≠ 1 := fun h => by
    unfold kindN expBits fracBits
    split
    · rw [if_pos (by omega)]; decide
    · split <;> decide
  have hl2 : l % 9223372036854775808 < 9218868437227405312 → kindN l = 3 ∨ kindN l = 4 := fun h => by
    unfold kindN expBits fracBits
    rw [if_neg (by omega)]
    split
    · exact .inl rfl
    · exact .inr rfl
  constructor
  · intro hg
    refine hl ?_
    rcases Nat.lt_or_ge 9218868437227405312 (g % 9223372036854775808) with h' | h'
    · exact absurd (kind_nan h') hg
    · omega
  · intro hg
    refine hl2 ?_
    rcases Nat.lt_trichotomy 9218868437227405312 (g % 9223372036854775808) with h' | h' | h'
    · have := kind_nan h'; omega
    · have := kind_inf h'.symm; omega
    · omega
set_option maxHeartbeats 2000000 in
set_option maxRecDepth 100000 in
theorem iAdd (a b : Nat) (w : World) (ha : a < 18446744073709551616) (hb : b < 18446744073709551616) :
    Calls Tryz.prog 73 #[.int .u64 a, .int .u64 b] w fun e w' => e = .returned (.int .u64 (addN a b : Nat)) ∧ Below w.heap.size w w' := by
  have cS := fun W => iAddends a b W
  have HG : ∃ g l : Nat, (if a % 9223372036854775808 < b % 9223372036854775808 then b else a) = g ∧ (if a % 9223372036854775808 < b % 9223372036854775808 then a else b) = l ∧
      g < 18446744073709551616 ∧ l < 18446744073709551616 ∧ l % 9223372036854775808 ≤ g % 9223372036854775808 ∧ addN a b = addN g l := by
    by_cases h : a % 9223372036854775808 < b % 9223372036854775808
    · rw [if_pos h, if_pos h]
      exact ⟨b, a, rfl, rfl, hb, ha, by omega, addN_comm ha hb⟩
    · rw [if_neg h, if_neg h]
      exact ⟨a, b, rfl, rfl, ha, hb, by omega, rfl⟩
  obtain ⟨g, l, h1, h2, hg, hl, hs, hR⟩ := HG
  rw [h1, h2] at cS
  rw [hR]
  clear h1 h2 hR ha hb
  obtain ⟨n1, n2⟩ := kind_le hs
  have cK := fun W => iKind g W
  have cL := fun W => iKind l W
  have cU := fun W => iUnlike g l W
  obtain ⟨kg, hkg⟩ : ∃ k, kindN g = k := ⟨_, rfl⟩
  obtain ⟨kl, hkl⟩ : ∃ k, kindN l = k := ⟨_, rfl⟩
  have hK := kindN_cases g
  rw [hkg] at hK cK
  rw [hkl] at cL
  rcases hK with rfl | rfl | hk34
  · have HR : Hid (Unit → addN g l = 9221120237041090560) := fun _ => by unfold addN; simp [hkg]
    clear hkg hkl n1 n2 hs hg hl cL cU
    obtain ⟨R, hR⟩ : ∃ R, addN g l = R := ⟨_, rfl⟩
    rw [hR] at HR ⊢
    clear hR
    go_enter Tryz.func73, Tryz.ntmps73
    go_wp2_with fail
    refine (cS _).mono ?_
    rintro e w1 ⟨rfl, hb1⟩
    go_wp2_with fail
    refine (cK _).mono ?_
    rintro e w' ⟨rfl, rfl⟩
    go_wp2
    go_ret
    exact ⟨by rw [HR.out ()]; rfl, hb1.alloc hb1.size _⟩
  · have n3 := n1 (by omega)
    have HR : Hid (Unit → addN g l = if kl = 2 ∧ (decide (9223372036854775808 ≤ g) != decide (9223372036854775808 ≤ l)) = true then 9221120237041090560 else g) := fun _ => by
      unfold addN
      rw [belowN_of (by omega : kindN g ≠ 1), belowN_of n3, hkg, hkl]
      rw [hkl] at n3
      simp [n3]
    obtain ⟨R, hR⟩ : ∃ R, addN g l = R := ⟨_, rfl⟩
    obtain ⟨u, hu⟩ : ∃ u, (decide (9223372036854775808 ≤ g) != decide (9223372036854775808 ≤ l)) = u := ⟨_, rfl⟩
    rw [hu] at HR cU
    rw [hR] at HR ⊢
    clear hkg hkl n1 n2 hs hg hl hR n3 hu
    by_cases hk : kl = 2
    · subst hk
      cases u
      · have HR2 : Hid (Unit → R = g) := fun _ => by rw [HR.out ()]; simp
        clear HR
        go_enter Tryz.func73, Tryz.ntmps73
        go_wp2_with fail
        refine (cS _).mono ?_
        rintro e w1 ⟨rfl, hb1⟩
        go_wp2_with fail
        refine (cK _).mono ?_
        rintro e w' ⟨rfl, rfl⟩
        go_wp2_with fail
        refine (cL _).mono ?_
        rintro e w' ⟨rfl, rfl⟩
        go_wp2_with fail
        refine (cU _).mono ?_
        rintro e w' ⟨rfl, o, j, rfl⟩
        go_wp2
        go_ret
        exact ⟨by rw [HR2.out ()]; rfl, below_drewN ((hb1.alloc hb1.size _).alloc (by have := hb1.size; simp; omega) _) _⟩
      · have HR2 : Hid (Unit → R = 9221120237041090560) := fun _ => by rw [HR.out ()]; simp
        clear HR
        go_enter Tryz.func73, Tryz.ntmps73
        go_wp2_with fail
        refine (cS _).mono ?_
        rintro e w1 ⟨rfl, hb1⟩
        go_wp2_with fail
        refine (cK _).mono ?_
        rintro e w' ⟨rfl, rfl⟩
        go_wp2_with fail
        refine (cL _).mono ?_
        rintro e w' ⟨rfl, rfl⟩
        go_wp2_with fail
        refine (cU _).mono ?_
        rintro e w' ⟨rfl, o, j, rfl⟩
        go_wp2
        go_ret
        exact ⟨by rw [HR2.out ()]; rfl, below_drewN ((hb1.alloc hb1.size _).alloc (by have := hb1.size; simp; omega) _) _⟩
    · have HR2 : Hid (Unit → R = g) := fun _ => by rw [HR.out ()]; simp [hk]
      have d : ((kl : Int) == 2) = false := by rw [beq_eq_false_iff_ne]; omega
      clear HR hk
      go_enter Tryz.func73, Tryz.ntmps73
      go_wp2_with fail
      refine (cS _).mono ?_
      rintro e w1 ⟨rfl, hb1⟩
      go_wp2_with fail
      refine (cK _).mono ?_
      rintro e w' ⟨rfl, rfl⟩
      go_wp2_with fail
      refine (cL _).mono ?_
      rintro e w' ⟨rfl, rfl⟩
      go_wp2
      go_ret
      exact ⟨by rw [HR2.out ()]; rfl, hb1.alloc hb1.size _⟩
  · have cF := fun W => iFinite g l W hg hl (by omega) (n2 (by omega)) hs
    have d1 : ((kg : Int) == 1) = false := by rw [beq_eq_false_iff_ne]; omega
    have d2 : ((kg : Int) == 2) = false := by rw [beq_eq_false_iff_ne]; omega
    obtain ⟨R, hR⟩ : ∃ R, addN g l = R := ⟨_, rfl⟩
    rw [hR] at cF ⊢
    clear hkg hkl n1 n2 hs hg hl hR hk34 cL cU
    go_enter Tryz.func73, Tryz.ntmps73
    go_wp2_with fail
    refine (cS _).mono ?_
    rintro e w1 ⟨rfl, hb1⟩
    go_wp2_with fail
    refine (cK _).mono ?_
    rintro e w' ⟨rfl, rfl⟩
    go_wp2_with fail
    refine (cF _).mono ?_
    rintro e w' ⟨rfl, hb2⟩
    go_wp2
    go_ret
    exact ⟨rfl, chain (hb1.alloc hb1.size _) hb2⟩
set_option maxHeartbeats 400000 in
set_option maxRecDepth 100000 in
theorem iSub (a b : Nat) (w : World) (ha : a < 18446744073709551616) (hb : b < 18446744073709551616) :
    Calls Tryz.prog 74 #[.int .u64 a, .int .u64 b] w fun e w' => e = .returned (.int .u64 (subN a b : Nat)) ∧ Below w.heap.size w w' := by
  have cN := fun W => iNegate_w b W hb
  have cA := fun W => iAdd a (negN b) W ha (negN_lt hb)
  unfold subN
  obtain ⟨n, hn⟩ : ∃ n, negN b = n := ⟨_, rfl⟩
  rw [hn] at cN cA ⊢
  obtain ⟨r, hr⟩ : ∃ r, addN a n = r := ⟨_, rfl⟩
  rw [hr] at cA ⊢
  clear hn hr ha hb
  go_enter Tryz.func74, Tryz.ntmps74
  go_wp2_with (first | (go_at_call 63; refine (cN _).mono ?_; rintro e w1 ⟨rfl, rfl⟩) | (go_at_call 73; refine (cA _).mono ?_; rintro e w2 ⟨rfl, hb2⟩))
  go_ret
  exact ⟨rfl, hb2⟩
end Go.Proofs.YtcdbifcidaafnaaGreatDoor
namespace Go.Proofs.YtcdbifcidaafnaaGreatDoor
open Go.RowKit Go.Sort
set_option linter.unusedVariables false
set_option linter.unusedSimpArgs false
def EtOk (w : World) : Prop := w.cell? ⟨0, 0, none⟩ = some (.iface 128 (.agg #[.pointer (some ⟨9, 52, none⟩)]))
theorem EtOk.lt {w : World} (h : EtOk w) : 0 < w.heap.size := World.block_lt_of_cell? w ⟨0, 0, none⟩ h
theorem EtOk.below {w w' : World} {B : Nat} (h : EtOk w) (h0 : 0 < B) (hb : Below B w w') : EtOk w' := (hb.cell (p := ⟨0, 0, none⟩) h0).trans h
theorem EtOk.more {w w' : World} (h : EtOk w) (hb : Below w.heap.size w w') : EtOk w' := h.below h.lt hb
theorem as_hit2 (T : Nat) (s : ByteArray) (old : Value) (w : World) (hg : EtOk w) (hT : w.heap[T]? = some (.cells #[old] 85 (0, 0))) :
    Calls Tryz.prog 52 #[.iface 85 (.agg #[.string s]), .iface 87 (.pointer (some ⟨T, 0, none⟩))] w fun ev w' => ev = .returned (.bool true) ∧ w'.heap[T]? = some (.cells #[.string s] 85 (0, 0)) ∧ w.grownBy w' (some T) := by
  refine (as_hit T s old w hg (by rw [cell_of_row _ _ _ _ _ _ hT]; rfl) (frozen_of_row w T 0 _ _ hT)).mono fun ev w' ⟨e1, e2⟩ => ⟨e1, ?_, ?_⟩
  · subst e2
    have hl := (Array.getElem?_eq_some_iff.1 hT).1
    have k : ∀ (o1 o2 o3 o4 : Obj), ((((w.alloc o1).alloc o2).alloc o3).alloc o4).heap[T]? = some (.cells #[old] 85 (0, 0)) := fun o1 o2 o3 o4 => by
      rw [heap_alloc_old (r := T) _ _ (by simp; omega), heap_alloc_old (r := T) _ _ (by simp; omega), heap_alloc_old (r := T) _ _ (by simp; omega), heap_alloc_old (r := T) _ _ hl]
      exact hT
    exact heap_setCell_same _ T 0 #[old] _ (.string s) (k _ _ _ _)
  · subst e2
    refine ⟨rfl, rfl, rfl, by simp [World.setCell]; omega, fun k hk hne => ?_⟩
    rw [heap_setCell_other _ ⟨T, 0, none⟩ k _ (fun e => hne (by rw [show k = T from e]))]
    rw [heap_alloc_old (r := k) _ _ (by simp; omega), heap_alloc_old (r := k) _ _ (by simp; omega), heap_alloc_old (r := k) _ _ (by simp; omega), heap_alloc_old (r := k) _ _ hk]
set_option maxHeartbeats 1000000 in
set_option maxRecDepth 100000 in
theorem iValueOrText_ok {p : PVal} {T : TypeId} {v : Value} {fv : FuncId} (h : Cont17 p T v fv) (w : World) :
    Calls Tryz.prog 26 #[.iface T v, .nilIface] w fun e w' => e = .returned (.tuple #[.agg #[.int .i64 (cvP p).kind, .int .u64 ((cvP p).num : Int), .string (cvP p).text, .int .i64 (cvP p).ref], .string ⟨#[]⟩]) ∧ Below w.heap.size w w' := by
  have cV := fun W => iValueOf h W
  obtain ⟨q, hq⟩ : ∃ q, cvP p = q := ⟨_, rfl⟩
  simp only [hq] at cV ⊢
  clear hq
  obtain ⟨t0, t1, tz, tb⟩ := two_made w (.cells #[.int .i64 0, .int .u64 0, .string ⟨#[]⟩, .int .i64 0] 26) (.cells #[.string ⟨#[]⟩] 85)
  rcases h with ⟨_, rfl, rfl, rfl⟩ | ⟨_, rfl, rfl, rfl⟩ | ⟨_, rfl, rfl, rfl⟩ | ⟨_, rfl, rfl, rfl⟩ | ⟨_, rfl, rfl, rfl⟩ | ⟨_, rfl, rfl, rfl⟩
  all_goals
    go_enter Tryz.func26, Tryz.ntmps26
    go_upto_region 4 with (go_at_call 52; (with_reducible refine (as_nil _ _).mono ?_); rintro e w1 ⟨rfl, rfl⟩)
    go_wp2_with fail
    refine (cV _).mono ?_
    rintro e w2 ⟨rfl, b2⟩
    obtain ⟨⟨c0, c1, c2, c3⟩, fz, ⟨g0, g1, g2, g3⟩, hbe⟩ := four_ready (G := w.heap.size) (b0 := .int .i64 q.kind) (b1 := .int .u64 (q.num : Int)) (b2 := .string q.text) (b3 := .int .i64 q.ref) ((b2.block w.heap.size (by omega)).trans t0) (chain tb b2) (by omega)
    clear t0 t1 tz tb cV
    go_wp2
    refine bodyPost_ret (by simp [results, Tryz.results26, go_sem, g0, g1, g2, g3]; try rfl) rfl ?_
    exact ⟨rfl, hbe⟩
set_option maxHeartbeats 1000000 in
set_option maxRecDepth 100000 in
theorem iValueOrText_no (s : ByteArray) (w : World) (hg : EtOk w) :
    Calls Tryz.prog 26 #[.nilIface, .iface 85 (.agg #[.string s])] w fun e w' => e = .returned (.tuple #[.agg #[.int .i64 0, .int .u64 0, .string ⟨#[]⟩, .int .i64 0], .string s]) ∧ Below w.heap.size w w' := by
  obtain ⟨t0, t1, tz, tb⟩ := two_made w (.cells #[.int .i64 0, .int .u64 0, .string ⟨#[]⟩, .int .i64 0] 26) (.cells #[.string ⟨#[]⟩] 85)
  have cA := as_hit2 (w.heap.size + 1) s _ _ (hg.more tb) t1
  have hbT : ∀ W, (Instr.build 26 #[]).run Tryz.prog W = .ok (.agg #[.int .i64 0, .int .u64 0, .string ⟨#[]⟩, .int .i64 0]) W := fun W => run_build W 26 _ _ (by kernel_rfl)
  clear hg
  go_enter Tryz.func26, Tryz.ntmps26
  go_upto_region 3 with (go_at_call 52; (with_reducible refine cA.mono ?_); rintro e w3 ⟨rfl, hT, gr⟩)
  have r3 : w3.heap[w.heap.size]? = some (.cells #[.int .i64 0, .int .u64 0, .string ⟨#[]⟩, .int .i64 0] 26 (0, 0)) := (gr.block w.heap.size (by omega) (by simp)).trans t0
  have b3 : Below w.heap.size w w3 := ⟨gr.os.trans tb.os, gr.tape.trans tb.tape, gr.output.trans tb.output, Nat.le_trans tb.size gr.size, fun k hk => (gr.block k (by omega) (by simp; omega)).trans (tb.block k hk)⟩
  obtain ⟨⟨c0, c1, c2, c3⟩, fz, ⟨g0, g1, g2, g3⟩, hbe⟩ := four_ready (G := w.heap.size) (b0 := .int .i64 0) (b1 := .int .u64 0) (b2 := .string ⟨#[]⟩) (b3 := .int .i64 0) r3 b3 (Nat.le_refl _)
  have s0 : w3.cell? ⟨w.heap.size + 1, 0, none⟩ = some (.string s) := by rw [cell_of_row _ _ _ _ _ _ hT]; rfl
  clear t0 t1 tz tb cA hT gr r3 b3
  go_region
  all_goals
    go_wp2
    refine bodyPost_ret (by simp [results, Tryz.results26, go_sem, g0, g1, g2, g3]; try rfl) rfl ?_
    exact ⟨rfl, hbe.drew⟩
set_option maxHeartbeats 1000000 in
set_option maxRecDepth 100000 in
theorem iNegated (p : PVal) (w : World) (hp : valW p) :
    Calls Tryz.prog 44 #[.agg #[.int .i64 p.kind, .int .u64 (p.num : Int), .string p.text, .int .i64 p.ref]] w fun e w' => e = .returned (if p.kind = 2 then .tuple #[.iface 64 (.int .u64 ((negN p.num : Nat) : Int)), .nilIface] else .tuple #[.nilIface, .iface 85 (.agg #[.string typeS])]) ∧ Below w.heap.size w w' := by
  obtain ⟨T, v, fv, hc⟩ := cont17_some p
  have cC := fun W => iContentAs hc W
  have tA := fun W => assertNum hc W
  have cN := fun W => iNegate p.num W hp.2.1
  have hbM : ∀ (s : ByteArray) W, (Instr.build 85 #[(0, .string s)]).run Tryz.prog W = .ok (.agg #[.string s]) W := fun s W => run_build W 85 _ _ (by kernel_rfl)
  obtain ⟨k, x, s, r⟩ := p
  have b0 : Below w.heap.size w (w.alloc (.cells #[.int .i64 k, .int .u64 (x : Int), .string s, .int .i64 r] 26)) := (Below.refl _ _).alloc (Nat.le_refl _) _
  have h0 := heap_alloc_new w (.cells #[.int .i64 k, .int .u64 (x : Int), .string s, .int .i64 r] 26)
  obtain ⟨a0, a1, a2, a3⟩ := four_cells h0
  simp only at cC tA cN ⊢
  obtain ⟨N, hN⟩ : ∃ N, negN x = N := ⟨_, rfl⟩
  simp only [hN] at cN ⊢
  clear hc hp h0 hN
  by_cases h2 : k = 2
  · subst h2
    rw [if_pos rfl]
    have e1 : isNum ⟨2, x, s, r⟩ = true := rfl
    have e2 : numP ⟨2, x, s, r⟩ = x := rfl
    simp only [e1, e2] at tA
    clear e1 e2
    go_enter Tryz.func44, Tryz.ntmps44
    go_wp2_with fail
    refine (cC _).mono ?_
    rintro e w1 ⟨rfl, b1⟩
    clear a0 a1 a2 a3 cC
    go_wp2_with fail
    refine (cN _).mono ?_
    rintro e w2 ⟨rfl, b2⟩
    go_wp2
    go_ret2
    exact ⟨rfl, chain b0 (chain b1 b2)⟩
  · rw [if_neg h2]
    have e1 : isNum ⟨k, x, s, r⟩ = false := by simp [isNum, h2]
    have e2 : numP ⟨k, x, s, r⟩ = 0 := by simp [numP, h2]
    simp only [e1, e2] at tA
    clear e1 e2 cN
    go_enter Tryz.func44, Tryz.ntmps44
    go_wp2_with fail
    refine (cC _).mono ?_
    rintro e w1 ⟨rfl, b1⟩
    clear a0 a1 a2 a3 cC
    go_wp2
    go_ret2
    exact ⟨rfl, chain b0 b1⟩
set_option maxHeartbeats 1000000 in
set_option maxRecDepth 100000 in
theorem iDoMinus_any (p : PVal) (w : World) (hp : valW p) (hg : EtOk w) :
    Calls Tryz.prog 14 #[.agg #[.int .i64 p.kind, .int .u64 (p.num : Int), .string p.text, .int .i64 p.ref]] w fun e w' => e = .returned (.tuple #[.agg #[.int .i64 (minusV p).1.kind, .int .u64 ((minusV p).1.num : Int), .string (minusV p).1.text, .int .i64 (minusV p).1.ref], .string (minusV p).2]) ∧ Below w.heap.size w w' := by
  have cN := fun W => iNegated p W hp
  have hl := hg.lt
  obtain ⟨k, x, s, r⟩ := p
  simp only at cN ⊢
  obtain ⟨t0, t1, tz, tb⟩ := two_made w (.cells #[.int .i64 k, .int .u64 (x : Int), .string s, .int .i64 r] 26) (.cells #[.int .i64 0, .int .u64 0, .string ⟨#[]⟩, .int .i64 0] 26)
  obtain ⟨a0, a1, a2, a3⟩ := four_cells t0
  by_cases h2 : k = 2
  · subst h2
    have e1 : minusV ⟨2, x, s, r⟩ = (⟨2, negN x, ⟨#[]⟩, 0⟩, ⟨#[]⟩) := rfl
    rw [e1]
    simp only [if_true] at cN ⊢
    obtain ⟨N, hN⟩ : ∃ N, negN x = N := ⟨_, rfl⟩
    simp only [hN] at cN ⊢
    have cV := fun W => iValueOrText_ok (p := ⟨2, N, ⟨#[]⟩, 0⟩) (T := 64) (v := .int .u64 (N : Int)) (.inr (.inr (.inl ⟨rfl, rfl, rfl, rfl⟩))) W
    have e2 : cvP ⟨2, N, ⟨#[]⟩, 0⟩ = ⟨2, N, ⟨#[]⟩, 0⟩ := rfl
    rw [e2] at cV
    simp only at cV
    clear e1 e2 hN hp hg
    go_enter Tryz.func14, Tryz.ntmps14
    go_wp2_with fail
    refine (cN _).mono ?_
    rintro e w1 ⟨rfl, b1⟩
    clear a0 a1 a2 a3 cN
    go_wp2_with fail
    refine (cV _).mono ?_
    rintro e w2 ⟨rfl, b2⟩
    have hz := b1.size
    obtain ⟨⟨c0, c1, c2, c3⟩, fz, ⟨g0, g1, g2, g3⟩, hbe⟩ := four_ready (G := w.heap.size + 1) (b0 := .int .i64 2) (b1 := .int .u64 (N : Int)) (b2 := .string ⟨#[]⟩) (b3 := .int .i64 0) ((b2.block (w.heap.size + 1) (by omega)).trans ((b1.block (w.heap.size + 1) (by omega)).trans t1)) (chain (chain tb b1) b2) (by omega)
    clear t0 t1 tz tb
    go_wp2
    refine bodyPost_ret (by simp [results, Tryz.results14, go_sem, g0, g1, g2, g3]; try rfl) rfl ?_
    exact ⟨rfl, hbe⟩
  · have e1 : minusV ⟨k, x, s, r⟩ = (⟨0, 0, ⟨#[]⟩, 0⟩, typeS) := by simp [minusV, h2, noneV]
    rw [e1]
    simp only [if_neg h2] at cN ⊢
    have cV := fun W (h : EtOk W) => iValueOrText_no typeS W h
    obtain ⟨ST, hST⟩ : ∃ t, typeS = t := ⟨_, rfl⟩
    simp only [hST] at cN cV ⊢
    have HG : Hid (∀ W, Below w.heap.size w W → EtOk W) := fun W hW => hg.below hl hW
    have HTB : Hid (Below w.heap.size w _) := tb
    clear e1 hST hp hg
    go_enter Tryz.func14, Tryz.ntmps14
    go_wp2_with fail
    refine (cN _).mono ?_
    rintro e w1 ⟨rfl, b1⟩
    clear a0 a1 a2 a3 cN
    have cV1 := cV w1 (HG.out _ (chain HTB.out b1))
    go_wp2_with fail
    refine cV1.mono ?_
    rintro e w2 ⟨rfl, b2⟩
    have hz := b1.size
    obtain ⟨⟨c0, c1, c2, c3⟩, fz, ⟨g0, g1, g2, g3⟩, hbe⟩ := four_ready (G := w.heap.size + 1) (b0 := .int .i64 0) (b1 := .int .u64 0) (b2 := .string ⟨#[]⟩) (b3 := .int .i64 0) ((b2.block (w.heap.size + 1) (by omega)).trans ((b1.block (w.heap.size + 1) (by omega)).trans t1)) (chain (chain tb b1) b2) (by omega)
    clear t0 t1 tz tb cV cV1
    go_wp2
    refine bodyPost_ret (by simp [results, Tryz.results14, go_sem, g0, g1, g2, g3]; try rfl) rfl ?_
    exact ⟨rfl, hbe⟩
end Go.Proofs.YtcdbifcidaafnaaGreatDoor
