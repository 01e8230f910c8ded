/-
  The sum of two finite numbers as the program itself finds it: ten places more, the lesser one brought down, and what is lost of it; over no program.
-/
import Derived.Test.YtlikjbklagolmaaDoorAddL
namespace Go.Proofs.YtlikjbklagolmaaDoor

/-- the whole number and the exponent in the bits, of zeros too -/
def rawM (x : Nat) : Nat := if x / 4503599627370496 % 2048 = 0 then x % 4503599627370496 else 4503599627370496 + x % 4503599627370496
def rawE (x : Nat) : Int := if x / 4503599627370496 % 2048 = 0 then -1074 else ((x / 4503599627370496 % 2048 : Nat) : Int) - 1075

theorem raw_fin {x : Nat} (h : kindN x = 4) : rawM x = mantN x ∧ rawE x = expN x := by
  unfold rawM rawE mantN expN expBits fracBits
  rw [if_pos h, if_pos h]
  constructor
  · split
    · rfl
    · omega
  · rfl
theorem raw_zero {x : Nat} (h : kindN x = 3) : rawM x = 0 ∧ rawE x = -1074 := by
  have hz : expBits x = 0 ∧ fracBits x = 0 := by
    unfold kindN at h
    split at h
    · split at h <;> omega
    · split at h
      · assumption
      · omega
  unfold expBits fracBits at hz
  unfold rawM rawE
  rw [if_pos hz.1, if_pos hz.1]
  exact ⟨hz.2, rfl⟩
theorem rawM_lt (x : Nat) : rawM x < 9007199254740992 := by
  unfold rawM
  split <;> omega
theorem rawE_ge (x : Nat) : -1074 ≤ rawE x := by
  unfold rawE
  split <;> omega
theorem rawE_le (x : Nat) : rawE x ≤ 972 := by
  unfold rawE
  split <;> omega

/-- the greater one's exponent is no less, nor what it stands for -/
theorem raw_order {g l : Nat} (h : l % 9223372036854775808 ≤ g % 9223372036854775808) : rawE l ≤ rawE g ∧ (rawE l = rawE g → rawM l ≤ rawM g) ∧ (rawE g = -1074 ∨ 4503599627370496 ≤ rawM g) := by
  have a1 : l % 9223372036854775808 / 4503599627370496 = l / 4503599627370496 % 2048 := by omega
  have a2 : g % 9223372036854775808 / 4503599627370496 = g / 4503599627370496 % 2048 := by omega
  have a3 : l % 9223372036854775808 % 4503599627370496 = l % 4503599627370496 := by omega
  have a4 : g % 9223372036854775808 % 4503599627370496 = g % 4503599627370496 := by omega
  unfold rawM rawE
  rw [← a1, ← a2, ← a3, ← a4]
  generalize l % 9223372036854775808 = u at *
  generalize g % 9223372036854775808 = v at *
  clear a1 a2 a3 a4
  refine ⟨?_, ?_, ?_⟩
  · split <;> split <;> omega
  · split <;> split <;> omega
  · split
    · exact .inl rfl
    · exact .inr (by omega)

/-- the ends of the program's own sum -/
structure SumEnd (R : Nat) (s t : Bool) (X n : Nat) (E : Int) (lost : Bool) : Prop where
  same : s = t → R = signN s (roundN (X + n) E (lost && decide (72057594037927936 ≤ X + n)))
  none : s ≠ t → lost = false → X = n → R = 0
  more : s ≠ t → lost = false → X ≠ n → n < X ∧ R = signN s (roundN (X - n) E false)
  less : s ≠ t → lost = true → n + 1 < X ∧ R = signN s (roundN (X - (n + 1)) E (true && decide (72057594037927936 ≤ X - (n + 1))))

theorem sgnM_times (b : Bool) (m k : Nat) : sgnM b (m * k) = sgnM b m * k := by
  unfold sgnM
  cases b
  · simp
  · simp [Int.neg_mul]

theorem sumZ_ten (s : Bool) (m : Nat) (e : Int) (t : Bool) (n : Nat) (f : Int) : sumZ s (m * 1024) (e - 10) t (n * 1024) (f - 10) = sumZ s m e t n f * 2 ^ 10 := by
  unfold sumZ
  rw [(by omega : (e - 10 - min (e - 10) (f - 10)).toNat = (e - min e f).toNat), (by omega : (f - 10 - min (e - 10) (f - 10)).toNat = (f - min e f).toNat), sgnM_times, sgnM_times, Int.add_mul]
  have e2 : (2 : Int) ^ 10 = ((1024 : Nat) : Int) := by decide
  rw [e2, Int.mul_right_comm, Int.mul_right_comm (sgnM t n)]

theorem sumEnd_fin {g l : Nat} (kg : kindN g = 4) (kl : kindN l = 4) (hs : l % 9223372036854775808 ≤ g % 9223372036854775808) {D : Nat} (hD : rawE g - rawE l = D) :
    SumEnd (addN g l) (belowN g) (belowN l) (rawM g * 1024) (rawM l * 1024 / 2 ^ D) (rawE g - 10) (decide (rawM l * 1024 % 2 ^ D ≠ 0)) := by
  obtain ⟨o1, o2, o3⟩ := raw_order hs
  have mg := rawM_lt g
  have ml := rawM_lt l
  have gl := rawE_ge l
  have pg : rawM g ≠ 0 := by rw [(raw_fin kg).1]; exact mantN_pos kg
  have e1 : addN g l = roundZ (sumZ (belowN g) (rawM g * 1024) (rawE g - 10) (belowN l) (rawM l * 1024) (rawE l - 10)) (rawE g - 10 - D) := by
    have : addN g l = roundZ (sumZ (belowN g) (mantN g) (expN g) (belowN l) (mantN l) (expN l)) (min (expN g) (expN l)) := by unfold addN; simp [kg, kl]
    rw [this, sumZ_ten, (by omega : rawE g - 10 - D = rawE l - ((10 : Nat) : Int)), roundZ_scale, (raw_fin kg).1, (raw_fin kg).2, (raw_fin kl).1, (raw_fin kl).2]
    rw [(raw_fin kg).2, (raw_fin kl).2] at o1
    rw [(by omega : min (expN g) (expN l) = expN l)]
  have hc := (sumZ_cut (b1 := belowN g) (b2 := belowN l) (pm := rawM g * 1024) (qm := rawM l * 1024) (j := 0) (d := D) (pe := rawE g - 10) (qe := rawE l - 10) (by omega)).2
  rw [hc, Nat.pow_zero, Nat.mul_one] at e1
  clear hc
  have hlow : rawM l * 1024 % 2 ^ D < 2 ^ D := Nat.mod_lt _ (Nat.two_pow_pos D)
  have hdiv : rawM l * 1024 / 2 ^ D * 2 ^ D ≤ rawM l * 1024 := Nat.div_mul_le_self _ _
  have hten : D ≤ 10 → rawM l * 1024 % 2 ^ D = 0 := fun h => by
    have h1 : 2 ^ D ∣ 2 ^ 10 := Nat.pow_dvd_pow 2 h
    exact Nat.mod_eq_zero_of_dvd (Nat.dvd_trans h1 (Nat.dvd_mul_left _ _))
  have hbig : rawM l * 1024 % 2 ^ D ≠ 0 → 4611686018427387904 ≤ rawM g * 1024 ∧ rawM l * 1024 / 2 ^ D ≤ 4503599627370496 := fun h => by
    have h11 : 11 ≤ D := by
      rcases Nat.lt_or_ge 10 D with h' | h'
      · exact h'
      · exact absurd (hten h') h
    refine ⟨by omega, ?_⟩
    have h2 : 2 ^ 11 ≤ 2 ^ D := Nat.pow_le_pow_right (by decide) h11
    have h3 : rawM l * 1024 / 2 ^ D ≤ rawM l * 1024 / 2 ^ 11 := Nat.div_le_div_left h2 (by decide)
    omega
  have hle : rawM l * 1024 / 2 ^ D ≤ rawM g * 1024 := by
    by_cases h0 : D = 0
    · subst h0
      rw [Nat.pow_zero, Nat.div_one]
      have := o2 (by omega)
      omega
    · have h1 : 2 ^ 1 ≤ 2 ^ D := Nat.pow_le_pow_right (by decide) (by omega)
      have h3 : rawM l * 1024 / 2 ^ D ≤ rawM l * 1024 / 2 ^ 1 := Nat.div_le_div_left h1 (by decide)
      omega
  generalize rawM l * 1024 % 2 ^ D = low at *
  generalize rawM l * 1024 / 2 ^ D = n at *
  obtain ⟨X, hX⟩ : ∃ X, rawM g * 1024 = X := ⟨_, rfl⟩
  rw [hX] at e1 hbig hle ⊢
  have hX0 : X ≠ 0 := by omega
  clear mg ml gl pg hX o1 o2 o3 hten hdiv
  generalize belowN g = s at *
  generalize belowN l = t at *
  refine ⟨?_, ?_, ?_, ?_⟩
  · intro e
    subst e
    rw [e1]
    exact round_same hlow hX0 (by omega)
  · intro hs' hz e
    have hst : t = !s := by cases s <;> cases t <;> simp at hs' ⊢
    have hz' : low = 0 := by simpa using hz
    subst hst hz' e
    rw [e1, Nat.add_zero]
    exact round_none _ _ _
  · intro hs' hz hne
    have hst : t = !s := by cases s <;> cases t <;> simp at hs' ⊢
    have hz' : low = 0 := by simpa using hz
    subst hst hz'
    rw [e1, Nat.add_zero]
    exact ⟨by omega, round_more (by omega)⟩
  · intro hs' hz
    have hst : t = !s := by cases s <;> cases t <;> simp at hs' ⊢
    have hz' : low ≠ 0 := by simpa using hz
    have hb := hbig hz'
    subst hst
    rw [e1, round_lost hlow hz' (by omega) (by omega), Nat.sub_sub]
    exact ⟨by omega, rfl⟩

theorem sumEnd_of {g l : Nat} (hg : g < 18446744073709551616) (kg : kindN g = 3 ∨ kindN g = 4) (kl : kindN l = 3 ∨ kindN l = 4) (hs : l % 9223372036854775808 ≤ g % 9223372036854775808) :
    ∃ D : Nat, rawE g - rawE l = D ∧ SumEnd (addN g l) (belowN g) (belowN l) (rawM g * 1024) (rawM l * 1024 / 2 ^ D) (rawE g - 10) (decide (rawM l * 1024 % 2 ^ D ≠ 0)) := by
  have ho := (raw_order hs).1
  refine ⟨(rawE g - rawE l).toNat, by omega, ?_⟩
  have hD : rawE g - rawE l = ((rawE g - rawE l).toNat : Nat) := by omega
  generalize (rawE g - rawE l).toNat = D at *
  rcases kl with kl | kl
  · rw [(raw_zero kl).1, Nat.zero_mul, Nat.zero_div, Nat.zero_mod]
    rcases kg with kg | kg
    · have hR : addN g l = if belowN g = true ∧ belowN l = true then g else 0 := by unfold addN; simp [kg, kl]
      have hz := zero_bits hg kg
      rw [(raw_zero kg).1, Nat.zero_mul]
      refine ⟨?_, ?_, ?_, ?_⟩
      · intro e
        rw [roundN_nil, hR, ← e]
        cases hb : belowN g
        · simp [signN]
        · rw [hb] at hz; simpa using hz
      · intro e _ _
        rw [hR, if_neg]
        rintro ⟨h1, h2⟩
        exact e (h1.trans h2.symm)
      · intro _ _ h; exact absurd rfl h
      · intro _ h; simp at h
    · have hR : addN g l = g := by unfold addN; simp [kg, kl]
      have hp : signN (belowN g) (roundN (rawM g * 1024) (rawE g - 10) false) = g := by
        have h := round_parts false kg hg
        have h2 : roundN (mantN g * 1024) (expN g - 10) false = roundN (mantN g) (expN g) false := roundN_times 10 (mantN g) (expN g) false
        rw [(raw_fin kg).1, (raw_fin kg).2, h2]
        exact h
      have pg : rawM g ≠ 0 := by rw [(raw_fin kg).1]; exact mantN_pos kg
      rw [hR]
      refine ⟨?_, ?_, ?_, ?_⟩
      · intro _; rw [Nat.add_zero, (by decide : decide ((0 : Nat) ≠ 0) = false), Bool.false_and]; exact hp.symm
      · intro _ _ h; omega
      · intro _ _ _; exact ⟨by omega, by rw [Nat.sub_zero]; exact hp.symm⟩
      · intro _ h; simp at h
  · have kg4 : kindN g = 4 := by
      rcases kg with kg | kg
      · exfalso
        have hz := (raw_zero kg)
        have hm : rawM l ≠ 0 := by rw [(raw_fin kl).1]; exact mantN_pos kl
        obtain ⟨o1, o2, o3⟩ := raw_order hs
        have := rawE_ge l
        have := o2 (by omega)
        omega
      · exact kg
    exact sumEnd_fin kg4 kl hs hD

end Go.Proofs.YtlikjbklagolmaaDoor
