/-
  What is lost of a sum of two numbers is a number, the difference of the sum's parts; over no program.
-/
import Derived.Test.YtlikjbklagolmaaDoorNearB
import Derived.Test.YtlikjbklagolmaaDoorAddA
namespace Go.Proofs.YtlikjbklagolmaaDoor

theorem fine_zero {x : Nat} (h : Fine x) (hk : kindN x = 3) : valN x = 0 := valN_zero hk h.lt
theorem fine_ne {x : Nat} (h : Fine x) (hk : kindN x = 4) : valN x ≠ 0 := by
  rw [valN_parts hk h.lt]
  have hm := mantN_pos hk
  refine Int.mul_ne_zero ?_ (Int.ne_of_gt (Int.pow_pos (by decide)))
  unfold sgnM
  split <;> omega
theorem fine_nil : Fine 0 := ⟨by decide, .inl (by decide)⟩
theorem roundV_nil : roundV 0 = 0 := rfl
theorem val_nil : valN 0 = 0 := by decide

theorem neg_fine {x : Nat} (h : Fine x) : Fine (negN x) ∧ valN (negN x) = -valN x ∧ kindN (negN x) = kindN x := by
  have hlt := h.lt
  have h1 : kindN x ≠ 1 := by rcases h.kind with e | e <;> omega
  have hk : kindN (negN x) = kindN x := by
    have e1 : expBits (negN x) = expBits x ∧ fracBits (negN x) = fracBits x := by
      unfold negN expBits fracBits
      rw [if_neg h1]
      split <;> omega
    unfold kindN
    rw [e1.1, e1.2]
  refine ⟨⟨negN_lt hlt, by rw [hk]; exact h.kind⟩, ?_, hk⟩
  unfold negN valN
  rw [if_neg h1]
  by_cases h2 : 9223372036854775808 ≤ x
  · rw [if_pos h2, if_pos h2, if_neg (by omega)]; omega
  · rw [if_neg h2, if_neg h2, if_pos (by omega), Nat.add_sub_cancel]

theorem add_just {a b : Nat} (ha : Fine a) (hb : Fine b) (hr : Rep (valN a + valN b)) (hbd : Small (valN a + valN b).natAbs) : Fine (addN a b) ∧ valN (addN a b) = valN a + valN b := by
  rcases ha.kind with k1 | k1
  · have v1 := fine_zero ha k1
    rcases hb.kind with k2 | k2
    · have v2 := fine_zero hb k2
      have e : addN a b = a ∨ addN a b = 0 := by
        unfold addN
        simp only [k1, k2]
        by_cases hs : belowN a = true ∧ belowN b = true
        · left; simp [hs]
        · right; simp [hs]
      rw [v1, v2]
      rcases e with e | e
      · rw [e, v1]; exact ⟨ha, rfl⟩
      · rw [e]; exact ⟨fine_nil, val_nil⟩
    · have e : addN a b = b := by unfold addN; simp [k1, k2]
      rw [e, v1, Int.zero_add]; exact ⟨hb, rfl⟩
  · rcases hb.kind with k2 | k2
    · have v2 := fine_zero hb k2
      have e : addN a b = a := by unfold addN; simp [k1, k2]
      rw [e, v2, Int.add_zero]; exact ⟨ha, rfl⟩
    · rw [addN_val ha.lt hb.lt k1 k2]
      by_cases h0 : valN a + valN b = 0
      · rw [h0, roundV_nil]; exact ⟨fine_nil, val_nil⟩
      · have := rep_just h0 hbd hr
        exact ⟨this.1, this.2.2⟩

theorem natAbs_mul_pow (n : Int) (j : Nat) : (n * 2 ^ j).natAbs = n.natAbs * 2 ^ j := by
  rw [Int.natAbs_mul, Int.natAbs_pow]; rfl

/-- a whole number of 53 bits, and not too many places behind it -/
def RepB (S : Int) : Prop := ∃ (n : Int) (j : Nat), S = n * 2 ^ j ∧ n.natAbs ≤ 9007199254740992 ∧ j ≤ 2000
theorem RepB.rep {S : Int} (h : RepB S) : Rep S := by obtain ⟨n, j, h1, h2, _⟩ := h; exact ⟨n, j, h1, h2⟩
theorem RepB.lt {S : Int} (h : RepB S) : Small S.natAbs := by
  obtain ⟨n, j, h1, h2, h3⟩ := h
  refine ⟨54 + j, by omega, ?_⟩
  rw [h1, natAbs_mul_pow]
  have p2 : n.natAbs * 2 ^ j ≤ 2 ^ 53 * 2 ^ j := Nat.mul_le_mul_right _ h2
  rw [← Nat.pow_add] at p2
  exact Nat.lt_of_le_of_lt p2 (Nat.pow_lt_pow_right (by decide) (by omega))
theorem repB_neg {S : Int} (h : RepB S) : RepB (-S) := by
  obtain ⟨n, j, h1, h2, h3⟩ := h
  exact ⟨-n, j, by rw [h1, Int.neg_mul], by rw [Int.natAbs_neg]; exact h2, h3⟩
theorem repB_zero : RepB 0 := ⟨0, 0, by simp, by simp, by omega⟩

/-- α 2^x + β 2^y to the nearest number: the two differences are numbers -/
theorem near_rep {α β S : Int} {x y k : Nat} {r : Int} (hα : α.natAbs < 9007199254740992) (hβ : β.natAbs < 9007199254740992) (hy : y ≤ x) (hd : x ≤ y + 52) (hx : x ≤ 1974)
    (hS : S = r * 2 ^ k) (hk : k = 0 ∨ 2 ^ (52 + k) ≤ (α * 2 ^ x + β * 2 ^ y).natAbs) (hn : 2 * (S - (α * 2 ^ x + β * 2 ^ y)).natAbs ≤ 2 ^ k)
    (hj : (α * 2 ^ x + β * 2 ^ y).natAbs % 2 ^ k = 0 → S = α * 2 ^ x + β * 2 ^ y) : RepB (S - α * 2 ^ x) ∧ RepB (α * 2 ^ x + β * 2 ^ y - S) := by
  obtain ⟨d, rfl⟩ : ∃ d, x = y + d := ⟨x - y, by omega⟩
  have hN : α * 2 ^ (y + d) + β * 2 ^ y = (α * 2 ^ d + β) * 2 ^ y := by rw [Int.pow_add, Int.add_mul, Int.mul_assoc, Int.mul_comm (2 ^ d) (2 ^ y)]
  by_cases hky : k ≤ y
  · have hE : S = α * 2 ^ (y + d) + β * 2 ^ y := by
      apply hj
      rw [hN, natAbs_mul_pow, (by omega : y = k + (y - k)), Nat.pow_add, ← Nat.mul_assoc, Nat.mul_right_comm]
      exact Nat.mul_mod_left _ _
    rw [hE]
    refine ⟨⟨β, y, by omega, by omega, by omega⟩, ?_⟩
    rw [Int.sub_self]; exact repB_zero
  · obtain ⟨g, rfl⟩ : ∃ g, k = y + g + 1 := ⟨k - y - 1, by omega⟩
    have hp := Nat.two_pow_pos y
    have hgd : g ≤ d := by
      rcases hk with h | h
      · omega
      · rw [hN, natAbs_mul_pow, (by omega : 52 + (y + g + 1) = 53 + g + y), Nat.pow_add] at h
        have h1 : 2 ^ (53 + g) ≤ (α * 2 ^ d + β).natAbs := Nat.le_of_mul_le_mul_right h hp
        have h2 : (α * 2 ^ d + β).natAbs ≤ α.natAbs * 2 ^ d + β.natAbs := by
          have := Int.natAbs_add_le (α * 2 ^ d) β
          rw [natAbs_mul_pow] at this; exact this
        have h3 : α.natAbs * 2 ^ d ≤ 9007199254740991 * 2 ^ d := Nat.mul_le_mul_right _ (by omega)
        have hpd := Nat.two_pow_pos d
        have h4 : 2 ^ (53 + g) < 2 ^ (54 + d) := by
          rw [(by omega : 54 + d = 53 + (1 + d)), Nat.pow_add 2 53 (1 + d), Nat.pow_add 2 1 d]
          omega
        have := (Nat.pow_lt_pow_iff_right (by decide : 1 < 2)).1 h4
        omega
    have hNS : RepB (α * 2 ^ (y + d) + β * 2 ^ y - S) := by
      refine ⟨α * 2 ^ d + β - r * 2 ^ (g + 1), y, ?_, ?_, by omega⟩
      · rw [hN, hS, Int.sub_mul, Int.mul_assoc r, ← Int.pow_add, (by omega : g + 1 + y = y + g + 1)]
      · have e : α * 2 ^ (y + d) + β * 2 ^ y - S = (α * 2 ^ d + β - r * 2 ^ (g + 1)) * 2 ^ y := by rw [hN, hS, Int.sub_mul, Int.mul_assoc r, ← Int.pow_add, (by omega : g + 1 + y = y + g + 1)]
        have e2 : (S - (α * 2 ^ (y + d) + β * 2 ^ y)).natAbs = (α * 2 ^ d + β - r * 2 ^ (g + 1)).natAbs * 2 ^ y := by
          rw [← natAbs_mul_pow, ← e, ← Int.natAbs_neg]
          congr 1
          omega
        rw [e2, (by omega : y + g + 1 = g + 1 + y), Nat.pow_add, ← Nat.mul_assoc] at hn
        have h1 := Nat.le_of_mul_le_mul_right hn hp
        have h2 : 2 ^ (g + 1) ≤ 2 ^ 53 := Nat.pow_le_pow_right (by decide) (by omega)
        omega
    refine ⟨?_, hNS⟩
    have htri : (S - α * 2 ^ (y + d)).natAbs ≤ β.natAbs * 2 ^ y + (S - (α * 2 ^ (y + d) + β * 2 ^ y)).natAbs := by
      have h := Int.natAbs_add_le (β * 2 ^ y) (S - (α * 2 ^ (y + d) + β * 2 ^ y))
      rw [natAbs_mul_pow] at h
      have e : β * 2 ^ y + (S - (α * 2 ^ (y + d) + β * 2 ^ y)) = S - α * 2 ^ (y + d) := by omega
      rw [e] at h; exact h
    by_cases hge : g + 1 ≤ d
    · refine ⟨r - α * 2 ^ (d - g - 1), y + g + 1, ?_, ?_, by omega⟩
      · rw [hS, Int.sub_mul, Int.mul_assoc α, ← Int.pow_add, (by omega : d - g - 1 + (y + g + 1) = y + d)]
      · have e : S - α * 2 ^ (y + d) = (r - α * 2 ^ (d - g - 1)) * 2 ^ (y + g + 1) := by rw [hS, Int.sub_mul, Int.mul_assoc α, ← Int.pow_add, (by omega : d - g - 1 + (y + g + 1) = y + d)]
        rw [e, natAbs_mul_pow] at htri
        have h1 : β.natAbs * 2 ^ y * 2 ≤ 9007199254740991 * 2 ^ (y + g + 1) := by
          have : β.natAbs * 2 ^ y * 2 = β.natAbs * 2 ^ (y + 1) := by rw [Nat.pow_succ, Nat.mul_assoc]
          rw [this]
          exact Nat.mul_le_mul (by omega) (Nat.pow_le_pow_right (by decide) (by omega))
        have hp2 := Nat.two_pow_pos (y + g + 1)
        have h2 : (r - α * 2 ^ (d - g - 1)).natAbs * 2 ^ (y + g + 1) ≤ 9007199254740992 * 2 ^ (y + g + 1) := by omega
        exact Nat.le_of_mul_le_mul_right h2 hp2
    · have hgd2 : g = d := by omega
      subst hgd2
      refine ⟨r * 2 - α, y + g, ?_, ?_, by omega⟩
      · rw [hS, Int.sub_mul, Int.pow_succ, Int.mul_assoc r 2, Int.mul_comm 2]
      · have e : S - α * 2 ^ (y + g) = (r * 2 - α) * 2 ^ (y + g) := by rw [hS, Int.sub_mul, Int.pow_succ, Int.mul_assoc r 2, Int.mul_comm 2]
        rw [e, natAbs_mul_pow] at htri
        rw [Nat.pow_succ] at hn
        have h1 : β.natAbs * 2 ^ y ≤ 9007199254740991 * 2 ^ (y + g) := Nat.mul_le_mul (by omega) (Nat.pow_le_pow_right (by decide) (by omega))
        have hp2 := Nat.two_pow_pos (y + g)
        have h2 : (r * 2 - α).natAbs * 2 ^ (y + g) ≤ 9007199254740992 * 2 ^ (y + g) := by omega
        exact Nat.le_of_mul_le_mul_right h2 hp2

/-- both differences of a sum's parts are just, and what is lost is no more than half a step -/
theorem near_main {a b : Nat} (ha : a < 18446744073709551616) (hb : b < 18446744073709551616) (ka : kindN a = 4) (kb : kindN b = 4) (he : expN b ≤ expN a) (h9 : expN a ≤ 900) (hd : expN a - expN b ≤ 52) :
    Fine (addN a b) ∧ Fine (subN (addN a b) a) ∧ Fine (subN b (subN (addN a b) a)) ∧ valN (subN b (subN (addN a b) a)) = valN a + valN b - valN (addN a b) ∧
    (kindN (addN a b) = 4 → 2 * (valN a + valN b - valN (addN a b)).natAbs ≤ 2 ^ (expN (addN a b) + 1074).toNat) ∧ (valN a + valN b ≠ 0 → kindN (addN a b) = 4) := by
  have fa : Fine a := ⟨ha, .inr ka⟩
  have fb : Fine b := ⟨hb, .inr kb⟩
  have l1 := expN_ge a
  have l2 := expN_ge b
  have va := valN_parts ka ha
  have vb := valN_parts kb hb
  have m1 := mantN_lt a
  have m2 := mantN_lt b
  have hα : (sgnM (belowN a) (mantN a)).natAbs < 9007199254740992 := by unfold sgnM; split <;> omega
  have hβ : (sgnM (belowN b) (mantN b)).natAbs < 9007199254740992 := by unfold sgnM; split <;> omega
  obtain ⟨α, hα2⟩ : ∃ α, sgnM (belowN a) (mantN a) = α := ⟨_, rfl⟩
  obtain ⟨β, hβ2⟩ : ∃ β, sgnM (belowN b) (mantN b) = β := ⟨_, rfl⟩
  obtain ⟨x, hx⟩ : ∃ x, (expN a + 1074).toNat = x := ⟨_, rfl⟩
  obtain ⟨y, hy⟩ : ∃ y, (expN b + 1074).toNat = y := ⟨_, rfl⟩
  rw [hα2] at hα va
  rw [hβ2] at hβ vb
  rw [hx] at va
  rw [hy] at vb
  have hs := addN_val ha hb ka kb
  have key : Fine (addN a b) ∧ RepB (valN (addN a b) - valN a) ∧ RepB (valN a + valN b - valN (addN a b)) ∧ (kindN (addN a b) = 4 → 2 * (valN a + valN b - valN (addN a b)).natAbs ≤ 2 ^ (expN (addN a b) + 1074).toNat) ∧ (valN a + valN b ≠ 0 → kindN (addN a b) = 4) := by
    by_cases h0 : valN a + valN b = 0
    · rw [hs, h0, roundV_nil]
      refine ⟨fine_nil, ?_, ?_, ?_, fun h => absurd rfl h⟩
      · rw [val_nil, Int.zero_sub]
        exact repB_neg ⟨α, x, va, by omega, by omega⟩
      · rw [val_nil]; exact repB_zero
      · intro h; exact absurd h (by decide)
    · have hN : valN a + valN b = α * 2 ^ x + β * 2 ^ y := by rw [va, vb]
      have hbd : Small (valN a + valN b).natAbs := by
        refine ⟨55 + x, by omega, ?_⟩
        have t := Int.natAbs_add_le (α * 2 ^ x) (β * 2 ^ y)
        rw [natAbs_mul_pow, natAbs_mul_pow] at t
        rw [hN]
        have t1 : α.natAbs * 2 ^ x ≤ 2 ^ 53 * 2 ^ x := Nat.mul_le_mul_right _ (by omega)
        have t2 : β.natAbs * 2 ^ y ≤ 2 ^ 53 * 2 ^ x := Nat.mul_le_mul (by omega) (Nat.pow_le_pow_right (by decide) (by omega))
        have t3 : 2 ^ 53 * 2 ^ x + 2 ^ 53 * 2 ^ x = 2 ^ (54 + x) := by rw [Nat.pow_add 2 54 x]; omega
        have t4 : 2 ^ (54 + x) < 2 ^ (55 + x) := Nat.pow_lt_pow_right (by decide) (by omega)
        exact Nat.lt_of_le_of_lt (Nat.le_trans t (by omega)) (t3 ▸ t4)
      obtain ⟨k, r, a1, a2, a3, a4, a5, a6, a7, a8⟩ := roundV_near h0 hbd
      rw [← hs] at a3 a4 a5 a8
      rw [← a5] at a6 a7
      rw [hN] at a2 a6 a7
      have h := near_rep (S := valN (addN a b)) hα hβ (by omega : y ≤ x) (by omega) (by omega) a5 a2 a6 a7
      rw [← va, ← vb] at h
      refine ⟨a3, h.1, h.2, fun _ => ?_, fun _ => a4⟩
      have hk : 2 ^ k ≤ 2 ^ (expN (addN a b) + 1074).toNat := Nat.pow_le_pow_right (by decide) (by omega)
      rw [← va, ← vb] at a6
      have e : (valN a + valN b - valN (addN a b)).natAbs = (valN (addN a b) - (valN a + valN b)).natAbs := by rw [← Int.natAbs_neg]; congr 1; omega
      rw [e]
      exact Nat.le_trans a6 hk
  obtain ⟨fs, r1, r2, hlast⟩ := key
  have na := neg_fine fa
  have e1 : valN (addN a b) + valN (negN a) = valN (addN a b) - valN a := by rw [na.2.1]; omega
  have hz := add_just fs na.1 (by rw [e1]; exact r1.rep) (by rw [e1]; exact r1.lt)
  rw [e1] at hz
  have nz := neg_fine hz.1
  have e2 : valN b + valN (negN (addN (addN a b) (negN a))) = valN a + valN b - valN (addN a b) := by rw [nz.2.1, hz.2]; omega
  have hl := add_just fb nz.1 (by rw [e2]; exact r2.rep) (by rw [e2]; exact r2.lt)
  rw [e2] at hl
  exact ⟨fs, hz.1, hl.1, hl.2, hlast⟩

theorem equal_self {x : Nat} (h : Fine x) : equalN x x = true := by
  have : kindN x ≠ 1 := by rcases h.kind with e | e <;> omega
  simp [equalN, this]

/-- the sum and what is lost of it make the sum again -/
theorem near_again {a b s l : Nat} (ha : a < 18446744073709551616) (hb : b < 18446744073709551616) (ka : kindN a = 4) (kb : kindN b = 4) (hs : addN a b = s) (fs : Fine s) (fl : Fine l)
    (hl : valN l = valN a + valN b - valN s) (h4 : valN a + valN b ≠ 0 → kindN s = 4) : addN s l = s := by
  by_cases h0 : valN a + valN b = 0
  · have hs0 : s = 0 := by rw [← hs, addN_val ha hb ka kb, h0, roundV_nil]
    subst hs0
    rw [h0, val_nil] at hl
    rcases fl.kind with k2 | k2
    · have k0 : kindN 0 = 3 := by decide
      have b0 : belowN 0 = false := by decide
      unfold addN; simp [k0, k2, b0]
    · exact absurd hl (by simpa using fine_ne fl k2)
  · have k1 := h4 h0
    rcases fl.kind with k2 | k2
    · unfold addN; simp [k1, k2]
    · rw [addN_val fs.lt fl.lt k1 k2, hl]
      have e : valN s + (valN a + valN b - valN s) = valN a + valN b := by omega
      rw [e, ← addN_val ha hb ka kb, hs]

/-- the step of a number, and that what is lost is not more than it -/
theorem step_less {e : Int} {l : Nat} (he : -1074 ≤ e) (he2 : e ≤ 971) (hl : 2 * (valN l).natAbs ≤ 2 ^ (e + 1074).toNat) :
    lessN (signN false (roundN 1 e false)) l = false := by
  obtain ⟨j, hj⟩ : ∃ j, (e + 1074).toNat = j := ⟨_, rfl⟩
  rw [hj] at hl
  have e1 : signN false (roundN 1 e false) = roundV (2 ^ j) := by
    have hp : (0 : Int) < 2 ^ j := Int.pow_pos (by decide)
    unfold roundV
    rw [round_sgn (by omega), decide_eq_false (by omega), Int.natAbs_pow]
    have t := roundN_times j 1 e false
    rw [Nat.one_mul, (by omega : e - (j : Int) = -1074)] at t
    rw [← t]; rfl
  have hr : Rep (2 ^ j) := ⟨1, j, by simp, by decide⟩
  have hsm : Small ((2 : Int) ^ j).natAbs := ⟨j + 1, by omega, by rw [Int.natAbs_pow]; exact Nat.pow_lt_pow_right (by decide) (by omega)⟩
  have hp : (0 : Int) < 2 ^ j := Int.pow_pos (by decide)
  have h := rep_just (S := 2 ^ j) (by omega) hsm hr
  rw [e1]
  unfold lessN
  rw [decide_eq_false]
  rintro ⟨_, _, h3⟩
  rw [← valN_key, h.2.2] at h3
  have e2 : ((2 ^ j : Nat) : Int) = 2 ^ j := by simp
  omega

end Go.Proofs.YtlikjbklagolmaaDoor
