/-
  The exact figures of a finite number are nearest to it, with a nought more too, and what is more is nearest to no less; over no program.
-/
import Derived.Test.YtfbdhafbpcpjlaaShortA
import Derived.Test.YtfbdhafbpcpjlaaNumA
import Derived.Test.YtfbdhafbpcpjlaaBitsA
namespace Go.Proofs.Ytfbdhafbpcpjlaa

theorem near_deep : (9007199254740992 : Nat) * 10 ^ 501 ≤ 2 ^ upK := by
  rw [upK_eq]
  decide +kernel
theorem near_deep' {T : Nat} (hT : 10 ^ 501 = T) : 9007199254740992 * T ≤ 2 ^ upK := by rw [← hT]; exact near_deep
theorem quo_big {C : Nat} {e : Int} (hC : C ≠ 0) (h : -501 ≤ e) : 9007199254740992 ≤ C * 10 ^ (e + noughts).toNat * 2 ^ upK / 10 ^ noughts := by
  obtain ⟨i, hi⟩ : ∃ i, (e + noughts).toNat = i := ⟨_, rfl⟩
  obtain ⟨c, hc⟩ : ∃ c : Nat, c = 501 := ⟨_, rfl⟩
  have hn : noughts ≤ i + c := by rw [noughts_eq] at *; omega
  obtain ⟨T, hT⟩ : ∃ T, 10 ^ 501 = T := ⟨_, rfl⟩
  have hd := near_deep' hT
  rw [hi]
  have h1 : 10 ^ noughts ≤ 10 ^ i * T := by
    rw [← hT, ← hc, ← Nat.pow_add]
    exact Nat.pow_le_pow_right (by decide) hn
  rw [Nat.le_div_iff_mul_le (Nat.pow_pos (by decide))]
  generalize 10 ^ noughts = N at *
  generalize 2 ^ upK = W at *
  generalize 10 ^ i = P at *
  have h2 : P * (9007199254740992 * T) ≤ P * W := Nat.mul_le_mul_left _ hd
  have h3 : 1 * (P * W) ≤ C * (P * W) := Nat.mul_le_mul_right _ (by omega)
  have h4 : 9007199254740992 * N ≤ 9007199254740992 * (P * T) := Nat.mul_le_mul_left _ h1
  have e1 : P * (9007199254740992 * T) = 9007199254740992 * (P * T) := Nat.mul_left_comm _ _ _
  have e2 : C * P * W = C * (P * W) := Nat.mul_assoc _ _ _
  omega

theorem quoG_le (a b : Nat) : quoG a b ≤ 9218868437227405312 := roundN_le _ _ _

theorem step_pos (x : Nat) : 0 < stepN x := by
  unfold stepN
  exact Nat.mul_pos (Nat.pow_pos (by decide)) (Nat.pow_pos (by decide))

theorem near_more {F : Nat} {t t' : List UInt8} {e : Int} (ht : figsOk t = true) (ht' : figsOk t' = true) (hl : t.length ≤ 60) (hl' : t'.length ≤ 60) (hF : F ≠ 0) (hv : digV t = F) (hv' : digV t' = F + 1) (e1 : -500 ≤ e) (e2 : e ≤ 500) :
    nearN t e ≤ nearN t' e ∧ nearN t' e ≤ 9218868437227405312 := by
  have z1 : zeroB t = false := by rw [zeroB_val (figsOk_figs ht)]; exact decide_eq_false (by omega)
  have z2 : zeroB t' = false := by rw [zeroB_val (figsOk_figs ht')]; exact decide_eq_false (by omega)
  unfold nearN
  rw [if_pos ⟨ht, hl, e1, e2, z1⟩, if_pos ⟨ht', hl', e1, e2, z2⟩, near_uniform (by rw [noughts_eq]; omega), near_uniform (by rw [noughts_eq]; omega), hv, hv']
  have hb : 10 ^ noughts ≠ 0 := by have := Nat.pow_pos (n := noughts) (by decide : 0 < 10); omega
  exact ⟨quoG_mono hb hb (Nat.mul_le_mul_right _ (Nat.mul_le_mul_right _ (by omega))) (quo_big hF (by omega)) (quo_big (by omega) (by omega)), quoG_le _ _⟩

theorem near_exact {x : Nat} {l : List UInt8} (kx : kindN x = 4) (hx : x < 9223372036854775808) (hl : l = Lib.decDigits (exactF (mantN x) (expN x))) (h58 : l.length ≤ 58) (hX : -490 ≤ exactX (mantN x) (expN x)) :
    nearN l (exactX (mantN x) (expN x)) = x ∧ nearN (l ++ [48]) (exactX (mantN x) (expN x) - 1) = x ∧ figsOk l = true ∧ figsOk (l ++ [48]) = true ∧ digV (l ++ [48]) = 10 * digV l ∧ digV l ≠ 0 ∧ exactX (mantN x) (expN x) ≤ 400 := by
  obtain ⟨f1, f2, f3, f4⟩ := exact_bounds (mantN_pos kx) (mantN_lt x) (expN_ge x) (expN_le x)
  have hd := digV_dec (exactF (mantN x) (expN x))
  rw [← hl] at hd
  have hok : figsOk l = true := by rw [hl]; exact figs_of_dec (by rw [← hl]; omega)
  have h0 : digV l ≠ 0 := by rw [hd.1]; intro h; rw [h] at f4; exact f4 rfl
  have hs := step_pos x
  have hnear : nearN l (exactX (mantN x) (expN x)) = x := by
    refine cand_back (r := 0) kx hx hok hd.1 (by rw [← hd.1]; exact h0) (by omega) (by omega) (by omega) (by omega) ?_ ?_ (fun _ => ?_)
    · rw [Nat.pow_zero, Nat.mul_one]; omega
    · rw [Nat.pow_zero, Nat.mul_one]; omega
    · rw [Nat.pow_zero, Nat.mul_one]; omega
  have hv : digV (l ++ [48]) = 10 * digV l := by rw [digV_snoc]; rfl
  have hok2 : figsOk (l ++ [48]) = true := by
    have e : l ++ [48] = Lib.decDigits (10 * digV l + 0) := by
      rw [dec_more h0 (by omega), hd.1, ← hl]
      rfl
    rw [e]
    exact figs_of_dec (by rw [← e, List.length_append, List.length_singleton]; omega)
  refine ⟨hnear, ?_, hok, hok2, hv, h0, f2⟩
  rw [near_tens hok2 hok (by rw [List.length_append, List.length_singleton]; omega) (by omega) hv h0 (by omega) (by omega)]
  rw [(by omega : exactX (mantN x) (expN x) - 1 + 1 = exactX (mantN x) (expN x))]
  exact hnear

/-- of two sizes the greater one is not less -/
theorem not_less {x y : Nat} (h : x ≤ y) (hy : y ≤ 9218868437227405312) : lessN y x = false := by
  unfold lessN
  refine decide_eq_false ?_
  rintro ⟨_, _, h3⟩
  unfold keyN at h3
  rw [if_neg (by omega), if_neg (by omega)] at h3
  omega

end Go.Proofs.Ytfbdhafbpcpjlaa
