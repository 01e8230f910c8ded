/-
  The nearest number, found by halving one bit at a time: what holds from round to round, and what is left at the end; over no program.
-/
import Derived.Test.YtlikjbklagolmaaDoorBitsB
namespace Go.Proofs.YtlikjbklagolmaaDoor

/-- m times 2^e has been halved to M times 2^E; hf: the bit that went last; rs: whether any went before it, or st -/
def Halved (m : Nat) (e : Int) (st : Bool) (M : Nat) (E : Int) (hf rs : Bool) : Prop :=
  (∃ j : Nat, M = m / 2 ^ j ∧ E = e + j ∧ (j = 0 → hf = false ∧ rs = st) ∧ (∀ i, j = i + 1 → hf = decide (m / 2 ^ i % 2 = 1) ∧ rs = (st || decide (m % 2 ^ i ≠ 0)) ∧ (E ≤ -1074 ∨ 9007199254740992 ≤ m / 2 ^ i)))
  ∨ (M = 0 ∧ E = -1074 ∧ hf = false ∧ ∃ j : Nat, e + j < -1074 ∧ m < 2 ^ j)

theorem halved_start (m : Nat) (e : Int) (st : Bool) : Halved m e st m e false st :=
  .inl ⟨0, by simp, by simp, fun _ => ⟨rfl, rfl⟩, fun i h => by omega⟩

theorem halved_le {m : Nat} {e : Int} {st : Bool} {M : Nat} {E : Int} {hf rs : Bool} (h : Halved m e st M E hf rs) : M ≤ m := by
  rcases h with ⟨j, rfl, -⟩ | ⟨rfl, -⟩
  · exact Nat.div_le_self _ _
  · exact Nat.zero_le _

theorem halved_exp {m : Nat} {e : Int} {st : Bool} {M : Nat} {E : Int} {hf rs : Bool} (h : Halved m e st M E hf rs) (hm : m < 18446744073709551616) : E ≤ -1074 ∨ E ≤ e + 64 := by
  rcases h with ⟨j, -, rfl, -, hs⟩ | ⟨-, h, -⟩
  · cases j with
    | zero => right; omega
    | succ i =>
      rcases (hs i rfl).2.2 with h | h
      · exact .inl h
      · right
        rcases Nat.lt_or_ge i 63 with h' | h'
        · omega
        · have : (2 : Nat) ^ 63 ≤ 2 ^ i := Nat.pow_le_pow_right (by decide) h'
          have h2 : 9007199254740992 * 2 ^ i ≤ m := (Nat.le_div_iff_mul_le (Nat.two_pow_pos i)).1 h
          omega
  · exact .inl (by omega)

theorem rest_step (m i : Nat) (st : Bool) : ((st || decide (m % 2 ^ i ≠ 0)) || decide (m / 2 ^ i % 2 = 1)) = (st || decide (m % 2 ^ (i + 1) ≠ 0)) := by
  have hr : m % 2 ^ (i + 1) = m % 2 ^ i + 2 ^ i * (m / 2 ^ i % 2) := by rw [Nat.pow_succ, Nat.mod_mul]
  have hp := Nat.two_pow_pos i
  rw [hr]
  rcases Nat.mod_two_eq_zero_or_one (m / 2 ^ i) with hb | hb
  · rw [hb]; simp
  · rw [hb]
    simp

theorem halved_step {m : Nat} {e : Int} {st : Bool} {M : Nat} {E : Int} {hf rs : Bool} (h : Halved m e st M E hf rs) (hc : 9007199254740992 ≤ M ∨ E < -1074) :
    Halved m e st (M / 2) (E + 1) (decide (M % 2 = 1)) (rs || hf) := by
  rcases h with ⟨j, rfl, rfl, h0, hs⟩ | ⟨rfl, rfl, -⟩
  · refine .inl ⟨j + 1, ?_, ?_, fun h => by omega, fun i hi => ?_⟩
    · rw [Nat.pow_succ, Nat.div_div_eq_div_mul]
    · omega
    · obtain rfl : j = i := by omega
      refine ⟨rfl, ?_, ?_⟩
      · cases j with
        | zero => rw [(h0 rfl).1, (h0 rfl).2]; simp [Nat.mod_one]
        | succ i =>
          rw [(hs i rfl).1, (hs i rfl).2.1]
          exact rest_step m i st
      · rcases hc with hc | hc
        · exact .inr hc
        · exact .inl (by omega)
  · omega

theorem halved_zero {m : Nat} {e : Int} {st : Bool} {M : Nat} {E : Int} {hf rs r : Bool} (h : Halved m e st M E hf rs) (h2 : M / 2 = 0) (h3 : E + 1 < -1074) :
    Halved m e st 0 (-1074) false r := by
  rcases h with ⟨j, rfl, rfl, h0, hs⟩ | ⟨rfl, rfl, -⟩
  · refine .inr ⟨rfl, rfl, rfl, j + 1, by omega, ?_⟩
    rw [Nat.pow_succ]
    rw [Nat.div_div_eq_div_mul] at h2
    rcases Nat.div_eq_zero_iff.1 h2 with h | h
    · have := Nat.two_pow_pos j; omega
    · exact h
  · omega

theorem halved_end {m : Nat} {e : Int} {st : Bool} {M : Nat} {E : Int} {hf rs : Bool} (h : Halved m e st M E hf rs) (hm : m ≠ 0) (hn : e ≤ -1074 ∨ 4503599627370496 ≤ m) (h1 : M < 9007199254740992) (h2 : -1074 ≤ E) :
    roundN m e st = min (M + (if (hf && (rs || decide (M % 2 = 1))) = true then 1 else 0) + (E + 1074).toNat * 4503599627370496) 9218868437227405312 ∧ (E = -1074 ∨ 4503599627370496 ≤ M) := by
  rcases h with ⟨j, rfl, rfl, h0, hs⟩ | ⟨rfl, rfl, rfl, j, hj, hlt⟩
  · have hlt : m < 2 ^ (53 + j) := by
      rw [Nat.pow_add]
      exact (Nat.div_lt_iff_lt_mul (Nat.two_pow_pos j)).1 h1
    have hlow : e + j = -1074 ∨ 2 ^ (52 + j) ≤ m := by
      cases j with
      | zero => rcases hn with h | h; exact .inl (by simp at h2 ⊢; omega); exact .inr h
      | succ i =>
        rcases (hs i rfl).2.2 with h | h
        · exact .inl (by omega)
        · right
          have h3 : 9007199254740992 * 2 ^ i ≤ m := (Nat.le_div_iff_mul_le (Nat.two_pow_pos i)).1 h
          have : 2 ^ (52 + (i + 1)) = 9007199254740992 * 2 ^ i := by rw [show 52 + (i + 1) = 53 + i by omega, Nat.pow_add]
          omega
    constructor
    · rw [roundN_at (k := j) st hm h2 hlt hlow]
      congr 1
      congr 1
      cases j with
      | zero => rw [(h0 rfl).1]; simp [rne_zero]
      | succ i =>
        rw [rne_succ, (hs i rfl).1, (hs i rfl).2.1]
        congr 1
        simp
    · rcases hlow with h | h
      · exact .inl h
      · right
        rw [Nat.pow_add] at h
        exact (Nat.le_div_iff_mul_le (Nat.two_pow_pos j)).2 h
  · refine ⟨?_, .inl rfl⟩
    have hk : e + ((-1074 - e).toNat : Nat) = -1074 := by omega
    have hp : (2 : Nat) ^ (j + 1) ≤ 2 ^ (-1074 - e).toNat := Nat.pow_le_pow_right (by decide) (by omega)
    rw [Nat.pow_succ] at hp
    have hq : (2 : Nat) ^ (-1074 - e).toNat ≤ 2 ^ (53 + (-1074 - e).toNat) := Nat.pow_le_pow_right (by decide) (by omega)
    rw [roundN_at (k := (-1074 - e).toNat) st hm (by omega) (by omega) (.inl hk), rne_small st (by omega), hk]
    simp

/-- what is put together at the end -/
theorem round_put {M' : Nat} {E : Int} (h2 : -1074 ≤ E) (h3 : E = -1074 ∨ 4503599627370496 ≤ M') (h4 : M' ≤ 9007199254740992) :
    min (M' + (E + 1074).toNat * 4503599627370496) 9218868437227405312 =
      if M' = 9007199254740992 then (if 971 < E + 1 then 9218868437227405312 else (E + 1 + 1075).toNat * 4503599627370496)
      else if M' < 4503599627370496 then M' else if 971 < E then 9218868437227405312 else M' - 4503599627370496 + (E + 1075).toNat * 4503599627370496 := by
  obtain ⟨t, ht⟩ : ∃ t : Nat, E + 1074 = t := ⟨(E + 1074).toNat, by omega⟩
  have e1 : (E + 1074).toNat = t := by omega
  have e2 : (E + 1075).toNat = t + 1 := by omega
  have e3 : (E + 1 + 1075).toNat = t + 2 := by omega
  rw [e1, e2, e3]
  split
  · split <;> omega
  · split
    · have : t = 0 := by omega
      omega
    · split <;> omega

/-- the exponent may be taken as -5000 or 5000 where it is beyond these -/
theorem roundN_clamp {m : Nat} (e : Int) (st : Bool) (hm : m < 18446744073709551616) : roundN m (max (min e 5000) (-5000)) st = roundN m e st := by
  by_cases h0 : m = 0
  · subst h0; simp [roundN]
  by_cases h1 : 5000 < e
  · rw [roundN_huge st h0 (show 1100 ≤ e by omega), roundN_huge st h0 (by omega)]
  · by_cases h2 : e < -5000
    · rw [roundN_tiny st hm (show e ≤ -1139 by omega), roundN_tiny st hm (by omega)]
    · congr 1; omega

end Go.Proofs.YtlikjbklagolmaaDoor
