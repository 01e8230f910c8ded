/-
  The figures of limbs, place by place; over no program.
-/
import Derived.Test.YtfocaoliadbhcaaDoorGreatB
namespace Go.Proofs.YtfocaoliadbhcaaDoor

/-- the figure at a place (the lowest is place 0) -/
def figAt (N q : Nat) : Nat := 48 + N / 10 ^ q % 10
theorem figAt_le (N q : Nat) : 48 ≤ figAt N q ∧ figAt N q ≤ 57 := by unfold figAt; omega

/-- the n lowest figures, the highest first -/
def padD (N : Nat) : Nat → List UInt8
  | 0 => []
  | n + 1 => padD (N / 10) n ++ [UInt8.ofNat (48 + N % 10)]
theorem padD_length (N n : Nat) : (padD N n).length = n := by
  induction n generalizing N with
  | zero => rfl
  | succ n ih => rw [padD, List.length_append, ih]; rfl
theorem u8_fig {d : Nat} (h : d < 10) : (UInt8.ofNat (48 + d)).toNat = 48 + d := by
  rw [UInt8.toNat_ofNat']; omega
theorem padD_figs (N n : Nat) : Figs (padD N n) := by
  induction n generalizing N with
  | zero => exact figs_nil
  | succ n ih =>
    rw [padD]
    exact figs_snoc (ih _) (by rw [u8_fig (by omega)]; omega)
theorem padD_digV (N n : Nat) (h : N < 10 ^ n) : digV (padD N n) = N := by
  induction n generalizing N with
  | zero =>
    have : N = 0 := by simpa using h
    rw [this]; rfl
  | succ n ih =>
    rw [Nat.pow_succ] at h
    rw [padD, digV_snoc, ih (N / 10) (by omega), u8_fig (by omega)]
    omega
theorem padD_at (N n p : Nat) (hp : p < n) : (padD N n)[p]? = some (UInt8.ofNat (figAt N (n - 1 - p))) := by
  induction n generalizing N with
  | zero => omega
  | succ n ih =>
    rw [padD]
    by_cases h : p < n
    · rw [List.getElem?_append_left (by rw [padD_length]; exact h), ih (N / 10) h]
      unfold figAt
      rw [(by omega : n + 1 - 1 - p = (n - 1 - p) + 1), Nat.pow_succ, Nat.mul_comm, Nat.div_div_eq_div_mul]
    · have hpn : p = n := by omega
      subst hpn
      rw [List.getElem?_append_right (by rw [padD_length]; omega), padD_length]
      unfold figAt
      simp

/-- the figure of a limb -/
theorem limb_fig {xs : List Nat} (h : LimbsOk xs) {i k : Nat} (hi : i < xs.length) (hk : k < 9) : limbV xs / 10 ^ (9 * i + k) % 10 = xs.getD i 0 / 10 ^ k % 10 := by
  induction xs generalizing i with
  | nil => simp at hi
  | cons a l ih =>
    have ha := h a (by simp)
    have hl : LimbsOk l := fun x hx => h x (by simp [hx])
    cases i with
    | zero =>
      rw [List.getD_cons_zero, limbV, Nat.mul_zero, Nat.zero_add]
      obtain ⟨d, hd⟩ : ∃ d, 9 = k + (d + 1) := ⟨8 - k, by omega⟩
      have e9 : (1000000000 : Nat) = 10 ^ k * (10 ^ d * 10) := by
        rw [← Nat.pow_succ, ← Nat.pow_add]
        have : k + d.succ = 9 := by omega
        rw [this]
      rw [e9, Nat.mul_assoc, Nat.add_mul_div_left _ _ (Nat.pow_pos (by decide)), Nat.mul_right_comm, Nat.add_mul_mod_self_right]
    | succ j =>
      rw [List.getD_cons_succ, limbV, ← ih hl (by simpa using hi), (by omega : 9 * (j + 1) + k = 9 + (9 * j + k)), Nat.pow_add, ← Nat.div_div_eq_div_mul]
      have e9 : (10 : Nat) ^ 9 = 1000000000 := by decide
      rw [e9, (by omega : (a + 1000000000 * limbV l) / 1000000000 = limbV l)]

/-- bytes filled up to a place, from behind -/
structure FillAt (N n m : Nat) (zs : List Nat) : Prop where
  len : zs.length = n
  at_ : ∀ q, q < m → zs[n - 1 - q]? = some (figAt N q)
theorem fill_start (N n : Nat) : FillAt N n 0 (List.replicate n 0) := ⟨by simp, fun q hq => by omega⟩
theorem fill_step {N n m : Nat} {zs : List Nat} (h : FillAt N n m zs) (hm : m < n) : FillAt N n (m + 1) (zs.set (n - 1 - m) (figAt N m)) := by
  refine ⟨by rw [List.length_set]; exact h.len, fun q hq => ?_⟩
  by_cases hqm : q = m
  · subst hqm
    rw [List.getElem?_set_self (by rw [h.len]; omega)]
  · rw [List.getElem?_set_ne (by omega)]
    exact h.at_ q (by omega)
theorem fill_end {N n : Nat} {zs : List Nat} (h : FillAt N n n zs) : zs.map UInt8.ofNat = padD N n := by
  apply List.ext_getElem?
  intro p
  by_cases hp : p < n
  · have := h.at_ (n - 1 - p) (by omega)
    rw [(by omega : n - 1 - (n - 1 - p) = p)] at this
    rw [List.getElem?_map, this, padD_at N n p hp]
    rfl
  · rw [List.getElem?_eq_none (by rw [List.length_map, h.len]; omega), List.getElem?_eq_none (by rw [padD_length]; omega)]

end Go.Proofs.YtfocaoliadbhcaaDoor
