/-
  Limbs that are added to in place, times a limb, the quotient going on; over no program.
-/
import Derived.Test.YtfocaoliadbhcaaDoorGreatB
namespace Go.Proofs.YtfocaoliadbhcaaDoor
set_option linter.unusedVariables false

/-- the limbs zs0 from a place on, the limbs of another number added so many times up to i: what stands there, and the quotient that goes on -/
structure CarAt (zs0 zs os : List Nat) (off i : Nat) (t q : Int) : Prop where
  ok : LimbsOk zs
  len : zs.length = zs0.length
  eq : (limbV zs : Int) + (10 ^ (9 * (off + i)) : Nat) * q = limbV zs0 + (10 ^ (9 * off) : Nat) * (t * limbV (os.take i))

theorem carAt_start {zs0 os : List Nat} {off : Nat} {t : Int} (h : LimbsOk zs0) : CarAt zs0 zs0 os off 0 t 0 := ⟨h, rfl, by simp [limbV]⟩

theorem car_ring {A A' P y r q q' Z O V I x t : Int} (h1 : A' + P * y = A + P * r) (h2 : A + P * q = Z + O * (t * V)) (h3 : r + 1000000000 * q' = y + x * t + q) (h4 : O * I = P) :
    A' + 1000000000 * P * q' = Z + O * (t * (V + I * x)) := by
  subst h4
  grind

theorem carAt_step {zs0 zs os : List Nat} {off i r : Nat} {t q q' : Int} (h : CarAt zs0 zs os off i t q) (hk : off + i < zs.length) (hr : r < 1000000000)
    (e : (r : Int) + 1000000000 * q' = (zs.getD (off + i) 0 : Nat) + (os.getD i 0 : Nat) * t + q) : CarAt zs0 (zs.set (off + i) r) os off (i + 1) t q' := by
  obtain ⟨h1, h2, h3⟩ := h
  refine ⟨limbsOk_set h1 hr, by rw [List.length_set]; exact h2, ?_⟩
  have h4 := limbV_set (y := r) hk
  rw [limbV_take, ← Nat.add_assoc, nine_pow]
  have h5 : 10 ^ (9 * off) * 10 ^ (9 * i) = 10 ^ (9 * (off + i)) := by rw [← Nat.pow_add]; congr 1; omega
  generalize 10 ^ (9 * (off + i)) = P at *
  generalize 10 ^ (9 * off) = O at *
  generalize 10 ^ (9 * i) = I at *
  generalize limbV (zs.set (off + i) r) = A' at *
  generalize limbV zs = A at *
  generalize limbV zs0 = Z at *
  generalize limbV (os.take i) = V at *
  generalize zs.getD (off + i) 0 = y at *
  generalize os.getD i 0 = x at *
  have g1 : (A' : Int) + P * y = A + P * r := by exact_mod_cast h4
  have g2 : (O : Int) * I = P := by exact_mod_cast h5
  have := car_ring g1 h3 e g2
  have c1 : ((1000000000 * P : Nat) : Int) = 1000000000 * (P : Int) := by omega
  have c2 : ((V + I * x : Nat) : Int) = (V : Int) + I * x := by rw [Int.natCast_add, Int.natCast_mul]
  rw [c1, c2]
  exact this

/-- what a place comes to, and the quotient of it -/
theorem car_bounds {x y t q : Int} (hx0 : 0 ≤ x) (hx : x < 1000000000) (hy0 : 0 ≤ y) (hy : y < 1000000000) (ht : -1 ≤ t) (ht2 : t < 1000000000) (hq : -1 ≤ q) (hq2 : q < 1000000000) (hs : 0 ≤ t → 0 ≤ q) :
    -1000000000 < x * t + 1 ∧ x * t ≤ 999999998000000001 ∧ -1 ≤ (y + x * t + q) / 1000000000 ∧ (y + x * t + q) / 1000000000 < 1000000000 ∧ (0 ≤ t → 0 ≤ (y + x * t + q) / 1000000000) := by
  rcases Int.lt_or_le t 0 with h | h
  · have ht1 : t = -1 := by omega
    subst ht1
    omega
  · have h1 : 0 ≤ x * t := Int.mul_nonneg hx0 h
    have h2 : x * t ≤ 999999999 * 999999999 := Int.mul_le_mul (by omega) (by omega) h (by omega)
    have := hs h
    generalize x * t = p at *
    omega

theorem carAt_end {zs0 zs os : List Nat} {off i : Nat} {t q : Int} {R : Nat} (h : CarAt zs0 zs os off i t q) (hl : os.length ≤ i) (hq : -1 ≤ q) (hR : (limbV zs0 : Int) + (10 ^ (9 * off) : Nat) * (t * limbV os) = R) (hR2 : R < 10 ^ (9 * (off + i))) (hs : 0 ≤ q ∨ limbV zs < 10 ^ (9 * (off + i))) : limbV zs = R := by
  have e := h.eq
  rw [List.take_of_length_le hl, hR] at e
  generalize 10 ^ (9 * (off + i)) = P at *
  rcases Int.lt_or_le q 1 with h1 | h1
  · rcases Int.lt_or_le q 0 with h2 | h2
    · have : q = -1 := by omega
      subst this
      omega
    · have : q = 0 := by omega
      subst this
      omega
  · have : (P : Int) * 1 ≤ P * q := Int.mul_le_mul_of_nonneg_left h1 (by omega)
    omega

end Go.Proofs.YtfocaoliadbhcaaDoor
