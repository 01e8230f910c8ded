/-
  The walk of the specification's sum of limbs.
-/
import Derived.Test.YtaiaopkfbamohaaDoorLimb
import Derived.Deep.CutRange
namespace Go.Proofs.YtaiaopkfbamohaaDoor
open Go.RowKit
set_option linter.unusedVariables false

theorem Row.shape {w : World} {B : Nat} {v : Value} {xs : List Nat} (h : Row w B v xs) : ∃ p c, v = .slice p xs.length c := by
  rcases h.cells with ⟨rfl, rfl⟩ | ⟨g, cap, rfl, _⟩
  · exact ⟨none, 0, rfl⟩
  · exact ⟨_, cap, rfl⟩

/-- a sum of limbs up to a place -/
structure AddAt (ls ms xs : List Nat) (i c : Nat) : Prop where
  ok : LimbsOk xs
  len : xs.length = i
  eq : limbV xs + 10 ^ (9 * i) * c = limbV (ls.take i) + limbV (ms.take i)
theorem addAt_start (ls ms : List Nat) : AddAt ls ms [] 0 0 := ⟨limbsOk_nil, rfl, by simp [limbV]⟩
theorem addAt_step {ls ms xs : List Nat} {i c : Nat} (h : AddAt ls ms xs i c) : AddAt ls ms (xs ++ [(ls.getD i 0 + ms.getD i 0 + c) % 1000000000]) (i + 1) ((ls.getD i 0 + ms.getD i 0 + c) / 1000000000) := by
  obtain ⟨h1, h2, h3⟩ := h
  refine ⟨limbsOk_snoc h1 (Nat.mod_lt _ (by decide)), by simp [h2], ?_⟩
  rw [limbV_snoc, limbV_take, limbV_take, h2, nine_pow]
  generalize ls.getD i 0 = x
  generalize ms.getD i 0 = y
  generalize 10 ^ (9 * i) = P at *
  have e := Nat.div_add_mod (x + y + c) 1000000000
  generalize (x + y + c) / 1000000000 = q at *
  generalize (x + y + c) % 1000000000 = r at *
  have e2 : P * (1000000000 * q + r) = P * (x + y + c) := by rw [e]
  rw [Nat.mul_add, Nat.mul_add, Nat.mul_add] at e2
  have e3 : 1000000000 * P * q = P * (1000000000 * q) := by rw [Nat.mul_comm 1000000000, Nat.mul_assoc]
  omega
theorem addAt_end {ls ms xs : List Nat} {i : Nat} (h : AddAt ls ms xs i 0) (ha : ls.length ≤ i) (hb : ms.length ≤ i) : limbV xs = limbV ls + limbV ms := by
  have := h.eq
  rw [List.take_of_length_le ha, List.take_of_length_le hb] at this
  omega

end Go.Proofs.YtaiaopkfbamohaaDoor
