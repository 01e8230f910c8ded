/-
  The walk of the specification's product of limbs.
-/
import Derived.Test.YtdejncgnoadcjaaLimbAdd
import Derived.Deep.QuietTactic
import Derived.BigQuiet
namespace Go.Proofs.Ytdejncgnoadcjaa
open Go.RowKit
set_option linter.unusedVariables false

/-- a product of limbs: behind i of the first, and k of the second -/
structure MulAt (ls ms ys : List Nat) (i k c : Nat) : Prop where
  ok : LimbsOk ys
  len : ys.length = ls.length + ms.length + 1
  eq : limbV ys + 10 ^ (9 * (i + k)) * c = limbV (ls.take i) * limbV ms + 10 ^ (9 * i) * ls.getD i 0 * limbV (ms.take k)

theorem mulAt_next {ls ms ys : List Nat} {i k : Nat} (h : MulAt ls ms ys i k 0) (hk : ms.length ≤ k) : MulAt ls ms ys (i + 1) 0 0 := by
  refine ⟨h.ok, h.len, ?_⟩
  have e := h.eq
  rw [List.take_of_length_le hk, Nat.mul_zero, Nat.add_zero] at e
  rw [Nat.mul_zero, Nat.add_zero, List.take_zero, limbV_take, Nat.add_mul, e]
  rfl

theorem mulAt_start (ls ms : List Nat) : MulAt ls ms (List.replicate (ls.length + ms.length + 1) 0) 0 0 0 := by
  have hz : ∀ n, limbV (List.replicate n 0) = 0 := fun n => by
    induction n with
    | zero => rfl
    | succ n ih => rw [List.replicate_succ, limbV, ih]
  refine ⟨fun x hx => ?_, by simp, ?_⟩
  · rw [List.eq_of_mem_replicate hx]; omega
  · rw [hz, List.take_zero, List.take_zero]
    simp [limbV]

theorem mulAt_end {ls ms ys : List Nat} {i : Nat} (h : MulAt ls ms ys i 0 0) (hi : ls.length ≤ i) : limbV ys = limbV ls * limbV ms := by
  have e := h.eq
  rw [List.take_of_length_le hi, List.take_zero] at e
  simpa [limbV] using e

/-- where the carry goes on there is still room -/
theorem mulAt_room {ls ms ys : List Nat} {i k c : Nat} (h : MulAt ls ms ys i k c) (ol : LimbsOk ls) (om : LimbsOk ms) (hc : 0 < c) (hi : i < ls.length) : k ≤ ms.length := by
  have e := h.eq
  rcases Nat.lt_or_ge ms.length k with hk | hk
  · exfalso
    rw [(List.take_of_length_le (by omega) : ms.take k = ms), ← Nat.add_mul, ← limbV_take] at e
    have h1 := limbV_lt (xs := ls.take (i + 1)) (fun x hx => ol x (List.mem_of_mem_take hx))
    rw [List.length_take, Nat.min_eq_left (by omega)] at h1
    have h2 := limbV_lt om
    have h3 : limbV (ls.take (i + 1)) * limbV ms < 10 ^ (9 * (i + 1)) * 10 ^ (9 * ms.length) := Nat.mul_lt_mul'' h1 h2
    rw [← Nat.pow_add] at h3
    have h4 : 10 ^ (9 * (i + 1) + 9 * ms.length) ≤ 10 ^ (9 * (i + k)) := Nat.pow_le_pow_right (by decide) (by omega)
    have h5 : 10 ^ (9 * (i + k)) * 1 ≤ 10 ^ (9 * (i + k)) * c := Nat.mul_le_mul_left _ hc
    omega
  · exact hk

theorem mulAt_step {ls ms ys : List Nat} {i k c X : Nat} (h : MulAt ls ms ys i k c) (hn : i + k < ys.length) (hX : ys.getD (i + k) 0 + c + ls.getD i 0 * ms.getD k 0 = X) :
    MulAt ls ms (ys.set (i + k) (X % 1000000000)) i (k + 1) (X / 1000000000) := by
  obtain ⟨h1, h2, h3⟩ := h
  refine ⟨limbsOk_set h1 (Nat.mod_lt _ (by decide)), by rw [List.length_set]; exact h2, ?_⟩
  have h4 := limbV_set (y := X % 1000000000) hn
  rw [limbV_take, (by omega : i + (k + 1) = i + k + 1), nine_pow]
  have e0 : 10 ^ (9 * (i + k)) = 10 ^ (9 * i) * 10 ^ (9 * k) := by rw [Nat.mul_add, Nat.pow_add]
  have e1 : 10 ^ (9 * i) * ls.getD i 0 * (limbV (ms.take k) + 10 ^ (9 * k) * ms.getD k 0) = 10 ^ (9 * i) * ls.getD i 0 * limbV (ms.take k) + 10 ^ (9 * (i + k)) * (ls.getD i 0 * ms.getD k 0) := by
    rw [Nat.mul_add, e0]
    congr 1
    rw [Nat.mul_assoc, Nat.mul_assoc, Nat.mul_left_comm (ls.getD i 0)]
  rw [e1]
  generalize 10 ^ (9 * (i + k)) = P at *
  generalize 10 ^ (9 * i) * ls.getD i 0 * limbV (ms.take k) = U at *
  generalize limbV (ls.take i) * limbV ms = V at *
  generalize ls.getD i 0 * ms.getD k 0 = p at *
  generalize ys.getD (i + k) 0 = o at *
  generalize limbV (ys.set (i + k) (X % 1000000000)) = A at *
  have e2 := Nat.div_add_mod X 1000000000
  have e3 : P * (1000000000 * (X / 1000000000) + X % 1000000000) = P * (o + c + p) := by rw [e2, hX]
  rw [Nat.mul_add, Nat.mul_add, Nat.mul_add] at e3
  have e4 : 1000000000 * P * (X / 1000000000) = P * (1000000000 * (X / 1000000000)) := by rw [Nat.mul_comm 1000000000, Nat.mul_assoc]
  omega

theorem row_free {w : World} {B : Nat} {e : TypeId} {g n c : Nat} {xs : List Value} (h : w.ownsRow B e 1 (.slice (some ⟨g, 0, none⟩) n c) n xs) (j : Nat) : w.frozen? ⟨g, j, none⟩ = false := World.ownsRow.frozenAt h j

end Go.Proofs.Ytdejncgnoadcjaa
