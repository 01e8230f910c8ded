/-
  The walks of the specification's l06Short and l06Power.
-/
import Derived.Test.YtdejncgnoadcjaaDoorLimbTxt2
namespace Go.Proofs.YtdejncgnoadcjaaDoor
open Go.RowKit
set_option linter.unusedVariables false

theorem row_take {w : World} {B : Nat} {g L cap n : Nat} {xs : List Nat} (h : Row w B (.slice (some ⟨g, 0, none⟩) L cap) xs) (hn : n ≤ xs.length) : Row w B (.slice (some ⟨g, 0, none⟩) n cap) (xs.take n) := by
  have hl : (xs.take n).length = n := by rw [List.length_take]; omega
  unfold Row
  rw [hl]
  unfold Row at h
  rcases h.2 with ⟨h', _⟩ | ⟨g', cap', cur, h', h1, h2, h3, h4, h5, h6⟩
  · simp at h'
  · simp only [Value.slice.injEq, Option.some.injEq, Addr.mk.injEq, and_true] at h'
    obtain ⟨rfl, rfl, rfl⟩ := h'
    refine ⟨by simp; omega, .inr ⟨g, cap, cur, rfl, h1, h2, by omega, h4, h5, ?_⟩⟩
    rw [List.map_take, ← h6, Nat.mul_one, Nat.mul_one, List.take_take, Nat.min_eq_left hn]
theorem row_cap {w : World} {B : Nat} {g L cap : Nat} {xs : List Nat} (h : Row w B (.slice (some ⟨g, 0, none⟩) L cap) xs) : L = xs.length ∧ xs.length ≤ cap ∧ cap ≤ maxLen := by
  rcases h.2 with ⟨h', _⟩ | ⟨g', cap', cur, h', h1, h2, h3, h4, h5, h6⟩
  · simp at h'
  · simp only [Value.slice.injEq, Option.some.injEq, Addr.mk.injEq, and_true] at h'
    obtain ⟨rfl, rfl, rfl⟩ := h'
    exact ⟨rfl, h3, h4⟩

/-- a power on the way -/
structure PowAt (T m U : Nat) (os bs : List Nat) : Prop where
  oo : LimbsOk os
  ob : LimbsOk bs
  eq : limbV os * limbV bs ^ m = T
  lo : 1 ≤ os.length ∧ os.length < U
  lb : 1 ≤ bs.length ∧ bs.length + 1 ≤ U

theorem pow_odd {T m U : Nat} {os bs rs ts : List Nat} (h : PowAt T m U os bs) (hm : m % 2 = 1) (or_ : LimbsOk rs) (ot : LimbsOk ts) (hr : limbV rs = limbV os * limbV bs) (ht : limbV ts = limbV bs * limbV bs)
    (lr : 1 ≤ rs.length ∧ rs.length ≤ os.length + bs.length + 1) (lt : 1 ≤ ts.length ∧ ts.length ≤ bs.length + bs.length + 1) : PowAt T (m / 2) (2 * U) rs ts := by
  refine ⟨or_, ot, ?_, ⟨lr.1, by have := h.lo; have := h.lb; omega⟩, ⟨lt.1, by have := h.lb; omega⟩⟩
  have e : m = 2 * (m / 2) + 1 := by omega
  rw [← h.eq, hr, ht]
  conv => rhs; rw [e]
  rw [Nat.pow_succ, Nat.pow_mul, Nat.pow_two, Nat.mul_assoc, Nat.mul_comm (limbV bs)]
theorem pow_even {T m U : Nat} {os bs ts : List Nat} (h : PowAt T m U os bs) (hm : m % 2 = 0) (ot : LimbsOk ts) (ht : limbV ts = limbV bs * limbV bs)
    (lt : 1 ≤ ts.length ∧ ts.length ≤ bs.length + bs.length + 1) : PowAt T (m / 2) (2 * U) os ts := by
  refine ⟨h.oo, ot, ?_, ⟨h.lo.1, by have := h.lo; omega⟩, ⟨lt.1, by have := h.lb; omega⟩⟩
  have e : m = 2 * (m / 2) := by omega
  rw [← h.eq, ht]
  conv => rhs; rw [e]
  rw [Nat.pow_mul, Nat.pow_two]

end Go.Proofs.YtdejncgnoadcjaaDoor
