/-
  What the program's own run leaves: states and truths that one owns.
-/
import Derived.Test.YtbgdapdenbldmaaIVer16
import Derived.Test.YtbgdapdenbldmaaIVer16C
import Derived.Test.YtbgdapdenbldmaaVer16K
namespace Go.Proofs.Ytbgdapdenbldmaa
open Go.RowKit Go.Sort
set_option linter.unusedVariables false

/-- what the run leaves, as states that one owns -/
theorem TAt.states {X S H L K n B : Nat} {fv cv : Value} {PA RE : Int} {qc qk qh : Value} {r : RunP} {fi : Nat} {w : World} (h : TAt X S H L K n B fv cv PA RE qc qk qh r fi w) :
    ∃ (rv : Nat → Value) (st : Nat → PSta), StM w B S n rv st ∧ ∀ q s, r.list[q]? = some s → st q = s := by
  obtain ⟨cur, h1, h2, h3, h4⟩ := h.st
  have hl := h.ll
  refine ⟨fun q => (cur[q * 2 + 1]?).getD .nilIface, fun q => (r.list[q]?).getD ⟨0, []⟩, ⟨⟨cur, h1, by omega, fun q hq => ?_⟩, fun q hq => ?_, fun q q' hq hq' hne => ?_⟩, fun q s hs => by simp only [hs, Option.getD_some]⟩
  · obtain ⟨s, hs⟩ : ∃ s, r.list[q]? = some s := ⟨_, List.getElem?_eq_getElem (by omega)⟩
    obtain ⟨v, k1, k2, k3⟩ := h3 q s hs
    simp only [hs, k2, Option.getD_some]
    exact ⟨k1, trivial⟩
  · obtain ⟨s, hs⟩ : ∃ s, r.list[q]? = some s := ⟨_, List.getElem?_eq_getElem (by omega)⟩
    obtain ⟨v, k1, k2, k3⟩ := h3 q s hs
    simp only [hs, k2, Option.getD_some]
    exact k3
  · obtain ⟨s, hs⟩ : ∃ s, r.list[q]? = some s := ⟨_, List.getElem?_eq_getElem (by omega)⟩
    obtain ⟨v, k1, k2, k3⟩ := h3 q s hs
    obtain ⟨s', hs'⟩ : ∃ s, r.list[q']? = some s := ⟨_, List.getElem?_eq_getElem (by omega)⟩
    obtain ⟨v', k1', k2', k3'⟩ := h3 q' s' hs'
    simp only [k2, k2', Option.getD_some]
    cases hv : v.ownBlock with
    | none => exact .inl rfl
    | some g => exact .inr (fun e => h4 q q' g v v' hne k2 k2' hv e.symm)

/-- .. and what is reached -/
theorem TAt.hits {X S H L K n B : Nat} {fv cv : Value} {PA RE : Int} {qc qk qh : Value} {r : RunP} {fi : Nat} {w : World} (h : TAt X S H L K n B fv cv PA RE qc qk qh r fi w) (hn : n ≤ 300) : OwnBo w B (.slice (some ⟨H, 0, none⟩) n n) r.hit := by
  obtain ⟨cur, h1, h2, h3⟩ := h.ht
  have hl := h.hl
  have e : cur.toList = r.hit.flatMap boolC := bools_is (by rw [Array.length_toList, h2, hl]) (fun j z hz => by
    have := h3 j z hz
    simpa using this)
  unfold OwnBo
  rw [hl]
  refine ⟨by rw [← e, Array.length_toList, h2, Nat.mul_one], .inr ⟨H, n, cur, rfl, h.lo.2.2.1, h1, Nat.le_refl _, by unfold maxLen; omega, by rw [h2, Nat.mul_one], ?_⟩⟩
  rw [← e, List.take_of_length_le]
  rw [Array.length_toList, h2]
  omega

/-- what the program's States answers -/
def ISta (p : PImg) (k : Int) (bb : Bool) (lv hv : Value) (w w' : World) : Prop :=
  Below w.heap.size w w' ∧ (bb = false → lv = .slice none 0 0 ∧ hv = .slice none 0 0) ∧ (bb = true → ∃ (K : Nat) (f : PFun) (r : RunP) (g h n : Nat) (rv : Nat → Value) (st : Nat → PSta), k = (K : Int) ∧ p.funcs[K]? = some f ∧ RunInv p f r ∧ r.todo = [] ∧ r.bad = false ∧ r.list.length = n ∧ r.hit.length = n ∧ n ≤ 300 ∧ (∀ q s, r.list[q]? = some s → st q = s) ∧ lv = .slice (some ⟨g, 0, none⟩) n n ∧ hv = .slice (some ⟨h, 0, none⟩) n n ∧ w.heap.size ≤ g ∧ StM w' w.heap.size g n rv st ∧ OwnBo w' w.heap.size (.slice (some ⟨h, 0, none⟩) n n) r.hit)

/-- what trace leaves -/
def TRes (p : PImg) (f : PFun) (S H L K n B : Nat) (PA RE : Int) (bad : Bool) (w : World) : Prop := ∃ (X : Nat) (r : RunP) (fi : Nat) (fv cv qc qk qh : Value), TAt X S H L K n B fv cv PA RE qc qk qh r fi w ∧ RunInv p f r ∧ (r.bad = true ∨ r.todo = []) ∧ r.bad = bad

/-- the tracer, made -/
structure TMade (p : PImg) (f : PFun) (C : Nat) (w wr : World) (bad : Bool) (S H n : Nat) : Prop where
  run : ∃ (L K B : Nat) (PA RE : Int), TRes p f S H L K n B PA RE bad wr ∧ w.heap.size ≤ B
  c7 : wr.cell? ⟨C, 7, none⟩ = some (.slice (some ⟨S, 0, none⟩) n n)
  c8 : wr.cell? ⟨C, 8, none⟩ = some (.slice (some ⟨H, 0, none⟩) n n)
  c13 : wr.cell? ⟨C, 13, none⟩ = some (.bool bad)
  bel : Below w.heap.size w wr

end Go.Proofs.Ytbgdapdenbldmaa
