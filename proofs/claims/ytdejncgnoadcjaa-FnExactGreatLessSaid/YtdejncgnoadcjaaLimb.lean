/-
  The walks of the specification's limbs: taken out of figures, read, added.
-/
import Derived.Test.YtdejncgnoadcjaaGreat
namespace Go.Proofs.Ytdejncgnoadcjaa
open Go.RowKit
set_option linter.unusedVariables false

/-- a list of whole numbers that a call made -/
def Row (w : World) (B : Nat) (v : Value) (xs : List Nat) : Prop := w.ownsRow B 3 1 v xs.length (xs.map fun x => Value.int .i64 (x : Nat))

theorem own_below {w w' : World} {B : Nat} {e : TypeId} {v : Value} {n : Nat} {xs : List Value} (h : w.ownsRow B e 1 v n xs) (hb : Below w.heap.size w w') : w'.ownsRow B e 1 v n xs := by
  refine ⟨h.1, ?_⟩
  rcases h.2 with hn | ⟨g, cap, cur, rfl, h1, h2, rest⟩
  · exact .inl hn
  · refine .inr ⟨g, cap, cur, rfl, h1, ?_, rest⟩
    rw [hb.block g (Array.getElem?_eq_some_iff.1 h2).1]
    exact h2
theorem own_base {w : World} {B B' : Nat} {e : TypeId} {v : Value} {n : Nat} {xs : List Value} (h : w.ownsRow B e 1 v n xs) (hb : B' ≤ B) : w.ownsRow B' e 1 v n xs := by
  refine ⟨h.1, ?_⟩
  rcases h.2 with hn | ⟨g, cap, cur, rfl, h1, rest⟩
  · exact .inl hn
  · exact .inr ⟨g, cap, cur, rfl, by omega, rest⟩
theorem Row.below {w w' : World} {B : Nat} {v : Value} {xs : List Nat} (h : Row w B v xs) (hb : Below w.heap.size w w') : Row w' B v xs := own_below h hb
theorem Row.base {w : World} {B B' : Nat} {v : Value} {xs : List Nat} (h : Row w B v xs) (hb : B' ≤ B) : Row w B' v xs := own_base h hb

/-- what can be read of it -/
theorem Row.cells {w : World} {B : Nat} {v : Value} {xs : List Nat} (h : Row w B v xs) :
    (v = .slice none 0 0 ∧ xs = []) ∨ ∃ g cap, v = .slice (some ⟨g, 0, none⟩) xs.length cap ∧ B ≤ g ∧ g < w.heap.size ∧ ∀ j, j < xs.length → w.cell? ⟨g, j, none⟩ = some (.int .i64 (xs.getD j 0 : Nat)) := by
  have hc := fun g (hg : v.ownBlock = some g) => World.ownsRow.cells h hg
  have hl := World.ownsRow.lt h
  rcases h.2 with ⟨hv, hn⟩ | ⟨g, cap, cur, rfl, h1, h2, h3, h4, h5, h6⟩
  · exact .inl ⟨hv, List.eq_nil_of_length_eq_zero hn⟩
  · refine .inr ⟨g, cap, rfl, h1, (hl g rfl).2, fun j hj => ?_⟩
    have hadd : (⟨g, 0, none⟩ : Addr).add j = ⟨g, j, none⟩ := by unfold Addr.add; split <;> simp_all
    have := hc g rfl j (.int .i64 (xs.getD j 0 : Nat)) (by
      rw [List.getElem?_map, List.getElem?_eq_getElem hj, List.getD_eq_getElem?_getD, List.getElem?_eq_getElem hj]
      rfl)
    rw [hadd] at this
    exact this

theorem sl_take {s : ByteArray} {a b : Nat} (h : a ≤ b) : s.data.toList.take b = s.data.toList.take a ++ sl s a b := by
  unfold sl
  obtain ⟨d, rfl⟩ : ∃ d, b = a + d := ⟨b - a, by omega⟩
  rw [List.take_add, Nat.add_sub_cancel_left]
theorem sl_figs {s : ByteArray} (h : Figs s.data.toList) (a b : Nat) : Figs (sl s a b) := fun c hc => h c (List.mem_of_mem_drop (List.mem_of_mem_take hc))

/-- the limbs up to a place, and what is ahead of it -/
theorem limbs_step {s : ByteArray} {xs : List Nat} {E : Int} {f : Nat} (hE : 0 < E) (hE2 : E ≤ s.size) (hf : (f : Int) = max (E - 9) 0)
    (h : limbV xs + 10 ^ (9 * xs.length) * digV (s.data.toList.take E.toNat) = digV s.data.toList) :
    limbV (xs ++ [digV (sl s f E.toNat)]) + 10 ^ (9 * (xs ++ [digV (sl s f E.toNat)]).length) * digV (s.data.toList.take (E - 9).toNat) = digV s.data.toList := by
  have e1 : s.data.toList.take E.toNat = s.data.toList.take f ++ sl s f E.toNat := sl_take (by omega)
  rw [e1, digV_append, sl_length (by omega)] at h
  rw [limbV_snoc, List.length_append, List.length_singleton, nine_pow, (by omega : (E - 9).toNat = f), ← h, Nat.mul_add, Nat.add_assoc]
  congr 1
  rw [Nat.add_comm]
  congr 1
  by_cases h9 : 9 ≤ E
  · have e2 : E.toNat - f = 9 := by omega
    have e3 : (10 : Nat) ^ 9 = 1000000000 := by decide
    rw [e2, e3, Nat.mul_comm 1000000000, Nat.mul_assoc, Nat.mul_comm (digV _)]
  · have e2 : f = 0 := by omega
    subst e2
    rw [List.take_zero, digV_nil, Nat.zero_mul, Nat.mul_zero, Nat.mul_zero]

end Go.Proofs.Ytdejncgnoadcjaa
