/-
  The program's SameOutcome.
-/
import Derived.Test.YtbgdapdenbldmaaSameO19
import Derived.Test.YtbgdapdenbldmaaShelf
namespace Go.Proofs.Ytbgdapdenbldmaa
open Go.RowKit Go.Sort
set_option linter.unusedVariables false

theorem eqStrs19 (a b : Value) (l m : List ByteArray) (w : World) (ha : ArgStrs w a l) (hb : ArgStrs w b m) :
    Calls Try.prog 43 #[a, b] w fun e w' => e = .returned (.bool (decide (l = m))) ∧ Below w.heap.size w w' := by
  obtain ⟨xa, ca, rfl, hm1, _, oa⟩ := ha
  obtain ⟨xb, cb, rfl, hm2, _, ob⟩ := hb
  unfold maxLen at hm1 hm2
  by_cases hl : l.length = m.length
  · by_cases h0 : l.length = 0
    · have e1 : l = [] := List.eq_nil_of_length_eq_zero h0
      have e2 : m = [] := List.eq_nil_of_length_eq_zero (by omega)
      subst e1 e2
      refine (Try.slices_Equal_string_empty xa xb ca 0 cb w (by omega)).mono ?_
      rintro e w' ⟨rfl, rfl⟩
      exact ⟨by simp, Below.refl _ _⟩
    · obtain ⟨b1, o1, rfl, _, c1⟩ := oa (by omega)
      obtain ⟨b2, o2, rfl, _, c2⟩ := ob (by omega)
      refine (Try.slices_Equal_string b1 o1 l.length ca b2 o2 m.length cb l m w (Nat.le_refl _) (Nat.le_refl _) (by omega) (by omega) c1 c2).mono ?_
      rintro e w' ⟨rfl, q, rfl⟩
      refine ⟨?_, below_drewN (Below.refl _ _) _⟩
      rw [List.take_length, List.take_length]
  · refine (Try.slices_Equal_string_lens xa xb l.length ca m.length cb w hl).mono ?_
    rintro e w' ⟨rfl, rfl⟩
    refine ⟨?_, Below.refl _ _⟩
    rw [decide_eq_false fun h => hl (congrArg List.length h)]

end Go.Proofs.Ytbgdapdenbldmaa
