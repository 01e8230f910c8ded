/-
  Always: impl.Words answers as the specification's Words; its list is new memory, also behind another call; no condition.
-/
import Derived.Test.YtmddkfedmjdagaaRows
import Derived.WalkKit
import Derived.ProofKit
import Derived.OpenShut
import Derived.ShutString
import Derived.ChangeOld
import Derived.Below
import Derived.Test.YtmddkfedmjdagaaWords8
namespace Go.Proofs.Ytmddkfedmjdagaa
open Go.ChangeShapes Go.WideShapes Go.ChangeAt Go.RowKit
open Go.ChangeMaps (open_string shut_string)
set_option linter.unusedVariables false

theorem fnExactWords_own : ownKnob Try.prog.godebug = none := by kernel_rfl

set_option maxHeartbeats 4000000 in
set_option maxRecDepth 100000 in
theorem fnExactWords_walk  (w : World) :
    Calls Try.prog 3 #[] w fun e w' => e = .returned (.bool true) ∧ Below w.heap.size w w' := by
  go_enter Try.func3, Try.ntmps3
  go_wp2_with fail
  refine (specWords_own _).mono ?_
  rintro e wA ⟨v0, rfl, own0, bA⟩
  have sA := bA.size
  go_wp2_with fail
  refine (implWords_own _).mono ?_
  rintro e wB ⟨v1, rfl, own1, bB⟩
  have sB := bB.size
  go_wp2_with fail
  refine (eqStringS_same _ _ _ _ _ _ _ own1 (own_below own0 bB)).mono ?_
  rintro e wC ⟨rfl, bC⟩
  have sC := bC.size
  go_wp2_with fail
  refine (markStringS_one _ _ _ _ _ (own_below own1 bC) (by omega)).mono ?_
  rintro e wD ⟨rfl, own1D, grD⟩
  have sD := grD.size
  have own0D := (own_below (own_below own0 bB) bC).kept grD (rows_apart own0 own1 (Nat.le_refl _))
  have bD := below_mark (chain (chain bA bB) bC) (by omega) grD (own_below own1 bC) sA
  clear grD own1
  go_wp2_with fail
  refine (heldStringS_one _ _ _ _ own1D (by omega)).mono ?_
  rintro e wE ⟨rfl, bE⟩
  have sE := bE.size
  go_wp2_with fail
  refine (implWords_own _).mono ?_
  rintro e wF ⟨v2, rfl, own2, bF⟩
  have sF := bF.size
  go_wp2_with fail
  refine (eqStringS_same _ _ _ _ _ _ _ own2 (own_below (own_below own0D bE) bF)).mono ?_
  rintro e wG ⟨rfl, bG⟩
  go_wp2_with fail
  refine (heldStringS_one _ _ _ _ (own_below (own_below (own_below own1D bE) bF) bG) (by omega)).mono ?_
  rintro e wH ⟨rfl, bH⟩
  go_wp2
  go_ret
  exact ⟨rfl, chain (chain (chain (chain bD bE) bF) bG) bH⟩

set_option maxRecDepth 100000 in
theorem fnExactWords_lifted (os : Os) (started : os.Started) (H : Type) (enc : TypeId × Value → H) :
    ReturnsInHanded {} Try.checked os 3 .any (Rows.fnExactWordsSpec.pre6 enc Try.prog Try.f3 Rows.fnExactWordsRow.domain false) (Rows.fnExactWordsSpec.post enc Try.prog Try.f3 false true false false) := by
  refine returnsInHanded_of_change (C := Try.checked) fnExactWords_own started (by kernel_rfl) Try.func3
    (ChangeSpec.witness6 (enc := enc) (C := Try.checked) false ⟨#[], #[], []⟩ 8 (by kernel_rfl) (by kernel_rfl) (by kernel_rfl) (by kernel_rfl)) ?_
  intro W base args ds gs before hval0 hW hcnd _
  have hval : ∀ (j : Nat) t v, Try.f3.params[j]? = some t → args[j]? = some v → Value.okWide Try.prog W .any base t v := hval0
  have hW' := hW
  obtain ⟨p, q, hA0, hV, rfl, hfz, hnd⟩ := hW
  have hA : DataW.TrodAll enc Try.prog W 0 (fun _ => true) true Try.f3.params.toList args.toList ds p := hA0
  rw [Try.params3] at hA hval
  obtain ⟨rfl, rfl, rfl⟩ := trodAll_none hA
  obtain ⟨rfl, rfl⟩ := trodVars_none hV
  clear hA0 hval0
  simp only [List.append_nil] at hW'
  refine (fnExactWords_walk  W).mono fun e W' ⟨he, hg⟩ => ?_
  subst he
  exact ⟨_, rfl, _, _, _, [], [], [], hW', trodAll_mk1 (shut_bool Try.underlying4 _), rfl, rfl, hg.frame _, fun h => by cases h⟩

theorem fnExactWords_over : Rows.fnExactWordsRow.holds Try.pinned (OpenSpec.ofChange Rows.fnExactWordsSpec) :=
  OpenClaim.holds_of_wide 3 Try.f3 rfl rfl rfl rfl rfl rfl rfl ⟨rfl, rfl, rfl, rfl, rfl⟩ rfl rfl rfl rfl rfl (by kernel_rfl) Try.func3 (by kernel_rfl)
    (of_decide_eq_true (by kernel_rfl)) (by unfold Func.isWrapper; first | (rw [if_pos (by decide +kernel)]; kernel_rfl) | (rw [if_neg (by decide +kernel)]; exact ⟨rfl, rfl⟩))
    (fun os started H enc _ => fnExactWords_lifted os started H enc)

theorem fnExactWords_holds : Rows.FnExactWordsSaid := fnExactWords_over
#print axioms fnExactWords_holds
end Go.Proofs.Ytmddkfedmjdagaa
