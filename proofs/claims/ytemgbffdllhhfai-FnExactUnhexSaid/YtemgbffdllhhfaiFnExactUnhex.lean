/-
  At every text impl.Unhex answers as the specification's Unhex, both results; no condition.
-/
import Derived.Test.YtemgbffdllhhfaiRows
import Derived.WalkKit
import Derived.ProofKit
import Derived.OpenShut
import Derived.ShutString
import Derived.ChangeOld
import Derived.Below
import Derived.Test.YtemgbffdllhhfaiBase
import Derived.Test.YtemgbffdllhhfaiStep
import Derived.Test.YtemgbffdllhhfaiHexB
import Derived.Test.YtemgbffdllhhfaiHex
import Derived.Test.YtemgbffdllhhfaiUnhexB
import Derived.Test.YtemgbffdllhhfaiUnhex
import Derived.Test.YtemgbffdllhhfaiUnhex2
namespace Go.Proofs.Ytemgbffdllhhfai
open Go.ChangeShapes Go.WideShapes Go.ChangeAt Go.RowKit
open Go.ChangeMaps (open_string shut_string)
set_option linter.unusedVariables false

theorem fnExactUnhex_own : ownKnob Try.prog.godebug = none := by kernel_rfl

theorem fnExactUnhex_walk (a0 : ByteArray) (w0 : a0.size ≤ maxLen) (w : World) :
    Calls Try.prog 4 #[.string a0] w fun e w' => e = .returned (.bool true) ∧ Below w.heap.size w w' := by
  unfold maxLen at w0
  by_cases hbig : 1048576 < a0.size
  · go_enter Try.func4, Try.ntmps4
    go_wp2
    go_ret
    exact ⟨rfl, Below.refl _ _⟩
  · have hm : a0.size ≤ 1048576 := by omega
    clear hbig
    by_cases h : 24000 < a0.size ∨ a0.size % 2 = 1
    · go_enter Try.func4, Try.ntmps4
      go_wp2_with (first | (go_at_call 8; refine (specUnhex_out _ _ hm h).mono ?_; rintro e w' ⟨rfl, rfl⟩) | (go_at_call 9; refine (implUnhex_out _ _ hm h).mono ?_; rintro e w' ⟨rfl, rfl⟩))
      go_ret
      exact ⟨rfl, Below.refl _ _⟩
    · have h1 : a0.size ≤ 24000 := by omega
      have h2 : a0.size % 2 = 0 := by omega
      clear h
      have cS := fun w => specUnhex_in a0 w h1 h2
      have cI := fun w => implUnhex_in a0 w h1 h2
      rcases unOut_cases a0 with hR | ⟨t, hR⟩
      · rw [hR] at cS cI
        clear hR h2
        go_enter Try.func4, Try.ntmps4
        go_wp2_with (first | (go_at_call 8; refine (cS _).mono ?_; rintro e w' ⟨rfl, hb1⟩) | (go_at_call 9; refine (cI _).mono ?_; rintro e w' ⟨rfl, hb2⟩))
        go_ret
        exact ⟨rfl, chain hb1 hb2⟩
      · rw [hR] at cS cI
        clear hR h2
        go_enter Try.func4, Try.ntmps4
        go_wp2_with (first | (go_at_call 8; refine (cS _).mono ?_; rintro e w' ⟨rfl, hb1⟩) | (go_at_call 9; refine (cI _).mono ?_; rintro e w' ⟨rfl, hb2⟩))
        go_ret
        exact ⟨rfl, chain hb1 hb2⟩

set_option maxRecDepth 100000 in
theorem fnExactUnhex_lifted (os : Os) (started : os.Started) (H : Type) (enc : TypeId × Value → H) :
    ReturnsInHanded {} Try.checked os 4 .any (Rows.fnExactUnhexSpec.pre6 enc Try.prog Try.f4 Rows.fnExactUnhexRow.domain false) (Rows.fnExactUnhexSpec.post enc Try.prog Try.f4 false true false false) := by
  refine returnsInHanded_of_change (C := Try.checked) fnExactUnhex_own started (by kernel_rfl) Try.func4
    (ChangeSpec.witness6 (enc := enc) (C := Try.checked) false ⟨#[], #[.string ByteArray.empty], []⟩ 8 (by kernel_rfl) (by kernel_rfl) (by kernel_rfl) (by kernel_rfl)) ?_
  intro W base args ds gs before hval0 hW hcnd _
  have hval : ∀ (j : Nat) t v, Try.f4.params[j]? = some t → args[j]? = some v → Value.okWide Try.prog W .any base t v := hval0
  have hW' := hW
  obtain ⟨p, q, hA0, hV, rfl, hfz, hnd⟩ := hW
  have hA : DataW.TrodAll enc Try.prog W 0 (fun _ => true) true Try.f4.params.toList args.toList ds p := hA0
  rw [Try.params4] at hA hval
  obtain ⟨v0, vs0, d0, ds0, p0, q0, hargs, rfl, rfl, h0, r0⟩ := trodAll_cons hA
  obtain ⟨rfl, rfl, rfl⟩ := trodAll_nil r0
  obtain rfl : args = #[v0] := by cases args; simp_all
  obtain ⟨rfl, rfl⟩ := trodVars_none hV
  obtain ⟨a0, rfl, rfl, rfl, w0⟩ := open_string Try.underlying9 (hval 0 9 v0 rfl rfl) h0
  clear hA0 hval0
  simp only [List.append_nil] at hW'
  refine (fnExactUnhex_walk a0 w0 W).mono fun e W' ⟨he, hg⟩ => ?_
  subst he
  exact ⟨_, rfl, _, _, _, [], [], [], hW', trodAll_mk1 (shut_bool Try.underlying4 _), (trodAll_cons_mk (shut_string Try.underlying9 w0) trodAll_mk0), rfl, hg.frame _, fun h => by cases h⟩

theorem fnExactUnhex_over : Rows.fnExactUnhexRow.holds Try.pinned (OpenSpec.ofChange Rows.fnExactUnhexSpec) :=
  OpenClaim.holds_of_wide 4 Try.f4 rfl rfl rfl rfl rfl rfl rfl ⟨rfl, rfl, rfl, rfl, rfl⟩ rfl rfl rfl rfl rfl (by kernel_rfl) Try.func4 (by kernel_rfl)
    (of_decide_eq_true (by kernel_rfl)) (by unfold Func.isWrapper; first | (rw [if_pos (by decide +kernel)]; kernel_rfl) | (rw [if_neg (by decide +kernel)]; exact ⟨rfl, rfl⟩))
    (fun os started H enc _ => fnExactUnhex_lifted os started H enc)

theorem fnExactUnhex_holds : Rows.FnExactUnhexSaid := fnExactUnhex_over
#print axioms fnExactUnhex_holds
end Go.Proofs.Ytemgbffdllhhfai
