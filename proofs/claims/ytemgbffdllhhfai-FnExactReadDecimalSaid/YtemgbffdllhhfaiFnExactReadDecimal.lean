/-
  At every text impl.ReadDecimal answers as the specification's ReadDecimal, both results; no condition.
-/
import Derived.Test.YtemgbffdllhhfaiRows
import Derived.WalkKit
import Derived.ProofKit
import Derived.OpenShut
import Derived.ShutString
import Derived.ChangeOld
import Derived.Below
import Derived.Test.YtemgbffdllhhfaiBase
import Derived.Test.YtemgbffdllhhfaiStep
import Derived.Test.YtemgbffdllhhfaiHexB
import Derived.Test.YtemgbffdllhhfaiFigure
import Derived.Test.YtemgbffdllhhfaiDecB
import Derived.Test.YtemgbffdllhhfaiDec
import Derived.Test.YtemgbffdllhhfaiRDecB
import Derived.Test.YtemgbffdllhhfaiRDec
namespace Go.Proofs.Ytemgbffdllhhfai
open Go.ChangeShapes Go.WideShapes Go.ChangeAt Go.RowKit
open Go.ChangeMaps (open_string shut_string)
set_option linter.unusedVariables false

theorem fnExactReadDecimal_own : ownKnob Try.prog.godebug = none := by kernel_rfl

theorem fnExactReadDecimal_walk (a0 : ByteArray) (w0 : a0.size ≤ maxLen) (w : World) :
    Calls Try.prog 5 #[.string a0] w fun e w' => e = .returned (.bool true) ∧ Below w.heap.size w w' := by
  unfold maxLen at w0
  by_cases hbig : 1048576 < a0.size
  · go_enter Try.func5, Try.ntmps5
    go_wp2
    go_ret
    exact ⟨rfl, Below.refl _ _⟩
  · have hm : a0.size ≤ 1048576 := by omega
    clear hbig
    by_cases hex : ∃ n, Tells a0 n
    · obtain ⟨n, hn⟩ := hex
      have cS := fun w => specReadDecimal_yes a0 w hm hn
      have cI := fun w => implReadDecimal_yes a0 w hm hn
      clear hn
      go_enter Try.func5, Try.ntmps5
      go_wp2_with (first | (go_at_call 10; refine (cS _).mono ?_; rintro e w' ⟨rfl, hb1⟩) | (go_at_call 11; refine (cI _).mono ?_; rintro e w' ⟨rfl, rfl⟩))
      go_ret
      exact ⟨rfl, by assumption⟩
    · have hno : ∀ n, ¬ Tells a0 n := fun n h => hex ⟨n, h⟩
      have cS := fun w => specReadDecimal_no a0 w hm hno
      have cI := fun w => implReadDecimal_no a0 w hm hno
      clear hno hex
      go_enter Try.func5, Try.ntmps5
      go_wp2_with (first | (go_at_call 10; refine (cS _).mono ?_; rintro e w' ⟨rfl, hb1⟩) | (go_at_call 11; refine (cI _).mono ?_; rintro e w' ⟨rfl, rfl⟩))
      go_ret
      exact ⟨rfl, by assumption⟩

set_option maxRecDepth 100000 in
theorem fnExactReadDecimal_lifted (os : Os) (started : os.Started) (H : Type) (enc : TypeId × Value → H) :
    ReturnsInHanded {} Try.checked os 5 .any (Rows.fnExactReadDecimalSpec.pre6 enc Try.prog Try.f5 Rows.fnExactReadDecimalRow.domain false) (Rows.fnExactReadDecimalSpec.post enc Try.prog Try.f5 false true false false) := by
  refine returnsInHanded_of_change (C := Try.checked) fnExactReadDecimal_own started (by kernel_rfl) Try.func5
    (ChangeSpec.witness6 (enc := enc) (C := Try.checked) false ⟨#[], #[.string ByteArray.empty], []⟩ 8 (by kernel_rfl) (by kernel_rfl) (by kernel_rfl) (by kernel_rfl)) ?_
  intro W base args ds gs before hval0 hW hcnd _
  have hval : ∀ (j : Nat) t v, Try.f5.params[j]? = some t → args[j]? = some v → Value.okWide Try.prog W .any base t v := hval0
  have hW' := hW
  obtain ⟨p, q, hA0, hV, rfl, hfz, hnd⟩ := hW
  have hA : DataW.TrodAll enc Try.prog W 0 (fun _ => true) true Try.f5.params.toList args.toList ds p := hA0
  rw [Try.params5] at hA hval
  obtain ⟨v0, vs0, d0, ds0, p0, q0, hargs, rfl, rfl, h0, r0⟩ := trodAll_cons hA
  obtain ⟨rfl, rfl, rfl⟩ := trodAll_nil r0
  obtain rfl : args = #[v0] := by cases args; simp_all
  obtain ⟨rfl, rfl⟩ := trodVars_none hV
  obtain ⟨a0, rfl, rfl, rfl, w0⟩ := open_string Try.underlying9 (hval 0 9 v0 rfl rfl) h0
  clear hA0 hval0
  simp only [List.append_nil] at hW'
  refine (fnExactReadDecimal_walk a0 w0 W).mono fun e W' ⟨he, hg⟩ => ?_
  subst he
  exact ⟨_, rfl, _, _, _, [], [], [], hW', trodAll_mk1 (shut_bool Try.underlying4 _), (trodAll_cons_mk (shut_string Try.underlying9 w0) trodAll_mk0), rfl, hg.frame _, fun h => by cases h⟩

theorem fnExactReadDecimal_over : Rows.fnExactReadDecimalRow.holds Try.pinned (OpenSpec.ofChange Rows.fnExactReadDecimalSpec) :=
  OpenClaim.holds_of_wide 5 Try.f5 rfl rfl rfl rfl rfl rfl rfl ⟨rfl, rfl, rfl, rfl, rfl⟩ rfl rfl rfl rfl rfl (by kernel_rfl) Try.func5 (by kernel_rfl)
    (of_decide_eq_true (by kernel_rfl)) (by unfold Func.isWrapper; first | (rw [if_pos (by decide +kernel)]; kernel_rfl) | (rw [if_neg (by decide +kernel)]; exact ⟨rfl, rfl⟩))
    (fun os started H enc _ => fnExactReadDecimal_lifted os started H enc)

theorem fnExactReadDecimal_holds : Rows.FnExactReadDecimalSaid := fnExactReadDecimal_over
#print axioms fnExactReadDecimal_holds
end Go.Proofs.Ytemgbffdllhhfai
