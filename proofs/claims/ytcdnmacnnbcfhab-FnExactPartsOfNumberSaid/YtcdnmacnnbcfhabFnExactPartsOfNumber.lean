/-
  At every number of 64 bits impl.PartsOfNumber answers as the specification's PartsOfNumber, all four fields; no condition.
-/
import Derived.Test.YtcdnmacnnbcfhabRows
import Derived.WalkKit
import Derived.ProofKit
import Derived.OpenShut
import Derived.ShutString
import Derived.ChangeOld
import Derived.Below
import Derived.Test.YtcdnmacnnbcfhabIRound
namespace Go.Proofs.Ytcdnmacnnbcfhab
open Go.ChangeShapes Go.WideShapes Go.ChangeAt Go.RowKit
open Go.ChangeMaps (open_string shut_string)
set_option linter.unusedVariables false

theorem fnExactPartsOfNumber_own : ownKnob Try.prog.godebug = none := by kernel_rfl

set_option maxHeartbeats 4000000 in
set_option maxRecDepth 100000 in
theorem fnExactPartsOfNumber_walk (a0 : Int) (w0 : (Lit.int .u64 a0).wf = true) (w : World) :
    Calls Try.prog 5 #[.int .u64 a0] w fun e w' => e = .returned (.bool true) ∧ Below w.heap.size w w' := by
  have bd := Go.bounds_u64 w0
  obtain ⟨x, rfl⟩ : ∃ x : Nat, a0 = x := ⟨a0.toNat, by omega⟩
  have hx : x < 18446744073709551616 := by omega
  have cS := fun W => specParts_any x W hx
  have cI := fun W => iParts x W hx
  unfold partsV at cS cI
  obtain ⟨k, hk⟩ : ∃ k, kindN x = k := ⟨_, rfl⟩
  obtain ⟨b, hb⟩ : ∃ b, belowN x = b := ⟨_, rfl⟩
  obtain ⟨m, hm⟩ : ∃ m, mantN x = m := ⟨_, rfl⟩
  obtain ⟨ex, he⟩ : ∃ ex, expN x = ex := ⟨_, rfl⟩
  rw [hk, hb, hm, he] at cS cI
  clear hk hb hm he hx bd
  go_enter Try.func5, Try.ntmps5
  go_wp2_with fail
  refine (cS _).mono ?_
  rintro e w1 ⟨rfl, hb1⟩
  go_wp2_with fail
  refine (cI _).mono ?_
  rintro e w2 ⟨rfl, hb2⟩
  have hlt : w1.heap.size < w2.heap.size := by have := hb2.size; simp at this; omega
  have hk := fun o => (Below.heap_alloc w2 o _ hlt).trans (alloc_kept hb2)
  have c0 := fun o => (cells_four (hk o)).1
  have c1 := fun o => (cells_four (hk o)).2.1
  have c2 := fun o => (cells_four (hk o)).2.2.1
  have c3 := fun o => (cells_four (hk o)).2.2.2
  clear hk
  go_wp2
  go_ret
  have hb3 : Below w.heap.size w w2 := (hb1.alloc hb1.size _).trans (hb2.mono (by simp; exact Nat.le_succ_of_le hb1.size))
  have hs3 := hb3.size
  refine ⟨rfl, ?_⟩
  go_grown

set_option maxRecDepth 100000 in
theorem fnExactPartsOfNumber_lifted (os : Os) (started : os.Started) (H : Type) (enc : TypeId × Value → H) :
    ReturnsInHanded {} Try.checked os 5 .any (Rows.fnExactPartsOfNumberSpec.pre6 enc Try.prog Try.f5 Rows.fnExactPartsOfNumberRow.domain false) (Rows.fnExactPartsOfNumberSpec.post enc Try.prog Try.f5 false true false false) := by
  refine returnsInHanded_of_change (C := Try.checked) fnExactPartsOfNumber_own started (by kernel_rfl) Try.func5
    (ChangeSpec.witness6 (enc := enc) (C := Try.checked) false ⟨#[], #[.int .u64 0], []⟩ 8 (by kernel_rfl) (by kernel_rfl) (by kernel_rfl) (by kernel_rfl)) ?_
  intro W base args ds gs before hval0 hW hcnd _
  have hval : ∀ (j : Nat) t v, Try.f5.params[j]? = some t → args[j]? = some v → Value.okWide Try.prog W .any base t v := hval0
  have hW' := hW
  obtain ⟨p, q, hA0, hV, rfl, hfz, hnd⟩ := hW
  have hA : DataW.TrodAll enc Try.prog W 0 (fun _ => true) true Try.f5.params.toList args.toList ds p := hA0
  rw [Try.params5] at hA hval
  obtain ⟨v0, vs0, d0, ds0, p0, q0, hargs, rfl, rfl, h0, r0⟩ := trodAll_cons hA
  obtain ⟨rfl, rfl, rfl⟩ := trodAll_nil r0
  obtain rfl : args = #[v0] := by cases args; simp_all
  obtain ⟨rfl, rfl⟩ := trodVars_none hV
  obtain ⟨a0, rfl, rfl, rfl, w0⟩ := open_int Try.underlying25 (hval 0 25 v0 rfl rfl) h0
  clear hA0 hval0
  simp only [List.append_nil] at hW'
  refine (fnExactPartsOfNumber_walk a0 w0 W).mono fun e W' ⟨he, hg⟩ => ?_
  subst he
  exact ⟨_, rfl, _, _, _, [], [], [], hW', trodAll_mk1 (shut_bool Try.underlying4 _), (trodAll_cons_mk (shut_int Try.underlying25 w0) trodAll_mk0), rfl, hg.frame _, fun h => by cases h⟩

theorem fnExactPartsOfNumber_over : Rows.fnExactPartsOfNumberRow.holds Try.pinned (OpenSpec.ofChange Rows.fnExactPartsOfNumberSpec) :=
  OpenClaim.holds_of_wide 5 Try.f5 rfl rfl rfl rfl rfl rfl rfl ⟨rfl, rfl, rfl, rfl, rfl⟩ rfl rfl rfl rfl rfl (by kernel_rfl) Try.func5 (by kernel_rfl)
    (of_decide_eq_true (by kernel_rfl)) (by unfold Func.isWrapper; first | (rw [if_pos (by decide +kernel)]; kernel_rfl) | (rw [if_neg (by decide +kernel)]; exact ⟨rfl, rfl⟩))
    (fun os started H enc _ => fnExactPartsOfNumber_lifted os started H enc)

theorem fnExactPartsOfNumber_holds : Rows.FnExactPartsOfNumberSaid := fnExactPartsOfNumber_over
#print axioms fnExactPartsOfNumber_holds
end Go.Proofs.Ytcdnmacnnbcfhab
