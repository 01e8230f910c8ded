/-
  The law FnExactValueOk holds; no condition.
-/
import Derived.Test.YtlikjbklagolmaaRows
import Derived.WalkKit
import Derived.ProofKit
import Derived.OpenShut
import Derived.ShutString
import Derived.ChangeOld
import Derived.Below
import Derived.Deep.RegionHeld3
import Derived.Test.YtlikjbklagolmaaVal17B
import Derived.Test.YtlikjbklagolmaaVal17S
import Derived.Test.YtlikjbklagolmaaVal17T
import Derived.Test.YtlikjbklagolmaaIVal17
namespace Go.Proofs.Ytlikjbklagolmaa
open Go.ChangeShapes Go.WideShapes Go.ChangeAt Go.RowKit
set_option linter.unusedVariables false

theorem fnExactValueOk_own : ownKnob Try.prog.godebug = none := by kernel_rfl
theorem fnExactValueOk_laidOut : Go.laidOutB Try.prog = true := by kernel_rfl

set_option maxHeartbeats 4000000 in
set_option maxRecDepth 100000 in
theorem fnExactValueOk_walk (p : PVal) (w : World) (hp : valW p) :
    Calls Try.prog 3 #[.agg #[.int .i64 p.kind, .int .u64 (p.num : Int), .string p.text, .int .i64 p.ref]] w fun e w' => e = .returned (.bool true) ∧ Below w.heap.size w w' := by
  have cS := fun W => szValue_any p 1048576 W hp.2.2.1 (by omega) (by omega)
  have cT := fun W => toValue_any p W
  have cO := fun W => specValueOk_any p W hp
  have cI := fun W => iValueOk_any p W hp
  clear hp
  obtain ⟨b, hb⟩ : ∃ b, valOk p = b := ⟨_, rfl⟩
  simp only [hb] at cO cI
  clear hb
  have hss : (!(b == b)) = false := by simp
  have b0 : Below w.heap.size w (w.alloc (.cells #[.int .i64 p.kind, .int .u64 (p.num : Int), .string p.text, .int .i64 p.ref] 24)) := (Below.refl _ _).alloc (Nat.le_refl _) _
  have k0 := fun W (h : Below _ _ W) => new_cell (w := w) (cs := #[.int .i64 p.kind, .int .u64 (p.num : Int), .string p.text, .int .i64 p.ref]) (t := 24) h 0 _ rfl
  have k1 := fun W (h : Below _ _ W) => new_cell (w := w) (cs := #[.int .i64 p.kind, .int .u64 (p.num : Int), .string p.text, .int .i64 p.ref]) (t := 24) h 1 _ rfl
  have k2 := fun W (h : Below _ _ W) => new_cell (w := w) (cs := #[.int .i64 p.kind, .int .u64 (p.num : Int), .string p.text, .int .i64 p.ref]) (t := 24) h 2 _ rfl
  have k3 := fun W (h : Below _ _ W) => new_cell (w := w) (cs := #[.int .i64 p.kind, .int .u64 (p.num : Int), .string p.text, .int .i64 p.ref]) (t := 24) h 3 _ rfl
  go_enter Try.func3, Try.ntmps3
  go_wp2_with fail
  refine (cS _).mono ?_
  rintro e w1 ⟨r, rfl, hr, b1⟩
  rcases hr with rfl | ⟨r0, r1, r2⟩
  · clear cS cT cO cI k0 k1 k2 k3
    go_wp2
    go_ret
    exact ⟨rfl, chain b0 b1⟩
  have hneg : ¬ r < 0 := by omega
  clear r2
  have c0 := k0 w1 b1
  have c1 := k1 w1 b1
  have c2 := k2 w1 b1
  have c3 := k3 w1 b1
  go_wp2_with fail
  refine (cT _).mono ?_
  rintro e w2 ⟨rfl, b2⟩
  have bb2 := chain b1 b2
  clear c0 c1 c2 c3
  go_wp2_with fail
  refine (cO _).mono ?_
  rintro e w3 ⟨rfl, b3⟩
  have bb3 := chain bb2 b3
  have c0 := k0 w3 bb3
  have c1 := k1 w3 bb3
  have c2 := k2 w3 bb3
  have c3 := k3 w3 bb3
  go_wp2_with fail
  refine (cT _).mono ?_
  rintro e w4 ⟨rfl, b4⟩
  have bb4 := chain bb3 b4
  clear c0 c1 c2 c3
  go_wp2_with fail
  refine (cI _).mono ?_
  rintro e w5 ⟨rfl, b5⟩
  have bb5 := chain b0 (chain bb4 b5)
  clear k0 k1 k2 k3
  go_wp2
  go_ret
  exact ⟨rfl, bb5⟩

set_option maxRecDepth 100000 in
theorem fnExactValueOk_lifted (os : Os) (started : os.Started) (H : Type) (enc : TypeId × Value → H) :
    ReturnsInHanded {} Try.checked os 3 .any (Rows.fnExactValueOkSpec.pre6 enc Try.prog Try.f3 Rows.fnExactValueOkRow.domain false) (Rows.fnExactValueOkSpec.post enc Try.prog Try.f3 false true false false) := by
  refine returnsInHanded_of_change (C := Try.checked) fnExactValueOk_own started (by kernel_rfl) Try.func3
    (ChangeSpec.witness6 (enc := enc) (C := Try.checked) false ⟨#[], #[.agg #[.int .i64 0, .int .u64 0, .string ⟨#[]⟩, .int .i64 0]], []⟩ 8 (by kernel_rfl) (by kernel_rfl) (by kernel_rfl) (by kernel_rfl)) ?_
  intro W base args ds gs before hval0 hW hcnd _
  have hval : ∀ (j : Nat) t v, Try.f3.params[j]? = some t → args[j]? = some v → Value.okWide Try.prog W .any base t v := hval0
  have hW' := hW
  obtain ⟨p, q, hA0, hV, rfl, hfz, hnd⟩ := hW
  have hA : DataW.TrodAll enc Try.prog W 0 (fun _ => true) true Try.f3.params.toList args.toList ds p := hA0
  rw [Try.params3] at hA hval
  obtain ⟨v0, vs0, d0, ds0, p0, q0, hargs, rfl, rfl, h0, r0⟩ := trodAll_cons hA
  obtain ⟨rfl, rfl, rfl⟩ := trodAll_nil r0
  obtain rfl : args = #[v0] := by cases args; simp_all
  obtain ⟨rfl, rfl⟩ := trodVars_none hV
  obtain ⟨cs0, rfl, _⟩ := okWide_struct Try.underlying24 (hval 0 24 v0 rfl rfl)
  have k0 := h0
  have lt0 : ∀ x ∈ p0, x.block < W.heap.size := by obtain ⟨m, hm⟩ := k0; exact DataW.trod_lt m _ _ _ hm
  obtain ⟨m0, e0, y0⟩ : ∃ p : PVal, cs0.toList = valC p ∧ valW p := by
    obtain ⟨fuel, hf⟩ := h0
    exact open_val hf
  obtain rfl : cs0 = #[.int .i64 m0.kind, .int .u64 (m0.num : Int), .string m0.text, .int .i64 m0.ref] := by cases cs0; simp_all [valC]
  clear hA0 hval0
  refine (fnExactValueOk_walk m0 W y0).mono fun e W' ⟨he, bel⟩ => ?_
  subst he
  exact ⟨_, rfl, _, _, _, [], _, [], hW', trodAll_mk1 (shut_bool Try.underlying4 _), (trodAll_cons_mk (Below.trod fnExactValueOk_laidOut (by kernel_rfl) (of_decide_eq_true (by kernel_rfl)) k0 bel lt0) trodAll_mk0), rfl, bel.frame _, fun h => by cases h⟩

theorem fnExactValueOk_over : Rows.fnExactValueOkRow.holds Try.pinned (OpenSpec.ofChange Rows.fnExactValueOkSpec) :=
  OpenClaim.holds_of_wide 3 Try.f3 rfl rfl rfl rfl rfl rfl rfl ⟨rfl, rfl, rfl, rfl, rfl⟩ rfl rfl rfl rfl rfl (by kernel_rfl) Try.func3 (by kernel_rfl)
    (of_decide_eq_true (by kernel_rfl)) (by unfold Func.isWrapper; first | (rw [if_pos (by decide +kernel)]; kernel_rfl) | (rw [if_neg (by decide +kernel)]; exact ⟨rfl, rfl⟩))
    (fun os started H enc _ => fnExactValueOk_lifted os started H enc)

theorem fnExactValueOk_holds : Rows.FnExactValueOkSaid := fnExactValueOk_over
#print axioms fnExactValueOk_holds
end Go.Proofs.Ytlikjbklagolmaa
