/-
  The law FnExactSameValue holds; no condition.
-/
import Derived.Test.YtlikjbklagolmaaRows
import Derived.WalkKit
import Derived.ProofKit
import Derived.OpenShut
import Derived.ShutString
import Derived.ChangeOld
import Derived.Below
import Derived.Deep.RegionHeld3
import Derived.Deep.QuietTactic
import Derived.BigQuiet
import Derived.Lib.QuietBelow
import Derived.Test.YtlikjbklagolmaaVal17B
import Derived.Test.YtlikjbklagolmaaVal17O
import Derived.Test.YtlikjbklagolmaaIVal17
namespace Go.Proofs.Ytlikjbklagolmaa
open Go.ChangeShapes Go.WideShapes Go.ChangeAt Go.RowKit Go.Sort
set_option linter.unusedVariables false

theorem fnExactSameValue_own : ownKnob Try.prog.godebug = none := by kernel_rfl
theorem fnExactSameValue_laidOut : Go.laidOutB Try.prog = true := by kernel_rfl

set_option maxHeartbeats 4000000 in
set_option maxRecDepth 100000 in
theorem fnExactSameValue_walk (a b : PVal) (w : World) (ha : valW a) (hb : valW b) :
    Calls Try.prog 4 #[.agg #[.int .i64 a.kind, .int .u64 (a.num : Int), .string a.text, .int .i64 a.ref], .agg #[.int .i64 b.kind, .int .u64 (b.num : Int), .string b.text, .int .i64 b.ref]] w fun e w' => e = .returned (.bool true) ∧ Below w.heap.size w w' := by
  have cA := fun W => szValue_any a 1048576 W ha.2.2.1 (by omega) (by omega)
  have cB := fun (left : Int) W (k0 : 0 ≤ left) (k1 : left ≤ 1048576) => szValue_any b left W hb.2.2.1 k0 k1
  have cO := fun W => specSameValue_any a b W ha hb
  have cI := fun W => iSameValue_any a b W ha hb
  clear ha hb
  obtain ⟨v, hv⟩ : ∃ v, valSame a b = v := ⟨_, rfl⟩
  simp only [hv] at cO cI
  clear hv
  have hss : (!(v == v)) = false := by simp
  obtain ⟨t0, t1, tz, tb⟩ := two_made w (.cells #[.int .i64 a.kind, .int .u64 (a.num : Int), .string a.text, .int .i64 a.ref] 24) (.cells #[.int .i64 b.kind, .int .u64 (b.num : Int), .string b.text, .int .i64 b.ref] 24)
  obtain ⟨W2, hW2⟩ : ∃ W, ((w.alloc (.cells #[.int .i64 a.kind, .int .u64 (a.num : Int), .string a.text, .int .i64 a.ref] 24)).alloc (.cells #[.int .i64 b.kind, .int .u64 (b.num : Int), .string b.text, .int .i64 b.ref] 24)) = W := ⟨_, rfl⟩
  rw [hW2] at t0 t1 tz tb
  have HW : Hid (((w.alloc (.cells #[.int .i64 a.kind, .int .u64 (a.num : Int), .string a.text, .int .i64 a.ref] 24)).alloc (.cells #[.int .i64 b.kind, .int .u64 (b.num : Int), .string b.text, .int .i64 b.ref] 24)) = W2) := hW2
  clear hW2
  obtain ⟨G, hG⟩ : ∃ G, w.heap.size = G := ⟨_, rfl⟩
  rw [hG] at t0 t1 tz
  have KA := fun W (h : Below W2.heap.size W2 W) => four_cells ((h.block G (by omega)).trans t0)
  have KB := fun W (h : Below W2.heap.size W2 W) => four_cells ((h.block (G + 1) (by omega)).trans t1)
  clear t0 t1
  go_enter Try.func4, Try.ntmps4
  go_upto_region 1 with fail
  rw [HW.out]
  clear HW
  obtain ⟨a0, a1, a2, a3⟩ := KA W2 (Below.refl _ _)
  go_wp2_with fail
  refine (cA _).mono ?_
  rintro e w1 ⟨r, rfl, hr, b1⟩
  clear a0 a1 a2 a3
  rcases hr with rfl | ⟨r0, r1, r2⟩
  · clear cA cB cO cI KA KB
    go_wp2
    go_ret
    exact ⟨rfl, chain tb b1⟩
  have hneg : ¬ r < 0 := by omega
  obtain ⟨d0, d1, d2, d3⟩ := KB w1 b1
  have cB' := cB r w1 r0 (by omega)
  clear r2 cA cB
  go_wp2_with fail
  refine cB'.mono ?_
  rintro e w2 ⟨q, rfl, hq, b2⟩
  have bb2 := chain b1 b2
  clear d0 d1 d2 d3 cB'
  rcases hq with rfl | ⟨q0, q1, q2⟩
  · clear cO cI KA KB
    go_wp2
    go_ret
    exact ⟨rfl, chain tb bb2⟩
  have hneg2 : ¬ q < 0 := by omega
  clear q2
  have tA := fun W d os => Calls.regrown_of (w := W) (d := d) (os := os) (toValue_any a (grow (redrawn W d) os))
  have tB := fun W d os => Calls.regrown_of (w := W) (d := d) (os := os) (toValue_any b (grow (redrawn W d) os))
  have sO := fun W d os => Calls.regrown_of (w := W) (d := d) (os := os) (cO (grow (redrawn W d) os))
  have sI := fun W d os => Calls.regrown_of (w := W) (d := d) (os := os) (cI (grow (redrawn W d) os))
  clear cO cI
  obtain ⟨a0', a1', a2', a3'⟩ := KA w2 bb2
  obtain ⟨d0', d1', d2', d3'⟩ := KB w2 bb2
  have a0 := cell_regrown a0'
  have a1 := cell_regrown a1'
  have a2 := cell_regrown a2'
  have a3 := cell_regrown a3'
  have d0 := cell_regrown d0'
  have d1 := cell_regrown d1'
  have d2 := cell_regrown d2'
  have d3 := cell_regrown d3'
  clear a0' a1' a2' a3' d0' d1' d2' d3'
  go_upto_region 8 with fail
  refine wp_region_quiet_below (by kernel_rfl) (by kernel_rfl) ?_
  repeat (first | go_big_quiet_step (first | with_reducible exact tA w2 _ _ | with_reducible exact tB w2 _ _ | with_reducible exact sO w2 _ _) | quiet_step (first | with_reducible exact tA w2 _ _ | with_reducible exact tB w2 _ _ | with_reducible exact sO w2 _ _))
  refine wpQuiet_nil ?_
  intro _ hw'
  obtain ⟨⟨dq0, osq0⟩, hw''⟩ := hw'
  subst hw''
  have bb3 := chain bb2 (below_regrown w2 dq0 osq0)
  clear a0 a1 a2 a3 d0 d1 d2 d3
  obtain ⟨W3, hW3⟩ : ∃ W, grow (redrawn w2 dq0) osq0 = W := ⟨_, rfl⟩
  simp only [hW3] at bb3 ⊢
  clear hW3
  obtain ⟨a0', a1', a2', a3'⟩ := KA W3 bb3
  obtain ⟨d0', d1', d2', d3'⟩ := KB W3 bb3
  have a0 := cell_regrown a0'
  have a1 := cell_regrown a1'
  have a2 := cell_regrown a2'
  have a3 := cell_regrown a3'
  have d0 := cell_regrown d0'
  have d1 := cell_regrown d1'
  have d2 := cell_regrown d2'
  have d3 := cell_regrown d3'
  clear a0' a1' a2' a3' d0' d1' d2' d3'
  go_upto_region 9 with fail
  refine wp_region_quiet_below (by kernel_rfl) (by kernel_rfl) ?_
  repeat (first | go_big_quiet_step (first | with_reducible exact tA W3 _ _ | with_reducible exact tB W3 _ _ | with_reducible exact sI W3 _ _) | quiet_step (first | with_reducible exact tA W3 _ _ | with_reducible exact tB W3 _ _ | with_reducible exact sI W3 _ _))
  refine wpQuiet_nil ?_
  intro _ hw'
  obtain ⟨⟨dq1, osq1⟩, hw''⟩ := hw'
  subst hw''
  have bb4 := chain tb (chain bb3 (below_regrown W3 dq1 osq1))
  clear KA KB
  go_wp2
  go_ret
  exact ⟨rfl, bb4⟩

set_option maxRecDepth 100000 in
theorem fnExactSameValue_lifted (os : Os) (started : os.Started) (H : Type) (enc : TypeId × Value → H) :
    ReturnsInHanded {} Try.checked os 4 .any (Rows.fnExactSameValueSpec.pre6 enc Try.prog Try.f4 Rows.fnExactSameValueRow.domain false) (Rows.fnExactSameValueSpec.post enc Try.prog Try.f4 false true false false) := by
  refine returnsInHanded_of_change (C := Try.checked) fnExactSameValue_own started (by kernel_rfl) Try.func4
    (ChangeSpec.witness6 (enc := enc) (C := Try.checked) false ⟨#[], #[.agg #[.int .i64 0, .int .u64 0, .string ⟨#[]⟩, .int .i64 0], .agg #[.int .i64 0, .int .u64 0, .string ⟨#[]⟩, .int .i64 0]], []⟩ 8 (by kernel_rfl) (by kernel_rfl) (by kernel_rfl) (by kernel_rfl)) ?_
  intro W base args ds gs before hval0 hW hcnd _
  have hval : ∀ (j : Nat) t v, Try.f4.params[j]? = some t → args[j]? = some v → Value.okWide Try.prog W .any base t v := hval0
  have hW' := hW
  obtain ⟨p, q, hA0, hV, rfl, hfz, hnd⟩ := hW
  have hA : DataW.TrodAll enc Try.prog W 0 (fun _ => true) true Try.f4.params.toList args.toList ds p := hA0
  rw [Try.params4] at hA hval
  obtain ⟨v0, vs0, d0, ds0, p0, q0, hargs, rfl, rfl, h0, r0⟩ := trodAll_cons hA
  obtain ⟨v1, vs1, d1, ds1, p1, q1, rfl, rfl, rfl, h1, r1⟩ := trodAll_cons r0
  obtain ⟨rfl, rfl, rfl⟩ := trodAll_nil r1
  obtain rfl : args = #[v0, v1] := by cases args; simp_all
  obtain ⟨rfl, rfl⟩ := trodVars_none hV
  obtain ⟨cs0, rfl, _⟩ := okWide_struct Try.underlying24 (hval 0 24 v0 rfl rfl)
  obtain ⟨cs1, rfl, _⟩ := okWide_struct Try.underlying24 (hval 1 24 v1 rfl rfl)
  have k0 := h0
  have lt0 : ∀ x ∈ p0, x.block < W.heap.size := by obtain ⟨m, hm⟩ := k0; exact DataW.trod_lt m _ _ _ hm
  have k1 := h1
  have lt1 : ∀ x ∈ p1, x.block < W.heap.size := by obtain ⟨m, hm⟩ := k1; exact DataW.trod_lt m _ _ _ hm
  obtain ⟨m0, e0, y0⟩ : ∃ p : PVal, cs0.toList = valC p ∧ valW p := by
    obtain ⟨fuel, hf⟩ := h0
    exact open_val hf
  obtain rfl : cs0 = #[.int .i64 m0.kind, .int .u64 (m0.num : Int), .string m0.text, .int .i64 m0.ref] := by cases cs0; simp_all [valC]
  obtain ⟨m1, e1, y1⟩ : ∃ p : PVal, cs1.toList = valC p ∧ valW p := by
    obtain ⟨fuel, hf⟩ := h1
    exact open_val hf
  obtain rfl : cs1 = #[.int .i64 m1.kind, .int .u64 (m1.num : Int), .string m1.text, .int .i64 m1.ref] := by cases cs1; simp_all [valC]
  clear hA0 hval0
  refine (fnExactSameValue_walk m0 m1 W y0 y1).mono fun e W' ⟨he, bel⟩ => ?_
  subst he
  exact ⟨_, rfl, _, _, _, [], _, [], hW', trodAll_mk1 (shut_bool Try.underlying4 _), (trodAll_cons_mk (Below.trod fnExactSameValue_laidOut (by kernel_rfl) (of_decide_eq_true (by kernel_rfl)) k0 bel lt0) (trodAll_cons_mk (Below.trod fnExactSameValue_laidOut (by kernel_rfl) (of_decide_eq_true (by kernel_rfl)) k1 bel lt1) trodAll_mk0)), rfl, bel.frame _, fun h => by cases h⟩

theorem fnExactSameValue_over : Rows.fnExactSameValueRow.holds Try.pinned (OpenSpec.ofChange Rows.fnExactSameValueSpec) :=
  OpenClaim.holds_of_wide 4 Try.f4 rfl rfl rfl rfl rfl rfl rfl ⟨rfl, rfl, rfl, rfl, rfl⟩ rfl rfl rfl rfl rfl (by kernel_rfl) Try.func4 (by kernel_rfl)
    (of_decide_eq_true (by kernel_rfl)) (by unfold Func.isWrapper; first | (rw [if_pos (by decide +kernel)]; kernel_rfl) | (rw [if_neg (by decide +kernel)]; exact ⟨rfl, rfl⟩))
    (fun os started H enc _ => fnExactSameValue_lifted os started H enc)

theorem fnExactSameValue_holds : Rows.FnExactSameValueSaid := fnExactSameValue_over
#print axioms fnExactSameValue_holds
end Go.Proofs.Ytlikjbklagolmaa
