/-
  At every two lists of nodes impl.SameTree answers as the specification's SameTree, and leaves both as they were; no condition.
-/
import Derived.Test.YtggjeepbgpfcpaaRows
import Derived.WalkKit
import Derived.ProofKit
import Derived.OpenShut
import Derived.ShutString
import Derived.ChangeOld
import Derived.Below
import Derived.Test.YtggjeepbgpfcpaaNode9A
import Derived.Test.YtggjeepbgpfcpaaNode9S
import Derived.Test.YtggjeepbgpfcpaaISameT
namespace Go.Proofs.Ytggjeepbgpfcpaa
open Go.ChangeShapes Go.WideShapes Go.ChangeAt Go.RowKit
set_option linter.unusedVariables false

theorem fnExactSameTree_own : ownKnob Try.prog.godebug = none := by kernel_rfl
theorem fnExactSameTree_laidOut : Go.laidOutB Try.prog = true := by kernel_rfl

theorem says_one {r s : Bool} {P : Prop} (h : Says r P) (k : Says s P) : r = s := by
  unfold Says at h k
  rw [Bool.eq_iff_iff, h, k]

set_option maxHeartbeats 4000000 in
set_option maxRecDepth 100000 in
theorem fnExactSameTree_walk (v0 v1 : Value) (ns ms : List PNode) (w : World) (h0 : ArgNodes w v0 ns) (h1 : ArgNodes w v1 ms) :
    Calls Try.prog 5 #[v0, v1] w fun e w' => e = .returned (.bool true) ∧ Below w.heap.size w w' := by
  have cA := fun W (hb : Below w.heap.size w W) => szNodeS_any v0 ns 1048576 W (h0.below hb) (by omega) (by omega)
  have cB := fun (left : Int) W (hb : Below w.heap.size w W) (k0 : 0 ≤ left) (k1 : left ≤ 1048576) => szNodeS_any v1 ms left W (h1.below hb) k0 k1
  have dA := fun W (hb : Below w.heap.size w W) k1 k2 => toNodeS_any v0 ns W (h0.below hb) k1 k2
  have dB := fun W (hb : Below w.heap.size w W) k1 k2 => toNodeS_any v1 ms W (h1.below hb) k1 k2
  clear h0 h1
  go_enter Try.func5, Try.ntmps5
  go_wp2_with fail
  refine (cA _ (Below.refl _ _)).mono ?_
  rintro e w1 ⟨r, rfl, hr, b1⟩
  rcases hr with rfl | ⟨r0, r1, r2, r3⟩
  · clear cA cB dA dB
    go_wp2
    go_ret
    exact ⟨rfl, b1⟩
  have hneg : ¬ r < 0 := by omega
  go_wp2_with fail
  refine (cB r _ b1 r0 (by omega)).mono ?_
  rintro e w2 ⟨q, rfl, hq, b2⟩
  have bb2 := chain b1 b2
  rcases hq with rfl | ⟨q0, q1, q2, q3⟩
  · clear cA cB dA dB
    go_wp2
    go_ret
    exact ⟨rfl, bb2⟩
  have hneg2 : ¬ q < 0 := by omega
  have eA := fun W (hb : Below w.heap.size w W) => dA W hb (by omega) (fun p hp => by have := r3 p hp; unfold szFew at this; omega)
  have eB := fun W (hb : Below w.heap.size w W) => dB W hb (by omega) (fun p hp => by have := q3 p hp; unfold szFew at this; omega)
  clear cA cB dA dB r3 q3 b1 b2
  go_wp2_with fail
  refine (eA _ bb2).mono ?_
  rintro e w3 ⟨x3, rfl, t3, b3⟩
  have bb3 := chain bb2 b3
  go_wp2_with fail
  refine (eB _ bb3).mono ?_
  rintro e w4 ⟨x4, rfl, t4, b4⟩
  have bb4 := chain bb3 b4
  have cS := specSameTree_any _ _ x3 x4 ns ms w4 (t3.below b4) t4
  clear t3 t4 b3 b4
  go_wp2_with fail
  refine cS.mono ?_
  rintro e w5 ⟨s1, rfl, hs1, b5⟩
  have bb5 := chain bb4 b5
  have HS1 : Hid (Says s1 (SameP ns ms)) := hs1
  clear cS hs1 b5
  go_wp2_with fail
  refine (eA _ bb5).mono ?_
  rintro e w6 ⟨x6, rfl, t6, b6⟩
  have bb6 := chain bb5 b6
  go_wp2_with fail
  refine (eB _ bb6).mono ?_
  rintro e w7 ⟨x7, rfl, t7, b7⟩
  have bb7 := chain bb6 b7
  have cI := iSameTree_any _ _ x6 x7 ns ms w7 (t6.below b7) t7
  have t6' := t6.below b7
  clear b6 b7 t6
  go_wp2_with fail
  refine cI.mono ?_
  rintro e w8 ⟨s2, rfl, hs2, b8⟩
  have bb8 := chain bb7 b8
  have es := says_one hs2 HS1.out
  subst es
  have t6b := t6'.below b8
  have t7b := t7.below b8
  clear cI hs2 HS1 b8 t6' t7
  have hss : (s2 != s2) = false := by simp
  go_wp2_with fail
  refine (eA _ bb8).mono ?_
  rintro e w9 ⟨x9, rfl, t9, b9⟩
  have bb9 := chain bb8 b9
  have cE := eqNodeS_same _ _ x6 x9 ns w9 (t6b.below b9) t9
  have t7c := t7b.below b9
  clear t6b t9 t7b b9
  go_wp2_with fail
  refine cE.mono ?_
  rintro e wA ⟨rfl, bA⟩
  have bbA := chain bb9 bA
  have t7d := t7c.below bA
  clear cE t7c bA
  go_wp2_with fail
  refine (eB _ bbA).mono ?_
  rintro e wB ⟨xB, rfl, tB, bB⟩
  have bbB := chain bbA bB
  have cF := eqNodeS_same _ _ x7 xB ms wB (t7d.below bB) tB
  clear t7d tB bB
  go_wp2_with fail
  refine cF.mono ?_
  rintro e wC ⟨rfl, bC⟩
  have bbC := chain bbB bC
  clear cF bC eA eB
  go_wp2
  go_ret
  exact ⟨rfl, bbC⟩

set_option maxRecDepth 100000 in
theorem fnExactSameTree_lifted (os : Os) (started : os.Started) (H : Type) (enc : TypeId × Value → H) :
    ReturnsInHanded {} Try.checked os 5 .any (Rows.fnExactSameTreeSpec.pre6 enc Try.prog Try.f5 Rows.fnExactSameTreeRow.domain false) (Rows.fnExactSameTreeSpec.post enc Try.prog Try.f5 false true false false) := by
  refine returnsInHanded_of_change (C := Try.checked) fnExactSameTree_own started (by kernel_rfl) Try.func5
    (ChangeSpec.witness6 (enc := enc) (C := Try.checked) false ⟨#[], #[.slice none 0 0, .slice none 0 0], []⟩ 8 (by kernel_rfl) (by kernel_rfl) (by kernel_rfl) (by kernel_rfl)) ?_
  intro W base args ds gs before hval0 hW hcnd _
  have hval : ∀ (j : Nat) t v, Try.f5.params[j]? = some t → args[j]? = some v → Value.okWide Try.prog W .any base t v := hval0
  have hW' := hW
  obtain ⟨p, q, hA0, hV, rfl, hfz, hnd⟩ := hW
  have hA : DataW.TrodAll enc Try.prog W 0 (fun _ => true) true Try.f5.params.toList args.toList ds p := hA0
  rw [Try.params5] at hA hval
  obtain ⟨v0, vs0, d0, ds0, p0, q0, hargs, rfl, rfl, h0, r0⟩ := trodAll_cons hA
  obtain ⟨v1, vs1, d1, ds1, p1, q1, rfl, rfl, rfl, h1, r1⟩ := trodAll_cons r0
  obtain ⟨rfl, rfl, rfl⟩ := trodAll_nil r1
  obtain rfl : args = #[v0, v1] := by cases args; simp_all
  obtain ⟨rfl, rfl⟩ := trodVars_none hV
  obtain ⟨a0, len0, cap0, rfl⟩ := okWide_slice Try.underlying22 (hval 0 22 v0 rfl rfl)
  obtain ⟨a1, len1, cap1, rfl⟩ := okWide_slice Try.underlying22 (hval 1 22 v1 rfl rfl)
  have k0 := h0
  have k1 := h1
  have lt0 : ∀ x ∈ p0, x.block < W.heap.size := by obtain ⟨m, hm⟩ := k0; exact DataW.trod_lt m _ _ _ hm
  have lt1 : ∀ x ∈ p1, x.block < W.heap.size := by obtain ⟨m, hm⟩ := k1; exact DataW.trod_lt m _ _ _ hm
  obtain ⟨ns, g0⟩ : ∃ ns, ArgNodes W (.slice a0 len0 cap0) ns := by
    obtain ⟨fuel, hf⟩ := h0
    exact open_arg_nodes hf
  obtain ⟨ms, g1⟩ : ∃ ms, ArgNodes W (.slice a1 len1 cap1) ms := by
    obtain ⟨fuel, hf⟩ := h1
    exact open_arg_nodes hf
  clear hA0 hval0
  refine (fnExactSameTree_walk _ _ ns ms W g0 g1).mono fun e W' ⟨he, bel⟩ => ?_
  subst he
  exact ⟨_, rfl, _, _, _, [], _, [], hW', trodAll_mk1 (shut_bool Try.underlying4 _), (trodAll_cons_mk (Below.trod fnExactSameTree_laidOut (by kernel_rfl) (of_decide_eq_true (by kernel_rfl)) k0 bel lt0) (trodAll_cons_mk (Below.trod fnExactSameTree_laidOut (by kernel_rfl) (of_decide_eq_true (by kernel_rfl)) k1 bel lt1) trodAll_mk0)), rfl, bel.frame _, fun h => by cases h⟩

theorem fnExactSameTree_over : Rows.fnExactSameTreeRow.holds Try.pinned (OpenSpec.ofChange Rows.fnExactSameTreeSpec) :=
  OpenClaim.holds_of_wide 5 Try.f5 rfl rfl rfl rfl rfl rfl rfl ⟨rfl, rfl, rfl, rfl, rfl⟩ rfl rfl rfl rfl rfl (by kernel_rfl) Try.func5 (by kernel_rfl)
    (of_decide_eq_true (by kernel_rfl)) (by unfold Func.isWrapper; first | (rw [if_pos (by decide +kernel)]; kernel_rfl) | (rw [if_neg (by decide +kernel)]; exact ⟨rfl, rfl⟩))
    (fun os started H enc _ => fnExactSameTree_lifted os started H enc)

theorem fnExactSameTree_holds : Rows.FnExactSameTreeSaid := fnExactSameTree_over
#print axioms fnExactSameTree_holds
end Go.Proofs.Ytggjeepbgpfcpaa
