/-
  At every text impl.ReadImage answers as the specification's ReadImage, the image and whether there is one; its image owns its memory; no condition.
-/
import Derived.Test.YtedhfdgcofboeaaRows
import Derived.WalkKit
import Derived.ProofKit
import Derived.OpenShut
import Derived.ShutString
import Derived.ChangeOld
import Derived.Below
import Derived.Test.YtedhfdgcofboeaaPai
import Derived.Test.YtedhfdgcofboeaaPat
import Derived.Test.YtedhfdgcofboeaaPau
namespace Go.Proofs.Ytedhfdgcofboeaa
open Go.ChangeShapes Go.WideShapes Go.ChangeAt Go.RowKit
open Go.ChangeMaps (open_string shut_string)
set_option linter.unusedVariables false

theorem fnExactReadImage_own : ownKnob Try.prog.godebug = none := by kernel_rfl

set_option maxHeartbeats 4000000 in
set_option maxRecDepth 100000 in
theorem fnExactReadImage_walk (a0 : ByteArray) (w0 : a0.size ≤ maxLen) (w : World) :
    Calls Try.prog 3 #[.string a0] w fun e w' => e = .returned (.bool true) ∧ Below w.heap.size w w' := by
  unfold maxLen at w0
  by_cases hbig : 1048576 < a0.size
  · go_enter Try.func3, Try.ntmps3
    go_wp2
    go_ret
    exact ⟨rfl, Below.refl _ _⟩
  have hsm : a0.size ≤ 1048576 := by omega
  have cS := fun W => specReadImage_any a0 W hsm
  have cI := fun W => iReadImage_any a0 W hsm
  obtain ⟨b, hb⟩ : ∃ b, rdB a0 = b := ⟨_, rfl⟩
  simp only [hb] at cS cI
  have hss : (!(b == b)) = false := by simp
  clear hb
  go_enter Try.func3, Try.ntmps3
  go_wp2_with fail
  refine (cS _).mono ?_
  rintro e w1 ⟨f1, k1, rfl, hI1, hb1⟩
  clear cS
  obtain ⟨x1, c1, rfl⟩ := hI1.1.slice
  obtain ⟨x2, c2, rfl⟩ := row_slice hI1.2
  obtain ⟨p, hp⟩ : ∃ p, rdP a0 = p := ⟨_, rfl⟩
  have HFW : Hid (∀ (w : World) (B : Nat) (fv cv : Value) (fs : List FSh), ImgOwn w B fv cv p fs → Few fs 1 ∧ p.consts.length ≤ 40) := fun w B fv cv fs h => by
    rw [← hp] at h ⊢
    exact few_own h
  simp only [hp] at cI
  rw [hp] at hI1 ⊢
  clear hp
  obtain ⟨n1, e1⟩ : ∃ n, p.funcs.length = n := ⟨_, rfl⟩
  obtain ⟨n2, e2⟩ : ∃ n, p.consts.length = n := ⟨_, rfl⟩
  rw [e1, e2] at hI1 ⊢
  have E1 : Hid (p.funcs.length = n1) := e1
  have E2 : Hid (p.consts.length = n2) := e2
  clear e1 e2
  have HA1 : Hid (ArgImg w1 (.slice x1 n1 c1) (.slice x2 n2 c2) p) := hI1.arg
  have ba : Below w1.heap.size w1 (w1.alloc (.cells #[.slice x1 n1 c1, .slice x2 n2 c2] 25)) := (Below.refl _ _).alloc (Nat.le_refl _) _
  have hA := heap_alloc_new w1 (.cells #[.slice x1 n1 c1, .slice x2 n2 c2] 25)
  have hltA : w1.heap.size < (w1.alloc (.cells #[.slice x1 n1 c1, .slice x2 n2 c2] 25)).heap.size := by simp
  obtain ⟨W1, hW1⟩ : ∃ W, w1.alloc (.cells #[.slice x1 n1 c1, .slice x2 n2 c2] 25) = W := ⟨_, rfl⟩
  rw [hW1] at ba hA hltA
  have HW1 : Hid (w1.alloc (.cells #[.slice x1 n1 c1, .slice x2 n2 c2] 25) = W1) := hW1
  have bw1 := chain hb1 ba
  clear hW1 hI1 hb1
  go_upto_region 4 with fail
  rw [HW1.out]
  clear HW1
  go_wp2_with fail
  refine (cI _).mono ?_
  rintro e w2 ⟨f2, k2, fs, rfl, hO2, hb2⟩
  obtain ⟨x3, c3, hf2⟩ := hO2.isIn.1.slice
  obtain ⟨x4, c4, hk2⟩ := row_slice hO2.2.2.1
  rw [E1.out] at hf2
  rw [E2.out] at hk2
  subst hf2 hk2
  have HO2 : Hid (ImgOwn w2 W1.heap.size (.slice x3 n1 c3) (.slice x4 n2 c4) p fs) := hO2
  obtain ⟨hfew, hcon⟩ := HFW.out _ _ _ _ _ hO2
  have bg : Below w2.heap.size w2 (w2.alloc (.cells #[.slice x3 n1 c3, .slice x4 n2 c4] 25)) := (Below.refl _ _).alloc (Nat.le_refl _) _
  have hG := heap_alloc_new w2 (.cells #[.slice x3 n1 c3, .slice x4 n2 c4] 25)
  have hA2 := (bg.block _ (Nat.lt_of_lt_of_le hltA hb2.size)).trans ((hb2.block _ hltA).trans hA)
  obtain ⟨W2, hW2⟩ : ∃ W, w2.alloc (.cells #[.slice x3 n1 c3, .slice x4 n2 c4] 25) = W := ⟨_, rfl⟩
  rw [hW2] at bg hG hA2
  have HW2 : Hid (w2.alloc (.cells #[.slice x3 n1 c3, .slice x4 n2 c4] 25) = W2) := hW2
  have bw2 := chain hb2 bg
  have HE : Hid (∀ W f c, Below W1.heap.size W1 W → ArgImg W f c p → Calls Try.prog 6 #[.agg #[f, c], .agg #[.slice x1 n1 c1, .slice x2 n2 c2]] W fun e w' => e = .returned (.bool true) ∧ Below W.heap.size W w') := fun W f c hW hf => eqImage_same p _ _ _ _ W hf (HA1.out.below (chain ba hW))
  have cE := HE.out W2 _ _ bw2 (HO2.out.isIn.arg.below bg)
  obtain ⟨A, hAe⟩ : ∃ A, w1.heap.size = A := ⟨_, rfl⟩
  obtain ⟨G, hGe⟩ : ∃ G, w2.heap.size = G := ⟨_, rfl⟩
  have HAe : Hid (w1.heap.size = A) := hAe
  have HGe : Hid (w2.heap.size = G) := hGe
  rw [hAe] at hA hA2 hltA
  rw [hGe] at hG
  clear hW2 hO2 hAe hGe
  go_upto_region 5 with fail
  rw [HW2.out, HAe.out, HGe.out]
  clear HW2
  have a0' : W2.cell? ⟨A, 0, none⟩ = some (.slice x1 n1 c1) := box_at hA2 0 _ rfl
  have a1' : W2.cell? ⟨A, 1, none⟩ = some (.slice x2 n2 c2) := box_at hA2 1 _ rfl
  have g0' : W2.cell? ⟨G, 0, none⟩ = some (.slice x3 n1 c3) := box_at hG 0 _ rfl
  have g1' : W2.cell? ⟨G, 1, none⟩ = some (.slice x4 n2 c4) := box_at hG 1 _ rfl
  go_wp2_with fail
  refine cE.mono ?_
  rintro e w3 ⟨rfl, hb3⟩
  have hG3 := (hb3.block _ (box_lt hG)).trans hG
  have bw3 := chain bw2 hb3
  have hO3 := HO2.out.below (chain bg hb3)
  have cM := markImage_f W1.heap.size _ _ p fs 1 w3 hO3 bw3.size hfew (by omega) (by rw [E2.out] at hcon ⊢; omega)
  rw [E2.out] at cM
  have g2' : w3.cell? ⟨G, 0, none⟩ = some (.slice x3 n1 c3) := box_at hG3 0 _ rfl
  have g3' : w3.cell? ⟨G, 1, none⟩ = some (.slice x4 n2 c4) := box_at hG3 1 _ rfl
  obtain ⟨V, hV⟩ : ∃ V, offK fs 1 fs.length + n2 * 3 = V := ⟨_, rfl⟩
  rw [hV] at cM
  clear a0' a1' g0' g1' cE hO3
  go_wp2_with fail
  refine cM.mono ?_
  rintro e w4 ⟨rfl, hM4, hb4, hX4⟩
  have hG4 := hX4 _ _ _ _ (by decide) (by decide) (by decide) (by decide) (by decide) hG3
  have bw4 : Below W1.heap.size W1 w4 := bw3.trans hb4
  have HH : Hid (∀ W, Below w4.heap.size w4 W → Calls Try.prog 8 #[.agg #[.slice x3 n1 c3, .slice x4 n2 c4], .int .i64 1] W fun e w' => e = .returned (.int .i64 (V : Int)) ∧ Below W.heap.size W w') := fun W hW => by
    have hc := heldImage_f _ _ fs n2 1 W (hM4.below hW) hfew (by omega) (by rw [E2.out] at hcon; omega)
    rw [hV] at hc
    exact hc
  have cH := HH.out w4 (Below.refl _ _)
  have g4' : w4.cell? ⟨G, 0, none⟩ = some (.slice x3 n1 c3) := box_at hG4 0 _ rfl
  have g5' : w4.cell? ⟨G, 1, none⟩ = some (.slice x4 n2 c4) := box_at hG4 1 _ rfl
  have nV : ¬ (V : Int) < 0 := by omega
  clear g2' g3' cM hV hM4
  go_wp2_with fail
  refine cH.mono ?_
  rintro e w5 ⟨rfl, hb5⟩
  have bw5 := bw4.trans (hb5.mono bw4.size)
  clear g4' g5' cH
  go_wp2_with fail
  refine (cI _).mono ?_
  rintro e w6 ⟨f6, k6, fs6, rfl, hO6, hb6⟩
  obtain ⟨x5, c5, hf6⟩ := hO6.isIn.1.slice
  obtain ⟨x6, c6, hk6⟩ := row_slice hO6.2.2.1
  rw [E1.out] at hf6
  rw [E2.out] at hk6
  subst hf6 hk6
  have HI6 : Hid (ArgImg w6 (.slice x5 n1 c5) (.slice x6 n2 c6) p) := hO6.isIn.arg
  have bh : Below w6.heap.size w6 (w6.alloc (.cells #[.slice x5 n1 c5, .slice x6 n2 c6] 25)) := (Below.refl _ _).alloc (Nat.le_refl _) _
  have hH := heap_alloc_new w6 (.cells #[.slice x5 n1 c5, .slice x6 n2 c6] 25)
  have b46 := chain hb5 hb6
  obtain ⟨W6, hW6⟩ : ∃ W, w6.alloc (.cells #[.slice x5 n1 c5, .slice x6 n2 c6] 25) = W := ⟨_, rfl⟩
  rw [hW6] at bh hH
  have HW6 : Hid (w6.alloc (.cells #[.slice x5 n1 c5, .slice x6 n2 c6] 25) = W6) := hW6
  have b4W := chain b46 bh
  have bW6 : Below W1.heap.size W1 W6 := bw4.trans (b4W.mono bw4.size)
  have hA6 := (bW6.block _ hltA).trans hA
  have hG6 := (b4W.block _ (box_lt hG4)).trans hG4
  have cE6 := HE.out W6 _ _ bW6 (HI6.out.below bh)
  obtain ⟨Y, hYe⟩ : ∃ Y, w6.heap.size = Y := ⟨_, rfl⟩
  have HYe : Hid (w6.heap.size = Y) := hYe
  rw [hYe] at hH
  clear hW6 hO6 hYe cI
  go_upto_region 16 with fail
  rw [HW6.out, HYe.out]
  clear HW6
  have a0' : W6.cell? ⟨A, 0, none⟩ = some (.slice x1 n1 c1) := box_at hA6 0 _ rfl
  have a1' : W6.cell? ⟨A, 1, none⟩ = some (.slice x2 n2 c2) := box_at hA6 1 _ rfl
  have g0' : W6.cell? ⟨Y, 0, none⟩ = some (.slice x5 n1 c5) := box_at hH 0 _ rfl
  have g1' : W6.cell? ⟨Y, 1, none⟩ = some (.slice x6 n2 c6) := box_at hH 1 _ rfl
  go_wp2_with fail
  refine cE6.mono ?_
  rintro e w7 ⟨rfl, hb7⟩
  have b47 := chain b4W hb7
  have hG7 := (hb7.block _ (box_lt hG6)).trans hG6
  have g2' : w7.cell? ⟨G, 0, none⟩ = some (.slice x3 n1 c3) := box_at hG7 0 _ rfl
  have g3' : w7.cell? ⟨G, 1, none⟩ = some (.slice x4 n2 c4) := box_at hG7 1 _ rfl
  have cH7 := HH.out w7 b47
  clear a0' a1' g0' g1' cE6
  go_wp2_with fail
  refine cH7.mono ?_
  rintro e w8 ⟨rfl, hb8⟩
  have b48 := chain b47 hb8
  have HB8 : Hid (Below w.heap.size w w8) := (bw1.trans (bw4.mono bw1.size)).trans (b48.mono (Nat.le_trans bw1.size bw4.size))
  clear g2' g3' cH7
  go_wp2
  go_ret
  exact ⟨rfl, HB8.out⟩

set_option maxRecDepth 100000 in
theorem fnExactReadImage_lifted (os : Os) (started : os.Started) (H : Type) (enc : TypeId × Value → H) :
    ReturnsInHanded {} Try.checked os 3 .any (Rows.fnExactReadImageSpec.pre6 enc Try.prog Try.f3 Rows.fnExactReadImageRow.domain false) (Rows.fnExactReadImageSpec.post enc Try.prog Try.f3 false true false false) := by
  refine returnsInHanded_of_change (C := Try.checked) fnExactReadImage_own started (by kernel_rfl) Try.func3
    (ChangeSpec.witness6 (enc := enc) (C := Try.checked) false ⟨#[], #[.string ByteArray.empty], []⟩ 8 (by kernel_rfl) (by kernel_rfl) (by kernel_rfl) (by kernel_rfl)) ?_
  intro W base args ds gs before hval0 hW hcnd _
  have hval : ∀ (j : Nat) t v, Try.f3.params[j]? = some t → args[j]? = some v → Value.okWide Try.prog W .any base t v := hval0
  have hW' := hW
  obtain ⟨p, q, hA0, hV, rfl, hfz, hnd⟩ := hW
  have hA : DataW.TrodAll enc Try.prog W 0 (fun _ => true) true Try.f3.params.toList args.toList ds p := hA0
  rw [Try.params3] at hA hval
  obtain ⟨v0, vs0, d0, ds0, p0, q0, hargs, rfl, rfl, h0, r0⟩ := trodAll_cons hA
  obtain ⟨rfl, rfl, rfl⟩ := trodAll_nil r0
  obtain rfl : args = #[v0] := by cases args; simp_all
  obtain ⟨rfl, rfl⟩ := trodVars_none hV
  obtain ⟨a0, rfl, rfl, rfl, w0⟩ := open_string Try.underlying9 (hval 0 9 v0 rfl rfl) h0
  clear hA0 hval0
  simp only [List.append_nil] at hW'
  refine (fnExactReadImage_walk a0 w0 W).mono fun e W' ⟨he, hg⟩ => ?_
  subst he
  exact ⟨_, rfl, _, _, _, [], [], [], hW', trodAll_mk1 (shut_bool Try.underlying4 _), (trodAll_cons_mk (shut_string Try.underlying9 w0) trodAll_mk0), rfl, hg.frame _, fun h => by cases h⟩

theorem fnExactReadImage_over : Rows.fnExactReadImageRow.holds Try.pinned (OpenSpec.ofChange Rows.fnExactReadImageSpec) :=
  OpenClaim.holds_of_wide 3 Try.f3 rfl rfl rfl rfl rfl rfl rfl ⟨rfl, rfl, rfl, rfl, rfl⟩ rfl rfl rfl rfl rfl (by kernel_rfl) Try.func3 (by kernel_rfl)
    (of_decide_eq_true (by kernel_rfl)) (by unfold Func.isWrapper; first | (rw [if_pos (by decide +kernel)]; kernel_rfl) | (rw [if_neg (by decide +kernel)]; exact ⟨rfl, rfl⟩))
    (fun os started H enc _ => fnExactReadImage_lifted os started H enc)

theorem fnExactReadImage_holds : Rows.FnExactReadImageSaid := fnExactReadImage_over
#print axioms fnExactReadImage_holds
end Go.Proofs.Ytedhfdgcofboeaa
