/-
  The law FnExactPrefix holds; no condition.
-/
import Derived.Test.YtbgdapdenbldmaaRows
import Derived.WalkKit
import Derived.ProofKit
import Derived.OpenShut
import Derived.ShutString
import Derived.ChangeOld
import Derived.Below
import Derived.Deep.RegionHeld3
import Derived.Test.YtbgdapdenbldmaaPreO20
import Derived.Test.YtbgdapdenbldmaaIPre20
namespace Go.Proofs.Ytbgdapdenbldmaa
open Go.ChangeShapes Go.WideShapes Go.ChangeAt Go.RowKit
set_option linter.unusedVariables false

theorem fnExactPrefix_own : ownKnob Try.prog.godebug = none := by kernel_rfl
theorem fnExactPrefix_laidOut : Go.laidOutB Try.prog = true := by kernel_rfl

set_option maxHeartbeats 4000000 in
set_option maxRecDepth 100000 in
theorem fnExactPrefix_walk (p : POut) (u : Value) (q : POut) (v : Value) (w : World) (g0 : ArgStrs w u p.log) (y0 : p.shown.size ≤ maxLen) (g1 : ArgStrs w v q.log) (y1 : q.shown.size ≤ maxLen) :
    Calls Try.prog 5 #[.agg #[.int .i64 p.fin, .string p.shown, u, .int .i64 p.fuel], .agg #[.int .i64 q.fin, .string q.shown, v, .int .i64 q.fuel]] w fun e w' => e = .returned (.bool true) ∧ Below w.heap.size w w' := by
  have cA := fun W (hb : Below w.heap.size w W) => szOutcome_any p u 1048576 W (g0.below hb) y0 (by omega) (by omega)
  have cB := fun (left : Int) W (hb : Below w.heap.size w W) (k0 : 0 ≤ left) (k1 : left ≤ 1048576) => szOutcome_any q v left W (g1.below hb) y1 k0 k1
  have dA := fun W (hb : Below w.heap.size w W) k1 => toOutcome_any p u W (g0.below hb) k1
  have dB := fun W (hb : Below w.heap.size w W) k1 => toOutcome_any q v W (g1.below hb) k1
  have sA : ∀ s ∈ p.log, s.size ≤ maxLen := g0.sizes
  have sB : ∀ s ∈ q.log, s.size ≤ maxLen := g1.sizes
  have cO := fun a b W h1 h2 => specPrefix_any p q a b W h1 h2
  have cI := fun a x c W h1 h2 h3 => iPrefix_any p q a x c W h1 h2 h3
  obtain ⟨r0', hr0⟩ : ∃ b, preO p q = b := ⟨_, rfl⟩
  simp only [hr0] at cO cI
  have hss : (r0' != r0') = false := by simp
  clear g0 g1 y0 y1 hr0
  obtain ⟨t0, t1, tz, tb⟩ := two_made19 w (.cells #[.int .i64 p.fin, .string p.shown, u, .int .i64 p.fuel] 41) (.cells #[.int .i64 q.fin, .string q.shown, v, .int .i64 q.fuel] 41)
  obtain ⟨W2, hW2⟩ : ∃ W, (w.alloc (.cells #[.int .i64 p.fin, .string p.shown, u, .int .i64 p.fuel] 41)).alloc (.cells #[.int .i64 q.fin, .string q.shown, v, .int .i64 q.fuel] 41) = W := ⟨_, rfl⟩
  rw [hW2] at t0 t1 tz tb
  have HW : Hid (_ = W2) := hW2
  clear hW2
  obtain ⟨G, hG⟩ : ∃ G, w.heap.size = G := ⟨_, rfl⟩
  have HG : Hid (w.heap.size = G) := hG
  rw [hG] at t0 t1 tz
  have KA := fun W (h : Below W2.heap.size W2 W) => four_box19 ((h.block G (by omega)).trans t0)
  have KB := fun W (h : Below W2.heap.size W2 W) => four_box19 ((h.block (G + 1) (by omega)).trans t1)
  clear t0 t1 hG
  go_enter Try.func5, Try.ntmps5
  go_upto_region 1 with fail
  rw [HW.out]
  try simp only [HG.out]
  clear HW
  obtain ⟨a0, a1, a2, a3⟩ := KA W2 (Below.refl _ _)
  go_wp2_with fail
  refine (cA _ tb).mono ?_
  rintro e w1 ⟨r, rfl, hr, b1⟩
  clear a0 a1 a2 a3
  rcases hr with rfl | ⟨r0, r1, r2, _⟩
  · clear cA cB dA dB cO cI KA KB sA sB
    go_wp2
    go_ret
    exact ⟨rfl, chain tb b1⟩
  have hneg : ¬ r < 0 := by omega
  obtain ⟨d0, d1, d2, d3⟩ := KB w1 b1
  have cB' := cB r w1 (chain tb b1) r0 (by omega)
  clear cA cB
  go_wp2_with fail
  refine cB'.mono ?_
  rintro e w2 ⟨z, rfl, hq, b2⟩
  have bb2 := chain b1 b2
  clear d0 d1 d2 d3 cB'
  rcases hq with rfl | ⟨q0, q1, q2, _⟩
  · clear dA dB cO cI KA KB sA sB
    go_wp2
    go_ret
    exact ⟨rfl, chain tb bb2⟩
  have hneg2 : ¬ z < 0 := by omega
  have eA := fun W (hb : Below W2.heap.size W2 W) => dA W (chain tb hb) (by omega)
  have eB := fun W (hb : Below W2.heap.size W2 W) => dB W (chain tb hb) (by omega)
  clear dA dB q2 r2 b1 b2
  have HK : Hid (∀ W, Below W2.heap.size W2 W → W.cell? ⟨G, 0, none⟩ = some (.int .i64 p.fin) ∧ W.cell? ⟨G, 1, none⟩ = some (.string p.shown) ∧ W.cell? ⟨G, 2, none⟩ = some (u) ∧ W.cell? ⟨G, 3, none⟩ = some (.int .i64 p.fuel) ∧ W.cell? ⟨G + 1, 0, none⟩ = some (.int .i64 q.fin) ∧ W.cell? ⟨G + 1, 1, none⟩ = some (.string q.shown) ∧ W.cell? ⟨G + 1, 2, none⟩ = some (v) ∧ W.cell? ⟨G + 1, 3, none⟩ = some (.int .i64 q.fuel)) := fun W h => ⟨(KA W h).1, (KA W h).2.1, (KA W h).2.2.1, (KA W h).2.2.2, (KB W h).1, (KB W h).2.1, (KB W h).2.2.1, (KB W h).2.2.2⟩
  have H2 : Hid (Below W2.heap.size W2 w2) := bb2
  go_upto_region 8 with fail
  obtain ⟨a0, a1, a2, a3, a4, a5, a6, a7⟩ := HK.out w2 bb2
  go_region_held3 (fun W => W.cell? ⟨G, 0, none⟩ = some (.int .i64 p.fin) ∧ W.cell? ⟨G, 1, none⟩ = some (.string p.shown) ∧ W.cell? ⟨G, 2, none⟩ = some (u) ∧ W.cell? ⟨G, 3, none⟩ = some (.int .i64 p.fuel) ∧ W.cell? ⟨G + 1, 0, none⟩ = some (.int .i64 q.fin) ∧ W.cell? ⟨G + 1, 1, none⟩ = some (.string q.shown) ∧ W.cell? ⟨G + 1, 2, none⟩ = some (v) ∧ W.cell? ⟨G + 1, 3, none⟩ = some (.int .i64 q.fuel)) (first | exact HK.out _ (by first | with_reducible exact H2.out | with_reducible exact H2.out.drew | with_reducible exact HM3.out | with_reducible exact HM3.out.drew | with_reducible exact HM4.out | with_reducible exact HM4.out.drew | with_reducible exact HM5.out) | go_keep) (first
    | (go_at_call 19; (with_reducible refine (eA _ (by first | with_reducible exact H2.out.drew | with_reducible exact H2.out)).mono ?_); rintro e w3 ⟨f3, rfl, i3, b3⟩; have HM3 : Hid (Below W2.heap.size W2 w3) := (by first | exact chain H2.out.drew b3 | exact chain H2.out b3); have HI3 : Hid (ArgStrs w3 f3 p.log) := ArgStrs.of_own i3 sA)
    | (go_at_call 19; (with_reducible refine (eB _ (by first | with_reducible exact HM3.out.drew | with_reducible exact HM3.out)).mono ?_); rintro e w4 ⟨f4, rfl, i4, b4⟩; have HM4 : Hid (Below W2.heap.size W2 w4) := (by first | exact chain HM3.out.drew b4 | exact chain HM3.out b4); have HI4 : Hid (ArgStrs w4 f4 q.log) := ArgStrs.of_own i4 sB; have HJ3 : Hid (ArgStrs w4 f3 p.log) := (by first | exact HI3.out.below b4 | exact (HI3.out.below (Below.refl _ _).drew).below b4))
    | (go_at_call 18; (with_reducible refine (cO f3 f4 _ (by first | with_reducible exact HJ3.out | exact HJ3.out.below (Below.refl _ _).drew) (by first | with_reducible exact HI4.out | exact HI4.out.below (Below.refl _ _).drew)).mono ?_); rintro e w5 ⟨rfl, b5⟩; have HM5 : Hid (Below W2.heap.size W2 w5) := (by first | exact chain HM4.out b5 | exact chain HM4.out.drew b5)))
  all_goals
    clear i3 b3 HM3 HI3 HJ3 i4 b4 HM4 HI4 b5 a0 a1 a2 a3 a4 a5 a6 a7 H2 bb2 cO
    have bb5 := HM5.out
    obtain ⟨a0, a1, a2, a3⟩ := KA w5 bb5
    go_wp2_with fail
    refine (eA w5 bb5).mono ?_
    rintro e w6 ⟨f6, rfl, i6, b6⟩
    obtain ⟨x6, y6, rfl⟩ := row_slice i6
    have bb6 := chain bb5 b6
    clear a0 a1 a2 a3 HM5 b6
    have al6 : Below w6.heap.size w6 (w6.alloc (.cells #[.int .i64 p.fin, .string p.shown, .slice x6 p.log.length y6, .int .i64 p.fuel] 44)) := (Below.refl _ _).alloc (Nat.le_refl _) _
    have hX := heap_alloc_new w6 (.cells #[.int .i64 p.fin, .string p.shown, .slice x6 p.log.length y6, .int .i64 p.fuel] 44)
    have bb7 := chain bb6 al6
    have i7 : OwnStrs _ _ _ _ := row_keep i6 al6
    have lt7 : w6.heap.size < (w6.alloc (.cells #[.int .i64 p.fin, .string p.shown, .slice x6 p.log.length y6, .int .i64 p.fuel] 44)).heap.size := by simp
    obtain ⟨X, hXe⟩ : ∃ X, w6.heap.size = X := ⟨_, rfl⟩
    obtain ⟨W7, hW7⟩ : ∃ W, w6.alloc (.cells #[.int .i64 p.fin, .string p.shown, .slice x6 p.log.length y6, .int .i64 p.fuel] 44) = W := ⟨_, rfl⟩
    have HXe : Hid (w6.heap.size = X) := hXe
    have HW7 : Hid (_ = W7) := hW7
    rw [hW7] at hX bb7 i7 lt7
    rw [hXe] at hX lt7
    clear hXe hW7 i6 al6 bb6
    go_upto_region 10 with fail
    rw [HW7.out]
    try simp only [HXe.out]
    clear HW7 HXe
    have KX := fun W (h : Below W7.heap.size W7 W) => four_box19 ((h.block X lt7).trans hX)
    obtain ⟨d0, d1, d2, d3⟩ := KB W7 bb7
    go_wp2_with fail
    refine (eB W7 bb7).mono ?_
    rintro e w8 ⟨f8, rfl, i8, b8⟩
    obtain ⟨x8, y8, rfl⟩ := row_slice i8
    have bb8 := chain bb7 b8
    clear d0 d1 d2 d3
    have al8 : Below w8.heap.size w8 (w8.alloc (.cells #[.int .i64 q.fin, .string q.shown, .slice x8 q.log.length y8, .int .i64 q.fuel] 44)) := (Below.refl _ _).alloc (Nat.le_refl _) _
    have hY := heap_alloc_new w8 (.cells #[.int .i64 q.fin, .string q.shown, .slice x8 q.log.length y8, .int .i64 q.fuel] 44)
    have bb9 := chain bb8 al8
    have b79 := chain b8 al8
    have i9 : OwnStrs _ _ _ _ := row_keep i8 al8
    have i79 : OwnStrs _ _ _ _ := row_keep i7 b79
    have lt9 : w8.heap.size < (w8.alloc (.cells #[.int .i64 q.fin, .string q.shown, .slice x8 q.log.length y8, .int .i64 q.fuel] 44)).heap.size := by simp
    obtain ⟨Y, hYe⟩ : ∃ Y, w8.heap.size = Y := ⟨_, rfl⟩
    obtain ⟨W9, hW9⟩ : ∃ W, w8.alloc (.cells #[.int .i64 q.fin, .string q.shown, .slice x8 q.log.length y8, .int .i64 q.fuel] 44) = W := ⟨_, rfl⟩
    have HYe : Hid (w8.heap.size = Y) := hYe
    have HW9 : Hid (_ = W9) := hW9
    rw [hW9] at hY bb9 b79 i9 i79 lt9
    rw [hYe] at hY lt9
    clear hYe hW9 i8 al8 bb8 b8 i7
    go_upto_region 11 with fail
    rw [HW9.out]
    try simp only [HYe.out]
    clear HW9 HYe
    have KY := fun W (h : Below W9.heap.size W9 W) => four_box19 ((h.block Y lt9).trans hY)
    obtain ⟨a0, a1, a2, a3⟩ := KX W9 b79
    obtain ⟨d0, d1, d2, d3⟩ := KY W9 (Below.refl _ _)
    go_wp2_with fail
    refine (cI _ x8 y8 W9 (ArgStrs.of_own i79 sA) (ArgStrs.of_own i9 sB) (own_cap20 i9)).mono ?_
    rintro e wA ⟨rfl, bA⟩
    obtain ⟨wB9, HX9⟩ : ∃ B, Hid (OwnStrs wA B (.slice x6 p.log.length y6) p.log) := ⟨_, row_keep i79 bA⟩
    obtain ⟨wB8, HY9⟩ : ∃ B, Hid (OwnStrs wA B (.slice x8 q.log.length y8) q.log) := ⟨_, row_keep i9 bA⟩
    clear a0 a1 a2 a3 d0 d1 d2 d3 cI i79 i9
    have HK2 : Hid (∀ W, Below wA.heap.size wA W → W.cell? ⟨X, 0, none⟩ = some (.int .i64 p.fin) ∧ W.cell? ⟨X, 1, none⟩ = some (.string p.shown) ∧ W.cell? ⟨X, 2, none⟩ = some (.slice x6 p.log.length y6) ∧ W.cell? ⟨X, 3, none⟩ = some (.int .i64 p.fuel) ∧ W.cell? ⟨G, 0, none⟩ = some (.int .i64 p.fin) ∧ W.cell? ⟨G, 1, none⟩ = some (.string p.shown) ∧ W.cell? ⟨G, 2, none⟩ = some (u) ∧ W.cell? ⟨G, 3, none⟩ = some (.int .i64 p.fuel)) := fun W h => ⟨(KX W (chain b79 (chain bA h))).1, (KX W (chain b79 (chain bA h))).2.1, (KX W (chain b79 (chain bA h))).2.2.1, (KX W (chain b79 (chain bA h))).2.2.2, (KA W (chain bb9 (chain bA h))).1, (KA W (chain bb9 (chain bA h))).2.1, (KA W (chain bb9 (chain bA h))).2.2.1, (KA W (chain bb9 (chain bA h))).2.2.2⟩
    have HK3 : Hid (∀ W, Below wA.heap.size wA W → W.cell? ⟨Y, 0, none⟩ = some (.int .i64 q.fin) ∧ W.cell? ⟨Y, 1, none⟩ = some (.string q.shown) ∧ W.cell? ⟨Y, 2, none⟩ = some (.slice x8 q.log.length y8) ∧ W.cell? ⟨Y, 3, none⟩ = some (.int .i64 q.fuel) ∧ W.cell? ⟨G + 1, 0, none⟩ = some (.int .i64 q.fin) ∧ W.cell? ⟨G + 1, 1, none⟩ = some (.string q.shown) ∧ W.cell? ⟨G + 1, 2, none⟩ = some (v) ∧ W.cell? ⟨G + 1, 3, none⟩ = some (.int .i64 q.fuel)) := fun W h => ⟨(KY W (chain bA h)).1, (KY W (chain bA h)).2.1, (KY W (chain bA h)).2.2.1, (KY W (chain bA h)).2.2.2, (KB W (chain bb9 (chain bA h))).1, (KB W (chain bb9 (chain bA h))).2.1, (KB W (chain bb9 (chain bA h))).2.2.1, (KB W (chain bb9 (chain bA h))).2.2.2⟩
    have HBB : Hid (∀ W, Below wA.heap.size wA W → Below W2.heap.size W2 W) := fun W h => chain bb9 (chain bA h)
    have HTB : Hid (∀ W, Below wA.heap.size wA W → Below w.heap.size w W) := fun W h => chain tb (chain bb9 (chain bA h))
    have cE := fun W (B0 : Nat) (f0 : Value) (h : Below wA.heap.size wA W) (i : OwnStrs W B0 f0 p.log) => eqOutcome_same wB9 B0 p (.slice x6 p.log.length y6) f0 W (row_keep HX9.out h) i
    have cF := fun W (B0 : Nat) (f0 : Value) (h : Below wA.heap.size wA W) (i : OwnStrs W B0 f0 q.log) => eqOutcome_same wB8 B0 q (.slice x8 q.log.length y8) f0 W (row_keep HY9.out h) i
    clear KA KB KX KY b79 bA bb9 bb7 bb5
    go_upto_region 14 with fail
    obtain ⟨a0, a1, a2, a3, a4, a5, a6, a7⟩ := HK2.out wA (Below.refl _ _)
    go_region_held3 (fun W => W.cell? ⟨X, 0, none⟩ = some (.int .i64 p.fin) ∧ W.cell? ⟨X, 1, none⟩ = some (.string p.shown) ∧ W.cell? ⟨X, 2, none⟩ = some (.slice x6 p.log.length y6) ∧ W.cell? ⟨X, 3, none⟩ = some (.int .i64 p.fuel) ∧ W.cell? ⟨G, 0, none⟩ = some (.int .i64 p.fin) ∧ W.cell? ⟨G, 1, none⟩ = some (.string p.shown) ∧ W.cell? ⟨G, 2, none⟩ = some (u) ∧ W.cell? ⟨G, 3, none⟩ = some (.int .i64 p.fuel)) (first | exact HK2.out _ (by first | with_reducible exact (Below.refl _ _).drew | with_reducible exact Below.refl _ _ | with_reducible exact HMB.out | with_reducible exact HMB.out.drew | with_reducible exact HMC.out) | go_keep) (first
      | (go_at_call 19; (with_reducible refine (eA _ (HBB.out _ (by first | with_reducible exact (Below.refl _ _).drew | with_reducible exact Below.refl _ _))).mono ?_); rintro e wB ⟨fB, rfl, iB, bB⟩; have HMB : Hid (Below wA.heap.size wA wB) := (by first | exact chain (Below.refl _ _).drew bB | exact bB); have HIB : Hid (∃ B, OwnStrs wB B fB p.log) := ⟨_, iB⟩)
      | (go_at_call 21; (obtain ⟨B0, hB0⟩ := HIB.out); (with_reducible refine (cE _ B0 fB (by first | with_reducible exact HMB.out | with_reducible exact HMB.out.drew) (by first | exact hB0 | exact row_keep hB0 (Below.refl _ _).drew)).mono ?_); rintro e wC ⟨rfl, bC⟩; have HMC : Hid (Below wA.heap.size wA wC) := (by first | exact chain HMB.out bC | exact chain HMB.out.drew bC)))
    all_goals
      clear a0 a1 a2 a3 a4 a5 a6 a7 iB bB HMB HIB bC cE eA HK2
      go_upto_region 16 with fail
      obtain ⟨a0, a1, a2, a3, a4, a5, a6, a7⟩ := HK3.out wC HMC.out
      go_region_held3 (fun W => W.cell? ⟨Y, 0, none⟩ = some (.int .i64 q.fin) ∧ W.cell? ⟨Y, 1, none⟩ = some (.string q.shown) ∧ W.cell? ⟨Y, 2, none⟩ = some (.slice x8 q.log.length y8) ∧ W.cell? ⟨Y, 3, none⟩ = some (.int .i64 q.fuel) ∧ W.cell? ⟨G + 1, 0, none⟩ = some (.int .i64 q.fin) ∧ W.cell? ⟨G + 1, 1, none⟩ = some (.string q.shown) ∧ W.cell? ⟨G + 1, 2, none⟩ = some (v) ∧ W.cell? ⟨G + 1, 3, none⟩ = some (.int .i64 q.fuel)) (first | exact HK3.out _ (by first | with_reducible exact HMC.out | with_reducible exact HMC.out.drew | with_reducible exact HMD.out | with_reducible exact HMD.out.drew | with_reducible exact HME.out) | go_keep) (first
        | (go_at_call 19; (with_reducible refine (eB _ (HBB.out _ (by first | with_reducible exact HMC.out.drew | with_reducible exact HMC.out))).mono ?_); rintro e wD ⟨fD, rfl, iD, bD⟩; have HMD : Hid (Below wA.heap.size wA wD) := (by first | exact chain HMC.out.drew bD | exact chain HMC.out bD); have HID : Hid (∃ B, OwnStrs wD B fD q.log) := ⟨_, iD⟩)
        | (go_at_call 21; (obtain ⟨B0, hB0⟩ := HID.out); (with_reducible refine (cF _ B0 fD (by first | with_reducible exact HMD.out | with_reducible exact HMD.out.drew) (by first | exact hB0 | exact row_keep hB0 (Below.refl _ _).drew)).mono ?_); rintro e wE ⟨rfl, bE⟩; have HME : Hid (Below wA.heap.size wA wE) := (by first | exact chain HMD.out bE | exact chain HMD.out.drew bE)))
      all_goals
        go_wp2
        go_ret
        exact ⟨rfl, by first | exact HTB.out _ HME.out | exact HTB.out _ HME.out.drew⟩

set_option maxRecDepth 100000 in
theorem fnExactPrefix_lifted (os : Os) (started : os.Started) (H : Type) (enc : TypeId × Value → H) :
    ReturnsInHanded {} Try.checked os 5 .any (Rows.fnExactPrefixSpec.pre6 enc Try.prog Try.f5 Rows.fnExactPrefixRow.domain false) (Rows.fnExactPrefixSpec.post enc Try.prog Try.f5 false true false false) := by
  refine returnsInHanded_of_change (C := Try.checked) fnExactPrefix_own started (by kernel_rfl) Try.func5
    (ChangeSpec.witness6 (enc := enc) (C := Try.checked) false ⟨#[], #[.agg #[.int .i64 0, .string ⟨#[]⟩, .slice none 0 0, .int .i64 0], .agg #[.int .i64 0, .string ⟨#[]⟩, .slice none 0 0, .int .i64 0]], []⟩ 8 (by kernel_rfl) (by kernel_rfl) (by kernel_rfl) (by kernel_rfl)) ?_
  intro W base args ds gs before hval0 hW hcnd _
  have hval : ∀ (j : Nat) t v, Try.f5.params[j]? = some t → args[j]? = some v → Value.okWide Try.prog W .any base t v := hval0
  have hW' := hW
  obtain ⟨p, q, hA0, hV, rfl, hfz, hnd⟩ := hW
  have hA : DataW.TrodAll enc Try.prog W 0 (fun _ => true) true Try.f5.params.toList args.toList ds p := hA0
  rw [Try.params5] at hA hval
  obtain ⟨v0, vs0, d0, ds0, p0, q0, hargs, rfl, rfl, h0, r0⟩ := trodAll_cons hA
  obtain ⟨v1, vs1, d1, ds1, p1, q1, rfl, rfl, rfl, h1, r1⟩ := trodAll_cons r0
  obtain ⟨rfl, rfl, rfl⟩ := trodAll_nil r1
  obtain rfl : args = #[v0, v1] := by cases args; simp_all
  obtain ⟨rfl, rfl⟩ := trodVars_none hV
  obtain ⟨cs0, rfl, _⟩ := okWide_struct Try.underlying41 (hval 0 41 v0 rfl rfl)
  obtain ⟨cs1, rfl, _⟩ := okWide_struct Try.underlying41 (hval 1 41 v1 rfl rfl)
  have k0 := h0
  have lt0 : ∀ x ∈ p0, x.block < W.heap.size := by obtain ⟨m, hm⟩ := k0; exact DataW.trod_lt m _ _ _ hm
  have k1 := h1
  have lt1 : ∀ x ∈ p1, x.block < W.heap.size := by obtain ⟨m, hm⟩ := k1; exact DataW.trod_lt m _ _ _ hm
  obtain ⟨m0, u0, e0, g0, y0⟩ : ∃ (p : POut) (v : Value), cs0.toList = [.int .i64 p.fin, .string p.shown, v, .int .i64 p.fuel] ∧ ArgStrs W v p.log ∧ p.shown.size ≤ maxLen := by
    obtain ⟨fuel, hf⟩ := h0
    exact open_out hf
  obtain rfl : cs0 = #[.int .i64 m0.fin, .string m0.shown, u0, .int .i64 m0.fuel] := by cases cs0; simp_all
  obtain ⟨m1, u1, e1, g1, y1⟩ : ∃ (p : POut) (v : Value), cs1.toList = [.int .i64 p.fin, .string p.shown, v, .int .i64 p.fuel] ∧ ArgStrs W v p.log ∧ p.shown.size ≤ maxLen := by
    obtain ⟨fuel, hf⟩ := h1
    exact open_out hf
  obtain rfl : cs1 = #[.int .i64 m1.fin, .string m1.shown, u1, .int .i64 m1.fuel] := by cases cs1; simp_all
  clear hA0 hval0
  refine (fnExactPrefix_walk m0 u0 m1 u1 W g0 y0 g1 y1).mono fun e W' ⟨he, bel⟩ => ?_
  subst he
  exact ⟨_, rfl, _, _, _, [], _, [], hW', trodAll_mk1 (shut_bool Try.underlying4 _), (trodAll_cons_mk (Below.trod fnExactPrefix_laidOut (by kernel_rfl) (of_decide_eq_true (by kernel_rfl)) k0 bel lt0) (trodAll_cons_mk (Below.trod fnExactPrefix_laidOut (by kernel_rfl) (of_decide_eq_true (by kernel_rfl)) k1 bel lt1) trodAll_mk0)), rfl, bel.frame _, fun h => by cases h⟩

theorem fnExactPrefix_over : Rows.fnExactPrefixRow.holds Try.pinned (OpenSpec.ofChange Rows.fnExactPrefixSpec) :=
  OpenClaim.holds_of_wide 5 Try.f5 rfl rfl rfl rfl rfl rfl rfl ⟨rfl, rfl, rfl, rfl, rfl⟩ rfl rfl rfl rfl rfl (by kernel_rfl) Try.func5 (by kernel_rfl)
    (of_decide_eq_true (by kernel_rfl)) (by unfold Func.isWrapper; first | (rw [if_pos (by decide +kernel)]; kernel_rfl) | (rw [if_neg (by decide +kernel)]; exact ⟨rfl, rfl⟩))
    (fun os started H enc _ => fnExactPrefix_lifted os started H enc)

theorem fnExactPrefix_holds : Rows.FnExactPrefixSaid := fnExactPrefix_over
#print axioms fnExactPrefix_holds
end Go.Proofs.Ytbgdapdenbldmaa
