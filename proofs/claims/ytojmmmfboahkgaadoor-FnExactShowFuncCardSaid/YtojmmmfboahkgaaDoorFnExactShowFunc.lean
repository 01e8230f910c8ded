/-
  The law FnExactShowFunc holds; no condition.
-/
import Derived.Test.YtojmmmfboahkgaaDoorRows
import Derived.WalkKit
import Derived.ProofKit
import Derived.OpenShut
import Derived.ShutString
import Derived.ChangeOld
import Derived.Below
import Derived.OpenVars
import Derived.ChangeVars
import Derived.LaidMore
import Derived.LaidLaws
import Derived.Stop.Joined
import Derived.SevenTiedAt
import Derived.Test.YtojmmmfboahkgaaDoorTie
import Derived.Test.YtojmmmfboahkgaaDoorCards
import Derived.Test.YtojmmmfboahkgaaDoorTab
import Derived.Test.YtojmmmfboahkgaaDoorWords20
import Derived.Deep.RegionHeld3
import Derived.Test.YtojmmmfboahkgaaDoorImg13A
import Derived.Test.YtojmmmfboahkgaaDoorImg13S
import Derived.Test.YtojmmmfboahkgaaDoorImg13W
import Derived.Test.YtojmmmfboahkgaaDoorImg13E
import Derived.Test.YtojmmmfboahkgaaDoorSFn20
import Derived.Test.YtojmmmfboahkgaaDoorIFn20
namespace Go.Proofs.YtojmmmfboahkgaaDoor
open Go.ChangeShapes Go.WideShapes Go.ChangeAt Go.RowKit
set_option linter.unusedVariables false

theorem fnExactShowFunc_own : ownKnob Tryd.prog.godebug = none := by kernel_rfl
theorem fnExactShowFunc_laidOut : Go.laidOutB Tryd.prog = true := by kernel_rfl

set_option maxHeartbeats 4000000 in
set_option maxRecDepth 100000 in
theorem fnExactShowFunc_walk (fv cv : Value) (p : PImg) (n : Int) (w : World) (h : ArgImg w fv cv p) (hw : imgW p) (ht : Tabs20 w) :
    Calls Tryd.prog 4 #[.agg #[fv, cv], .int .i64 n] w fun e w' => e = .returned (.bool true) ∧ Below w.heap.size w w' := by
  have b0 : Below w.heap.size w (w.alloc (.cells #[fv, cv] 31)) := (Below.refl _ _).alloc (Nat.le_refl _) _
  have cS := szImage_any fv cv p 1048576 _ (h.below b0) hw (by omega) (by omega)
  have cT := fun W (hb : Below w.heap.size w W) (hf : imgFew p 1048576) => toImage_any fv cv p W (h.below hb) hf
  have cO := fun f c W (hb : ArgImg W f c p) => specShowFunc_any p n f c W hb hw
  have cI := fun f c W (hb : ArgImg W f c p) (hB : Below w.heap.size w W) => iShowFunc_any p n f c W hb hw (ht.below hB)
  clear h hw ht
  obtain ⟨b, hb⟩ : ∃ b, showF p n = b := ⟨_, rfl⟩
  simp only [hb] at cO cI
  clear hb
  have k0 := fun W (h : Below _ _ W) => new_cell (w := w) (cs := #[fv, cv]) (t := 31) h 0 _ rfl
  have k1 := fun W (h : Below _ _ W) => new_cell (w := w) (cs := #[fv, cv]) (t := 31) h 1 _ rfl
  go_enter Tryd.func4, Tryd.ntmps4
  go_wp2_with fail
  refine cS.mono ?_
  rintro e w1 ⟨r, rfl, hr, b1⟩
  rcases hr with rfl | ⟨r0, r1, r2⟩
  · clear cS cT cO cI k0 k1
    go_wp2
    go_ret
    exact ⟨rfl, chain b0 b1⟩
  have hneg : ¬ r < 0 := by omega
  have cU := fun W (hb : Below w.heap.size w W) => cT W hb r2
  clear r2 cT cS
  have c0 := k0 w1 b1
  have c1 := k1 w1 b1
  have a1 := chain b0 b1
  go_wp2_with fail
  refine (cU w1 a1).mono ?_
  rintro e w2 ⟨f2, d2, rfl, i2, b2⟩
  have a2 := chain a1 b2
  have bb2 := chain b1 b2
  have cO2 := cO f2 d2 w2 i2.arg
  clear c0 c1 i2
  go_wp2_with fail
  refine cO2.mono ?_
  rintro e w3 ⟨rfl, b3⟩
  have a3 := chain a2 b3
  have bb3 := chain bb2 b3
  have c0 := k0 w3 bb3
  have c1 := k1 w3 bb3
  clear cO2 cO
  go_wp2_with fail
  refine (cU w3 a3).mono ?_
  rintro e w4 ⟨f4, d4, rfl, i4, b4⟩
  have a4 := chain a3 b4
  have bb4 := chain bb3 b4
  clear c0 c1
  obtain ⟨xa, ya, rfl⟩ := i4.1.slice
  obtain ⟨xb, yb, rfl⟩ := row_slice i4.2
  obtain ⟨n1, e1⟩ : ∃ n, p.funcs.length = n := ⟨_, rfl⟩
  obtain ⟨n2, e2⟩ : ∃ n, p.consts.length = n := ⟨_, rfl⟩
  rw [e1, e2] at i4
  rw [e1, e2]
  clear e1 e2
  have z4 : Below w4.heap.size w4 (w4.alloc (.cells #[.slice xa n1 ya, .slice xb n2 yb] 37)) := (Below.refl _ _).alloc (Nat.le_refl _) _
  have x0 := fun W (h : Below _ _ W) => new_cell (w := w4) (cs := #[.slice xa n1 ya, .slice xb n2 yb]) (t := 37) h 0 _ rfl
  have x1 := fun W (h : Below _ _ W) => new_cell (w := w4) (cs := #[.slice xa n1 ya, .slice xb n2 yb]) (t := 37) h 1 _ rfl
  have cI2 := cI (.slice xa n1 ya) (.slice xb n2 yb) _ (i4.arg.below z4) (chain a4 z4)
  go_wp2_with fail
  refine cI2.mono ?_
  rintro e w6 ⟨rfl, b6⟩
  have a6 := chain (chain a4 z4) b6
  have bb6 := chain (chain bb4 z4) b6
  have cE := fun W (hb : Below w6.heap.size w6 W) f c (hi : ArgImg W f c p) => eqImage_same p (.slice xa n1 ya) (.slice xb n2 yb) f c W (((i4.arg.below z4).below b6).below hb) hi
  have K : ∀ W, Below w6.heap.size w6 W → W.cell? ⟨w.heap.size, 0, none⟩ = some fv ∧ W.cell? ⟨w.heap.size, 1, none⟩ = some cv ∧ W.cell? ⟨w4.heap.size, 0, none⟩ = some (.slice xa n1 ya) ∧ W.cell? ⟨w4.heap.size, 1, none⟩ = some (.slice xb n2 yb) := fun W hb => ⟨k0 W (chain bb6 hb), k1 W (chain bb6 hb), x0 W (chain b6 hb), x1 W (chain b6 hb)⟩
  obtain ⟨c0, c1, c2, c3⟩ := K w6 (Below.refl _ _)
  obtain ⟨X, hX⟩ : ∃ X, w4.heap.size = X := ⟨_, rfl⟩
  obtain ⟨G, hG⟩ : ∃ G, w.heap.size = G := ⟨_, rfl⟩
  have HB : Hid (∀ W, Below w6.heap.size w6 W → Below w.heap.size w W) := fun W hb => chain a6 hb
  simp only [hX, hG] at K c0 c1 c2 c3
  clear cI2 cI i4 b6 z4 x0 x1 k0 k1 bb6 bb4 bb3 bb2 a4 a3 a2 a1 b4 b3 b2 b1 b0
  go_upto_region 10 with fail
  try simp only [hX, hG]
  have HK : Hid (∀ W, Below w6.heap.size w6 W → W.cell? ⟨G, 0, none⟩ = some fv ∧ W.cell? ⟨G, 1, none⟩ = some cv ∧ W.cell? ⟨X, 0, none⟩ = some (.slice xa n1 ya) ∧ W.cell? ⟨X, 1, none⟩ = some (.slice xb n2 yb)) := K
  clear K
  go_region_held3 (fun W => W.cell? ⟨G, 0, none⟩ = some fv ∧ W.cell? ⟨G, 1, none⟩ = some cv ∧ W.cell? ⟨X, 0, none⟩ = some (.slice xa n1 ya) ∧ W.cell? ⟨X, 1, none⟩ = some (.slice xb n2 yb)) (first | exact HK.out _ (by first | with_reducible exact (Below.refl _ _).drew | with_reducible exact Below.refl _ _ | with_reducible exact HE.out | with_reducible exact HM.out | with_reducible exact HM.out.drew | with_reducible exact below_drewN (Below.refl _ _) _ | with_reducible exact below_drewN HM.out _) | go_keep) (first
    | (go_at_call 10; refine (cU _ (HB.out _ (by first | with_reducible exact (Below.refl _ _).drew | with_reducible exact Below.refl _ _ | with_reducible exact below_drewN (Below.refl _ _) _))).mono ?_; rintro e w7 ⟨f7, d7, rfl, i7, b7⟩; have HM : Hid (Below w6.heap.size w6 w7) := (by first | exact chain (Below.refl _ _).drew b7 | exact chain (below_drewN (Below.refl _ _) _) b7 | exact b7); have HI : Hid (ArgImg w7 f7 d7 p) := i7.arg)
    | (go_at_call 12; refine (cE _ (by first | with_reducible exact HM.out | with_reducible exact HM.out.drew | with_reducible exact below_drewN HM.out _) f7 d7 (by first | with_reducible exact HI.out | exact HI.out.below (Below.refl _ _).drew | exact HI.out.below (below_drewN (Below.refl _ _) _))).mono ?_; rintro e w8 ⟨rfl, b8⟩; have HE : Hid (Below w6.heap.size w6 w8) := (by first | exact chain HM.out b8 | exact chain HM.out.drew b8 | exact chain (below_drewN HM.out _) b8)))
  all_goals
    go_wp2
    go_ret
    exact ⟨rfl, by first | exact HB.out _ HE.out | exact HB.out _ HE.out.drew | exact HB.out _ (below_drewN HE.out _)⟩

theorem fnExactShowFunc_tab {W : World} (h : laidMetH Tryd.prog Rows.fnExactShowFuncRow.laid W) : Lib.TabIs Tryd.prog W "internal/strconv.uint64pow10" .u64 Lib.pow10Tab := by
  rw [MakeChecks.laidMetH_plain _ _ _ (by kernel_rfl)] at h
  obtain ⟨ps, hv, _⟩ := h
  exact tabIs_at (g := 1) (by kernel_rfl) (by kernel_rfl) Tryd.underlying139 Tryd.underlying77 (by kernel_rfl) (by kernel_rfl) hv (by
    first | exact .head _ | exact .tail _ (.head _) | exact .tail _ (.tail _ (.head _)) | (left; done) | (right; left; done) | (right; right; left; done))
theorem fnExactShowFunc_size {W : World} (h : laidMetH Tryd.prog Rows.fnExactShowFuncRow.laid W) : 1 < W.heap.size := by
  have ht := fnExactShowFunc_tab h
  have hc := ht.cell (g := 1) (by kernel_rfl) 0 (by decide)
  exact World.block_lt_of_cell? W _ hc
theorem fnExactShowFunc_door (os : Os) (args : Array Value) : laidMetH Tryd.prog Rows.fnExactShowFuncRow.laid ((World.doorLaid Tryd.prog 29 os).forCall (fun _ _ => 0) ⟨#[], args, []⟩).memory :=
  laidMetH_of_parts3 (fuel := 8) (laidMet_of_run' 8 (by kernel_rfl) (by kernel_rfl)) (by kernel_rfl) (by kernel_rfl)

theorem fnExactShowFunc_words {W : World} (h : laidMetH Tryd.prog Rows.fnExactShowFuncRow.laid W) : Tabs20 W := by
  refine ⟨fnExactShowFunc_size h, fnExactShowFunc_tab h, ?_⟩
  rw [MakeChecks.laidMetH_plain _ _ _ (by kernel_rfl)] at h
  obtain ⟨ps, hv, _⟩ := h
  exact WordsAt.of_var (by kernel_rfl) (words_at (g := 0) (zs := insBytes) (by kernel_rfl) (by kernel_rfl) Tryd.underlying45 Tryd.underlying9 (by kernel_rfl) (by kernel_rfl) hv (by
    first | exact .head _ | exact .tail _ (.head _) | exact .tail _ (.tail _ (.head _)) | exact .tail _ (.tail _ (.tail _ (.head _)))))

set_option maxRecDepth 100000 in
theorem fnExactShowFunc_lifted (os : Os) (started : os.Started) (H : Type) (enc : TypeId × Value → H) :
    ReturnsInHanded {} Tryd.checked os 4 .any (fun w args => (Rows.fnExactShowFuncSpec.pre enc Tryd.prog Tryd.f4 [] false w args ∧ laidMetH Tryd.prog Rows.fnExactShowFuncRow.laid w) ∧ sizedMet enc Tryd.prog Tryd.f4 (OpenSpec.ofChange Rows.fnExactShowFuncSpec) false w args)
      (Rows.fnExactShowFuncSpec.post enc Tryd.prog Tryd.f4 false true false false) := by
  refine returnsInHanded_of_change_and (C := Tryd.checked) (X := fun w _ => laidMetH Tryd.prog Rows.fnExactShowFuncRow.laid w) (fun _ _ _ hh h => h.of_heap hh) fnExactShowFunc_own started (by kernel_rfl) Tryd.func4
    (ChangeSpec.witness_shaped (enc := enc) (C := Tryd.checked) (os := os) (X := fun w _ => laidMetH Tryd.prog Rows.fnExactShowFuncRow.laid w) false (World.doorLaid Tryd.prog 29 os) #[.agg #[.slice none 0 0, .slice none 0 0], .int .i64 0] 8 rfl (World.shaped_of_RefB (by kernel_rfl) (by kernel_rfl)) (by kernel_rfl) (by kernel_rfl) (by kernel_rfl) (fnExactShowFunc_door os _)) ?_
  intro W base args ds gs before hval0 hW _ _ hL _
  have hval : ∀ (j : Nat) t v, Tryd.f4.params[j]? = some t → args[j]? = some v → Value.okWide Tryd.prog W .any base t v := hval0
  have hW' := hW
  obtain ⟨p, q, hA0, hV, rfl, hfz, hnd⟩ := hW
  have hA : DataW.TrodAll enc Tryd.prog W 0 (fun _ => true) true Tryd.f4.params.toList args.toList ds p := hA0
  rw [Tryd.params4] at hA hval
  obtain ⟨v0, vs0, d0, ds0, p0, q0, hargs, rfl, rfl, h0, r0⟩ := trodAll_cons hA
  obtain ⟨v1, vs1, d1, ds1, p1, q1, rfl, rfl, rfl, h1, r1⟩ := trodAll_cons r0
  obtain ⟨rfl, rfl, rfl⟩ := trodAll_nil r1
  obtain rfl : args = #[v0, v1] := by cases args; simp_all
  obtain ⟨g1, rfl⟩ : ∃ g, gs = [g] := by
    obtain ⟨_, _, _, _, d, _, e, _⟩ := trodVars_one hV
    exact ⟨d, e⟩
  obtain ⟨cs0, rfl, _⟩ := okWide_struct Tryd.underlying31 (hval 0 31 v0 rfl rfl)
  obtain ⟨n1, rfl⟩ := okWide_int Tryd.underlying3 (hval 1 3 v1 rfl rfl)
  have k0 := h0
  have lt0 : ∀ x ∈ p0, x.block < W.heap.size := by obtain ⟨m, hm⟩ := k0; exact DataW.trod_lt m _ _ _ hm
  have k1 := h1
  have lt1 : ∀ x ∈ p1, x.block < W.heap.size := by obtain ⟨m, hm⟩ := k1; exact DataW.trod_lt m _ _ _ hm
  obtain ⟨m0, fv0, cv0, e0, g0, y0⟩ : ∃ (p : PImg) (fv cv : Value), cs0.toList = [fv, cv] ∧ ArgImg W fv cv p ∧ imgW p := by
    obtain ⟨fuel, hf⟩ := h0
    exact open_img hf
  obtain rfl : cs0 = #[fv0, cv0] := by cases cs0; simp_all
  clear hA0 hval0
  refine (fnExactShowFunc_walk fv0 cv0 m0 n1 W g0 y0 (fnExactShowFunc_words hL)).mono fun e W' ⟨he, bel⟩ => ?_
  subst he
  exact ⟨_, rfl, _, _, _, [], _, _, hW', trodAll_mk1 (shut_bool Tryd.underlying4 _), (trodAll_cons_mk (Below.trod fnExactShowFunc_laidOut (by kernel_rfl) (of_decide_eq_true (by kernel_rfl)) k0 bel lt0) (trodAll_cons_mk (Below.trod fnExactShowFunc_laidOut (by kernel_rfl) (of_decide_eq_true (by kernel_rfl)) k1 bel lt1) trodAll_mk0)), Below.trodVars fnExactShowFunc_laidOut bel (by kernel_rfl) hV, bel.frame _, fun h => by cases h⟩

theorem fnExactShowFunc_over : Rows.fnExactShowFuncRow.holds Tryd.pinned (OpenSpec.ofChange Rows.fnExactShowFuncSpec) :=
  OpenClaim.holds_of_wide 4 Tryd.f4 rfl rfl rfl rfl rfl rfl rfl ⟨rfl, rfl, rfl, rfl, rfl⟩ rfl rfl rfl rfl rfl (by kernel_rfl) Tryd.func4 (by kernel_rfl)
    (of_decide_eq_true (by kernel_rfl)) (by unfold Func.isWrapper; first | (rw [if_pos (by decide +kernel)]; kernel_rfl) | (rw [if_neg (by decide +kernel)]; exact ⟨rfl, rfl⟩))
    (fun os started H enc _ => fnExactShowFunc_lifted os started H enc)

theorem fnExactShowFunc_row : Rows.FnExactShowFuncSaid := fnExactShowFunc_over

theorem fnExactShowFunc_holds : Rows.FnExactShowFuncCardSaid :=
  Claim7.holds_tied_plain_at .later [] [.data, .data, .data, .data] true (true, "791980cbd351404debf5cb7628e5aef7ee70f0e1dfddfb888a691b0aa1f2571a") false
    fnExactShowFunc_row (fun _ h => by cases h) (by kernel_rfl) (fun _ h => by cases h) fnExactShowFunc_row_tie rfl ⟨rfl, rfl⟩ (by kernel_rfl) rfl
    (fun f fn hf hfn => by
      obtain rfl : f = 4 := Option.some.inj ((show Tryd.prog.funcNamed "loop.example/g00115/laws.FnExactShowFunc" = some 4 by kernel_rfl).symm.trans hf) |>.symm
      obtain rfl : fn = Tryd.f4 := (Option.some.inj (Tryd.func4.symm.trans hfn)).symm
      exact ⟨by kernel_rfl, fun j t ht => by
        rw [Tryd.params4] at ht
        have hm : t ∈ [31, 3] := by simpa using Array.mem_of_getElem? ht
        have hall : ([31, 3].all fun u => !Tryd.prog.wantsStandIn u) = true := by kernel_rfl
        exact (show Tryd.prog.wantsStandIn t = false by simpa using List.all_eq_true.1 hall t hm)⟩)
    (by kernel_rfl)
#print axioms fnExactShowFunc_holds
end Go.Proofs.YtojmmmfboahkgaaDoor
