/-
  At every line impl.PartsOf answers as the specification's PartsOf, both results; its list is new memory, also behind another call; the library's table of blanks is listed and tied to the program's text; no other condition.
-/
import Derived.Test.YtemgbffdllhhfaiDoorRows
import Derived.WalkKit
import Derived.ProofKit
import Derived.OpenShut
import Derived.ShutString
import Derived.ChangeOld
import Derived.Below
import Derived.LaidMore
import Derived.LaidLaws
import Derived.Stop.Joined
import Derived.SevenTiedAt
import Derived.Test.YtemgbffdllhhfaiDoorTie
import Derived.Test.YtemgbffdllhhfaiDoorCards
import Derived.Test.YtemgbffdllhhfaiDoorTab
import Derived.Test.YtemgbffdllhhfaiDoorParts
import Derived.Test.YtemgbffdllhhfaiDoorParts2
namespace Go.Proofs.YtemgbffdllhhfaiDoor
open Go.ChangeShapes Go.WideShapes Go.ChangeAt Go.RowKit
open Go.ChangeMaps (open_string shut_string)
set_option linter.unusedVariables false

theorem fnExactPartsOf_own : ownKnob Tryd.prog.godebug = none := by kernel_rfl

theorem fnExactPartsOf_tab {W : World} (h : laidMetH Tryd.prog Rows.fnExactPartsOfRow.laid W) : Lib.TabIs Tryd.prog W "strings.asciiSpace" .u8 Lib.asciiSpaceTab := by
  rw [MakeChecks.laidMetH_plain _ _ _ (by kernel_rfl)] at h
  obtain ⟨ps, hv, _⟩ := h
  have hm : ("strings.asciiSpace", Lib.tabData .u8 Lib.asciiSpaceTab) ∈ Rows.fnExactPartsOfRow.laid := by
    have e : Rows.laid_strings_asciiSpace (H := Unit) = Lib.tabData .u8 Lib.asciiSpaceTab := by kernel_rfl
    rw [← e]
    right; left
  exact tabIs_at (g := 0) (by kernel_rfl) (by kernel_rfl) Tryd.underlying34 Tryd.underlying5 (by kernel_rfl) (by kernel_rfl) hv hm
theorem fnExactPartsOf_size {W : World} (h : laidMetH Tryd.prog Rows.fnExactPartsOfRow.laid W) : 0 < W.heap.size := by
  have ht := fnExactPartsOf_tab h
  have hc := ht.cell (g := 0) (by kernel_rfl) 0 (by rw [Lib.asciiSpaceTab_length]; omega)
  exact World.block_lt_of_cell? W _ hc
theorem fnExactPartsOf_walk (a0 : ByteArray) (w0 : a0.size ≤ maxLen) (w : World) (hg : Tryd.prog.globalNamed "strings.asciiSpace" = some 0) (hlt : 0 < w.heap.size) (htab : Lib.TabIs Tryd.prog w "strings.asciiSpace" .u8 Lib.asciiSpaceTab) :
    Calls Tryd.prog 4 #[.string a0] w fun e w' => e = .returned (.bool true) ∧ Below w.heap.size w w' := by
  unfold maxLen at w0
  by_cases hbig : 1048576 < a0.size
  · clear htab hg
    go_enter Tryd.func4, Tryd.ntmps4
    go_wp2
    go_ret
    exact ⟨rfl, Below.refl _ _⟩
  · have hs : a0.size ≤ 1048576 := by omega
    clear hbig
    have hres := res_le a0
    have T : ∀ w1, Below w.heap.size w w1 → Lib.TabIs Tryd.prog w1 "strings.asciiSpace" .u8 Lib.asciiSpaceTab := fun w1 hb => tabIs_later hb hg hlt htab
    have HT : Hid (∀ w1, Below w.heap.size w w1 → Lib.TabIs Tryd.prog w1 "strings.asciiSpace" .u8 Lib.asciiSpaceTab) := T
    clear htab hg T
    go_enter Tryd.func4, Tryd.ntmps4
    go_wp2_with fail
    refine (specPartsOf_any a0 _ hs).mono ?_
    rintro e wA ⟨v0, rfl, own0, bA⟩
    have sA := bA.size
    go_wp2_with fail
    refine (implPartsOf_any a0 _ hs (by omega) (HT.out _ bA)).mono ?_
    rintro e wB ⟨v1, rfl, own1, bB⟩
    have sB := bB.size
    go_wp2_with fail
    refine (eqStringS_same _ _ _ _ _ _ _ own1 (own_below own0 bB)).mono ?_
    rintro e wC ⟨rfl, bC⟩
    have sC := bC.size
    go_wp2_with fail
    refine (markStringS_one _ _ _ _ _ (own_below own1 bC) (by omega)).mono ?_
    rintro e wD ⟨rfl, own1D, grD⟩
    have sD := grD.size
    have own0D := (own_below (own_below own0 bB) bC).kept grD (rows_apart own0 own1 (Nat.le_refl _))
    have bD := below_mark (chain (chain bA bB) bC) (by omega) grD (own_below own1 bC) sA
    clear grD own1
    go_wp2_with fail
    refine (heldStringS_one _ _ _ _ own1D (by omega)).mono ?_
    rintro e wE ⟨rfl, bE⟩
    have sE := bE.size
    go_wp2_with fail
    refine (implPartsOf_any a0 _ hs (by omega) (HT.out _ (chain bD bE))).mono ?_
    rintro e wF ⟨v2, rfl, own2, bF⟩
    have sF := bF.size
    go_wp2_with fail
    refine (eqStringS_same _ _ _ _ _ _ _ own2 (own_below (own_below own0D bE) bF)).mono ?_
    rintro e wG ⟨rfl, bG⟩
    go_wp2_with fail
    refine (heldStringS_one _ _ _ _ (own_below (own_below (own_below own1D bE) bF) bG) (by omega)).mono ?_
    rintro e wH ⟨rfl, bH⟩
    go_wp2
    go_ret
    exact ⟨rfl, chain (chain (chain (chain bD bE) bF) bG) bH⟩

theorem fnExactPartsOf_door (os : Os) (args : Array Value) : laidMetH Tryd.prog Rows.fnExactPartsOfRow.laid ((World.doorLaid Tryd.prog 48 os).forCall (fun _ _ => 0) ⟨#[], args, []⟩).memory :=
  laidMetH_of_parts3 (fuel := 8) (laidMet_of_run' 8 (by kernel_rfl) (by kernel_rfl)) (by kernel_rfl) (by kernel_rfl)

set_option maxRecDepth 100000 in
theorem fnExactPartsOf_lifted (os : Os) (started : os.Started) (H : Type) (enc : TypeId × Value → H) :
    ReturnsInHanded {} Tryd.checked os 4 .any (fun w args => (Rows.fnExactPartsOfSpec.pre enc Tryd.prog Tryd.f4 [] false w args ∧ laidMetH Tryd.prog Rows.fnExactPartsOfRow.laid w) ∧ sizedMet enc Tryd.prog Tryd.f4 (OpenSpec.ofChange Rows.fnExactPartsOfSpec) false w args)
      (Rows.fnExactPartsOfSpec.post enc Tryd.prog Tryd.f4 false true false false) := by
  refine returnsInHanded_of_change_and (C := Tryd.checked) (X := fun w _ => laidMetH Tryd.prog Rows.fnExactPartsOfRow.laid w) (fun _ _ _ hh h => h.of_heap hh) fnExactPartsOf_own started (by kernel_rfl) Tryd.func4
    (ChangeSpec.witness_shaped (enc := enc) (C := Tryd.checked) (os := os) (X := fun w _ => laidMetH Tryd.prog Rows.fnExactPartsOfRow.laid w) false (World.doorLaid Tryd.prog 48 os) #[.string ByteArray.empty] 8 rfl (World.shaped_of_RefB (by kernel_rfl) (by kernel_rfl)) (by kernel_rfl) (by kernel_rfl) (by kernel_rfl) (fnExactPartsOf_door os _)) ?_
  intro W base args ds gs before hval0 hW _ _ hL _
  have hval : ∀ (j : Nat) t v, Tryd.f4.params[j]? = some t → args[j]? = some v → Value.okWide Tryd.prog W .any base t v := hval0
  have hW' := hW
  obtain ⟨p, q, hA0, hV, rfl, hfz, hnd⟩ := hW
  have hA : DataW.TrodAll enc Tryd.prog W 0 (fun _ => true) true Tryd.f4.params.toList args.toList ds p := hA0
  rw [Tryd.params4] at hA hval
  obtain ⟨v0, vs0, d0, ds0, p0, q0, hargs, rfl, rfl, h0, r0⟩ := trodAll_cons hA
  obtain ⟨rfl, rfl, rfl⟩ := trodAll_nil r0
  obtain rfl : args = #[v0] := by cases args; simp_all
  obtain ⟨rfl, rfl⟩ := trodVars_none hV
  obtain ⟨a0, rfl, rfl, rfl, w0⟩ := open_string Tryd.underlying9 (hval 0 9 v0 rfl rfl) h0
  clear hA0 hval0
  simp only [List.append_nil] at hW'
  refine (fnExactPartsOf_walk a0 w0 W (by kernel_rfl) (fnExactPartsOf_size hL) (fnExactPartsOf_tab hL)).mono fun e W' ⟨he, hg⟩ => ?_
  subst he
  exact ⟨_, rfl, _, _, _, [], [], [], hW', trodAll_mk1 (shut_bool Tryd.underlying4 _), (trodAll_cons_mk (shut_string Tryd.underlying9 w0) trodAll_mk0), rfl, hg.frame _, fun h => by cases h⟩

theorem fnExactPartsOf_over : Rows.fnExactPartsOfRow.holds Tryd.pinned (OpenSpec.ofChange Rows.fnExactPartsOfSpec) :=
  OpenClaim.holds_of_wide 4 Tryd.f4 rfl rfl rfl rfl rfl rfl rfl ⟨rfl, rfl, rfl, rfl, rfl⟩ rfl rfl rfl rfl rfl (by kernel_rfl) Tryd.func4 (by kernel_rfl)
    (of_decide_eq_true (by kernel_rfl)) (by unfold Func.isWrapper; first | (rw [if_pos (by decide +kernel)]; kernel_rfl) | (rw [if_neg (by decide +kernel)]; exact ⟨rfl, rfl⟩))
    (fun os started H enc _ => fnExactPartsOf_lifted os started H enc)

theorem fnExactPartsOf_row : Rows.FnExactPartsOfSaid := fnExactPartsOf_over

theorem fnExactPartsOf_holds : Rows.FnExactPartsOfCardSaid :=
  Claim7.holds_tied_plain_at .later [] [.listed, .data] true (true, "bd6754849c0c904ab31d8ebf29972ec0c6526736ba1986511a226948173508ec") false
    fnExactPartsOf_row (fun _ h => by cases h) (by kernel_rfl) (fun _ h => by cases h) fnExactPartsOf_row_tie rfl ⟨rfl, rfl⟩ (by kernel_rfl) rfl
    (fun f fn hf hfn => by
      obtain rfl : f = 4 := Option.some.inj ((show Tryd.prog.funcNamed "loop.example/g00115/laws.FnExactPartsOf" = some 4 by kernel_rfl).symm.trans hf) |>.symm
      obtain rfl : fn = Tryd.f4 := (Option.some.inj (Tryd.func4.symm.trans hfn)).symm
      exact ⟨by kernel_rfl, fun j t ht => by
        rw [Tryd.params4] at ht
        have hm : t ∈ [9] := by simpa using Array.mem_of_getElem? ht
        have hall : ([9].all fun u => !Tryd.prog.wantsStandIn u) = true := by kernel_rfl
        exact (show Tryd.prog.wantsStandIn t = false by simpa using List.all_eq_true.1 hall t hm)⟩)
    (by kernel_rfl)
#print axioms fnExactPartsOf_holds
end Go.Proofs.YtemgbffdllhhfaiDoor
