/-
  The law FnExactShowIns holds; no condition.
-/
import Derived.Test.YtojmmmfboahkgaaDoorRows
import Derived.WalkKit
import Derived.ProofKit
import Derived.OpenShut
import Derived.ShutString
import Derived.ChangeOld
import Derived.Below
import Derived.OpenVars
import Derived.ChangeVars
import Derived.LaidMore
import Derived.LaidLaws
import Derived.Stop.Joined
import Derived.SevenTiedAt
import Derived.Test.YtojmmmfboahkgaaDoorTie
import Derived.Test.YtojmmmfboahkgaaDoorCards
import Derived.Test.YtojmmmfboahkgaaDoorTab
import Derived.Test.YtojmmmfboahkgaaDoorWords20
import Derived.Deep.RegionHeld3
import Derived.Test.YtojmmmfboahkgaaDoorImg13A
import Derived.Test.YtojmmmfboahkgaaDoorImg13T
import Derived.Test.YtojmmmfboahkgaaDoorIns20
import Derived.Test.YtojmmmfboahkgaaDoorIIns20
namespace Go.Proofs.YtojmmmfboahkgaaDoor
open Go.ChangeShapes Go.WideShapes Go.ChangeAt Go.RowKit
set_option linter.unusedVariables false

theorem fnExactShowIns_own : ownKnob Tryd.prog.godebug = none := by kernel_rfl
theorem fnExactShowIns_laidOut : Go.laidOutB Tryd.prog = true := by kernel_rfl

set_option maxHeartbeats 4000000 in
set_option maxRecDepth 100000 in
theorem fnExactShowIns_walk (p : PIns) (w : World) (hp : insW p) (ht : Tabs20 w) :
    Calls Tryd.prog 3 #[.agg #[.int .i64 p.op, .int .i64 p.a, .int .i64 p.b]] w fun e w' => e = .returned (.bool true) ∧ Below w.heap.size w w' := by
  have cT := fun W => toIns_any p W
  have cO := fun W => specShowIns_any p W hp
  have cI := fun W (hb : Below w.heap.size w W) => iShowIns_any p W hp (ht.below hb)
  clear hp ht
  obtain ⟨b, hb⟩ : ∃ b, insText p = b := ⟨_, rfl⟩
  simp only [hb] at cO cI
  clear hb
  have b0 : Below w.heap.size w (w.alloc (.cells #[.int .i64 p.op, .int .i64 p.a, .int .i64 p.b] 23)) := (Below.refl _ _).alloc (Nat.le_refl _) _
  have k0 := fun W (h : Below _ _ W) => new_cell (w := w) (cs := #[.int .i64 p.op, .int .i64 p.a, .int .i64 p.b]) (t := 23) h 0 _ rfl
  have k1 := fun W (h : Below _ _ W) => new_cell (w := w) (cs := #[.int .i64 p.op, .int .i64 p.a, .int .i64 p.b]) (t := 23) h 1 _ rfl
  have k2 := fun W (h : Below _ _ W) => new_cell (w := w) (cs := #[.int .i64 p.op, .int .i64 p.a, .int .i64 p.b]) (t := 23) h 2 _ rfl
  go_enter Tryd.func3, Tryd.ntmps3
  go_wp2_with fail
  refine (cT _).mono ?_
  rintro e w2 ⟨rfl, b2⟩
  go_wp2_with fail
  refine (cO _).mono ?_
  rintro e w3 ⟨rfl, b3⟩
  have bb3 := chain b2 b3
  have c0 := k0 w3 bb3
  have c1 := k1 w3 bb3
  have c2 := k2 w3 bb3
  go_wp2_with fail
  refine (cT _).mono ?_
  rintro e w4 ⟨rfl, b4⟩
  have bb4 := chain bb3 b4
  clear c0 c1 c2
  go_wp2_with fail
  refine (cI _ (chain b0 bb4)).mono ?_
  rintro e w5 ⟨rfl, b5⟩
  have bb5 := chain b0 (chain bb4 b5)
  clear k0 k1 k2 cI cO cT
  go_wp2
  go_ret
  exact ⟨rfl, bb5⟩

theorem fnExactShowIns_tab {W : World} (h : laidMetH Tryd.prog Rows.fnExactShowInsRow.laid W) : Lib.TabIs Tryd.prog W "internal/strconv.uint64pow10" .u64 Lib.pow10Tab := by
  rw [MakeChecks.laidMetH_plain _ _ _ (by kernel_rfl)] at h
  obtain ⟨ps, hv, _⟩ := h
  exact tabIs_at (g := 1) (by kernel_rfl) (by kernel_rfl) Tryd.underlying139 Tryd.underlying77 (by kernel_rfl) (by kernel_rfl) hv (by
    first | exact .head _ | exact .tail _ (.head _) | exact .tail _ (.tail _ (.head _)) | (left; done) | (right; left; done) | (right; right; left; done))
theorem fnExactShowIns_size {W : World} (h : laidMetH Tryd.prog Rows.fnExactShowInsRow.laid W) : 1 < W.heap.size := by
  have ht := fnExactShowIns_tab h
  have hc := ht.cell (g := 1) (by kernel_rfl) 0 (by decide)
  exact World.block_lt_of_cell? W _ hc
theorem fnExactShowIns_door (os : Os) (args : Array Value) : laidMetH Tryd.prog Rows.fnExactShowInsRow.laid ((World.doorLaid Tryd.prog 29 os).forCall (fun _ _ => 0) ⟨#[], args, []⟩).memory :=
  laidMetH_of_parts3 (fuel := 8) (laidMet_of_run' 8 (by kernel_rfl) (by kernel_rfl)) (by kernel_rfl) (by kernel_rfl)

theorem fnExactShowIns_words {W : World} (h : laidMetH Tryd.prog Rows.fnExactShowInsRow.laid W) : Tabs20 W := by
  refine ⟨fnExactShowIns_size h, fnExactShowIns_tab h, ?_⟩
  rw [MakeChecks.laidMetH_plain _ _ _ (by kernel_rfl)] at h
  obtain ⟨ps, hv, _⟩ := h
  exact WordsAt.of_var (by kernel_rfl) (words_at (g := 0) (zs := insBytes) (by kernel_rfl) (by kernel_rfl) Tryd.underlying45 Tryd.underlying9 (by kernel_rfl) (by kernel_rfl) hv (by
    first | exact .head _ | exact .tail _ (.head _) | exact .tail _ (.tail _ (.head _)) | exact .tail _ (.tail _ (.tail _ (.head _)))))

set_option maxRecDepth 100000 in
theorem fnExactShowIns_lifted (os : Os) (started : os.Started) (H : Type) (enc : TypeId × Value → H) :
    ReturnsInHanded {} Tryd.checked os 3 .any (fun w args => (Rows.fnExactShowInsSpec.pre enc Tryd.prog Tryd.f3 [] false w args ∧ laidMetH Tryd.prog Rows.fnExactShowInsRow.laid w) ∧ sizedMet enc Tryd.prog Tryd.f3 (OpenSpec.ofChange Rows.fnExactShowInsSpec) false w args)
      (Rows.fnExactShowInsSpec.post enc Tryd.prog Tryd.f3 false true false false) := by
  refine returnsInHanded_of_change_and (C := Tryd.checked) (X := fun w _ => laidMetH Tryd.prog Rows.fnExactShowInsRow.laid w) (fun _ _ _ hh h => h.of_heap hh) fnExactShowIns_own started (by kernel_rfl) Tryd.func3
    (ChangeSpec.witness_shaped (enc := enc) (C := Tryd.checked) (os := os) (X := fun w _ => laidMetH Tryd.prog Rows.fnExactShowInsRow.laid w) false (World.doorLaid Tryd.prog 29 os) #[.agg #[.int .i64 0, .int .i64 0, .int .i64 0]] 8 rfl (World.shaped_of_RefB (by kernel_rfl) (by kernel_rfl)) (by kernel_rfl) (by kernel_rfl) (by kernel_rfl) (fnExactShowIns_door os _)) ?_
  intro W base args ds gs before hval0 hW _ _ hL _
  have hval : ∀ (j : Nat) t v, Tryd.f3.params[j]? = some t → args[j]? = some v → Value.okWide Tryd.prog W .any base t v := hval0
  have hW' := hW
  obtain ⟨p, q, hA0, hV, rfl, hfz, hnd⟩ := hW
  have hA : DataW.TrodAll enc Tryd.prog W 0 (fun _ => true) true Tryd.f3.params.toList args.toList ds p := hA0
  rw [Tryd.params3] at hA hval
  obtain ⟨v0, vs0, d0, ds0, p0, q0, hargs, rfl, rfl, h0, r0⟩ := trodAll_cons hA
  obtain ⟨rfl, rfl, rfl⟩ := trodAll_nil r0
  obtain rfl : args = #[v0] := by cases args; simp_all
  obtain ⟨g1, rfl⟩ : ∃ g, gs = [g] := by
    obtain ⟨_, _, _, _, d, _, e, _⟩ := trodVars_one hV
    exact ⟨d, e⟩
  obtain ⟨cs0, rfl, _⟩ := okWide_struct Tryd.underlying23 (hval 0 23 v0 rfl rfl)
  have k0 := h0
  have lt0 : ∀ x ∈ p0, x.block < W.heap.size := by obtain ⟨m, hm⟩ := k0; exact DataW.trod_lt m _ _ _ hm
  obtain ⟨m0, e0, y0⟩ : ∃ p : PIns, cs0.toList = insC p ∧ insW p := by
    obtain ⟨fuel, hf⟩ := h0
    exact open_ins hf
  obtain rfl : cs0 = #[.int .i64 m0.op, .int .i64 m0.a, .int .i64 m0.b] := by cases cs0; simp_all [insC]
  clear hA0 hval0
  refine (fnExactShowIns_walk m0 W y0 (fnExactShowIns_words hL)).mono fun e W' ⟨he, bel⟩ => ?_
  subst he
  exact ⟨_, rfl, _, _, _, [], _, _, hW', trodAll_mk1 (shut_bool Tryd.underlying4 _), (trodAll_cons_mk (Below.trod fnExactShowIns_laidOut (by kernel_rfl) (of_decide_eq_true (by kernel_rfl)) k0 bel lt0) trodAll_mk0), Below.trodVars fnExactShowIns_laidOut bel (by kernel_rfl) hV, bel.frame _, fun h => by cases h⟩

theorem fnExactShowIns_over : Rows.fnExactShowInsRow.holds Tryd.pinned (OpenSpec.ofChange Rows.fnExactShowInsSpec) :=
  OpenClaim.holds_of_wide 3 Tryd.f3 rfl rfl rfl rfl rfl rfl rfl ⟨rfl, rfl, rfl, rfl, rfl⟩ rfl rfl rfl rfl rfl (by kernel_rfl) Tryd.func3 (by kernel_rfl)
    (of_decide_eq_true (by kernel_rfl)) (by unfold Func.isWrapper; first | (rw [if_pos (by decide +kernel)]; kernel_rfl) | (rw [if_neg (by decide +kernel)]; exact ⟨rfl, rfl⟩))
    (fun os started H enc _ => fnExactShowIns_lifted os started H enc)

theorem fnExactShowIns_row : Rows.FnExactShowInsSaid := fnExactShowIns_over

theorem fnExactShowIns_holds : Rows.FnExactShowInsCardSaid :=
  Claim7.holds_tied_plain_at .later [] [.data, .data, .data, .data] true (true, "791980cbd351404debf5cb7628e5aef7ee70f0e1dfddfb888a691b0aa1f2571a") false
    fnExactShowIns_row (fun _ h => by cases h) (by kernel_rfl) (fun _ h => by cases h) fnExactShowIns_row_tie rfl ⟨rfl, rfl⟩ (by kernel_rfl) rfl
    (fun f fn hf hfn => by
      obtain rfl : f = 3 := Option.some.inj ((show Tryd.prog.funcNamed "loop.example/g00115/laws.FnExactShowIns" = some 3 by kernel_rfl).symm.trans hf) |>.symm
      obtain rfl : fn = Tryd.f3 := (Option.some.inj (Tryd.func3.symm.trans hfn)).symm
      exact ⟨by kernel_rfl, fun j t ht => by
        rw [Tryd.params3] at ht
        have hm : t ∈ [23] := by simpa using Array.mem_of_getElem? ht
        have hall : ([23].all fun u => !Tryd.prog.wantsStandIn u) = true := by kernel_rfl
        exact (show Tryd.prog.wantsStandIn t = false by simpa using List.all_eq_true.1 hall t hm)⟩)
    (by kernel_rfl)
#print axioms fnExactShowIns_holds
end Go.Proofs.YtojmmmfboahkgaaDoor
