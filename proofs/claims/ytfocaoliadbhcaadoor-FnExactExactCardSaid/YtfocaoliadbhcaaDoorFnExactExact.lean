/-
  At every number of 64 bits impl.Exact answers as the specification's Exact, both results; the table that the library's writer reads is listed and tied to the program's text; no other condition.
-/
import Derived.Test.YtfocaoliadbhcaaDoorRows
import Derived.WalkKit
import Derived.ProofKit
import Derived.OpenShut
import Derived.ShutString
import Derived.ChangeOld
import Derived.Below
import Derived.LaidMore
import Derived.Lay
import Derived.LaidLaws
import Derived.Stop.Joined
import Derived.SevenTiedAt
import Derived.Test.YtfocaoliadbhcaaDoorTie
import Derived.Test.YtfocaoliadbhcaaDoorCards
import Derived.Test.YtfocaoliadbhcaaDoorIExact
namespace Go.Proofs.YtfocaoliadbhcaaDoor
open Go.ChangeShapes Go.WideShapes Go.ChangeAt Go.RowKit
open Go.ChangeMaps (open_string shut_string)
set_option linter.unusedVariables false

theorem fnExactExact_own : ownKnob Tryd.prog.godebug = none := by kernel_rfl

theorem fnExactExact_tab {W : World} (h : laidMetH Tryd.prog Rows.fnExactExactRow.laid W) : Lib.TabIs Tryd.prog W "internal/strconv.uint64pow10" .u64 Lib.pow10Tab := by
  rw [MakeChecks.laidMetH_plain _ _ _ (by kernel_rfl)] at h
  obtain ⟨ps, hv, _⟩ := h
  exact tabIs_at (g := 0) (by kernel_rfl) (by kernel_rfl) Tryd.underlying103 Tryd.underlying27 (by kernel_rfl) (by kernel_rfl) hv (by
    right; right; left)
theorem fnExactExact_tabs {w : World} (h : laidMetH Tryd.prog Rows.fnExactExactRow.laid w) : ∀ W : World, Below w.heap.size w W → Lib.TabIs Tryd.prog W "internal/strconv.uint64pow10" .u64 Lib.pow10Tab := by
  have ht := fnExactExact_tab h
  have hc := ht.cell (g := 0) (by kernel_rfl) 0 (by decide)
  exact fun W hb => tabIs_later (g := 0) hb (by kernel_rfl) (World.block_lt_of_cell? w _ hc) ht
set_option maxHeartbeats 4000000 in
set_option maxRecDepth 100000 in
theorem fnExactExact_walk (a0 : Int) (w0 : (Lit.int .u64 a0).wf = true) (w : World) (htab : ∀ W : World, Below w.heap.size w W → Lib.TabIs Tryd.prog W "internal/strconv.uint64pow10" .u64 Lib.pow10Tab) :
    Calls Tryd.prog 7 #[.int .u64 a0] w fun e w' => e = .returned (.bool true) ∧ Below w.heap.size w w' := by
  have bd := Go.bounds_u64 w0
  obtain ⟨x, rfl⟩ : ∃ x : Nat, a0 = x := ⟨a0.toNat, by omega⟩
  have hx : x < 18446744073709551616 := by omega
  have cS := fun W => specExact_any x W hx
  have cI := fun W (hb : Below w.heap.size w W) => iExact x W hx (fun W' h' => htab W' (chain hb h'))
  obtain ⟨r, hr⟩ : ∃ r, exactS x = r := ⟨_, rfl⟩
  obtain ⟨q, hq⟩ : ∃ q, exactE x = q := ⟨_, rfl⟩
  rw [hr, hq] at cS cI
  clear hr hq hx bd htab
  go_enter Tryd.func7, Tryd.ntmps7
  go_wp2_with (first | (go_at_call 18; refine (cS _).mono ?_; rintro e w' ⟨rfl, hb1⟩) | (go_at_call 19; refine (cI _ ?_).mono ?_; assumption; rintro e w' ⟨rfl, hb2⟩))
  go_ret
  exact ⟨rfl, chain hb1 hb2⟩

set_option maxRecDepth 100000 in
theorem fnExactExact_lifted (os : Os) (started : os.Started) (H : Type) (enc : TypeId × Value → H) :
    ReturnsInHanded {} Tryd.checked os 7 .any (fun w args => (Rows.fnExactExactSpec.pre enc Tryd.prog Tryd.f7 [] false w args ∧ laidMetH Tryd.prog Rows.fnExactExactRow.laid w) ∧ sizedMet enc Tryd.prog Tryd.f7 (OpenSpec.ofChange Rows.fnExactExactSpec) false w args)
      (Rows.fnExactExactSpec.post enc Tryd.prog Tryd.f7 false true false false) := by
  refine returnsInHanded_of_change_and (C := Tryd.checked) (X := fun w _ => laidMetH Tryd.prog Rows.fnExactExactRow.laid w) (fun _ _ _ hh h => h.of_heap hh) fnExactExact_own started (by kernel_rfl) Tryd.func7
    (ChangeSpec.witness_shaped (enc := enc) (C := Tryd.checked) (os := os) (X := fun w _ => laidMetH Tryd.prog Rows.fnExactExactRow.laid w) false (World.laidAll Tryd.prog os Rows.fnExactExactRow.laid) #[.int .u64 0] 8 (World.laidAll_os _ _ _) (World.shaped_of_ZipB (by kernel_rfl) (by kernel_rfl)) (by kernel_rfl) (by kernel_rfl) (by kernel_rfl) (by rw [MakeChecks.laidMetH_plain _ _ _ (by kernel_rfl)]; exact laidMet_laidAll _ (by kernel_rfl) (by kernel_rfl))) ?_
  intro W base args ds gs before hval0 hW _ _ hL _
  have hval : ∀ (j : Nat) t v, Tryd.f7.params[j]? = some t → args[j]? = some v → Value.okWide Tryd.prog W .any base t v := hval0
  have hW' := hW
  obtain ⟨p, q, hA0, hV, rfl, hfz, hnd⟩ := hW
  have hA : DataW.TrodAll enc Tryd.prog W 0 (fun _ => true) true Tryd.f7.params.toList args.toList ds p := hA0
  rw [Tryd.params7] at hA hval
  obtain ⟨v0, vs0, d0, ds0, p0, q0, hargs, rfl, rfl, h0, r0⟩ := trodAll_cons hA
  obtain ⟨rfl, rfl, rfl⟩ := trodAll_nil r0
  obtain rfl : args = #[v0] := by cases args; simp_all
  obtain ⟨rfl, rfl⟩ := trodVars_none hV
  obtain ⟨a0, rfl, rfl, rfl, w0⟩ := open_int Tryd.underlying27 (hval 0 27 v0 rfl rfl) h0
  clear hA0 hval0
  simp only [List.append_nil] at hW'
  refine (fnExactExact_walk a0 w0 W (fnExactExact_tabs hL)).mono fun e W' ⟨he, hg⟩ => ?_
  subst he
  exact ⟨_, rfl, _, _, _, [], [], [], hW', trodAll_mk1 (shut_bool Tryd.underlying4 _), (trodAll_cons_mk (shut_int Tryd.underlying27 w0) trodAll_mk0), rfl, hg.frame _, fun h => by cases h⟩

theorem fnExactExact_over : Rows.fnExactExactRow.holds Tryd.pinned (OpenSpec.ofChange Rows.fnExactExactSpec) :=
  OpenClaim.holds_of_wide 7 Tryd.f7 rfl rfl rfl rfl rfl rfl rfl ⟨rfl, rfl, rfl, rfl, rfl⟩ rfl rfl rfl rfl rfl (by kernel_rfl) Tryd.func7 (by kernel_rfl)
    (of_decide_eq_true (by kernel_rfl)) (by unfold Func.isWrapper; first | (rw [if_pos (by decide +kernel)]; kernel_rfl) | (rw [if_neg (by decide +kernel)]; exact ⟨rfl, rfl⟩))
    (fun os started H enc _ => fnExactExact_lifted os started H enc)

theorem fnExactExact_row : Rows.FnExactExactSaid := fnExactExact_over

theorem fnExactExact_holds : Rows.FnExactExactCardSaid :=
  Claim7.holds_tied_plain_at .later [] [.data, .data, .data, .data, .pinned] true (true, "696f2ef48a28e818fe72a2f3d257e9f5dbcaaa6747c06d9066cde0d6c4e9b92b") false
    fnExactExact_row (fun _ h => by cases h) (by kernel_rfl) (fun _ h => by cases h) fnExactExact_row_tie rfl ⟨rfl, rfl⟩ (by kernel_rfl) rfl
    (fun f fn hf hfn => by
      obtain rfl : f = 7 := Option.some.inj ((show Tryd.prog.funcNamed "loop.example/g00115/laws.FnExactExact" = some 7 by kernel_rfl).symm.trans hf) |>.symm
      obtain rfl : fn = Tryd.f7 := (Option.some.inj (Tryd.func7.symm.trans hfn)).symm
      exact ⟨by kernel_rfl, fun j t ht => by
        rw [Tryd.params7] at ht
        have hm : t ∈ [27] := by simpa using Array.mem_of_getElem? ht
        have hall : ([27].all fun u => !Tryd.prog.wantsStandIn u) = true := by kernel_rfl
        exact (show Tryd.prog.wantsStandIn t = false by simpa using List.all_eq_true.1 hall t hm)⟩)
    (by kernel_rfl)
#print axioms fnExactExact_holds
end Go.Proofs.YtfocaoliadbhcaaDoor
