/-
  At every number of 64 bits impl.ShowNumber answers as the specification's ShowNumber; the table that the library's writer reads is listed and tied to the program's text; no other condition.
-/
import Derived.Test.YtcdplnejejpjnaaGreatDoorRows
import Derived.WalkKit
import Derived.ProofKit
import Derived.OpenShut
import Derived.ShutString
import Derived.ChangeOld
import Derived.Below
import Derived.LaidMore
import Derived.Lay
import Derived.LaidLaws
import Derived.Stop.Joined
import Derived.SevenTiedAt
import Derived.Test.YtcdplnejejpjnaaGreatDoorTie
import Derived.Test.YtcdplnejejpjnaaGreatDoorCards
import Derived.Test.YtcdplnejejpjnaaGreatDoorIShow
namespace Go.Proofs.YtcdplnejejpjnaaGreatDoor
open Go.ChangeShapes Go.WideShapes Go.ChangeAt Go.RowKit
open Go.ChangeMaps (open_string shut_string)
set_option linter.unusedVariables false

theorem fnExactShowNumber_own : ownKnob Tryz.prog.godebug = none := by kernel_rfl

theorem fnExactShowNumber_tab {W : World} (h : laidMetH Tryz.prog Rows.fnExactShowNumberRow.laid W) : Lib.TabIs Tryz.prog W "internal/strconv.uint64pow10" .u64 Lib.pow10Tab := by
  rw [MakeChecks.laidMetH_plain _ _ _ (by kernel_rfl)] at h
  obtain ⟨ps, hv, _⟩ := h
  exact tabIs_at (g := 7) (by kernel_rfl) (by kernel_rfl) Tryz.underlying182 Tryz.underlying24 (by kernel_rfl) (by kernel_rfl) hv (by
    first | (left) | (right; left) | (right; right; left) | (right; right; right; left) | (right; right; right; right; left) | (right; right; right; right; right; left) | (right; right; right; right; right; right; left) | (right; right; right; right; right; right; right; left))
theorem fnExactShowNumber_tabs {w : World} (h : laidMetH Tryz.prog Rows.fnExactShowNumberRow.laid w) : ∀ W : World, Below w.heap.size w W → Lib.TabIs Tryz.prog W "internal/strconv.uint64pow10" .u64 Lib.pow10Tab := by
  have ht := fnExactShowNumber_tab h
  have hc := ht.cell (g := 7) (by kernel_rfl) 0 (by decide)
  exact fun W hb => tabIs_later (g := 7) hb (by kernel_rfl) (World.block_lt_of_cell? w _ hc) ht
set_option maxHeartbeats 4000000 in
set_option maxRecDepth 100000 in
theorem fnExactShowNumber_walk (a0 : Int) (w0 : (Lit.int .u64 a0).wf = true) (w : World) (htab : ∀ W : World, Below w.heap.size w W → Lib.TabIs Tryz.prog W "internal/strconv.uint64pow10" .u64 Lib.pow10Tab) :
    Calls Tryz.prog 4 #[.int .u64 a0] w fun e w' => e = .returned (.bool true) ∧ Below w.heap.size w w' := by
  have bd := Go.bounds_u64 w0
  obtain ⟨x, rfl⟩ : ∃ x : Nat, a0 = x := ⟨a0.toNat, by omega⟩
  have hx : x < 18446744073709551616 := by omega
  have cS := fun W => specShowNumber_any x W hx
  have cI := fun W (hb : Below w.heap.size w W) => iShowNumber x W hx (fun W' h' => htab W' (chain hb h'))
  obtain ⟨r, hr⟩ : ∃ r, txt (showN x) = r := ⟨_, rfl⟩
  rw [hr] at cS cI
  clear hr hx bd htab
  go_enter Tryz.func4, Tryz.ntmps4
  go_wp2_with (first | (go_at_call 11; refine (cS _).mono ?_; rintro e w' ⟨rfl, hb1⟩) | (go_at_call 7; refine (cI _ ?_).mono ?_; assumption; rintro e w' ⟨rfl, hb2⟩))
  go_ret
  exact ⟨rfl, chain hb1 hb2⟩

set_option maxRecDepth 100000 in
theorem fnExactShowNumber_lifted (os : Os) (started : os.Started) (H : Type) (enc : TypeId × Value → H) :
    ReturnsInHanded {} Tryz.checked os 4 .any (fun w args => (Rows.fnExactShowNumberSpec.pre enc Tryz.prog Tryz.f4 [] false w args ∧ laidMetH Tryz.prog Rows.fnExactShowNumberRow.laid w) ∧ sizedMet enc Tryz.prog Tryz.f4 (OpenSpec.ofChange Rows.fnExactShowNumberSpec) false w args)
      (Rows.fnExactShowNumberSpec.post enc Tryz.prog Tryz.f4 false true false false) := by
  refine returnsInHanded_of_change_and (C := Tryz.checked) (X := fun w _ => laidMetH Tryz.prog Rows.fnExactShowNumberRow.laid w) (fun _ _ _ hh h => h.of_heap hh) fnExactShowNumber_own started (by kernel_rfl) Tryz.func4
    (ChangeSpec.witness_shaped (enc := enc) (C := Tryz.checked) (os := os) (X := fun w _ => laidMetH Tryz.prog Rows.fnExactShowNumberRow.laid w) false (World.laidAll Tryz.prog os Rows.fnExactShowNumberRow.laid) #[.int .u64 0] 8 (World.laidAll_os _ _ _) (World.shaped_of_ZipB (by kernel_rfl) (by kernel_rfl)) (by kernel_rfl) (by kernel_rfl) (by kernel_rfl) (by rw [MakeChecks.laidMetH_plain _ _ _ (by kernel_rfl)]; exact laidMet_laidAll _ (by kernel_rfl) (by kernel_rfl))) ?_
  intro W base args ds gs before hval0 hW _ _ hL _
  have hval : ∀ (j : Nat) t v, Tryz.f4.params[j]? = some t → args[j]? = some v → Value.okWide Tryz.prog W .any base t v := hval0
  have hW' := hW
  obtain ⟨p, q, hA0, hV, rfl, hfz, hnd⟩ := hW
  have hA : DataW.TrodAll enc Tryz.prog W 0 (fun _ => true) true Tryz.f4.params.toList args.toList ds p := hA0
  rw [Tryz.params4] at hA hval
  obtain ⟨v0, vs0, d0, ds0, p0, q0, hargs, rfl, rfl, h0, r0⟩ := trodAll_cons hA
  obtain ⟨rfl, rfl, rfl⟩ := trodAll_nil r0
  obtain rfl : args = #[v0] := by cases args; simp_all
  obtain ⟨rfl, rfl⟩ := trodVars_none hV
  obtain ⟨a0, rfl, rfl, rfl, w0⟩ := open_int Tryz.underlying24 (hval 0 24 v0 rfl rfl) h0
  clear hA0 hval0
  simp only [List.append_nil] at hW'
  refine (fnExactShowNumber_walk a0 w0 W (fnExactShowNumber_tabs hL)).mono fun e W' ⟨he, hg⟩ => ?_
  subst he
  exact ⟨_, rfl, _, _, _, [], [], [], hW', trodAll_mk1 (shut_bool Tryz.underlying4 _), (trodAll_cons_mk (shut_int Tryz.underlying24 w0) trodAll_mk0), rfl, hg.frame _, fun h => by cases h⟩

theorem fnExactShowNumber_over : Rows.fnExactShowNumberRow.holds Tryz.pinned (OpenSpec.ofChange Rows.fnExactShowNumberSpec) :=
  OpenClaim.holds_of_wide 4 Tryz.f4 rfl rfl rfl rfl rfl rfl rfl ⟨rfl, rfl, rfl, rfl, rfl⟩ rfl rfl rfl rfl rfl (by kernel_rfl) Tryz.func4 (by kernel_rfl)
    (of_decide_eq_true (by kernel_rfl)) (by unfold Func.isWrapper; first | (rw [if_pos (by decide +kernel)]; kernel_rfl) | (rw [if_neg (by decide +kernel)]; exact ⟨rfl, rfl⟩))
    (fun os started H enc _ => fnExactShowNumber_lifted os started H enc)

theorem fnExactShowNumber_row : Rows.FnExactShowNumberSaid := fnExactShowNumber_over

theorem fnExactShowNumber_holds : Rows.FnExactShowNumberCardSaid :=
  Claim7.holds_tied_plain_at .later [] [.data, .data, .data, .data, .pinned] true (true, "accb81a9f0eaa67c312b285064c8c5d6092136d33cfca5a46ab775b440bb2c46") true
    fnExactShowNumber_row (fun _ h => by cases h) (by kernel_rfl) (fun _ h => by cases h) fnExactShowNumber_row_tie rfl ⟨rfl, rfl⟩ (by kernel_rfl) rfl
    (fun f fn hf hfn => by
      obtain rfl : f = 4 := Option.some.inj ((show Tryz.prog.funcNamed "loop.example/g00115/laws.FnExactShowNumber" = some 4 by kernel_rfl).symm.trans hf) |>.symm
      obtain rfl : fn = Tryz.f4 := (Option.some.inj (Tryz.func4.symm.trans hfn)).symm
      exact ⟨by kernel_rfl, fun j t ht => by
        rw [Tryz.params4] at ht
        have hm : t ∈ [24] := by simpa using Array.mem_of_getElem? ht
        have hall : ([24].all fun u => !Tryz.prog.wantsStandIn u) = true := by kernel_rfl
        exact (show Tryz.prog.wantsStandIn t = false by simpa using List.all_eq_true.1 hall t hm)⟩)
    (by kernel_rfl)
#print axioms fnExactShowNumber_holds
end Go.Proofs.YtcdplnejejpjnaaGreatDoor
