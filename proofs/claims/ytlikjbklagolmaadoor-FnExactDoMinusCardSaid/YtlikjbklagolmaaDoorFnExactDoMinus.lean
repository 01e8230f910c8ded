/-
  The law FnExactDoMinus holds; no condition.
-/
import Derived.Test.YtlikjbklagolmaaDoorRows
import Derived.WalkKit
import Derived.ProofKit
import Derived.OpenShut
import Derived.ShutString
import Derived.ChangeOld
import Derived.Below
import Derived.LaidMore
import Derived.LaidLaws
import Derived.LaidHandle
import Derived.JoinedOf
import Derived.ChangeSame
import Derived.ChangeVars
import Derived.Stop.Joined
import Derived.SevenTiedAt
import Derived.Test.YtlikjbklagolmaaDoorTie
import Derived.Test.YtlikjbklagolmaaDoorCards
import Derived.Deep.RegionHeld3
import Derived.Test.YtlikjbklagolmaaDoorVal17B
import Derived.Test.YtlikjbklagolmaaDoorVal17M
import Derived.Test.YtlikjbklagolmaaDoorIVal17M
namespace Go.Proofs.YtlikjbklagolmaaDoor
open Go.ChangeShapes Go.WideShapes Go.ChangeAt Go.RowKit
set_option linter.unusedVariables false

theorem fnExactDoMinus_own : ownKnob Tryd.prog.godebug = none := by kernel_rfl
theorem fnExactDoMinus_laidOut : Go.laidOutB Tryd.prog = true := by kernel_rfl

set_option maxHeartbeats 4000000 in
set_option maxRecDepth 100000 in
theorem fnExactDoMinus_walk (p : PVal) (w : World) (hp : valW p) (hg : EtOk w) :
    Calls Tryd.prog 3 #[.agg #[.int .i64 p.kind, .int .u64 (p.num : Int), .string p.text, .int .i64 p.ref]] w fun e w' => e = .returned (.bool true) ∧ Below w.heap.size w w' := by
  have cS := fun W => szValue_any p 1048576 W hp.2.2.1 (by omega) (by omega)
  have cT := fun W => toValue_any p W
  have cO := fun W => specDoMinus_v p W hp
  have cI := fun W (h : EtOk W) => iDoMinus_any p W hp h
  have HG : Hid (∀ W, Below w.heap.size w W → EtOk W) := fun W hW => hg.more hW
  clear hp hg
  obtain ⟨⟨q, t⟩, hb⟩ : ∃ b, minusV p = b := ⟨_, rfl⟩
  simp only [hb] at cO cI
  clear hb
  have cE := fun W => eqValue_same q W
  have b0 : Below w.heap.size w (w.alloc (.cells #[.int .i64 p.kind, .int .u64 (p.num : Int), .string p.text, .int .i64 p.ref] 24)) := (Below.refl _ _).alloc (Nat.le_refl _) _
  have k0 := fun W (h : Below _ _ W) => new_cell (w := w) (cs := #[.int .i64 p.kind, .int .u64 (p.num : Int), .string p.text, .int .i64 p.ref]) (t := 24) h 0 _ rfl
  have k1 := fun W (h : Below _ _ W) => new_cell (w := w) (cs := #[.int .i64 p.kind, .int .u64 (p.num : Int), .string p.text, .int .i64 p.ref]) (t := 24) h 1 _ rfl
  have k2 := fun W (h : Below _ _ W) => new_cell (w := w) (cs := #[.int .i64 p.kind, .int .u64 (p.num : Int), .string p.text, .int .i64 p.ref]) (t := 24) h 2 _ rfl
  have k3 := fun W (h : Below _ _ W) => new_cell (w := w) (cs := #[.int .i64 p.kind, .int .u64 (p.num : Int), .string p.text, .int .i64 p.ref]) (t := 24) h 3 _ rfl
  go_enter Tryd.func3, Tryd.ntmps3
  go_wp2_with fail
  refine (cS _).mono ?_
  rintro e w1 ⟨r, rfl, hr, b1⟩
  rcases hr with rfl | ⟨r0, r1, r2⟩
  · clear cS cT cO cI cE k0 k1 k2 k3
    go_wp2
    go_ret
    exact ⟨rfl, chain b0 b1⟩
  have hneg : ¬ r < 0 := by omega
  clear r2
  have c0 := k0 w1 b1
  have c1 := k1 w1 b1
  have c2 := k2 w1 b1
  have c3 := k3 w1 b1
  go_wp2_with fail
  refine (cT _).mono ?_
  rintro e w2 ⟨rfl, b2⟩
  have bb2 := chain b1 b2
  clear c0 c1 c2 c3
  go_wp2_with fail
  refine (cO _).mono ?_
  rintro e w3 ⟨rfl, b3⟩
  have z3 : Below w3.heap.size w3 (w3.alloc (.cells #[.int .i64 q.kind, .int .u64 (q.num : Int), .string q.text, .int .i64 q.ref] 26)) := (Below.refl _ _).alloc (Nat.le_refl _) _
  have bb3 := chain (chain bb2 b3) z3
  have c0 := k0 _ bb3
  have c1 := k1 _ bb3
  have c2 := k2 _ bb3
  have c3 := k3 _ bb3
  go_wp2_with fail
  refine (cT _).mono ?_
  rintro e w4 ⟨rfl, b4⟩
  have bb4 := chain bb3 b4
  clear c0 c1 c2 c3
  go_wp2_with fail
  refine (cI _ (HG.out _ (chain b0 bb4))).mono ?_
  rintro e w5 ⟨rfl, b5⟩
  have bb5 := chain b0 (chain bb4 b5)
  have b45 := chain b4 b5
  have z5 : Below w5.heap.size w5 (w5.alloc (.cells #[.int .i64 q.kind, .int .u64 (q.num : Int), .string q.text, .int .i64 q.ref] 26)) := (Below.refl _ _).alloc (Nat.le_refl _) _
  have e0 := new_cell (w := w3) (cs := #[.int .i64 q.kind, .int .u64 (q.num : Int), .string q.text, .int .i64 q.ref]) (t := 26) (chain b45 z5) 0 _ rfl
  have e1 := new_cell (w := w3) (cs := #[.int .i64 q.kind, .int .u64 (q.num : Int), .string q.text, .int .i64 q.ref]) (t := 26) (chain b45 z5) 1 _ rfl
  have e2 := new_cell (w := w3) (cs := #[.int .i64 q.kind, .int .u64 (q.num : Int), .string q.text, .int .i64 q.ref]) (t := 26) (chain b45 z5) 2 _ rfl
  have e3 := new_cell (w := w3) (cs := #[.int .i64 q.kind, .int .u64 (q.num : Int), .string q.text, .int .i64 q.ref]) (t := 26) (chain b45 z5) 3 _ rfl
  have bb6 := chain bb5 z5
  clear k0 k1 k2 k3
  go_wp2_with fail
  refine (cE _).mono ?_
  rintro e w7 ⟨rfl, b7⟩
  have bb7 := chain bb6 b7
  go_wp2
  go_ret
  exact ⟨rfl, bb7⟩

theorem fnExactDoMinus_et : Tryd.prog.globalNamed "errors.errorType" = some 0 := by kernel_rfl
theorem fnExactDoMinus_rt : (Tryd.prog.cutTypes.find? (·.1 == "internal/reflectlite.rtype")).map (·.2) = some 75 := by kernel_rfl
theorem fnExactDoMinus_oneRow : ((List.range Tryd.prog.types.size).filter fun t => Tryd.prog.rowNamed t [101, 114, 114, 111, 114]) = [38] := by kernel_rfl
/-- what the condition gives the walk: the variable's one cell -/
theorem fnExactDoMinus_handle {W : World} (h : laidMetH Tryd.prog Rows.fnExactDoMinusRow.laid W) : EtOk W := by
  have h' : laidMet Tryd.prog [] W ∧ handlesMet Tryd.prog Rows.fnExactDoMinusRow.laid W := h
  obtain ⟨name, u, ty, e1, e2, e3, e4, e5⟩ := h'.2 _ (List.mem_singleton.2 rfl)
  have en : name = [101, 114, 114, 111, 114] := (Option.some.inj e1).symm
  subst en
  obtain rfl := Option.some.inj (fnExactDoMinus_rt.symm.trans e2)
  have hm : ty ∈ (List.range Tryd.prog.types.size).filter fun t => Tryd.prog.rowNamed t [101, 114, 114, 111, 114] := List.mem_filter.2 ⟨List.mem_range.2 e3, e4⟩
  rw [fnExactDoMinus_oneRow] at hm
  obtain rfl := List.mem_singleton.1 hm
  have hh : typeHandle Tryd.prog 38 = .pointer (some ⟨1, 38, none⟩) := by kernel_rfl
  rw [hh] at e5
  unfold EtOk
  simpa using World.var?_cell fnExactDoMinus_et e5 0
/-- a world that meets the condition (typed out: a definition of it would be none that is computed) -/
theorem fnExactDoMinus_met (os : Os) (args : Array Value) : laidMetH Tryd.prog Rows.fnExactDoMinusRow.laid (({ World.holding Tryd.prog os ⟨#[], #[], []⟩ with heap := (World.holding Tryd.prog os ⟨#[], #[], []⟩).heap.modify 0 fun | .cells _ t frozen => .cells #[.iface 75 (.agg #[.pointer (some ⟨1, 38, none⟩)])] t frozen | o => o }).forCall (fun _ _ => 0) ⟨#[], args, []⟩).memory :=
  laidMetH_of_parts (laidMet_nil _ _) (by kernel_rfl)

set_option maxRecDepth 100000 in
theorem fnExactDoMinus_lifted (os : Os) (started : os.Started) (H : Type) (enc : TypeId × Value → H) :
    ReturnsInHanded {} Tryd.checked os 3 .any (fun w args => (Rows.fnExactDoMinusSpec.pre enc Tryd.prog Tryd.f3 [] false w args ∧ laidMetH Tryd.prog Rows.fnExactDoMinusRow.laid w) ∧ sizedMet enc Tryd.prog Tryd.f3 (OpenSpec.ofChange Rows.fnExactDoMinusSpec) false w args)
      (Rows.fnExactDoMinusSpec.post enc Tryd.prog Tryd.f3 false true false false) := by
  refine returnsInHanded_of_change_and (C := Tryd.checked) (X := fun w _ => laidMetH Tryd.prog Rows.fnExactDoMinusRow.laid w) (fun _ _ _ hh h => h.of_heap hh) fnExactDoMinus_own started (by kernel_rfl) Tryd.func3
    (ChangeSpec.witness_at (enc := enc) (C := Tryd.checked) (os := os) (X := fun w _ => laidMetH Tryd.prog Rows.fnExactDoMinusRow.laid w) false ({ World.holding Tryd.prog os ⟨#[], #[], []⟩ with heap := (World.holding Tryd.prog os ⟨#[], #[], []⟩).heap.modify 0 fun | .cells _ t frozen => .cells #[.iface 75 (.agg #[.pointer (some ⟨1, 38, none⟩)])] t frozen | o => o }) #[.agg #[.int .i64 0, .int .u64 0, .string ⟨#[]⟩, .int .i64 0]] 8 rfl (by kernel_rfl) (by kernel_rfl) (by kernel_rfl) (by kernel_rfl) (by kernel_rfl) (fnExactDoMinus_met os _)) ?_
  intro W base args ds gs before hval0 hW _ _ hL _
  have hval : ∀ (j : Nat) t v, Tryd.f3.params[j]? = some t → args[j]? = some v → Value.okWide Tryd.prog W .any base t v := hval0
  have hW' := hW
  obtain ⟨p, q, hA0, hV, rfl, hfz, hnd⟩ := hW
  have hA : DataW.TrodAll enc Tryd.prog W 0 (fun _ => true) true Tryd.f3.params.toList args.toList ds p := hA0
  rw [Tryd.params3] at hA hval
  obtain ⟨v0, vs0, d0, ds0, p0, q0, hargs, rfl, rfl, h0, r0⟩ := trodAll_cons hA
  obtain ⟨rfl, rfl, rfl⟩ := trodAll_nil r0
  obtain rfl : args = #[v0] := by cases args; simp_all
  obtain ⟨rfl, rfl⟩ := trodVars_none hV
  obtain ⟨cs0, rfl, _⟩ := okWide_struct Tryd.underlying24 (hval 0 24 v0 rfl rfl)
  have k0 := h0
  have lt0 : ∀ x ∈ p0, x.block < W.heap.size := by obtain ⟨m, hm⟩ := k0; exact DataW.trod_lt m _ _ _ hm
  obtain ⟨m0, e0, y0⟩ : ∃ p : PVal, cs0.toList = valC p ∧ valW p := by
    obtain ⟨fuel, hf⟩ := h0
    exact open_val hf
  obtain rfl : cs0 = #[.int .i64 m0.kind, .int .u64 (m0.num : Int), .string m0.text, .int .i64 m0.ref] := by cases cs0; simp_all [valC]
  clear hA0 hval0
  refine (fnExactDoMinus_walk m0 W y0 (fnExactDoMinus_handle hL)).mono fun e W' ⟨he, bel⟩ => ?_
  subst he
  exact ⟨_, rfl, _, _, _, [], _, [], hW', trodAll_mk1 (shut_bool Tryd.underlying4 _), (trodAll_cons_mk (Below.trod fnExactDoMinus_laidOut (by kernel_rfl) (of_decide_eq_true (by kernel_rfl)) k0 bel lt0) trodAll_mk0), rfl, bel.frame _, fun h => by cases h⟩

theorem fnExactDoMinus_over : Rows.fnExactDoMinusRow.holds Tryd.pinned (OpenSpec.ofChange Rows.fnExactDoMinusSpec) :=
  OpenClaim.holds_of_wide 3 Tryd.f3 rfl rfl rfl rfl rfl rfl rfl ⟨rfl, rfl, rfl, rfl, rfl⟩ rfl rfl rfl rfl rfl (by kernel_rfl) Tryd.func3 (by kernel_rfl)
    (of_decide_eq_true (by kernel_rfl)) (by unfold Func.isWrapper; first | (rw [if_pos (by decide +kernel)]; kernel_rfl) | (rw [if_neg (by decide +kernel)]; exact ⟨rfl, rfl⟩))
    (fun os started H enc _ => fnExactDoMinus_lifted os started H enc)

theorem fnExactDoMinus_row : Rows.FnExactDoMinusSaid := fnExactDoMinus_over

theorem fnExactDoMinus_holds : Rows.FnExactDoMinusCardSaid :=
  Claim7.holds_tied_plain_at .later [] [.handle] true (true, "6d1a3be1bb7131df41e4456670c6fc1cc9bddc676ef4a87ec249949f53399f63") true
    fnExactDoMinus_row (fun _ h => by cases h) (by kernel_rfl) (fun _ h => by cases h) fnExactDoMinus_row_tie rfl ⟨rfl, rfl⟩ (by kernel_rfl) rfl
    (fun f fn hf hfn => by
      obtain rfl : f = 3 := Option.some.inj ((show Tryd.prog.funcNamed "loop.example/g00115/laws.FnExactDoMinus" = some 3 by kernel_rfl).symm.trans hf) |>.symm
      obtain rfl : fn = Tryd.f3 := (Option.some.inj (Tryd.func3.symm.trans hfn)).symm
      exact ⟨by kernel_rfl, fun j t ht => by
        rw [Tryd.params3] at ht
        have hm : t ∈ [24] := by simpa using Array.mem_of_getElem? ht
        have hall : ([24].all fun u => !Tryd.prog.wantsStandIn u) = true := by kernel_rfl
        exact (show Tryd.prog.wantsStandIn t = false by simpa using List.all_eq_true.1 hall t hm)⟩)
    (by kernel_rfl)
#print axioms fnExactDoMinus_holds
end Go.Proofs.YtlikjbklagolmaaDoor
