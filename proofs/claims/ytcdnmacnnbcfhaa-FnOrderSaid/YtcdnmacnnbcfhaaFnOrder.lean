/-
  Of drawn numbers that are none NaN just one of less, equal and greater is; Less goes on from one to the next; NaN is in no order; no condition.
-/
import Derived.Test.YtcdnmacnnbcfhaaRows
import Derived.WalkKit
import Derived.ProofKit
import Derived.OpenShut
import Derived.ShutString
import Derived.ChangeOld
import Derived.Below
import Derived.Test.YtcdnmacnnbcfhaaIOrder
import Derived.Test.YtcdnmacnnbcfhaaWholeB
import Derived.Test.YtcdnmacnnbcfhaaDraw3
import Derived.Test.YtcdnmacnnbcfhaaLaws3
namespace Go.Proofs.Ytcdnmacnnbcfhaa
open Go.ChangeShapes Go.WideShapes Go.ChangeAt Go.RowKit
open Go.ChangeMaps (open_string shut_string)
set_option linter.unusedVariables false

theorem fnOrder_own : ownKnob Try.prog.godebug = none := by kernel_rfl
theorem fnOrder_laidOut : laidOutB Try.prog = true := by kernel_rfl

/-- WHAT THE WALK IS TOLD OF A SLICE OF INTEGERS THAT CAME IN: it is nil; or it leads to a row of 'cap' cells, the numbers 'zs' (the first 'len' are its elements, the rest its spare room), each fitting its kind. -/
def IsRow (k : IntKind) (w : World) (a : Option Addr) (len cap : Nat) (zs : List Int) : Prop :=
  (a = none ∧ len = 0 ∧ cap = 0 ∧ zs = []) ∨
  ∃ x, a = some x ∧ len ≤ cap ∧ cap ≤ maxLen ∧ zs.length = cap ∧ (∀ i, i < zs.length → w.cell? (x.add i) = some (.int k (zs.getD i 0))) ∧ ∀ n ∈ zs, (Lit.int k n).wf = true

set_option maxHeartbeats 4000000 in
set_option maxRecDepth 100000 in
theorem fnOrder_walk (a0 : Option Addr) (len0 cap0 : Nat) (z0 : List Int) (w : World) (w0 : IsRow .u8 w a0 len0 cap0 z0) :
    Calls Try.prog 5 #[.slice a0 len0 cap0] w fun e w' => e = .returned (.bool true) ∧ Below w.heap.size w w' := by
  have hl9 : len0 ≤ 9223372036854775807 := by
    rcases w0 with ⟨_, h, _⟩ | ⟨_, _, h1, h2, _⟩
    · omega
    · unfold maxLen at h2; omega
  by_cases hbig : 1048576 < len0
  · clear w0
    go_enter Try.func5, Try.ntmps5
    go_wp2_with fail
    refine (big_any a0 len0 cap0 _ hl9).mono ?_
    rintro e w1 ⟨rfl, rfl⟩
    go_wp2
    go_ret
    exact ⟨rfl, Below.refl _ _⟩
  · have hcode : CodeIn w a0 len0 w.heap.size := codeIn_of w0 (by omega)
    clear w0
    go_enter Try.func5, Try.ntmps5
    go_wp2_with fail
    refine (big_any a0 len0 cap0 _ hl9).mono ?_
    rintro e w1 ⟨rfl, rfl⟩
    go_wp2_with fail
    refine (drawNumbers_any a0 len0 cap0 _ hcode).mono ?_
    rintro e w1 ⟨x, y, z, hx, hy, hz, rfl, b1⟩
    have HX : Hid (Unit → x < 18446744073709551616) := fun _ => hx
    have HY : Hid (Unit → y < 18446744073709551616) := fun _ => hy
    have HZ : Hid (Unit → z < 18446744073709551616) := fun _ => hz
    have cxy := fun W => iLess x y W hx hy
    have exy := fun W => iEqual x y W hx hy
    have cyx := fun W => iLess y x W hy hx
    have cyz := fun W => iLess y z W hy hz
    have cxz := fun W => iLess x z W hx hz
    clear hx hy hz hcode hl9 hbig
    rcases order_three x y with ⟨hk, h1, h2, h3⟩ | ⟨hk, h⟩
    · rw [h1] at cxy
      rw [h2] at exy
      rw [h3] at cyx
      go_wp2_with fail
      refine (cxy _).mono ?_
      rintro e w2 ⟨rfl, b2⟩
      go_wp2_with fail
      refine (exy _).mono ?_
      rintro e w3 ⟨rfl, b3⟩
      go_wp2_with fail
      refine (cyx _).mono ?_
      rintro e w4 ⟨rfl, b4⟩
      go_wp2_with fail
      have b14 := chain (chain (chain b1 b2) b3) b4
      by_cases kx : kindN x = 1
      · have KX : Hid (Unit → kindN x = 1) := fun _ => kx
        clear kx hk h1 h2 h3
        refine (nan_yes x _ HX KX).mono ?_
        rintro e w5 ⟨rfl, b5⟩
        go_wp2_with fail
        go_ret
        exact ⟨rfl, chain b14 b5⟩
      · have KX : Hid (Unit → kindN x ≠ 1) := fun _ => kx
        have KY : Hid (Unit → kindN y = 1) := fun _ => by rcases hk with h | h; exact absurd h kx; exact h
        clear kx hk h1 h2 h3
        refine (nan_no x _ HX KX).mono ?_
        rintro e w5 ⟨rfl, b5⟩
        go_wp2_with fail
        refine (nan_yes y _ HY KY).mono ?_
        rintro e w6 ⟨rfl, b6⟩
        go_wp2_with fail
        go_ret
        exact ⟨rfl, chain (chain b14 b5) b6⟩
    · have KX : Hid (Unit → kindN x ≠ 1) := fun _ => hk.1
      have KY : Hid (Unit → kindN y ≠ 1) := fun _ => hk.2
      clear hk
      rcases h with ⟨h1, h2, h3⟩ | ⟨h1, h2, h3⟩ | ⟨h1, h2, h3⟩
      · have HT : Hid (Unit → lessN y z = true → lessN x z = true) := fun _ h => less_trans h1 h
        rw [h1] at cxy
        rw [h2] at exy
        rw [h3] at cyx
        clear h1 h2 h3
        go_wp2_with fail
        refine (cxy _).mono ?_
        rintro e w2 ⟨rfl, b2⟩
        go_wp2_with fail
        refine (exy _).mono ?_
        rintro e w3 ⟨rfl, b3⟩
        go_wp2_with fail
        refine (cyx _).mono ?_
        rintro e w4 ⟨rfl, b4⟩
        go_wp2_with fail
        refine (nan_no x _ HX KX).mono ?_
        rintro e w5 ⟨rfl, b5⟩
        go_wp2_with fail
        refine (nan_no y _ HY KY).mono ?_
        rintro e w6 ⟨rfl, b6⟩
        go_wp2_with fail
        have b16 := chain (chain (chain (chain (chain b1 b2) b3) b4) b5) b6
        refine (cxy _).mono ?_
        rintro e w7 ⟨rfl, b7⟩
        go_wp2_with fail
        obtain ⟨r, hr⟩ : ∃ r, lessN y z = r := ⟨_, rfl⟩
        rw [hr] at cyz
        cases r
        · clear hr
          refine (cyz _).mono ?_
          rintro e w8 ⟨rfl, b8⟩
          go_wp2_with fail
          go_ret
          exact ⟨rfl, chain (chain b16 b7) b8⟩
        · rw [HT.out () hr] at cxz
          clear hr
          refine (cyz _).mono ?_
          rintro e w8 ⟨rfl, b8⟩
          go_wp2_with fail
          refine (cxz _).mono ?_
          rintro e w9 ⟨rfl, b9⟩
          go_wp2_with fail
          go_ret
          exact ⟨rfl, chain (chain (chain b16 b7) b8) b9⟩
      all_goals
        rw [h1] at cxy
        rw [h2] at exy
        rw [h3] at cyx
        clear h1 h2 h3
        go_wp2_with fail
        refine (cxy _).mono ?_
        rintro e w2 ⟨rfl, b2⟩
        go_wp2_with fail
        refine (exy _).mono ?_
        rintro e w3 ⟨rfl, b3⟩
        go_wp2_with fail
        refine (cyx _).mono ?_
        rintro e w4 ⟨rfl, b4⟩
        go_wp2_with fail
        refine (nan_no x _ HX KX).mono ?_
        rintro e w5 ⟨rfl, b5⟩
        go_wp2_with fail
        refine (nan_no y _ HY KY).mono ?_
        rintro e w6 ⟨rfl, b6⟩
        go_wp2_with fail
        refine (cxy _).mono ?_
        rintro e w7 ⟨rfl, b7⟩
        go_wp2_with fail
        go_ret
        exact ⟨rfl, chain (chain (chain (chain (chain (chain b1 b2) b3) b4) b5) b6) b7⟩

set_option maxRecDepth 100000 in
theorem fnOrder_lifted (os : Os) (started : os.Started) (H : Type) (enc : TypeId × Value → H) :
    ReturnsInHanded {} Try.checked os 5 .any (Rows.fnOrderSpec.pre6 enc Try.prog Try.f5 Rows.fnOrderRow.domain false) (Rows.fnOrderSpec.post enc Try.prog Try.f5 false true false false) := by
  refine returnsInHanded_of_change (C := Try.checked) fnOrder_own started (by kernel_rfl) Try.func5
    (ChangeSpec.witness6 (enc := enc) (C := Try.checked) false ⟨#[], #[.slice none 0 0], []⟩ 8 (by kernel_rfl) (by kernel_rfl) (by kernel_rfl) (by kernel_rfl)) ?_
  intro W base args ds gs before hval0 hW hcnd _
  have hval : ∀ (j : Nat) t v, Try.f5.params[j]? = some t → args[j]? = some v → Value.okWide Try.prog W .any base t v := hval0
  have hW' := hW
  obtain ⟨p, q, hA0, hV, rfl, hfz, hnd⟩ := hW
  have hA : DataW.TrodAll enc Try.prog W 0 (fun _ => true) true Try.f5.params.toList args.toList ds p := hA0
  rw [Try.params5] at hA hval
  obtain ⟨v0, vs0, d0, ds0, p0, q0, hargs, rfl, rfl, h0, r0⟩ := trodAll_cons hA
  obtain ⟨rfl, rfl, rfl⟩ := trodAll_nil r0
  obtain rfl : args = #[v0] := by cases args; simp_all
  obtain ⟨rfl, rfl⟩ := trodVars_none hV
  obtain ⟨a0, len0, cap0, rfl⟩ := okWide_slice Try.underlying22 (hval 0 22 v0 rfl rfl)
  have k0 := h0
  have lt0 : ∀ x ∈ p0, x.block < W.heap.size := by obtain ⟨m, hm⟩ := k0; exact DataW.trod_lt m _ _ _ hm
  obtain ⟨z0, w0⟩ : ∃ zs, IsRow .u8 W a0 len0 cap0 zs := by
    obtain ⟨fuel, hf⟩ := h0
    rcases open_ints Try.underlying22 Try.underlying5 (by kernel_rfl) hf with ⟨hcs, _⟩ | ⟨x, l, c, zs, hcs, _, hl, hm, hz, _, hcell, hwz⟩
    · simp [Value.cells] at hcs
      obtain ⟨rfl, rfl, rfl⟩ := hcs
      exact ⟨[], .inl ⟨rfl, rfl, rfl, rfl⟩⟩
    · simp [Value.cells] at hcs
      obtain ⟨rfl, rfl, rfl⟩ := hcs
      exact ⟨zs, .inr ⟨_, rfl, hl, hm, by simpa using hz, hcell, hwz⟩⟩
  clear hA0 hval0
  refine (fnOrder_walk a0 len0 cap0 z0 W w0).mono fun e W' ⟨he, bel⟩ => ?_
  subst he
  exact ⟨_, rfl, _, _, _, [], _, [], hW', trodAll_mk1 (shut_bool Try.underlying4 _), (trodAll_cons_mk (Below.trod fnOrder_laidOut (by kernel_rfl) (of_decide_eq_true (by kernel_rfl)) k0 bel lt0) trodAll_mk0), rfl, bel.frame _, fun h => by cases h⟩

theorem fnOrder_over : Rows.fnOrderRow.holds Try.pinned (OpenSpec.ofChange Rows.fnOrderSpec) :=
  OpenClaim.holds_of_wide 5 Try.f5 rfl rfl rfl rfl rfl rfl rfl ⟨rfl, rfl, rfl, rfl, rfl⟩ rfl rfl rfl rfl rfl (by kernel_rfl) Try.func5 (by kernel_rfl)
    (of_decide_eq_true (by kernel_rfl)) (by unfold Func.isWrapper; first | (rw [if_pos (by decide +kernel)]; kernel_rfl) | (rw [if_neg (by decide +kernel)]; exact ⟨rfl, rfl⟩))
    (fun os started H enc _ => fnOrder_lifted os started H enc)

theorem fnOrder_holds : Rows.FnOrderSaid := fnOrder_over
#print axioms fnOrder_holds
end Go.Proofs.Ytcdnmacnnbcfhaa
