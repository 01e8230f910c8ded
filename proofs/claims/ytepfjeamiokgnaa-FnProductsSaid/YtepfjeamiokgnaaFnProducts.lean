/-
  Drawn numbers have the same product from both sides, as the specification has it; by 1 a product and a quotient are the number; a finite number by its own self is 1, and by its own self with the other sign -1; no condition.
-/
import Derived.Test.YtepfjeamiokgnaaRows
import Derived.WalkKit
import Derived.ProofKit
import Derived.OpenShut
import Derived.ShutString
import Derived.ChangeOld
import Derived.Below
import Derived.Test.YtepfjeamiokgnaaIMulA
import Derived.Test.YtepfjeamiokgnaaMulA
import Derived.Test.YtepfjeamiokgnaaDivA
import Derived.Test.YtepfjeamiokgnaaMulL
import Derived.Test.YtepfjeamiokgnaaDraw3
import Derived.Test.YtepfjeamiokgnaaLaws3
namespace Go.Proofs.Ytepfjeamiokgnaa
open Go.ChangeShapes Go.WideShapes Go.ChangeAt Go.RowKit
open Go.ChangeMaps (open_string shut_string)
set_option linter.unusedVariables false

theorem fnProducts_own : ownKnob Try.prog.godebug = none := by kernel_rfl
theorem fnProducts_laidOut : laidOutB Try.prog = true := by kernel_rfl

/-- WHAT THE WALK IS TOLD OF A SLICE OF INTEGERS THAT CAME IN: it is nil; or it leads to a row of 'cap' cells, the numbers 'zs' (the first 'len' are its elements, the rest its spare room), each fitting its kind. -/
def IsRow (k : IntKind) (w : World) (a : Option Addr) (len cap : Nat) (zs : List Int) : Prop :=
  (a = none ∧ len = 0 ∧ cap = 0 ∧ zs = []) ∨
  ∃ x, a = some x ∧ len ≤ cap ∧ cap ≤ maxLen ∧ zs.length = cap ∧ (∀ i, i < zs.length → w.cell? (x.add i) = some (.int k (zs.getD i 0))) ∧ ∀ n ∈ zs, (Lit.int k n).wf = true

set_option maxHeartbeats 4000000 in
set_option maxRecDepth 100000 in
theorem fnProducts_walk (a0 : Option Addr) (len0 cap0 : Nat) (z0 : List Int) (w : World) (w0 : IsRow .u8 w a0 len0 cap0 z0) :
    Calls Try.prog 3 #[.slice a0 len0 cap0] w fun e w' => e = .returned (.bool true) ∧ Below w.heap.size w w' := by
  have hl9 : len0 ≤ 9223372036854775807 := by
    rcases w0 with ⟨_, h, _⟩ | ⟨_, _, h1, h2, _⟩
    · omega
    · unfold maxLen at h2; omega
  by_cases hbig : 1048576 < len0
  · clear w0
    go_enter Try.func3, Try.ntmps3
    go_wp2_with fail
    refine (big_any a0 len0 cap0 _ hl9).mono ?_
    rintro e w1 ⟨rfl, rfl⟩
    go_wp2
    go_ret
    exact ⟨rfl, Below.refl _ _⟩
  · have hcode : CodeIn w a0 len0 w.heap.size := codeIn_of w0 (by omega)
    clear w0
    go_enter Try.func3, Try.ntmps3
    go_wp2_with fail
    refine (big_any a0 len0 cap0 _ hl9).mono ?_
    rintro e w1 ⟨rfl, rfl⟩
    go_wp2_with fail
    refine (drawNumbers_any a0 len0 cap0 _ hcode).mono ?_
    rintro e w1 ⟨x, y, z, hx, hy, hz, rfl, b1⟩
    clear hz hcode hl9 hbig
    have hm := mulN_lt x y
    have cM := fun W => iMul x y W hx hy
    have sM := fun W => specMul_any x y W hx hy
    have cM2 := fun W => iMul y x W hy hx
    rw [mulN_comm y x] at cM2
    have nX := fun W => nan_any x W hx
    have nM := fun W => nan_any (mulN x y) W hm
    have cP := fun W => specParts_any x W hx
    unfold partsV at cP
    have cW := fun W => whole_any 1 W (by omega) (by omega)
    have cV := fun W => whole_any (-1) W (by omega) (by omega)
    have h1l : fromIntN 1 < 18446744073709551616 := by rw [fromInt_Z]; exact roundZ_lt _ _
    have c1 := fun W => iMul x (fromIntN 1) W hx h1l
    have d1 := fun W => iDiv x (fromIntN 1) W hx h1l
    have dX := fun W => iDiv x x W hx hx
    have cN := fun W => iNegate x W hx
    have dN := fun W => iDiv (negN x) x W (negN_lt hx) hx
    have HM : Hid (Unit → kindN x = 1 → kindN (mulN x y) = 1) := fun _ h => by
      have e : mulN x y = 9221120237041090560 := by unfold mulN mulP; rw [if_pos (.inl h)]
      rw [e]; decide
    have H1 : Hid (Unit → kindN x ≠ 1 → mulN x (fromIntN 1) = x) := fun _ h => mul_one_is hx h
    have H2 : Hid (Unit → kindN x ≠ 1 → divN x (fromIntN 1) = x) := fun _ h => div_one_is hx h
    have H3 : Hid (Unit → kindN x = 4 → divN x x = fromIntN 1) := fun _ h => div_self_is h
    have H4 : Hid (Unit → kindN x = 4 → divN (negN x) x = fromIntN (-1)) := fun _ h => div_neg_is hx h
    clear hx hy hm h1l
    obtain ⟨m, hm⟩ : ∃ q, mulN x y = q := ⟨_, rfl⟩
    obtain ⟨o, ho⟩ : ∃ q, fromIntN 1 = q := ⟨_, rfl⟩
    obtain ⟨p, hp⟩ : ∃ q, fromIntN (-1) = q := ⟨_, rfl⟩
    obtain ⟨nx, hnx⟩ : ∃ q, negN x = q := ⟨_, rfl⟩
    rw [hm] at cM sM cM2 nM HM
    rw [ho] at cW c1 d1 H1 H2 H3
    rw [hp] at cV H4
    rw [hnx] at cN dN H4
    clear hm ho hp hnx
    obtain ⟨p1, hp1⟩ : ∃ q, mulN x o = q := ⟨_, rfl⟩
    obtain ⟨q1, hq1⟩ : ∃ q, divN x o = q := ⟨_, rfl⟩
    obtain ⟨q2, hq2⟩ : ∃ q, divN x x = q := ⟨_, rfl⟩
    obtain ⟨q3, hq3⟩ : ∃ q, divN nx x = q := ⟨_, rfl⟩
    rw [hp1] at c1 H1
    rw [hq1] at d1 H2
    rw [hq2] at dX H3
    rw [hq3] at dN H4
    clear hp1 hq1 hq2 hq3
    obtain ⟨K, hK⟩ : ∃ q, kindN x = q := ⟨_, rfl⟩
    obtain ⟨B, hB⟩ : ∃ q, belowN x = q := ⟨_, rfl⟩
    obtain ⟨M, hM⟩ : ∃ q, mantN x = q := ⟨_, rfl⟩
    obtain ⟨E, hE⟩ : ∃ q, expN x = q := ⟨_, rfl⟩
    obtain ⟨L, hL⟩ : ∃ q, kindN m = q := ⟨_, rfl⟩
    rw [hK] at cP H1 H2 H3 H4 HM nX
    rw [hB, hM, hE] at cP
    rw [hL] at nM HM
    clear hK hB hM hE hL
    go_wp2_with fail
    refine (cM _).mono ?_
    rintro e w2 ⟨rfl, b2⟩
    go_wp2_with fail
    refine (sM _).mono ?_
    rintro e w3 ⟨rfl, b3⟩
    go_wp2_with fail
    refine (cM2 _).mono ?_
    rintro e w4 ⟨rfl, b4⟩
    have b14 := chain (chain (chain b1 b2) b3) b4
    clear b1 b2 b3 b4
    by_cases hK1 : K = 1
    · have hL1 := HM.out () hK1
      subst hK1 hL1
      clear H1 H2 H3 H4 HM
      go_wp2_with fail
      refine (nX _).mono ?_
      rintro e w5 ⟨rfl, b5⟩
      go_wp2_with fail
      refine (nM _).mono ?_
      rintro e w6 ⟨rfl, b6⟩
      go_wp2
      go_ret
      exact ⟨rfl, chain (chain b14 b5) b6⟩
    · have g1 := H1.out () hK1
      have g2 := H2.out () hK1
      rw [decide_eq_false hK1] at nX
      subst g1 g2
      clear H1 H2 HM nM hK1
      go_wp2_with fail
      refine (nX _).mono ?_
      rintro e w5 ⟨rfl, b5⟩
      go_wp2_with fail
      refine (cP _).mono ?_
      rintro e w6 ⟨rfl, b6⟩
      have b16 := chain (chain b14 b5) b6
      clear b14 b5 b6
      have b17 := b16.alloc b16.size (.cells #[.int .i64 K, .bool B, .int .u64 M, .int .i64 E] 30)
      go_wp2_with fail
      refine (cW _).mono ?_
      rintro e w7 ⟨rfl, rfl⟩
      go_wp2_with fail
      refine (c1 _).mono ?_
      rintro e w8 ⟨rfl, b8⟩
      go_wp2_with fail
      refine (cW _).mono ?_
      rintro e w9 ⟨rfl, rfl⟩
      go_wp2_with fail
      refine (d1 _).mono ?_
      rintro e w10 ⟨rfl, b10⟩
      have b20 := chain (chain b17 b8) b10
      have hblk := kept_block b10 (kept_block b8 (heap_alloc_new w6 (.cells #[.int .i64 K, .bool B, .int .u64 M, .int .i64 E] 30)))
      obtain ⟨k0, k1, k2, k3⟩ := cells_four hblk
      clear hblk b16 b17 b8 b10
      by_cases hK4 : K = 4
      · have g3 := H3.out () hK4
        have g4 := H4.out () hK4
        subst hK4 g3 g4
        clear H3 H4
        go_wp2_with fail
        refine (dX _).mono ?_
        rintro e w11 ⟨rfl, b11⟩
        go_wp2_with fail
        refine (cW _).mono ?_
        rintro e w12 ⟨rfl, rfl⟩
        go_wp2_with fail
        refine (cN _).mono ?_
        rintro e w12 ⟨rfl, b12⟩
        go_wp2_with fail
        refine (dN _).mono ?_
        rintro e w13 ⟨rfl, b13⟩
        go_wp2_with fail
        refine (cV _).mono ?_
        rintro e w14 ⟨rfl, rfl⟩
        go_wp2
        go_ret
        exact ⟨rfl, chain (chain (chain b20 b11) b12) b13⟩
      · have hK' : ((K : Int) != 4) = true := by simp; omega
        clear H3 H4 hK4
        go_wp2
        go_ret
        exact ⟨rfl, b20⟩

set_option maxRecDepth 100000 in
theorem fnProducts_lifted (os : Os) (started : os.Started) (H : Type) (enc : TypeId × Value → H) :
    ReturnsInHanded {} Try.checked os 3 .any (Rows.fnProductsSpec.pre6 enc Try.prog Try.f3 Rows.fnProductsRow.domain false) (Rows.fnProductsSpec.post enc Try.prog Try.f3 false true false false) := by
  refine returnsInHanded_of_change (C := Try.checked) fnProducts_own started (by kernel_rfl) Try.func3
    (ChangeSpec.witness6 (enc := enc) (C := Try.checked) false ⟨#[], #[.slice none 0 0], []⟩ 8 (by kernel_rfl) (by kernel_rfl) (by kernel_rfl) (by kernel_rfl)) ?_
  intro W base args ds gs before hval0 hW hcnd _
  have hval : ∀ (j : Nat) t v, Try.f3.params[j]? = some t → args[j]? = some v → Value.okWide Try.prog W .any base t v := hval0
  have hW' := hW
  obtain ⟨p, q, hA0, hV, rfl, hfz, hnd⟩ := hW
  have hA : DataW.TrodAll enc Try.prog W 0 (fun _ => true) true Try.f3.params.toList args.toList ds p := hA0
  rw [Try.params3] at hA hval
  obtain ⟨v0, vs0, d0, ds0, p0, q0, hargs, rfl, rfl, h0, r0⟩ := trodAll_cons hA
  obtain ⟨rfl, rfl, rfl⟩ := trodAll_nil r0
  obtain rfl : args = #[v0] := by cases args; simp_all
  obtain ⟨rfl, rfl⟩ := trodVars_none hV
  obtain ⟨a0, len0, cap0, rfl⟩ := okWide_slice Try.underlying22 (hval 0 22 v0 rfl rfl)
  have k0 := h0
  have lt0 : ∀ x ∈ p0, x.block < W.heap.size := by obtain ⟨m, hm⟩ := k0; exact DataW.trod_lt m _ _ _ hm
  obtain ⟨z0, w0⟩ : ∃ zs, IsRow .u8 W a0 len0 cap0 zs := by
    obtain ⟨fuel, hf⟩ := h0
    rcases open_ints Try.underlying22 Try.underlying5 (by kernel_rfl) hf with ⟨hcs, _⟩ | ⟨x, l, c, zs, hcs, _, hl, hm, hz, _, hcell, hwz⟩
    · simp [Value.cells] at hcs
      obtain ⟨rfl, rfl, rfl⟩ := hcs
      exact ⟨[], .inl ⟨rfl, rfl, rfl, rfl⟩⟩
    · simp [Value.cells] at hcs
      obtain ⟨rfl, rfl, rfl⟩ := hcs
      exact ⟨zs, .inr ⟨_, rfl, hl, hm, by simpa using hz, hcell, hwz⟩⟩
  clear hA0 hval0
  refine (fnProducts_walk a0 len0 cap0 z0 W w0).mono fun e W' ⟨he, bel⟩ => ?_
  subst he
  exact ⟨_, rfl, _, _, _, [], _, [], hW', trodAll_mk1 (shut_bool Try.underlying4 _), (trodAll_cons_mk (Below.trod fnProducts_laidOut (by kernel_rfl) (of_decide_eq_true (by kernel_rfl)) k0 bel lt0) trodAll_mk0), rfl, bel.frame _, fun h => by cases h⟩

theorem fnProducts_over : Rows.fnProductsRow.holds Try.pinned (OpenSpec.ofChange Rows.fnProductsSpec) :=
  OpenClaim.holds_of_wide 3 Try.f3 rfl rfl rfl rfl rfl rfl rfl ⟨rfl, rfl, rfl, rfl, rfl⟩ rfl rfl rfl rfl rfl (by kernel_rfl) Try.func3 (by kernel_rfl)
    (of_decide_eq_true (by kernel_rfl)) (by unfold Func.isWrapper; first | (rw [if_pos (by decide +kernel)]; kernel_rfl) | (rw [if_neg (by decide +kernel)]; exact ⟨rfl, rfl⟩))
    (fun os started H enc _ => fnProducts_lifted os started H enc)

theorem fnProducts_holds : Rows.FnProductsSaid := fnProducts_over
#print axioms fnProducts_holds
end Go.Proofs.Ytepfjeamiokgnaa
