/-
  A rest of drawn numbers is as the specification has it: no more than what it is of, and less than what is taken, without signs, with the sign of the first; taken again it is the same; no condition.
-/
import Derived.Test.YtepfjeamiokgnaaRows
import Derived.WalkKit
import Derived.ProofKit
import Derived.OpenShut
import Derived.ShutString
import Derived.ChangeOld
import Derived.Below
import Derived.Test.YtepfjeamiokgnaaIMulA
import Derived.Test.YtepfjeamiokgnaaRemA
import Derived.Test.YtepfjeamiokgnaaRestL
import Derived.Test.YtepfjeamiokgnaaDraw3
import Derived.Test.YtepfjeamiokgnaaLaws3
namespace Go.Proofs.Ytepfjeamiokgnaa
open Go.ChangeShapes Go.WideShapes Go.ChangeAt Go.RowKit
open Go.ChangeMaps (open_string shut_string)
set_option linter.unusedVariables false

theorem fnRests_own : ownKnob Try.prog.godebug = none := by kernel_rfl
theorem fnRests_laidOut : laidOutB Try.prog = true := by kernel_rfl

/-- WHAT THE WALK IS TOLD OF A SLICE OF INTEGERS THAT CAME IN: it is nil; or it leads to a row of 'cap' cells, the numbers 'zs' (the first 'len' are its elements, the rest its spare room), each fitting its kind. -/
def IsRow (k : IntKind) (w : World) (a : Option Addr) (len cap : Nat) (zs : List Int) : Prop :=
  (a = none ∧ len = 0 ∧ cap = 0 ∧ zs = []) ∨
  ∃ x, a = some x ∧ len ≤ cap ∧ cap ≤ maxLen ∧ zs.length = cap ∧ (∀ i, i < zs.length → w.cell? (x.add i) = some (.int k (zs.getD i 0))) ∧ ∀ n ∈ zs, (Lit.int k n).wf = true

set_option maxHeartbeats 4000000 in
set_option maxRecDepth 100000 in
theorem fnRests_walk (a0 : Option Addr) (len0 cap0 : Nat) (z0 : List Int) (w : World) (w0 : IsRow .u8 w a0 len0 cap0 z0) :
    Calls Try.prog 5 #[.slice a0 len0 cap0] w fun e w' => e = .returned (.bool true) ∧ Below w.heap.size w w' := by
  have hl9 : len0 ≤ 9223372036854775807 := by
    rcases w0 with ⟨_, h, _⟩ | ⟨_, _, h1, h2, _⟩
    · omega
    · unfold maxLen at h2; omega
  by_cases hbig : 1048576 < len0
  · clear w0
    go_enter Try.func5, Try.ntmps5
    go_wp2_with fail
    refine (big_any a0 len0 cap0 _ hl9).mono ?_
    rintro e w1 ⟨rfl, rfl⟩
    go_wp2
    go_ret
    exact ⟨rfl, Below.refl _ _⟩
  · have hcode : CodeIn w a0 len0 w.heap.size := codeIn_of w0 (by omega)
    clear w0
    go_enter Try.func5, Try.ntmps5
    go_wp2_with fail
    refine (big_any a0 len0 cap0 _ hl9).mono ?_
    rintro e w1 ⟨rfl, rfl⟩
    go_wp2_with fail
    refine (drawNumbers_any a0 len0 cap0 _ hcode).mono ?_
    rintro e w1 ⟨x, y, z, hx, hy, hz, rfl, b1⟩
    clear hz hcode hl9 hbig
    have hr := remN_lt (b := y) hx
    have iR := fun W => iRem x y W hx hy
    have sR := fun W => specRem_any x y W hx hy
    have nR := fun W => nan_any (remN x y) W hr
    have iR2 := fun W => iRem (remN x y) y W hr hy
    have cP := fun W => specParts_any y W hy
    unfold partsV at cP
    have HA : Hid (Unit → kindN (remN x y) ≠ 1 → _) := fun _ h => rest_all hx hy h
    obtain ⟨r, hr0⟩ : ∃ q, remN x y = q := ⟨_, rfl⟩
    rw [hr0] at iR sR nR iR2 HA
    obtain ⟨r2, hr2⟩ : ∃ q, remN r y = q := ⟨_, rfl⟩
    rw [hr2] at iR2 HA
    clear hr0 hr2 hr hx hy
    obtain ⟨L, hL⟩ : ∃ q, kindN r = q := ⟨_, rfl⟩
    obtain ⟨K, hK⟩ : ∃ q, kindN y = q := ⟨_, rfl⟩
    obtain ⟨B, hB⟩ : ∃ q, belowN y = q := ⟨_, rfl⟩
    obtain ⟨M, hM⟩ : ∃ q, mantN y = q := ⟨_, rfl⟩
    obtain ⟨E, hE⟩ : ∃ q, expN y = q := ⟨_, rfl⟩
    rw [hL] at nR HA
    rw [hK, hB, hM, hE] at cP
    rw [hK] at HA
    clear hL hK hB hM hE
    go_wp2_with fail
    refine (iR _).mono ?_
    rintro e w2 ⟨rfl, b2⟩
    go_wp2_with fail
    refine (sR _).mono ?_
    rintro e w3 ⟨rfl, b3⟩
    have b13 := chain (chain b1 b2) b3
    clear b1 b2 b3
    by_cases hL1 : L = 1
    · subst hL1
      clear HA
      go_wp2_with fail
      refine (nR _).mono ?_
      rintro e w4 ⟨rfl, b4⟩
      go_wp2
      go_ret
      exact ⟨rfl, chain b13 b4⟩
    · rw [decide_eq_false hL1] at nR
      obtain ⟨a1, a2, a3, a4⟩ := HA.out () hL1
      subst a4
      obtain ⟨X, hX⟩ : ∃ q, r2 % 9223372036854775808 = q := ⟨_, rfl⟩
      obtain ⟨A, hA⟩ : ∃ q, x % 9223372036854775808 = q := ⟨_, rfl⟩
      obtain ⟨C, hC⟩ : ∃ q, y % 9223372036854775808 = q := ⟨_, rfl⟩
      obtain ⟨Q, hQ⟩ : ∃ q, x / 9223372036854775808 = q := ⟨_, rfl⟩
      rw [hX] at a1 a2
      rw [hA] at a1
      rw [hC] at a2
      rw [hQ] at a3
      have x1 : (r2 : Int) % 9223372036854775808 = X := by omega
      have x2 : (x : Int) % 9223372036854775808 = A := by omega
      have x3 : (y : Int) % 9223372036854775808 = C := by omega
      have x4 : (r2 : Int) / 9223372036854775808 = Q := by omega
      have x5 : (x : Int) / 9223372036854775808 = Q := by omega
      clear HA hL1 hX hA hC hQ a3
      go_wp2_with fail
      refine (nR _).mono ?_
      rintro e w4 ⟨rfl, b4⟩
      have b14 := chain b13 b4
      clear b13 b4
      have qP := fun d os => Calls.regrown_of (w := w4) (d := d) (os := os) (cP _)
      have qR := fun d os => Calls.regrown_of (w := w4) (d := d) (os := os) (iR2 _)
      by_cases hXC : X < C
      · clear a2 qP
        go_wp2_with fail
        refine wp_region_quiet_below (by kernel_rfl) (by kernel_rfl) ?_
        iterate 30 (first | go_big_quiet_step (fail) | quiet_step (fail))
        first | go_big_quiet_step (exact qR _ _) | quiet_step (exact qR _ _)
        repeat (first | go_big_quiet_step (fail) | quiet_step (fail))
        refine wpQuiet_nil ?_
        intro _ hw'
        obtain ⟨⟨dr, osr⟩, hw''⟩ := hw'
        subst hw''
        have bh := below_regrown w4 dr osr
        go_wp2
        go_ret
        exact ⟨rfl, chain b14 bh⟩
      · have hXC' : decide (X < C) = false := by simp; omega
        have hK2 : K = 2 := by rcases a2 with h | h; exact absurd h hXC; exact h
        subst hK2
        clear a2 hXC
        have hf := fun (W : World) => Try.partsKind 2 B M E W
        go_wp2_with fail
        refine wp_region_quiet_below (by kernel_rfl) (by kernel_rfl) ?_
        iterate 13 (first | go_big_quiet_step (fail) | quiet_step (fail))
        first | go_big_quiet_step (exact qP _ _) | quiet_step (exact qP _ _)
        iterate 16 (first | go_big_quiet_step (fail) | quiet_step (fail))
        first | go_big_quiet_step (exact qR _ _) | quiet_step (exact qR _ _)
        repeat (first | go_big_quiet_step (fail) | quiet_step (fail))
        refine wpQuiet_nil ?_
        intro _ hw'
        obtain ⟨⟨dr, osr⟩, hw''⟩ := hw'
        subst hw''
        have bh := below_regrown w4 dr osr
        go_wp2
        go_ret
        exact ⟨rfl, chain b14 bh⟩

set_option maxRecDepth 100000 in
theorem fnRests_lifted (os : Os) (started : os.Started) (H : Type) (enc : TypeId × Value → H) :
    ReturnsInHanded {} Try.checked os 5 .any (Rows.fnRestsSpec.pre6 enc Try.prog Try.f5 Rows.fnRestsRow.domain false) (Rows.fnRestsSpec.post enc Try.prog Try.f5 false true false false) := by
  refine returnsInHanded_of_change (C := Try.checked) fnRests_own started (by kernel_rfl) Try.func5
    (ChangeSpec.witness6 (enc := enc) (C := Try.checked) false ⟨#[], #[.slice none 0 0], []⟩ 8 (by kernel_rfl) (by kernel_rfl) (by kernel_rfl) (by kernel_rfl)) ?_
  intro W base args ds gs before hval0 hW hcnd _
  have hval : ∀ (j : Nat) t v, Try.f5.params[j]? = some t → args[j]? = some v → Value.okWide Try.prog W .any base t v := hval0
  have hW' := hW
  obtain ⟨p, q, hA0, hV, rfl, hfz, hnd⟩ := hW
  have hA : DataW.TrodAll enc Try.prog W 0 (fun _ => true) true Try.f5.params.toList args.toList ds p := hA0
  rw [Try.params5] at hA hval
  obtain ⟨v0, vs0, d0, ds0, p0, q0, hargs, rfl, rfl, h0, r0⟩ := trodAll_cons hA
  obtain ⟨rfl, rfl, rfl⟩ := trodAll_nil r0
  obtain rfl : args = #[v0] := by cases args; simp_all
  obtain ⟨rfl, rfl⟩ := trodVars_none hV
  obtain ⟨a0, len0, cap0, rfl⟩ := okWide_slice Try.underlying22 (hval 0 22 v0 rfl rfl)
  have k0 := h0
  have lt0 : ∀ x ∈ p0, x.block < W.heap.size := by obtain ⟨m, hm⟩ := k0; exact DataW.trod_lt m _ _ _ hm
  obtain ⟨z0, w0⟩ : ∃ zs, IsRow .u8 W a0 len0 cap0 zs := by
    obtain ⟨fuel, hf⟩ := h0
    rcases open_ints Try.underlying22 Try.underlying5 (by kernel_rfl) hf with ⟨hcs, _⟩ | ⟨x, l, c, zs, hcs, _, hl, hm, hz, _, hcell, hwz⟩
    · simp [Value.cells] at hcs
      obtain ⟨rfl, rfl, rfl⟩ := hcs
      exact ⟨[], .inl ⟨rfl, rfl, rfl, rfl⟩⟩
    · simp [Value.cells] at hcs
      obtain ⟨rfl, rfl, rfl⟩ := hcs
      exact ⟨zs, .inr ⟨_, rfl, hl, hm, by simpa using hz, hcell, hwz⟩⟩
  clear hA0 hval0
  refine (fnRests_walk a0 len0 cap0 z0 W w0).mono fun e W' ⟨he, bel⟩ => ?_
  subst he
  exact ⟨_, rfl, _, _, _, [], _, [], hW', trodAll_mk1 (shut_bool Try.underlying4 _), (trodAll_cons_mk (Below.trod fnRests_laidOut (by kernel_rfl) (of_decide_eq_true (by kernel_rfl)) k0 bel lt0) trodAll_mk0), rfl, bel.frame _, fun h => by cases h⟩

theorem fnRests_over : Rows.fnRestsRow.holds Try.pinned (OpenSpec.ofChange Rows.fnRestsSpec) :=
  OpenClaim.holds_of_wide 5 Try.f5 rfl rfl rfl rfl rfl rfl rfl ⟨rfl, rfl, rfl, rfl, rfl⟩ rfl rfl rfl rfl rfl (by kernel_rfl) Try.func5 (by kernel_rfl)
    (of_decide_eq_true (by kernel_rfl)) (by unfold Func.isWrapper; first | (rw [if_pos (by decide +kernel)]; kernel_rfl) | (rw [if_neg (by decide +kernel)]; exact ⟨rfl, rfl⟩))
    (fun os started H enc _ => fnRests_lifted os started H enc)

theorem fnRests_holds : Rows.FnRestsSaid := fnRests_over
#print axioms fnRests_holds
end Go.Proofs.Ytepfjeamiokgnaa
