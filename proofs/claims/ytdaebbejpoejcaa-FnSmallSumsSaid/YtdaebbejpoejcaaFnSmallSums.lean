/-
  Sums and differences of drawn whole numbers that are small enough are just, and so are sums of small multiples of 2^-7; no condition.
-/
import Derived.Test.YtdaebbejpoejcaaRows
import Derived.WalkKit
import Derived.ProofKit
import Derived.OpenShut
import Derived.ShutString
import Derived.ChangeOld
import Derived.Below
import Derived.Test.YtdaebbejpoejcaaIAddF
import Derived.Test.YtdaebbejpoejcaaAddL
import Derived.Test.YtdaebbejpoejcaaDraw3
import Derived.Test.YtdaebbejpoejcaaPlaces
import Derived.Test.YtdaebbejpoejcaaLaws3
import Derived.Test.YtdaebbejpoejcaaLaws4
namespace Go.Proofs.Ytdaebbejpoejcaa
open Go.ChangeShapes Go.WideShapes Go.ChangeAt Go.RowKit
open Go.ChangeMaps (open_string shut_string)
set_option linter.unusedVariables false

theorem fnSmallSums_own : ownKnob Try.prog.godebug = none := by kernel_rfl
theorem fnSmallSums_laidOut : laidOutB Try.prog = true := by kernel_rfl

/-- WHAT THE WALK IS TOLD OF A SLICE OF INTEGERS THAT CAME IN: it is nil; or it leads to a row of 'cap' cells, the numbers 'zs' (the first 'len' are its elements, the rest its spare room), each fitting its kind. -/
def IsRow (k : IntKind) (w : World) (a : Option Addr) (len cap : Nat) (zs : List Int) : Prop :=
  (a = none ∧ len = 0 ∧ cap = 0 ∧ zs = []) ∨
  ∃ x, a = some x ∧ len ≤ cap ∧ cap ≤ maxLen ∧ zs.length = cap ∧ (∀ i, i < zs.length → w.cell? (x.add i) = some (.int k (zs.getD i 0))) ∧ ∀ n ∈ zs, (Lit.int k n).wf = true

set_option maxHeartbeats 4000000 in
set_option maxRecDepth 100000 in
theorem fnSmallSums_walk (a0 : Option Addr) (len0 cap0 : Nat) (z0 : List Int) (w : World) (w0 : IsRow .u8 w a0 len0 cap0 z0) :
    Calls Try.prog 6 #[.slice a0 len0 cap0] w fun e w' => e = .returned (.bool true) ∧ Below w.heap.size w w' := by
  have hl9 : len0 ≤ 9223372036854775807 := by
    rcases w0 with ⟨_, h, _⟩ | ⟨_, _, h1, h2, _⟩
    · omega
    · unfold maxLen at h2; omega
  by_cases hbig : 1048576 < len0
  · clear w0
    go_enter Try.func6, Try.ntmps6
    go_wp2_with fail
    refine (big_any a0 len0 cap0 _ hl9).mono ?_
    rintro e w1 ⟨rfl, rfl⟩
    go_wp2
    go_ret
    exact ⟨rfl, Below.refl _ _⟩
  · have hcode : CodeIn w a0 len0 w.heap.size := codeIn_of w0 (by omega)
    clear w0
    go_enter Try.func6, Try.ntmps6
    go_wp2_with fail
    refine (big_any a0 len0 cap0 _ hl9).mono ?_
    rintro e w1 ⟨rfl, rfl⟩
    go_wp2_with fail
    refine (drawPlaces_any a0 len0 cap0 _ hcode).mono ?_
    rintro e w1 ⟨v, ps, rfl, ⟨hps, hlow, gp, cp, rfl, hgp, hgl, hcell⟩, b1⟩
    clear hcode hl9 hbig
    obtain ⟨p0, hp0⟩ : ∃ p, ps.getD 0 0 = p := ⟨_, rfl⟩
    obtain ⟨p1, hp1⟩ : ∃ p, ps.getD 1 0 = p := ⟨_, rfl⟩
    obtain ⟨p2, hp2⟩ : ∃ p, ps.getD 2 0 = p := ⟨_, rfl⟩
    obtain ⟨p3, hp3⟩ : ∃ p, ps.getD 3 0 = p := ⟨_, rfl⟩
    obtain ⟨p4, hp4⟩ : ∃ p, ps.getD 4 0 = p := ⟨_, rfl⟩
    obtain ⟨p5, hp5⟩ : ∃ p, ps.getD 5 0 = p := ⟨_, rfl⟩
    obtain ⟨p6, hp6⟩ : ∃ p, ps.getD 6 0 = p := ⟨_, rfl⟩
    obtain ⟨p7, hp7⟩ : ∃ p, ps.getD 7 0 = p := ⟨_, rfl⟩
    have l0 := hlow 0
    have l1 := hlow 1
    have l2 := hlow 2
    have l3 := hlow 3
    have l4 := hlow 4
    have l5 := hlow 5
    have l6 := hlow 6
    have l7 := hlow 7
    have c0 := hcell 0 (by omega)
    have c1 := hcell 1 (by omega)
    have c2 := hcell 2 (by omega)
    have c3 := hcell 3 (by omega)
    have c4 := hcell 4 (by omega)
    have c5 := hcell 5 (by omega)
    have c6 := hcell 6 (by omega)
    have c7 := hcell 7 (by omega)
    rw [hp0] at l0 c0
    rw [hp1] at l1 c1
    rw [hp2] at l2 c2
    rw [hp3] at l3 c3
    rw [hp4] at l4 c4
    rw [hp5] at l5 c5
    rw [hp6] at l6 c6
    rw [hp7] at l7 c7
    clear hp0 hp1 hp2 hp3 hp4 hp5 hp6 hp7 hlow hcell hps
    have u1 : (p0 : Int) * p1 ≤ 99980001 := by
      have : p0 * p1 ≤ 9999 * 9999 := Nat.mul_le_mul (by omega) (by omega)
      have e : ((p0 * p1 : Nat) : Int) = (p0 : Int) * p1 := by simp
      omega
    have u2 : (0 : Int) ≤ (p0 : Int) * p1 := Int.mul_nonneg (by omega) (by omega)
    have u3 : (p3 : Int) * p4 ≤ 99980001 := by
      have : p3 * p4 ≤ 9999 * 9999 := Nat.mul_le_mul (by omega) (by omega)
      have e : ((p3 * p4 : Nat) : Int) = (p3 : Int) * p4 := by simp
      omega
    have u4 : (0 : Int) ≤ (p3 : Int) * p4 := Int.mul_nonneg (by omega) (by omega)
    go_wp2_with fail
    go_quiet (fail)
    obtain ⟨n, hn⟩ : ∃ n, (p0 : Int) * p1 - p2 = n := ⟨_, rfl⟩
    have hn1 : -10000 ≤ n := by omega
    have hn2 : n < 100000000 := by omega
    simp only [hn]
    clear hn l0 l1 l2 u1 u2 c0 c1 c2
    go_wp2_with fail
    go_quiet (fail)
    obtain ⟨m, hm⟩ : ∃ m, (p3 : Int) * p4 - p5 = m := ⟨_, rfl⟩
    have hm1 : -10000 ≤ m := by omega
    have hm2 : m < 100000000 := by omega
    simp only [hm]
    clear hm l3 l4 l5 u3 u4 c3 c4 c5
    have tn := told_fine (m := n) (e := 0) (by omega) (by omega) (by omega)
    have tm := told_fine (m := m) (e := 0) (by omega) (by omega) (by omega)
    have cN := fun W => whole_any n W (by omega) (by omega)
    have cM := fun W => whole_any m W (by omega) (by omega)
    have cS := fun W => whole_below (n + m) W (by omega) (by omega)
    have cD := fun W => whole_below (n - m) W (by omega) (by omega)
    have iS := fun W => iAdd (fromIntN n) (fromIntN m) W (by rw [fromInt_Z]; exact tn.1.lt) (by rw [fromInt_Z]; exact tm.1.lt)
    have iD := fun W => iSub (fromIntN n) (fromIntN m) W (by rw [fromInt_Z]; exact tn.1.lt) (by rw [fromInt_Z]; exact tm.1.lt)
    have eS : addN (fromIntN n) (fromIntN m) = fromIntN (n + m) := by rw [fromInt_Z, fromInt_Z, fromInt_Z]; exact add_whole (by omega) (by omega) (by omega) (by omega)
    have eD : subN (fromIntN n) (fromIntN m) = fromIntN (n - m) := by rw [fromInt_Z, fromInt_Z, fromInt_Z]; exact sub_whole (by omega) (by omega) (by omega) (by omega)
    rw [eS] at iS
    rw [eD] at iD
    clear eS eD tn tm
    have t6 := told_fine (m := (p6 : Int)) (e := -7) (by omega) (by omega) (by omega)
    have t7 := told_fine (m := (p7 : Int)) (e := -7) (by omega) (by omega) (by omega)
    have c6r := fun W => round_below p6 (-7) W (by omega) (by omega) (by omega)
    have c7r := fun W => round_below p7 (-7) W (by omega) (by omega) (by omega)
    have c8r := fun W => round_below (p6 + p7) (-7) W (by omega) (by omega) (by omega)
    have iH := fun W => iAdd (roundZ p6 (-7)) (roundZ p7 (-7)) W t6.1.lt t7.1.lt
    have eH : addN (roundZ p6 (-7)) (roundZ p7 (-7)) = roundZ ((p6 + p7 : Nat) : Int) (-7) := by rw [Int.natCast_add]; exact add_whole (by omega) (by omega) (by omega) (by omega)
    rw [eH] at iH
    rw [Int.natCast_add] at c8r iH
    clear eH t6 t7
    obtain ⟨fn, hfn⟩ : ∃ q, fromIntN n = q := ⟨_, rfl⟩
    obtain ⟨fm, hfm⟩ : ∃ q, fromIntN m = q := ⟨_, rfl⟩
    obtain ⟨fs, hfs⟩ : ∃ q, fromIntN (n + m) = q := ⟨_, rfl⟩
    obtain ⟨fd, hfd⟩ : ∃ q, fromIntN (n - m) = q := ⟨_, rfl⟩
    obtain ⟨r6, hr6⟩ : ∃ q, roundZ p6 (-7) = q := ⟨_, rfl⟩
    obtain ⟨r7, hr7⟩ : ∃ q, roundZ p7 (-7) = q := ⟨_, rfl⟩
    obtain ⟨r8, hr8⟩ : ∃ q, roundZ ((p6 : Int) + p7) (-7) = q := ⟨_, rfl⟩
    rw [hfn] at cN iS iD
    rw [hfm] at cM iS iD
    rw [hfs] at cS iS
    rw [hfd] at cD iD
    rw [hr6] at c6r iH
    rw [hr7] at c7r iH
    rw [hr8] at c8r iH
    clear hfn hfm hfs hfd hr6 hr7 hr8
    go_wp2_with fail
    refine (cN _).mono ?_
    rintro e w2 ⟨rfl, rfl⟩
    go_wp2_with fail
    refine (cM _).mono ?_
    rintro e w2 ⟨rfl, rfl⟩
    go_wp2_with fail
    refine (iS _).mono ?_
    rintro e w2 ⟨rfl, b2⟩
    go_wp2_with fail
    refine (cN _).mono ?_
    rintro e w3 ⟨rfl, rfl⟩
    go_wp2_with fail
    refine (cM _).mono ?_
    rintro e w3 ⟨rfl, rfl⟩
    go_wp2_with fail
    refine (iD _).mono ?_
    rintro e w3 ⟨rfl, b3⟩
    have b23 := chain (chain (below_drewN (Below.refl w1.heap.size w1) _) b2) b3
    have d6 := (b23.cell (p := ⟨gp, 6, none⟩) hgl).trans c6
    have d7 := (b23.cell (p := ⟨gp, 7, none⟩) hgl).trans c7
    have b13 := chain b1 b23
    clear b2 b3 b23 c6 c7 b1 hgl
    go_wp2_with fail
    have k6 := cell_regrown d6
    have k7 := cell_regrown d7
    have q6 := fun d os => Calls.regrown_of (w := w3) (d := d) (os := os) (c6r _)
    have q7 := fun d os => Calls.regrown_of (w := w3) (d := d) (os := os) (c7r _)
    have qH := fun d os => Calls.regrown_of (w := w3) (d := d) (os := os) (iH _)
    refine wp_region_quiet_below (by kernel_rfl) (by kernel_rfl) ?_
    iterate 4 (first | go_big_quiet_step (fail) | quiet_step (fail))
    first | go_big_quiet_step (exact q6 _ _) | quiet_step (exact q6 _ _)
    iterate 4 (first | go_big_quiet_step (fail) | quiet_step (fail))
    first | go_big_quiet_step (exact q7 _ _) | quiet_step (exact q7 _ _)
    first | go_big_quiet_step (exact qH _ _) | quiet_step (exact qH _ _)
    repeat (first | go_big_quiet_step (fail) | quiet_step (fail))
    refine wpQuiet_nil ?_
    intro _ hw'
    obtain ⟨⟨dq, osq⟩, hw''⟩ := hw'
    subst hw''
    have bg := below_regrown w3 dq osq
    have g6 := k6 dq osq
    have g7 := k7 dq osq
    clear k6 k7 q6 q7 qH d6 d7
    have b1g := chain b13 bg
    clear bg b13
    revert g6 g7 b1g
    generalize Go.Sort.grow (redrawn w3 dq) osq = wg
    intro g6 g7 b1g
    go_wp2_with fail
    have k6 := cell_regrown g6
    have k7 := cell_regrown g7
    have qS := fun d os => Calls.regrown_of (w := wg) (d := d) (os := os) (cS _)
    have qD := fun d os => Calls.regrown_of (w := wg) (d := d) (os := os) (cD _)
    have q8 := fun d os => Calls.regrown_of (w := wg) (d := d) (os := os) (c8r _)
    refine wp_region_quiet_below (by kernel_rfl) (by kernel_rfl) ?_
    iterate 4 (first | go_big_quiet_step (fail) | quiet_step (fail))
    first | go_big_quiet_step (exact qS _ _) | quiet_step (exact qS _ _)
    iterate 6 (first | go_big_quiet_step (fail) | quiet_step (fail))
    first | go_big_quiet_step (exact qD _ _) | quiet_step (exact qD _ _)
    iterate 12 (first | go_big_quiet_step (fail) | quiet_step (fail))
    first | go_big_quiet_step (exact q8 _ _) | quiet_step (exact q8 _ _)
    repeat (first | go_big_quiet_step (fail) | quiet_step (fail))
    refine wpQuiet_nil ?_
    intro _ hw'
    obtain ⟨⟨dr, osr⟩, hw''⟩ := hw'
    subst hw''
    have bh := below_regrown wg dr osr
    go_wp2
    go_ret
    exact ⟨rfl, chain b1g bh⟩

set_option maxRecDepth 100000 in
theorem fnSmallSums_lifted (os : Os) (started : os.Started) (H : Type) (enc : TypeId × Value → H) :
    ReturnsInHanded {} Try.checked os 6 .any (Rows.fnSmallSumsSpec.pre6 enc Try.prog Try.f6 Rows.fnSmallSumsRow.domain false) (Rows.fnSmallSumsSpec.post enc Try.prog Try.f6 false true false false) := by
  refine returnsInHanded_of_change (C := Try.checked) fnSmallSums_own started (by kernel_rfl) Try.func6
    (ChangeSpec.witness6 (enc := enc) (C := Try.checked) false ⟨#[], #[.slice none 0 0], []⟩ 8 (by kernel_rfl) (by kernel_rfl) (by kernel_rfl) (by kernel_rfl)) ?_
  intro W base args ds gs before hval0 hW hcnd _
  have hval : ∀ (j : Nat) t v, Try.f6.params[j]? = some t → args[j]? = some v → Value.okWide Try.prog W .any base t v := hval0
  have hW' := hW
  obtain ⟨p, q, hA0, hV, rfl, hfz, hnd⟩ := hW
  have hA : DataW.TrodAll enc Try.prog W 0 (fun _ => true) true Try.f6.params.toList args.toList ds p := hA0
  rw [Try.params6] at hA hval
  obtain ⟨v0, vs0, d0, ds0, p0, q0, hargs, rfl, rfl, h0, r0⟩ := trodAll_cons hA
  obtain ⟨rfl, rfl, rfl⟩ := trodAll_nil r0
  obtain rfl : args = #[v0] := by cases args; simp_all
  obtain ⟨rfl, rfl⟩ := trodVars_none hV
  obtain ⟨a0, len0, cap0, rfl⟩ := okWide_slice Try.underlying22 (hval 0 22 v0 rfl rfl)
  have k0 := h0
  have lt0 : ∀ x ∈ p0, x.block < W.heap.size := by obtain ⟨m, hm⟩ := k0; exact DataW.trod_lt m _ _ _ hm
  obtain ⟨z0, w0⟩ : ∃ zs, IsRow .u8 W a0 len0 cap0 zs := by
    obtain ⟨fuel, hf⟩ := h0
    rcases open_ints Try.underlying22 Try.underlying5 (by kernel_rfl) hf with ⟨hcs, _⟩ | ⟨x, l, c, zs, hcs, _, hl, hm, hz, _, hcell, hwz⟩
    · simp [Value.cells] at hcs
      obtain ⟨rfl, rfl, rfl⟩ := hcs
      exact ⟨[], .inl ⟨rfl, rfl, rfl, rfl⟩⟩
    · simp [Value.cells] at hcs
      obtain ⟨rfl, rfl, rfl⟩ := hcs
      exact ⟨zs, .inr ⟨_, rfl, hl, hm, by simpa using hz, hcell, hwz⟩⟩
  clear hA0 hval0
  refine (fnSmallSums_walk a0 len0 cap0 z0 W w0).mono fun e W' ⟨he, bel⟩ => ?_
  subst he
  exact ⟨_, rfl, _, _, _, [], _, [], hW', trodAll_mk1 (shut_bool Try.underlying4 _), (trodAll_cons_mk (Below.trod fnSmallSums_laidOut (by kernel_rfl) (of_decide_eq_true (by kernel_rfl)) k0 bel lt0) trodAll_mk0), rfl, bel.frame _, fun h => by cases h⟩

theorem fnSmallSums_over : Rows.fnSmallSumsRow.holds Try.pinned (OpenSpec.ofChange Rows.fnSmallSumsSpec) :=
  OpenClaim.holds_of_wide 6 Try.f6 rfl rfl rfl rfl rfl rfl rfl ⟨rfl, rfl, rfl, rfl, rfl⟩ rfl rfl rfl rfl rfl (by kernel_rfl) Try.func6 (by kernel_rfl)
    (of_decide_eq_true (by kernel_rfl)) (by unfold Func.isWrapper; first | (rw [if_pos (by decide +kernel)]; kernel_rfl) | (rw [if_neg (by decide +kernel)]; exact ⟨rfl, rfl⟩))
    (fun os started H enc _ => fnSmallSums_lifted os started H enc)

theorem fnSmallSums_holds : Rows.FnSmallSumsSaid := fnSmallSums_over
#print axioms fnSmallSums_holds
end Go.Proofs.Ytdaebbejpoejcaa
