/-
  Drawn whole numbers up to some 10^9 are told just by FromInt: Less and Equal order them, ToInt32 is them modulo 2^32, Truthy and Below are theirs; no condition.
-/
import Derived.Test.YtdaebbejpoejcaaRows
import Derived.WalkKit
import Derived.ProofKit
import Derived.OpenShut
import Derived.ShutString
import Derived.ChangeOld
import Derived.Below
import Derived.Test.YtdaebbejpoejcaaIRound
import Derived.Test.YtdaebbejpoejcaaIOrder
import Derived.Test.YtdaebbejpoejcaaWholeB
import Derived.Test.YtdaebbejpoejcaaDraw3
import Derived.Test.YtdaebbejpoejcaaPlaces
import Derived.Test.YtdaebbejpoejcaaLaws3
namespace Go.Proofs.Ytdaebbejpoejcaa
open Go.ChangeShapes Go.WideShapes Go.ChangeAt Go.RowKit
open Go.ChangeMaps (open_string shut_string)
set_option linter.unusedVariables false

theorem fnWholes_own : ownKnob Try.prog.godebug = none := by kernel_rfl
theorem fnWholes_laidOut : laidOutB Try.prog = true := by kernel_rfl

/-- WHAT THE WALK IS TOLD OF A SLICE OF INTEGERS THAT CAME IN: it is nil; or it leads to a row of 'cap' cells, the numbers 'zs' (the first 'len' are its elements, the rest its spare room), each fitting its kind. -/
def IsRow (k : IntKind) (w : World) (a : Option Addr) (len cap : Nat) (zs : List Int) : Prop :=
  (a = none ∧ len = 0 ∧ cap = 0 ∧ zs = []) ∨
  ∃ x, a = some x ∧ len ≤ cap ∧ cap ≤ maxLen ∧ zs.length = cap ∧ (∀ i, i < zs.length → w.cell? (x.add i) = some (.int k (zs.getD i 0))) ∧ ∀ n ∈ zs, (Lit.int k n).wf = true

set_option maxHeartbeats 4000000 in
set_option maxRecDepth 100000 in
theorem fnWholes_walk (a0 : Option Addr) (len0 cap0 : Nat) (z0 : List Int) (w : World) (w0 : IsRow .u8 w a0 len0 cap0 z0) :
    Calls Try.prog 4 #[.slice a0 len0 cap0] w fun e w' => e = .returned (.bool true) ∧ Below w.heap.size w w' := by
  have hl9 : len0 ≤ 9223372036854775807 := by
    rcases w0 with ⟨_, h, _⟩ | ⟨_, _, h1, h2, _⟩
    · omega
    · unfold maxLen at h2; omega
  by_cases hbig : 1048576 < len0
  · clear w0
    go_enter Try.func4, Try.ntmps4
    go_wp2_with fail
    refine (big_any a0 len0 cap0 _ hl9).mono ?_
    rintro e w1 ⟨rfl, rfl⟩
    go_wp2
    go_ret
    exact ⟨rfl, Below.refl _ _⟩
  · have hcode : CodeIn w a0 len0 w.heap.size := codeIn_of w0 (by omega)
    clear w0
    go_enter Try.func4, Try.ntmps4
    go_wp2_with fail
    refine (big_any a0 len0 cap0 _ hl9).mono ?_
    rintro e w1 ⟨rfl, rfl⟩
    go_wp2_with fail
    refine (drawPlaces_any a0 len0 cap0 _ hcode).mono ?_
    rintro e w1 ⟨v, ps, rfl, ⟨hps, hlow, gp, cp, rfl, hgp, hgl, hcell⟩, b1⟩
    clear hcode hl9 hbig
    obtain ⟨p0, hp0⟩ : ∃ p, ps.getD 0 0 = p := ⟨_, rfl⟩
    obtain ⟨p1, hp1⟩ : ∃ p, ps.getD 1 0 = p := ⟨_, rfl⟩
    obtain ⟨p2, hp2⟩ : ∃ p, ps.getD 2 0 = p := ⟨_, rfl⟩
    obtain ⟨p3, hp3⟩ : ∃ p, ps.getD 3 0 = p := ⟨_, rfl⟩
    have l0 := hlow 0
    have l1 := hlow 1
    have l2 := hlow 2
    have l3 := hlow 3
    have c0 := hcell 0 (by omega)
    have c1 := hcell 1 (by omega)
    have c2 := hcell 2 (by omega)
    have c3 := hcell 3 (by omega)
    rw [hp0] at l0 c0
    rw [hp1] at l1 c1
    rw [hp2] at l2 c2
    rw [hp3] at l3 c3
    clear hp0 hp1 hp2 hp3 hlow hcell hps
    go_wp2_with fail
    go_quiet (fail)
    obtain ⟨n, hn⟩ : ∃ n, ((p0 : Int) * 10000 + p1) * 9 - 400000000 = n := ⟨_, rfl⟩
    have hn1 : -400000000 ≤ n := by omega
    have hn2 : n < 600000000 := by omega
    simp only [hn]
    clear hn l0 l1
    go_wp2_with fail
    go_quiet (fail)
    obtain ⟨m, hm⟩ : ∃ m, ((p2 : Int) * 10000 + p3) * 9 - 400000000 = m := ⟨_, rfl⟩
    have hm1 : -400000000 ≤ m := by omega
    have hm2 : m < 600000000 := by omega
    simp only [hm]
    clear hm l2 l3
    have tn := told_of (n := n) (by omega) (by omega)
    have tm := told_of (n := m) (by omega) (by omega)
    have cF := fun W => iFromInt n W (by omega) (by omega)
    have cG := fun W => iFromInt m W (by omega) (by omega)
    have cK := fun W => iToInt32 (fromIntN n) W tn.lt
    have cL := fun W => iLess (fromIntN n) (fromIntN m) W tn.lt tm.lt
    have cE := fun W => iEqual (fromIntN n) (fromIntN m) W tn.lt tm.lt
    have cT := fun W => iTruthy (fromIntN n) W tn.lt
    have cP := fun W => iParts (fromIntN n) W tn.lt
    obtain ⟨t1, t2, t3⟩ := told_trunc tn (by omega) (by omega)
    rw [told_less (by omega) (by omega) (by omega) (by omega)] at cL
    rw [told_equal (by omega) (by omega) (by omega) (by omega)] at cE
    rw [told_truthy tn, show decide (n ≠ 0) = (n != 0) by by_cases h : n = 0 <;> simp [h]] at cT
    unfold partsV at cP
    rw [tn.below] at cP
    obtain ⟨k, hk⟩ : ∃ k, low32 (belowN (fromIntN n)) (wholeN (fromIntN n)) = k := ⟨_, rfl⟩
    rw [hk] at cK t1 t2 t3
    obtain ⟨q1, h1⟩ : ∃ q, (kindN (fromIntN n) : Int) = q := ⟨_, rfl⟩
    obtain ⟨q2, h2⟩ : ∃ q, (mantN (fromIntN n) : Int) = q := ⟨_, rfl⟩
    obtain ⟨q3, h3⟩ : ∃ q, expN (fromIntN n) = q := ⟨_, rfl⟩
    rw [h1, h2, h3] at cP
    clear hk h1 h2 h3 tn tm
    obtain ⟨X, hX⟩ : ∃ X, fromIntN n = X := ⟨_, rfl⟩
    obtain ⟨Y, hY⟩ : ∃ Y, fromIntN m = Y := ⟨_, rfl⟩
    rw [hX] at cF cK cL cE cT cP
    rw [hY] at cG cL cE
    clear hX hY
    have t4 : (k - n).tmod 4294967296 = 0 := Int.tmod_eq_zero_of_dvd (Int.dvd_of_emod_eq_zero t1)
    clear t1
    go_wp2_with fail
    refine (cF _).mono ?_
    rintro e w2 ⟨rfl, b2⟩
    go_wp2_with fail
    refine (cG _).mono ?_
    rintro e w3 ⟨rfl, b3⟩
    go_wp2_with fail
    refine (cK _).mono ?_
    rintro e w4 ⟨rfl, b4⟩
    go_wp2_with fail
    refine (cL _).mono ?_
    rintro e w5 ⟨rfl, b5⟩
    go_wp2_with fail
    refine (cE _).mono ?_
    rintro e w6 ⟨rfl, b6⟩
    go_wp2_with fail
    refine (cT _).mono ?_
    rintro e w7 ⟨rfl, b7⟩
    go_wp2_with fail
    refine (cP _).mono ?_
    rintro e w8 ⟨rfl, b8⟩
    go_wp2_with fail
    simp only [Try.partsBelow]
    go_wp2_with fail
    go_ret
    have b12 : Below w.heap.size w w2 := chain (below_drewN b1 _) b2
    exact ⟨rfl, chain (chain (chain (chain (chain (chain b12 b3) b4) b5) b6) b7) b8⟩

set_option maxRecDepth 100000 in
theorem fnWholes_lifted (os : Os) (started : os.Started) (H : Type) (enc : TypeId × Value → H) :
    ReturnsInHanded {} Try.checked os 4 .any (Rows.fnWholesSpec.pre6 enc Try.prog Try.f4 Rows.fnWholesRow.domain false) (Rows.fnWholesSpec.post enc Try.prog Try.f4 false true false false) := by
  refine returnsInHanded_of_change (C := Try.checked) fnWholes_own started (by kernel_rfl) Try.func4
    (ChangeSpec.witness6 (enc := enc) (C := Try.checked) false ⟨#[], #[.slice none 0 0], []⟩ 8 (by kernel_rfl) (by kernel_rfl) (by kernel_rfl) (by kernel_rfl)) ?_
  intro W base args ds gs before hval0 hW hcnd _
  have hval : ∀ (j : Nat) t v, Try.f4.params[j]? = some t → args[j]? = some v → Value.okWide Try.prog W .any base t v := hval0
  have hW' := hW
  obtain ⟨p, q, hA0, hV, rfl, hfz, hnd⟩ := hW
  have hA : DataW.TrodAll enc Try.prog W 0 (fun _ => true) true Try.f4.params.toList args.toList ds p := hA0
  rw [Try.params4] at hA hval
  obtain ⟨v0, vs0, d0, ds0, p0, q0, hargs, rfl, rfl, h0, r0⟩ := trodAll_cons hA
  obtain ⟨rfl, rfl, rfl⟩ := trodAll_nil r0
  obtain rfl : args = #[v0] := by cases args; simp_all
  obtain ⟨rfl, rfl⟩ := trodVars_none hV
  obtain ⟨a0, len0, cap0, rfl⟩ := okWide_slice Try.underlying22 (hval 0 22 v0 rfl rfl)
  have k0 := h0
  have lt0 : ∀ x ∈ p0, x.block < W.heap.size := by obtain ⟨m, hm⟩ := k0; exact DataW.trod_lt m _ _ _ hm
  obtain ⟨z0, w0⟩ : ∃ zs, IsRow .u8 W a0 len0 cap0 zs := by
    obtain ⟨fuel, hf⟩ := h0
    rcases open_ints Try.underlying22 Try.underlying5 (by kernel_rfl) hf with ⟨hcs, _⟩ | ⟨x, l, c, zs, hcs, _, hl, hm, hz, _, hcell, hwz⟩
    · simp [Value.cells] at hcs
      obtain ⟨rfl, rfl, rfl⟩ := hcs
      exact ⟨[], .inl ⟨rfl, rfl, rfl, rfl⟩⟩
    · simp [Value.cells] at hcs
      obtain ⟨rfl, rfl, rfl⟩ := hcs
      exact ⟨zs, .inr ⟨_, rfl, hl, hm, by simpa using hz, hcell, hwz⟩⟩
  clear hA0 hval0
  refine (fnWholes_walk a0 len0 cap0 z0 W w0).mono fun e W' ⟨he, bel⟩ => ?_
  subst he
  exact ⟨_, rfl, _, _, _, [], _, [], hW', trodAll_mk1 (shut_bool Try.underlying4 _), (trodAll_cons_mk (Below.trod fnWholes_laidOut (by kernel_rfl) (of_decide_eq_true (by kernel_rfl)) k0 bel lt0) trodAll_mk0), rfl, bel.frame _, fun h => by cases h⟩

theorem fnWholes_over : Rows.fnWholesRow.holds Try.pinned (OpenSpec.ofChange Rows.fnWholesSpec) :=
  OpenClaim.holds_of_wide 4 Try.f4 rfl rfl rfl rfl rfl rfl rfl ⟨rfl, rfl, rfl, rfl, rfl⟩ rfl rfl rfl rfl rfl (by kernel_rfl) Try.func4 (by kernel_rfl)
    (of_decide_eq_true (by kernel_rfl)) (by unfold Func.isWrapper; first | (rw [if_pos (by decide +kernel)]; kernel_rfl) | (rw [if_neg (by decide +kernel)]; exact ⟨rfl, rfl⟩))
    (fun os started H enc _ => fnWholes_lifted os started H enc)

theorem fnWholes_holds : Rows.FnWholesSaid := fnWholes_over
#print axioms fnWholes_holds
end Go.Proofs.Ytdaebbejpoejcaa
