/-
  A quotient of a product of small drawn whole numbers is just; a rest of small drawn whole numbers is as whole numbers have it, with the sign of the first; no condition.
-/
import Derived.Test.YtepfjeamiokgnaaRows
import Derived.WalkKit
import Derived.ProofKit
import Derived.OpenShut
import Derived.ShutString
import Derived.ChangeOld
import Derived.Below
import Derived.Test.YtepfjeamiokgnaaIMulA
import Derived.Test.YtepfjeamiokgnaaMulA
import Derived.Test.YtepfjeamiokgnaaDivA
import Derived.Test.YtepfjeamiokgnaaRemA
import Derived.Test.YtepfjeamiokgnaaMulL
import Derived.Test.YtepfjeamiokgnaaDraw3
import Derived.Test.YtepfjeamiokgnaaPlaces
import Derived.Test.YtepfjeamiokgnaaLaws3
namespace Go.Proofs.Ytepfjeamiokgnaa
open Go.ChangeShapes Go.WideShapes Go.ChangeAt Go.RowKit
open Go.ChangeMaps (open_string shut_string)
set_option linter.unusedVariables false

theorem fnQuotients_own : ownKnob Try.prog.godebug = none := by kernel_rfl
theorem fnQuotients_laidOut : laidOutB Try.prog = true := by kernel_rfl

/-- WHAT THE WALK IS TOLD OF A SLICE OF INTEGERS THAT CAME IN: it is nil; or it leads to a row of 'cap' cells, the numbers 'zs' (the first 'len' are its elements, the rest its spare room), each fitting its kind. -/
def IsRow (k : IntKind) (w : World) (a : Option Addr) (len cap : Nat) (zs : List Int) : Prop :=
  (a = none ∧ len = 0 ∧ cap = 0 ∧ zs = []) ∨
  ∃ x, a = some x ∧ len ≤ cap ∧ cap ≤ maxLen ∧ zs.length = cap ∧ (∀ i, i < zs.length → w.cell? (x.add i) = some (.int k (zs.getD i 0))) ∧ ∀ n ∈ zs, (Lit.int k n).wf = true

set_option maxHeartbeats 4000000 in
set_option maxRecDepth 100000 in
theorem fnQuotients_walk (a0 : Option Addr) (len0 cap0 : Nat) (z0 : List Int) (w : World) (w0 : IsRow .u8 w a0 len0 cap0 z0) :
    Calls Try.prog 4 #[.slice a0 len0 cap0] w fun e w' => e = .returned (.bool true) ∧ Below w.heap.size w w' := by
  have hl9 : len0 ≤ 9223372036854775807 := by
    rcases w0 with ⟨_, h, _⟩ | ⟨_, _, h1, h2, _⟩
    · omega
    · unfold maxLen at h2; omega
  by_cases hbig : 1048576 < len0
  · clear w0
    go_enter Try.func4, Try.ntmps4
    go_wp2_with fail
    refine (big_any a0 len0 cap0 _ hl9).mono ?_
    rintro e w1 ⟨rfl, rfl⟩
    go_wp2
    go_ret
    exact ⟨rfl, Below.refl _ _⟩
  · have hcode : CodeIn w a0 len0 w.heap.size := codeIn_of w0 (by omega)
    clear w0
    go_enter Try.func4, Try.ntmps4
    go_wp2_with fail
    refine (big_any a0 len0 cap0 _ hl9).mono ?_
    rintro e w1 ⟨rfl, rfl⟩
    go_wp2_with fail
    refine (drawPlaces_any a0 len0 cap0 _ hcode).mono ?_
    rintro e w1 ⟨v, ps, rfl, ⟨hps, hlow, gp, cp, rfl, hgp, hgl, hcell⟩, b1⟩
    obtain ⟨p0, hp0⟩ : ∃ p, ps.getD 0 0 = p := ⟨_, rfl⟩
    obtain ⟨p1, hp1⟩ : ∃ p, ps.getD 1 0 = p := ⟨_, rfl⟩
    obtain ⟨p2, hp2⟩ : ∃ p, ps.getD 2 0 = p := ⟨_, rfl⟩
    obtain ⟨p3, hp3⟩ : ∃ p, ps.getD 3 0 = p := ⟨_, rfl⟩
    have l0 := hlow 0
    have c0 := hcell 0 (by omega)
    rw [hp0] at l0 c0
    have l1 := hlow 1
    have c1 := hcell 1 (by omega)
    rw [hp1] at l1 c1
    have l2 := hlow 2
    have c2 := hcell 2 (by omega)
    rw [hp2] at l2 c2
    have l3 := hlow 3
    have c3 := hcell 3 (by omega)
    rw [hp3] at l3 c3
    clear hp0 hp1 hp2 hp3 hlow hcell hps
    clear hcode hl9 hbig
    have u1 : (p0 : Int) * p1 ≤ 99980001 := by
      have : p0 * p1 ≤ 9999 * 9999 := Nat.mul_le_mul (by omega) (by omega)
      have e : ((p0 * p1 : Nat) : Int) = (p0 : Int) * p1 := by simp
      omega
    have u2 : (0 : Int) ≤ (p0 : Int) * p1 := Int.mul_nonneg (by omega) (by omega)
    go_wp2_with fail
    go_quiet (fail)
    obtain ⟨n, hn⟩ : ∃ n, (p0 : Int) * p1 - p2 * 3000 = n := ⟨_, rfl⟩
    have hn1 : -30000000 ≤ n := by omega
    have hn2 : n < 100000000 := by omega
    simp only [hn]
    clear hn l0 l1 l2 u1 u2 c0 c1 c2
    obtain ⟨m, hm⟩ : ∃ m : Int, (p3 : Int) + 1 = m := ⟨_, rfl⟩
    have hm1 : 1 ≤ m := by omega
    have hm2 : m ≤ 10000 := by omega
    clear l3
    have hm0 : (m == 0) = false := by rw [beq_eq_false_iff_ne]; omega
    have hm0' : m ≠ 0 := by omega
    obtain ⟨N, hN⟩ : ∃ N, n * m = N := ⟨_, rfl⟩
    have hNb : N.natAbs < 9007199254740992 := by
      rw [← hN, Int.natAbs_mul]
      have : n.natAbs * m.natAbs ≤ 100000000 * 10000 := Nat.mul_le_mul (by omega) (by omega)
      omega
    have hN1 : -9007199254740992 < N := by omega
    have hN2 : N < 9007199254740992 := by omega
    obtain ⟨t, ht⟩ : ∃ t, n.tmod m = t := ⟨_, rfl⟩
    have ht1 : -10000 ≤ t ∧ t ≤ 10000 := by
      have h1 := Int.natAbs_tmod n m
      have h2 := Nat.mod_lt n.natAbs (by omega : 0 < m.natAbs)
      rw [ht] at h1
      omega
    have t1 := ht1.1
    have t2 := ht1.2
    have lt : ∀ q : Int, fromIntN q < 18446744073709551616 := fun q => by rw [fromInt_Z]; exact roundZ_lt _ _
    have cN := fun W => whole_any N W (by omega) (by omega)
    have cM := fun W => whole_any m W (by omega) (by omega)
    have cA := fun W => whole_any n W (by omega) (by omega)
    have cT := fun W => whole_any t W (by omega) (by omega)
    have iD := fun W => iDiv (fromIntN N) (fromIntN m) W (lt _) (lt _)
    have iR := fun W => iRem (fromIntN n) (fromIntN m) W (lt _) (lt _)
    have eD : divN (fromIntN N) (fromIntN m) = fromIntN n := by rw [← hN]; exact div_whole (by omega) (by omega) (by rw [hN]; exact hNb)
    have eR : remN (fromIntN n) (fromIntN m) = if n < 0 ∧ t = 0 then 9223372036854775808 else fromIntN t := by rw [← ht]; exact rem_whole (by omega) (by omega) (by omega)
    have sN := fun W => specNegate_any 0 W (by decide)
    have eN : negN 0 = 9223372036854775808 := by decide
    rw [eD] at iD
    rw [eR] at iR
    rw [eN] at sN
    clear eD eR eN hNb ht1 lt
    obtain ⟨fN, hfN⟩ : ∃ q, fromIntN N = q := ⟨_, rfl⟩
    obtain ⟨fm, hfm⟩ : ∃ q, fromIntN m = q := ⟨_, rfl⟩
    obtain ⟨fn, hfn⟩ : ∃ q, fromIntN n = q := ⟨_, rfl⟩
    obtain ⟨ft, hft⟩ : ∃ q, fromIntN t = q := ⟨_, rfl⟩
    rw [hfN] at cN iD
    rw [hfm] at cM iD iR
    rw [hfn] at cA iD iR
    rw [hft] at cT iR
    clear hfN hfm hfn hft
    have b1d := fun k => below_drewN b1 k
    go_wp2_with fail
    refine (cN _).mono ?_
    rintro e w2 ⟨rfl, rfl⟩
    go_wp2_with fail
    refine (cM _).mono ?_
    rintro e w2 ⟨rfl, rfl⟩
    go_wp2_with fail
    refine (iD _).mono ?_
    rintro e w2 ⟨rfl, b2⟩
    go_wp2_with fail
    refine (cA _).mono ?_
    rintro e w3 ⟨rfl, rfl⟩
    go_wp2_with fail
    refine (cM _).mono ?_
    rintro e w3 ⟨rfl, rfl⟩
    by_cases hz : n < 0 ∧ t = 0
    · obtain ⟨hz1, hz2⟩ := hz
      rw [if_pos ⟨hz1, hz2⟩] at iR
      subst hz2
      go_wp2_with fail
      refine (iR _).mono ?_
      rintro e w3 ⟨rfl, b3⟩
      go_wp2_with fail
      refine (cT _).mono ?_
      rintro e w4 ⟨rfl, rfl⟩
      go_wp2_with fail
      refine (sN _).mono ?_
      rintro e w4 ⟨rfl, b4⟩
      go_wp2_with fail
      refine (cA _).mono ?_
      rintro e w5 ⟨rfl, rfl⟩
      go_wp2
      go_ret
      exact ⟨rfl, chain (chain (chain (b1d _) b2) b3) b4⟩
    · rw [if_neg hz] at iR
      go_wp2_with fail
      refine (iR _).mono ?_
      rintro e w3 ⟨rfl, b3⟩
      go_wp2_with fail
      refine (cT _).mono ?_
      rintro e w4 ⟨rfl, rfl⟩
      by_cases hz1 : n < 0
      · have hz2 : (t == 0) = false := by rw [beq_eq_false_iff_ne]; exact fun h => hz ⟨hz1, h⟩
        clear hz
        go_wp2_with fail
        refine (cA _).mono ?_
        rintro e w5 ⟨rfl, rfl⟩
        go_wp2
        go_ret
        exact ⟨rfl, chain (chain (b1d _) b2) b3⟩
      · have hz2 : decide (n < 0) = false := by simp; omega
        clear hz
        go_wp2_with fail
        refine (cA _).mono ?_
        rintro e w5 ⟨rfl, rfl⟩
        go_wp2
        go_ret
        exact ⟨rfl, chain (chain (b1d _) b2) b3⟩

set_option maxRecDepth 100000 in
theorem fnQuotients_lifted (os : Os) (started : os.Started) (H : Type) (enc : TypeId × Value → H) :
    ReturnsInHanded {} Try.checked os 4 .any (Rows.fnQuotientsSpec.pre6 enc Try.prog Try.f4 Rows.fnQuotientsRow.domain false) (Rows.fnQuotientsSpec.post enc Try.prog Try.f4 false true false false) := by
  refine returnsInHanded_of_change (C := Try.checked) fnQuotients_own started (by kernel_rfl) Try.func4
    (ChangeSpec.witness6 (enc := enc) (C := Try.checked) false ⟨#[], #[.slice none 0 0], []⟩ 8 (by kernel_rfl) (by kernel_rfl) (by kernel_rfl) (by kernel_rfl)) ?_
  intro W base args ds gs before hval0 hW hcnd _
  have hval : ∀ (j : Nat) t v, Try.f4.params[j]? = some t → args[j]? = some v → Value.okWide Try.prog W .any base t v := hval0
  have hW' := hW
  obtain ⟨p, q, hA0, hV, rfl, hfz, hnd⟩ := hW
  have hA : DataW.TrodAll enc Try.prog W 0 (fun _ => true) true Try.f4.params.toList args.toList ds p := hA0
  rw [Try.params4] at hA hval
  obtain ⟨v0, vs0, d0, ds0, p0, q0, hargs, rfl, rfl, h0, r0⟩ := trodAll_cons hA
  obtain ⟨rfl, rfl, rfl⟩ := trodAll_nil r0
  obtain rfl : args = #[v0] := by cases args; simp_all
  obtain ⟨rfl, rfl⟩ := trodVars_none hV
  obtain ⟨a0, len0, cap0, rfl⟩ := okWide_slice Try.underlying22 (hval 0 22 v0 rfl rfl)
  have k0 := h0
  have lt0 : ∀ x ∈ p0, x.block < W.heap.size := by obtain ⟨m, hm⟩ := k0; exact DataW.trod_lt m _ _ _ hm
  obtain ⟨z0, w0⟩ : ∃ zs, IsRow .u8 W a0 len0 cap0 zs := by
    obtain ⟨fuel, hf⟩ := h0
    rcases open_ints Try.underlying22 Try.underlying5 (by kernel_rfl) hf with ⟨hcs, _⟩ | ⟨x, l, c, zs, hcs, _, hl, hm, hz, _, hcell, hwz⟩
    · simp [Value.cells] at hcs
      obtain ⟨rfl, rfl, rfl⟩ := hcs
      exact ⟨[], .inl ⟨rfl, rfl, rfl, rfl⟩⟩
    · simp [Value.cells] at hcs
      obtain ⟨rfl, rfl, rfl⟩ := hcs
      exact ⟨zs, .inr ⟨_, rfl, hl, hm, by simpa using hz, hcell, hwz⟩⟩
  clear hA0 hval0
  refine (fnQuotients_walk a0 len0 cap0 z0 W w0).mono fun e W' ⟨he, bel⟩ => ?_
  subst he
  exact ⟨_, rfl, _, _, _, [], _, [], hW', trodAll_mk1 (shut_bool Try.underlying4 _), (trodAll_cons_mk (Below.trod fnQuotients_laidOut (by kernel_rfl) (of_decide_eq_true (by kernel_rfl)) k0 bel lt0) trodAll_mk0), rfl, bel.frame _, fun h => by cases h⟩

theorem fnQuotients_over : Rows.fnQuotientsRow.holds Try.pinned (OpenSpec.ofChange Rows.fnQuotientsSpec) :=
  OpenClaim.holds_of_wide 4 Try.f4 rfl rfl rfl rfl rfl rfl rfl ⟨rfl, rfl, rfl, rfl, rfl⟩ rfl rfl rfl rfl rfl (by kernel_rfl) Try.func4 (by kernel_rfl)
    (of_decide_eq_true (by kernel_rfl)) (by unfold Func.isWrapper; first | (rw [if_pos (by decide +kernel)]; kernel_rfl) | (rw [if_neg (by decide +kernel)]; exact ⟨rfl, rfl⟩))
    (fun os started H enc _ => fnQuotients_lifted os started H enc)

theorem fnQuotients_holds : Rows.FnQuotientsSaid := fnQuotients_over
#print axioms fnQuotients_holds
end Go.Proofs.Ytepfjeamiokgnaa
