/-
  Drawn numbers have the same sum from both sides, as the specification has it; a finite one less itself is 0, one and 0 is it; a sum with the other signs has the other sign; no condition.
-/
import Derived.Test.YtdaebbejpoejcaaRows
import Derived.WalkKit
import Derived.ProofKit
import Derived.OpenShut
import Derived.ShutString
import Derived.ChangeOld
import Derived.Below
import Derived.Test.YtdaebbejpoejcaaIAddF
import Derived.Test.YtdaebbejpoejcaaAddL
import Derived.Test.YtdaebbejpoejcaaDraw3
import Derived.Test.YtdaebbejpoejcaaLaws3
namespace Go.Proofs.Ytdaebbejpoejcaa
open Go.ChangeShapes Go.WideShapes Go.ChangeAt Go.RowKit
open Go.ChangeMaps (open_string shut_string)
set_option linter.unusedVariables false

theorem fnSums_own : ownKnob Try.prog.godebug = none := by kernel_rfl
theorem fnSums_laidOut : laidOutB Try.prog = true := by kernel_rfl

/-- WHAT THE WALK IS TOLD OF A SLICE OF INTEGERS THAT CAME IN: it is nil; or it leads to a row of 'cap' cells, the numbers 'zs' (the first 'len' are its elements, the rest its spare room), each fitting its kind. -/
def IsRow (k : IntKind) (w : World) (a : Option Addr) (len cap : Nat) (zs : List Int) : Prop :=
  (a = none ∧ len = 0 ∧ cap = 0 ∧ zs = []) ∨
  ∃ x, a = some x ∧ len ≤ cap ∧ cap ≤ maxLen ∧ zs.length = cap ∧ (∀ i, i < zs.length → w.cell? (x.add i) = some (.int k (zs.getD i 0))) ∧ ∀ n ∈ zs, (Lit.int k n).wf = true

set_option maxHeartbeats 4000000 in
set_option maxRecDepth 100000 in
theorem fnSums_walk (a0 : Option Addr) (len0 cap0 : Nat) (z0 : List Int) (w : World) (w0 : IsRow .u8 w a0 len0 cap0 z0) :
    Calls Try.prog 5 #[.slice a0 len0 cap0] w fun e w' => e = .returned (.bool true) ∧ Below w.heap.size w w' := by
  have hl9 : len0 ≤ 9223372036854775807 := by
    rcases w0 with ⟨_, h, _⟩ | ⟨_, _, h1, h2, _⟩
    · omega
    · unfold maxLen at h2; omega
  by_cases hbig : 1048576 < len0
  · clear w0
    go_enter Try.func5, Try.ntmps5
    go_wp2_with fail
    refine (big_any a0 len0 cap0 _ hl9).mono ?_
    rintro e w1 ⟨rfl, rfl⟩
    go_wp2
    go_ret
    exact ⟨rfl, Below.refl _ _⟩
  · have hcode : CodeIn w a0 len0 w.heap.size := codeIn_of w0 (by omega)
    clear w0
    go_enter Try.func5, Try.ntmps5
    go_wp2_with fail
    refine (big_any a0 len0 cap0 _ hl9).mono ?_
    rintro e w1 ⟨rfl, rfl⟩
    go_wp2_with fail
    refine (drawNumbers_any a0 len0 cap0 _ hcode).mono ?_
    rintro e w1 ⟨x, y, z, hx, hy, hz, rfl, b1⟩
    clear hz hcode hl9 hbig
    have hny := negN_lt hy
    have hnx := negN_lt hx
    have hs := addN_lt hx hy
    have ht := addN_lt hnx hny
    have cXY := fun W => iAdd x y W hx hy
    have cYX := fun W => iAdd y x W hy hx
    have sXY := fun W => specAdd_any x y W hx hy
    have cD := fun W => iSub x y W hx hy
    have sNy := fun W => specNegate_any y W hy
    have sD := fun W => specAdd_any x (negN y) W hx hny
    have cP := fun W => specParts_any x W hx
    have cNx := fun W => iNegate x W hx
    have cNy := fun W => iNegate y W hy
    have cT := fun W => iAdd (negN x) (negN y) W hnx hny
    have cXX := fun W => iSub x x W hx hx
    have cX0 := fun W => iAdd x 0 W hx (by decide)
    have nS := fun W => nan_any (addN x y) W hs
    have nT := fun W => nan_any (addN (negN x) (negN y)) W ht
    have sNs := fun W => specNegate_any (addN x y) W hs
    have sE := fun W => specEqual_any (addN (negN x) (negN y)) (negN (addN x y)) W ht (negN_lt hs)
    have HXX : Hid (Unit → kindN x = 4 → subN x x = 0) := fun _ h => sub_self hx h
    have HX0 : Hid (Unit → kindN x = 4 → addN x 0 = x) := fun _ h => add_nil h
    have HO : Hid (Unit → kindN x = 4 → (kindN (addN x y) = 1 ∧ kindN (addN (negN x) (negN y)) = 1) ∨ (kindN (addN x y) ≠ 1 ∧ equalN (addN (negN x) (negN y)) (negN (addN x y)) = true)) := fun _ h => sum_other hx hy h
    rw [addN_comm hy hx] at cYX
    unfold subN at cD
    unfold partsV at cP
    clear hx hy hny hnx hs ht
    obtain ⟨ny, hny⟩ : ∃ q, negN y = q := ⟨_, rfl⟩
    obtain ⟨nx, hnx⟩ : ∃ q, negN x = q := ⟨_, rfl⟩
    rw [hny] at sNy sD cNy cT nT sE HO cD
    rw [hnx] at cNx cT nT sE HO
    clear hny hnx
    obtain ⟨s, hs⟩ : ∃ q, addN x y = q := ⟨_, rfl⟩
    obtain ⟨t, ht⟩ : ∃ q, addN nx ny = q := ⟨_, rfl⟩
    obtain ⟨d, hd⟩ : ∃ q, addN x ny = q := ⟨_, rfl⟩
    obtain ⟨o, ho⟩ : ∃ q, addN x 0 = q := ⟨_, rfl⟩
    obtain ⟨g, hg⟩ : ∃ q, subN x x = q := ⟨_, rfl⟩
    rw [hs] at cXY cYX sXY nS sNs sE HO
    rw [ht] at cT nT sE HO
    rw [hd] at cD sD
    rw [ho] at cX0 HX0
    rw [hg] at cXX HXX
    clear hs ht hd ho hg
    obtain ⟨ns, hns⟩ : ∃ q, negN s = q := ⟨_, rfl⟩
    rw [hns] at sNs sE HO
    clear hns
    obtain ⟨K, hK⟩ : ∃ q, kindN x = q := ⟨_, rfl⟩
    obtain ⟨B, hB⟩ : ∃ q, belowN x = q := ⟨_, rfl⟩
    obtain ⟨M, hM⟩ : ∃ q, mantN x = q := ⟨_, rfl⟩
    obtain ⟨E, hE⟩ : ∃ q, expN x = q := ⟨_, rfl⟩
    rw [hK] at cP HXX HX0 HO
    rw [hB, hM, hE] at cP
    clear hK hB hM hE
    obtain ⟨u, hu⟩ : ∃ q, decide (kindN s = 1) = q := ⟨_, rfl⟩
    obtain ⟨v, hv⟩ : ∃ q, decide (kindN t = 1) = q := ⟨_, rfl⟩
    obtain ⟨f, hf⟩ : ∃ q, equalN t ns = q := ⟨_, rfl⟩
    have HP : Hid (Unit → K = 4 → (u = true ∧ v = true) ∨ (u = false ∧ f = true)) := fun _ h => by
      rcases HO.out () h with ⟨h1, h2⟩ | ⟨h1, h2⟩
      · exact .inl ⟨by rw [← hu]; exact decide_eq_true h1, by rw [← hv]; exact decide_eq_true h2⟩
      · exact .inr ⟨by rw [← hu]; exact decide_eq_false h1, by rw [← hf]; exact h2⟩
    rw [hu] at nS
    rw [hv] at nT
    rw [hf] at sE
    clear hu hv hf HO
    go_wp2_with fail
    refine (cXY _).mono ?_
    rintro e w2 ⟨rfl, b2⟩
    go_wp2_with fail
    refine (cYX _).mono ?_
    rintro e w3 ⟨rfl, b3⟩
    go_wp2_with fail
    refine (sXY _).mono ?_
    rintro e w4 ⟨rfl, b4⟩
    go_wp2_with fail
    refine (cD _).mono ?_
    rintro e w5 ⟨rfl, b5⟩
    go_wp2_with fail
    refine (sNy _).mono ?_
    rintro e w6 ⟨rfl, b6⟩
    go_wp2_with fail
    refine (sD _).mono ?_
    rintro e w7 ⟨rfl, b7⟩
    go_wp2_with fail
    refine (cP _).mono ?_
    rintro e w8 ⟨rfl, b8⟩
    have b18 := chain (chain (chain (chain (chain (chain (chain b1 b2) b3) b4) b5) b6) b7) b8
    clear b1 b2 b3 b4 b5 b6 b7 b8
    have b9 := b18.alloc b18.size (.cells #[.int .i64 K, .bool B, .int .u64 M, .int .i64 E] 29)
    by_cases hK : K = 4
    · have h1 := HXX.out () hK
      have h2 := HX0.out () hK
      have h3 := HP.out () hK
      subst hK h1 h2
      clear HXX HX0 HP
      go_wp2_with fail
      refine (cNx _).mono ?_
      rintro e w9 ⟨rfl, c9⟩
      go_wp2_with fail
      refine (cNy _).mono ?_
      rintro e w10 ⟨rfl, c10⟩
      go_wp2_with fail
      refine (cT _).mono ?_
      rintro e w11 ⟨rfl, c11⟩
      go_wp2_with fail
      refine (cXX _).mono ?_
      rintro e w12 ⟨rfl, c12⟩
      go_wp2_with fail
      refine (cX0 _).mono ?_
      rintro e w13 ⟨rfl, c13⟩
      go_wp2_with fail
      have b13 := chain (chain (chain (chain (chain b9 c9) c10) c11) c12) c13
      clear c9 c10 c11 c12 c13 b9 b18
      rcases h3 with ⟨rfl, rfl⟩ | ⟨rfl, rfl⟩
      · refine (nS _).mono ?_
        rintro e w14 ⟨rfl, c14⟩
        go_wp2_with fail
        refine (nT _).mono ?_
        rintro e w15 ⟨rfl, c15⟩
        go_wp2_with fail
        go_ret
        exact ⟨rfl, chain (chain b13 c14) c15⟩
      · refine (nS _).mono ?_
        rintro e w14 ⟨rfl, c14⟩
        go_wp2_with fail
        refine (sNs _).mono ?_
        rintro e w15 ⟨rfl, c15⟩
        go_wp2_with fail
        refine (sE _).mono ?_
        rintro e w16 ⟨rfl, c16⟩
        go_wp2_with fail
        go_ret
        exact ⟨rfl, chain (chain (chain b13 c14) c15) c16⟩
    · have hK' : ((K : Int) != 4) = true := by simp; omega
      clear hK HXX HX0 HP
      go_wp2_with fail
      refine (nS _).mono ?_
      rintro e w9 ⟨rfl, c9⟩
      go_wp2_with fail
      refine (sXY _).mono ?_
      rintro e w10 ⟨rfl, c10⟩
      go_wp2_with fail
      refine (nS _).mono ?_
      rintro e w11 ⟨rfl, c11⟩
      go_wp2_with fail
      go_ret
      exact ⟨by simp, chain (chain (chain b9 c9) c10) c11⟩

set_option maxRecDepth 100000 in
theorem fnSums_lifted (os : Os) (started : os.Started) (H : Type) (enc : TypeId × Value → H) :
    ReturnsInHanded {} Try.checked os 5 .any (Rows.fnSumsSpec.pre6 enc Try.prog Try.f5 Rows.fnSumsRow.domain false) (Rows.fnSumsSpec.post enc Try.prog Try.f5 false true false false) := by
  refine returnsInHanded_of_change (C := Try.checked) fnSums_own started (by kernel_rfl) Try.func5
    (ChangeSpec.witness6 (enc := enc) (C := Try.checked) false ⟨#[], #[.slice none 0 0], []⟩ 8 (by kernel_rfl) (by kernel_rfl) (by kernel_rfl) (by kernel_rfl)) ?_
  intro W base args ds gs before hval0 hW hcnd _
  have hval : ∀ (j : Nat) t v, Try.f5.params[j]? = some t → args[j]? = some v → Value.okWide Try.prog W .any base t v := hval0
  have hW' := hW
  obtain ⟨p, q, hA0, hV, rfl, hfz, hnd⟩ := hW
  have hA : DataW.TrodAll enc Try.prog W 0 (fun _ => true) true Try.f5.params.toList args.toList ds p := hA0
  rw [Try.params5] at hA hval
  obtain ⟨v0, vs0, d0, ds0, p0, q0, hargs, rfl, rfl, h0, r0⟩ := trodAll_cons hA
  obtain ⟨rfl, rfl, rfl⟩ := trodAll_nil r0
  obtain rfl : args = #[v0] := by cases args; simp_all
  obtain ⟨rfl, rfl⟩ := trodVars_none hV
  obtain ⟨a0, len0, cap0, rfl⟩ := okWide_slice Try.underlying22 (hval 0 22 v0 rfl rfl)
  have k0 := h0
  have lt0 : ∀ x ∈ p0, x.block < W.heap.size := by obtain ⟨m, hm⟩ := k0; exact DataW.trod_lt m _ _ _ hm
  obtain ⟨z0, w0⟩ : ∃ zs, IsRow .u8 W a0 len0 cap0 zs := by
    obtain ⟨fuel, hf⟩ := h0
    rcases open_ints Try.underlying22 Try.underlying5 (by kernel_rfl) hf with ⟨hcs, _⟩ | ⟨x, l, c, zs, hcs, _, hl, hm, hz, _, hcell, hwz⟩
    · simp [Value.cells] at hcs
      obtain ⟨rfl, rfl, rfl⟩ := hcs
      exact ⟨[], .inl ⟨rfl, rfl, rfl, rfl⟩⟩
    · simp [Value.cells] at hcs
      obtain ⟨rfl, rfl, rfl⟩ := hcs
      exact ⟨zs, .inr ⟨_, rfl, hl, hm, by simpa using hz, hcell, hwz⟩⟩
  clear hA0 hval0
  refine (fnSums_walk a0 len0 cap0 z0 W w0).mono fun e W' ⟨he, bel⟩ => ?_
  subst he
  exact ⟨_, rfl, _, _, _, [], _, [], hW', trodAll_mk1 (shut_bool Try.underlying4 _), (trodAll_cons_mk (Below.trod fnSums_laidOut (by kernel_rfl) (of_decide_eq_true (by kernel_rfl)) k0 bel lt0) trodAll_mk0), rfl, bel.frame _, fun h => by cases h⟩

theorem fnSums_over : Rows.fnSumsRow.holds Try.pinned (OpenSpec.ofChange Rows.fnSumsSpec) :=
  OpenClaim.holds_of_wide 5 Try.f5 rfl rfl rfl rfl rfl rfl rfl ⟨rfl, rfl, rfl, rfl, rfl⟩ rfl rfl rfl rfl rfl (by kernel_rfl) Try.func5 (by kernel_rfl)
    (of_decide_eq_true (by kernel_rfl)) (by unfold Func.isWrapper; first | (rw [if_pos (by decide +kernel)]; kernel_rfl) | (rw [if_neg (by decide +kernel)]; exact ⟨rfl, rfl⟩))
    (fun os started H enc _ => fnSums_lifted os started H enc)

theorem fnSums_holds : Rows.FnSumsSaid := fnSums_over
#print axioms fnSums_holds
end Go.Proofs.Ytdaebbejpoejcaa
