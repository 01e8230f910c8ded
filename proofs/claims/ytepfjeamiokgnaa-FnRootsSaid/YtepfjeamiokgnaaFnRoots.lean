/-
  The root of a drawn square of a whole number is it; the root of a drawn number is as the specification has it, and the squares of the numbers next to it lie around the number; no condition.
-/
import Derived.Test.YtepfjeamiokgnaaRows
import Derived.WalkKit
import Derived.ProofKit
import Derived.OpenShut
import Derived.ShutString
import Derived.ChangeOld
import Derived.Below
import Derived.Test.YtepfjeamiokgnaaISqrtA
import Derived.Test.YtepfjeamiokgnaaMulA
import Derived.Test.YtepfjeamiokgnaaSqrtA
import Derived.Test.YtepfjeamiokgnaaRootM
import Derived.Test.YtepfjeamiokgnaaDraw3
import Derived.Test.YtepfjeamiokgnaaPlaces
import Derived.Test.YtepfjeamiokgnaaLaws3
import Derived.Test.YtepfjeamiokgnaaLaws5
namespace Go.Proofs.Ytepfjeamiokgnaa
open Go.ChangeShapes Go.WideShapes Go.ChangeAt Go.RowKit
open Go.ChangeMaps (open_string shut_string)
set_option linter.unusedVariables false

theorem fnRoots_own : ownKnob Try.prog.godebug = none := by kernel_rfl
theorem fnRoots_laidOut : laidOutB Try.prog = true := by kernel_rfl

/-- WHAT THE WALK IS TOLD OF A SLICE OF INTEGERS THAT CAME IN: it is nil; or it leads to a row of 'cap' cells, the numbers 'zs' (the first 'len' are its elements, the rest its spare room), each fitting its kind. -/
def IsRow (k : IntKind) (w : World) (a : Option Addr) (len cap : Nat) (zs : List Int) : Prop :=
  (a = none ∧ len = 0 ∧ cap = 0 ∧ zs = []) ∨
  ∃ x, a = some x ∧ len ≤ cap ∧ cap ≤ maxLen ∧ zs.length = cap ∧ (∀ i, i < zs.length → w.cell? (x.add i) = some (.int k (zs.getD i 0))) ∧ ∀ n ∈ zs, (Lit.int k n).wf = true

set_option maxHeartbeats 4000000 in
set_option maxRecDepth 100000 in
theorem fnRoots_walk (a0 : Option Addr) (len0 cap0 : Nat) (z0 : List Int) (w : World) (w0 : IsRow .u8 w a0 len0 cap0 z0) :
    Calls Try.prog 6 #[.slice a0 len0 cap0] w fun e w' => e = .returned (.bool true) ∧ Below w.heap.size w w' := by
  have hl9 : len0 ≤ 9223372036854775807 := by
    rcases w0 with ⟨_, h, _⟩ | ⟨_, _, h1, h2, _⟩
    · omega
    · unfold maxLen at h2; omega
  by_cases hbig : 1048576 < len0
  · clear w0
    go_enter Try.func6, Try.ntmps6
    go_wp2_with fail
    refine (big_any a0 len0 cap0 _ hl9).mono ?_
    rintro e w1 ⟨rfl, rfl⟩
    go_wp2
    go_ret
    exact ⟨rfl, Below.refl _ _⟩
  · have hcode : CodeIn w a0 len0 w.heap.size := codeIn_of w0 (by omega)
    clear w0
    go_enter Try.func6, Try.ntmps6
    go_wp2_with fail
    refine (big_any a0 len0 cap0 _ hl9).mono ?_
    rintro e w1 ⟨rfl, rfl⟩
    go_wp2_with fail
    refine (drawPlaces_any a0 len0 cap0 _ hcode).mono ?_
    rintro e w1 ⟨v, ps, rfl, ⟨hps, hlow, gp, cp, rfl, hgp, hgl, hcell⟩, b1⟩
    obtain ⟨p0, hp0⟩ : ∃ p, ps.getD 0 0 = p := ⟨_, rfl⟩
    obtain ⟨p1, hp1⟩ : ∃ p, ps.getD 1 0 = p := ⟨_, rfl⟩
    have l0 := hlow 0
    have c0 := hcell 0 (by omega)
    rw [hp0] at l0 c0
    have l1 := hlow 1
    have c1 := hcell 1 (by omega)
    rw [hp1] at l1 c1
    clear hp0 hp1 hlow hcell hps
    clear hl9 hbig
    go_wp2_with fail
    go_quiet (fail)
    obtain ⟨n, hn⟩ : ∃ n : Nat, (p0 : Int) * 900 + p1 = n := ⟨p0 * 900 + p1, by omega⟩
    have hn2 : (n : Int) < 10000000 := by omega
    simp only [hn]
    clear hn l0 l1 c0 c1
    obtain ⟨N, hN⟩ : ∃ N, n * n = N := ⟨_, rfl⟩
    have hNb : N < 9007199254740992 := by
      have : n * n ≤ 10000000 * 10000000 := Nat.mul_le_mul (by omega) (by omega)
      omega
    have hN1 : (n : Int) * n = N := by rw [← hN]; simp
    have hN2 : (N : Int) < 9007199254740992 := by omega
    have lt : ∀ q : Int, fromIntN q < 18446744073709551616 := fun q => by rw [fromInt_Z]; exact roundZ_lt _ _
    have cN := fun W => whole_any N W (by omega) (by omega)
    have cA := fun W => whole_any n W (by omega) (by omega)
    have iS := fun W => iSqrt (fromIntN N) W (lt _)
    have eS : sqrtN (fromIntN N) = fromIntN n := by rw [← hN]; exact sqrt_whole (by rw [hN]; exact hNb)
    rw [eS] at iS
    clear eS lt hNb hN
    obtain ⟨fN, hfN⟩ : ∃ q, fromIntN N = q := ⟨_, rfl⟩
    obtain ⟨fn, hfn⟩ : ∃ q, fromIntN n = q := ⟨_, rfl⟩
    rw [hfN] at cN iS
    rw [hfn] at cA iS
    clear hfN hfn
    have HC : Hid (CodeIn w a0 len0 w.heap.size) := hcode
    clear hcode
    go_wp2_with fail
    refine (cN _).mono ?_
    rintro e w2 ⟨rfl, rfl⟩
    go_wp2_with fail
    refine (iS _).mono ?_
    rintro e w2 ⟨rfl, b2⟩
    go_wp2_with fail
    refine (cA _).mono ?_
    rintro e w3 ⟨rfl, rfl⟩
    have b12 := chain (below_drewN b1 _) b2
    clear b1 b2
    go_wp2_with fail
    refine (drawNumbers_any a0 len0 cap0 _ (codeIn_below HC.out b12)).mono ?_
    rintro e w3 ⟨a, y, z, ha, hy, hz, rfl, b3⟩
    clear hy hz
    have b13 := chain b12 b3
    clear b12 b3 HC
    obtain ⟨x, hx0⟩ : ∃ q, a % 9223372036854775808 = q := ⟨_, rfl⟩
    have hx1 : (a : Int) % 9223372036854775808 = x := by omega
    have hx : x < 9223372036854775808 := by omega
    have HX : Hid (Unit → x < 9223372036854775808) := fun _ => hx
    have iR := fun W => iSqrt x W (by omega)
    have sR := fun W => specSqrt_any x W (by omega)
    have cP := fun W => specParts_any x W (by omega)
    unfold partsV at cP
    have HR : Hid (Unit → kindN x = 4 → -1000 ≤ expN x → expN x ≤ 800 → _) := fun _ h4 h5 h6 => root_near (HX.out ()) h4 h5 h6
    obtain ⟨r, hr⟩ : ∃ q, sqrtN x = q := ⟨_, rfl⟩
    rw [hr] at iR sR HR
    obtain ⟨K, hK⟩ : ∃ q, kindN x = q := ⟨_, rfl⟩
    obtain ⟨B, hB⟩ : ∃ q, belowN x = q := ⟨_, rfl⟩
    obtain ⟨M, hM⟩ : ∃ q, mantN x = q := ⟨_, rfl⟩
    obtain ⟨E, hE⟩ : ∃ q, expN x = q := ⟨_, rfl⟩
    rw [hK, hB, hM, hE] at cP
    rw [hK, hE] at HR
    clear hK hB hM hE hr hx ha hx0
    go_wp2_with fail
    refine (iR _).mono ?_
    rintro e w4 ⟨rfl, b4⟩
    go_wp2_with fail
    refine (cP _).mono ?_
    rintro e w5 ⟨rfl, b5⟩
    have b15 := chain (chain b13 b4) b5
    clear b13 b4 b5
    have b16 := b15.alloc b15.size (.cells #[.int .i64 K, .bool B, .int .u64 M, .int .i64 E] 30)
    go_wp2_with fail
    refine (sR _).mono ?_
    rintro e w6 ⟨rfl, b6⟩
    have b17 := chain b16 b6
    have hblk := kept_block b6 (heap_alloc_new w5 (.cells #[.int .i64 K, .bool B, .int .u64 M, .int .i64 E] 30))
    obtain ⟨k0, k1, k2, k3⟩ := cells_four hblk
    clear hblk b15 b16 b6
    by_cases hK4 : K = 4
    · subst hK4
      by_cases hE1 : E < -1000
      · clear HR
        go_wp2
        go_ret
        exact ⟨rfl, b17⟩
      · have dE1 : decide (E < -1000) = false := by simp; omega
        by_cases hE2 : 800 < E
        · clear HR
          go_wp2
          go_ret
          exact ⟨rfl, b17⟩
        · have dE2 : decide (800 < E) = false := by simp; omega
          obtain ⟨r1, r2, r3, r4, r5⟩ := HR.out () rfl (by omega) (by omega)
          have sL := fun W => specMul_any (r - 1) (r - 1) W (by omega) (by omega)
          have sH := fun W => specMul_any (r + 1) (r + 1) W (by omega) (by omega)
          obtain ⟨lo, hlo⟩ : ∃ q, mulN (r - 1) (r - 1) = q := ⟨_, rfl⟩
          obtain ⟨hi, hhi⟩ : ∃ q, mulN (r + 1) (r + 1) = q := ⟨_, rfl⟩
          rw [hlo] at sL r3
          rw [hhi] at sH r4 r5
          rw [Int.natCast_sub r1] at sL
          rw [Int.natCast_add] at sH
          have hx := HX.out ()
          have lL := fun W => specLess_any x lo W (by omega) (by omega)
          have lH := fun W => specLess_any hi x W (by omega) (by omega)
          rw [less_no r3 hx] at lL
          rw [less_no r4 (by omega)] at lH
          have R1 : (1 : Int) ≤ r := by omega
          have R2 : (r : Int) + 1 < 9223372036854775808 := by omega
          clear HR hlo hhi hx r1 r2 r3 r4 r5 hE1 hE2
          go_wp2_with fail
          refine (sL _).mono ?_
          rintro e w7 ⟨rfl, b7⟩
          go_wp2_with fail
          refine (sH _).mono ?_
          rintro e w8 ⟨rfl, b8⟩
          go_wp2_with fail
          refine (lL _).mono ?_
          rintro e w9 ⟨rfl, b9⟩
          go_wp2_with fail
          refine (lH _).mono ?_
          rintro e w10 ⟨rfl, b10⟩
          go_wp2
          go_ret
          exact ⟨rfl, chain (chain (chain (chain b17 b7) b8) b9) b10⟩
    · have hK' : ((K : Int) != 4) = true := by simp; omega
      clear HR hK4
      go_wp2
      go_ret
      exact ⟨rfl, b17⟩

set_option maxRecDepth 100000 in
theorem fnRoots_lifted (os : Os) (started : os.Started) (H : Type) (enc : TypeId × Value → H) :
    ReturnsInHanded {} Try.checked os 6 .any (Rows.fnRootsSpec.pre6 enc Try.prog Try.f6 Rows.fnRootsRow.domain false) (Rows.fnRootsSpec.post enc Try.prog Try.f6 false true false false) := by
  refine returnsInHanded_of_change (C := Try.checked) fnRoots_own started (by kernel_rfl) Try.func6
    (ChangeSpec.witness6 (enc := enc) (C := Try.checked) false ⟨#[], #[.slice none 0 0], []⟩ 8 (by kernel_rfl) (by kernel_rfl) (by kernel_rfl) (by kernel_rfl)) ?_
  intro W base args ds gs before hval0 hW hcnd _
  have hval : ∀ (j : Nat) t v, Try.f6.params[j]? = some t → args[j]? = some v → Value.okWide Try.prog W .any base t v := hval0
  have hW' := hW
  obtain ⟨p, q, hA0, hV, rfl, hfz, hnd⟩ := hW
  have hA : DataW.TrodAll enc Try.prog W 0 (fun _ => true) true Try.f6.params.toList args.toList ds p := hA0
  rw [Try.params6] at hA hval
  obtain ⟨v0, vs0, d0, ds0, p0, q0, hargs, rfl, rfl, h0, r0⟩ := trodAll_cons hA
  obtain ⟨rfl, rfl, rfl⟩ := trodAll_nil r0
  obtain rfl : args = #[v0] := by cases args; simp_all
  obtain ⟨rfl, rfl⟩ := trodVars_none hV
  obtain ⟨a0, len0, cap0, rfl⟩ := okWide_slice Try.underlying22 (hval 0 22 v0 rfl rfl)
  have k0 := h0
  have lt0 : ∀ x ∈ p0, x.block < W.heap.size := by obtain ⟨m, hm⟩ := k0; exact DataW.trod_lt m _ _ _ hm
  obtain ⟨z0, w0⟩ : ∃ zs, IsRow .u8 W a0 len0 cap0 zs := by
    obtain ⟨fuel, hf⟩ := h0
    rcases open_ints Try.underlying22 Try.underlying5 (by kernel_rfl) hf with ⟨hcs, _⟩ | ⟨x, l, c, zs, hcs, _, hl, hm, hz, _, hcell, hwz⟩
    · simp [Value.cells] at hcs
      obtain ⟨rfl, rfl, rfl⟩ := hcs
      exact ⟨[], .inl ⟨rfl, rfl, rfl, rfl⟩⟩
    · simp [Value.cells] at hcs
      obtain ⟨rfl, rfl, rfl⟩ := hcs
      exact ⟨zs, .inr ⟨_, rfl, hl, hm, by simpa using hz, hcell, hwz⟩⟩
  clear hA0 hval0
  refine (fnRoots_walk a0 len0 cap0 z0 W w0).mono fun e W' ⟨he, bel⟩ => ?_
  subst he
  exact ⟨_, rfl, _, _, _, [], _, [], hW', trodAll_mk1 (shut_bool Try.underlying4 _), (trodAll_cons_mk (Below.trod fnRoots_laidOut (by kernel_rfl) (of_decide_eq_true (by kernel_rfl)) k0 bel lt0) trodAll_mk0), rfl, bel.frame _, fun h => by cases h⟩

theorem fnRoots_over : Rows.fnRootsRow.holds Try.pinned (OpenSpec.ofChange Rows.fnRootsSpec) :=
  OpenClaim.holds_of_wide 6 Try.f6 rfl rfl rfl rfl rfl rfl rfl ⟨rfl, rfl, rfl, rfl, rfl⟩ rfl rfl rfl rfl rfl (by kernel_rfl) Try.func6 (by kernel_rfl)
    (of_decide_eq_true (by kernel_rfl)) (by unfold Func.isWrapper; first | (rw [if_pos (by decide +kernel)]; kernel_rfl) | (rw [if_neg (by decide +kernel)]; exact ⟨rfl, rfl⟩))
    (fun os started H enc _ => fnRoots_lifted os started H enc)

theorem fnRoots_holds : Rows.FnRootsSaid := fnRoots_over
#print axioms fnRoots_holds
end Go.Proofs.Ytepfjeamiokgnaa
