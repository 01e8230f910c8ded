/-
  The parts of each drawn finite number make it again by RoundTo, as they are, doubled with one exponent less, and times 256 with eight less; no condition.
-/
import Derived.Test.YtdaebbejpoejcaaRows
import Derived.WalkKit
import Derived.ProofKit
import Derived.OpenShut
import Derived.ShutString
import Derived.ChangeOld
import Derived.Below
import Derived.Test.YtdaebbejpoejcaaIRound
import Derived.Test.YtdaebbejpoejcaaIOrder
import Derived.Test.YtdaebbejpoejcaaWholeB
import Derived.Test.YtdaebbejpoejcaaDraw3
import Derived.Test.YtdaebbejpoejcaaLaws3
namespace Go.Proofs.Ytdaebbejpoejcaa
open Go.ChangeShapes Go.WideShapes Go.ChangeAt Go.RowKit
open Go.ChangeMaps (open_string shut_string)
set_option linter.unusedVariables false

theorem fnParts_own : ownKnob Try.prog.godebug = none := by kernel_rfl
theorem fnParts_laidOut : laidOutB Try.prog = true := by kernel_rfl

/-- WHAT THE WALK IS TOLD OF A SLICE OF INTEGERS THAT CAME IN: it is nil; or it leads to a row of 'cap' cells, the numbers 'zs' (the first 'len' are its elements, the rest its spare room), each fitting its kind. -/
def IsRow (k : IntKind) (w : World) (a : Option Addr) (len cap : Nat) (zs : List Int) : Prop :=
  (a = none ∧ len = 0 ∧ cap = 0 ∧ zs = []) ∨
  ∃ x, a = some x ∧ len ≤ cap ∧ cap ≤ maxLen ∧ zs.length = cap ∧ (∀ i, i < zs.length → w.cell? (x.add i) = some (.int k (zs.getD i 0))) ∧ ∀ n ∈ zs, (Lit.int k n).wf = true

set_option maxHeartbeats 4000000 in
set_option maxRecDepth 100000 in
theorem fnParts_walk (a0 : Option Addr) (len0 cap0 : Nat) (z0 : List Int) (w : World) (w0 : IsRow .u8 w a0 len0 cap0 z0) :
    Calls Try.prog 3 #[.slice a0 len0 cap0] w fun e w' => e = .returned (.bool true) ∧ Below w.heap.size w w' := by
  have hl9 : len0 ≤ 9223372036854775807 := by
    rcases w0 with ⟨_, h, _⟩ | ⟨_, _, h1, h2, _⟩
    · omega
    · unfold maxLen at h2; omega
  by_cases hbig : 1048576 < len0
  · clear w0
    go_enter Try.func3, Try.ntmps3
    go_wp2_with fail
    refine (big_any a0 len0 cap0 _ hl9).mono ?_
    rintro e w1 ⟨rfl, rfl⟩
    go_wp2
    go_ret
    exact ⟨rfl, Below.refl _ _⟩
  · have hcode : CodeIn w a0 len0 w.heap.size := codeIn_of w0 (by omega)
    clear w0
    go_enter Try.func3, Try.ntmps3
    go_wp2_with fail
    refine (big_any a0 len0 cap0 _ hl9).mono ?_
    rintro e w1 ⟨rfl, rfl⟩
    go_wp2_with fail
    refine (drawNumbers_any a0 len0 cap0 _ hcode).mono ?_
    rintro e w1 ⟨x, y, z, hx, hy, hz, rfl, b1⟩
    have HX : Hid (Unit → x < 18446744073709551616) := fun _ => hx
    have HY : Hid (Unit → y < 18446744073709551616) := fun _ => hy
    have HZ : Hid (Unit → z < 18446744073709551616) := fun _ => hz
    clear hx hy hz hcode hl9 hbig
    go_wp2_with fail
    obtain ⟨wl, hwl⟩ : ∃ wl, w1.alloc (.cells #[.int .u64 x, .int .u64 y, .int .u64 z] 24) = wl := ⟨_, rfl⟩
    have hblock : wl.heap[w1.heap.size]? = some (.cells #[.int .u64 x, .int .u64 y, .int .u64 z] 24) := by
      rw [← hwl]
      have e : (w1.alloc (.cells #[.int .u64 x, .int .u64 y, .int .u64 z] 24)).heap = w1.heap.push (.cells #[.int .u64 x, .int .u64 y, .int .u64 z] 24) := rfl
      rw [e]; simp
    have hbl : Below w.heap.size w wl := by rw [← hwl]; exact b1.alloc b1.size _
    have hsl : w1.heap.size < wl.heap.size := by rw [← hwl]; simp
    simp only [hwl]
    obtain ⟨gl, hgl⟩ : ∃ gl, w1.heap.size = gl := ⟨_, rfl⟩
    rw [hgl] at hblock hsl
    simp only [hgl]
    clear hwl hgl b1
    have hcell : ∀ k, k < 3 → ∃ v : Nat, v < 18446744073709551616 ∧ wl.cell? ⟨gl, k, none⟩ = some (.int .u64 v) := by
      intro k hk
      rcases (by omega : k = 0 ∨ k = 1 ∨ k = 2) with rfl | rfl | rfl
      · exact ⟨x, HX.out (), by unfold World.cell?; simp only [hblock]; rfl⟩
      · exact ⟨y, HY.out (), by unfold World.cell?; simp only [hblock]; rfl⟩
      · exact ⟨z, HZ.out (), by unfold World.cell?; simp only [hblock]; rfl⟩
    have HC : Hid (∀ k, k < 3 → ∃ v : Nat, v < 18446744073709551616 ∧ wl.cell? ⟨gl, k, none⟩ = some (.int .u64 v)) := hcell
    clear hcell hblock HX HY HZ
    go_loopw [7, 8, 9] (fun i _ _ wr => ∃ k : Nat, k ≤ 3 ∧ i = .int .i64 k ∧ Below wl.heap.size wl wr) (fun i _ _ _ => 3 - (intOf i).toNat)
    case atStart => exact ⟨0, by omega, rfl, Below.refl _ _⟩
    case round =>
      obtain ⟨k, hk, rfl, hbr⟩ := hrel
      by_cases hlt : k < 3
      · obtain ⟨v, hv, hc⟩ := HC.out k hlt
        have hc' : wr.cell? ⟨gl, k, none⟩ = some (.int .u64 v) := (hbr.cell hsl).trans hc
        have HV : Hid (Unit → v < 18446744073709551616) := fun _ => hv
        have hk3 : (k : Int) < 3 := by omega
        have hk0 : (0 : Int) ≤ k := by omega
        clear hc hv
        have cP := fun W => iParts v W (HV.out ())
        have cS := fun W => specParts_any v W (HV.out ())
        unfold partsV at cP cS
        have hKc := kindN_cases v
        have HR : Hid (Unit → kindN v = 4 → ∀ st, signN (belowN v) (roundN (mantN v) (expN v) st) = v) := fun _ h st => round_parts st h (HV.out ())
        have hM := mantN_lt v
        have hE1 := expN_ge v
        have hE2 := expN_le v
        obtain ⟨K, hK⟩ : ∃ q, kindN v = q := ⟨_, rfl⟩
        obtain ⟨B, hB⟩ : ∃ q, belowN v = q := ⟨_, rfl⟩
        obtain ⟨M, hMM⟩ : ∃ q, mantN v = q := ⟨_, rfl⟩
        obtain ⟨E, hE⟩ : ∃ q, expN v = q := ⟨_, rfl⟩
        rw [hK, hB, hMM, hE] at cP cS HR
        rw [hMM] at hM
        rw [hE] at hE1 hE2
        rw [hK] at hKc
        clear hK hB hMM hE
        have HM : Hid (Unit → M < 9007199254740992) := fun _ => hM
        clear hM
        go_wp2_with fail
        refine (cP _).mono ?_
        rintro e w2 ⟨rfl, b2⟩
        go_wp2_with fail
        obtain ⟨wq, hwq⟩ : ∃ wq, w2.alloc (.cells #[.int .i64 K, .bool B, .int .u64 M, .int .i64 E] 29) = wq := ⟨_, rfl⟩
        have hblk : wq.heap[w2.heap.size]? = some (.cells #[.int .i64 K, .bool B, .int .u64 M, .int .i64 E] 29) := by
          rw [← hwq]
          have e : (w2.alloc (.cells #[.int .i64 K, .bool B, .int .u64 M, .int .i64 E] 29)).heap = w2.heap.push (.cells #[.int .i64 K, .bool B, .int .u64 M, .int .i64 E] 29) := rfl
          rw [e]; simp
        have hb2 : Below wl.heap.size wl wq := by rw [← hwq]; exact (chain hbr b2).alloc (chain hbr b2).size _
        have hlt2 : w2.heap.size < wq.heap.size := by rw [← hwq]; simp
        obtain ⟨gp, hgp⟩ : ∃ gp, w2.heap.size = gp := ⟨_, rfl⟩
        simp only [hwq, hgp]
        rw [hgp] at hblk hlt2
        clear hwq hgp b2
        obtain ⟨c0, c1, c2, c3⟩ := cells_four hblk
        clear hblk
        have cQ := fun d os => Calls.regrown_of (w := wq) (d := d) (os := os) (cS _)
        have k0 := cell_regrown c0
        have k1 := cell_regrown c1
        have k2 := cell_regrown c2
        have k3 := cell_regrown c3
        refine wp_region_quiet_below (by kernel_rfl) (by kernel_rfl) ?_
        repeat (first | go_big_quiet_step (exact cQ _ _) | quiet_step (exact cQ _ _))
        refine wpQuiet_nil ?_
        intro _ hw'
        obtain ⟨⟨dq, osq⟩, hw''⟩ := hw'
        subst hw''
        have bg := below_regrown wq dq osq
        have g0 := k0 dq osq
        have g1 := k1 dq osq
        have g2 := k2 dq osq
        have g3 := k3 dq osq
        clear k0 k1 k2 k3 cQ c0 c1 c2 c3
        dsimp only
        have hbg : Below wl.heap.size wl (Go.Sort.grow (redrawn wq dq) osq) := chain hb2 bg
        have hlt3 : gp < (Go.Sort.grow (redrawn wq dq) osq).heap.size := Nat.lt_of_lt_of_le hlt2 bg.size
        clear bg hb2 hlt2
        revert g0 g1 g2 g3 hbg hlt3
        generalize Go.Sort.grow (redrawn wq dq) osq = wg
        intro g0 g1 g2 g3 hbg hlt3
        rcases hKc with rfl | rfl | rfl | rfl
        iterate 3
          · go_wp2
            go_roundw
            case rel => exact ⟨k + 1, by omega, by go_num, hbg⟩
            case measure => simp [intOf]; omega
        · have hM := HM.out ()
          have hR := HR.out () rfl
          have cR0 := fun W => iRound B false M E W (by omega) (by omega) (by omega)
          have cR1 := fun W => iRound B false (2 * M) (E - 1) W (by omega) (by omega) (by omega)
          have cR2 := fun W => iRound B (decide ((4503599627370496 : Int) ≤ (M : Int))) (256 * M) (E - 8) W (by omega) (by omega) (by omega)
          have e8 : ∀ st, roundN (256 * M) (E - 8) st = roundN M E st := fun st => by
            have := roundN_times 8 M E st
            rw [show M * 2 ^ 8 = 256 * M by omega] at this
            exact this
          simp only [roundN_double, e8, hR] at cR0 cR1 cR2
          rw [show ((2 * M : Nat) : Int) = 2 * (M : Int) by omega] at cR1
          rw [show ((256 * M : Nat) : Int) = 256 * (M : Int) by omega] at cR2
          have hM' : (M : Int) < 9007199254740992 := by omega
          clear hM hR e8 HR
          go_wp2_with fail
          refine (cR0 _).mono ?_
          rintro e w3 ⟨rfl, b3⟩
          have i1 := (b3.cell hlt3).trans g1
          have i2 := (b3.cell hlt3).trans g2
          have i3 := (b3.cell hlt3).trans g3
          have hlt4 := Nat.lt_of_lt_of_le hlt3 b3.size
          clear g0 g1 g2 g3
          go_wp2_with fail
          refine (cR1 _).mono ?_
          rintro e w4 ⟨rfl, b4⟩
          have j1 := (b4.cell hlt4).trans i1
          have j2 := (b4.cell hlt4).trans i2
          have j3 := (b4.cell hlt4).trans i3
          clear i1 i2 i3
          go_wp2_with fail
          refine (cR2 _).mono ?_
          rintro e w5 ⟨rfl, b5⟩
          clear j1 j2 j3
          go_wp2_with fail
          go_roundw
          case rel => exact ⟨k + 1, by omega, by go_num, chain (chain (chain hbg b3) b4) b5⟩
          case measure => simp [intOf]; omega
      · have hk3 : k = 3 := by omega
        subst hk3
        have t1 := told_of (n := 1) (by omega) (by omega)
        have cW := fun W => whole_any 1 W (by omega) (by omega)
        have cP := fun W => iParts (fromIntN 1) W t1.lt
        have cR := fun W => iRound false false 1 0 W (by omega) (by omega) (by omega)
        have eR : signN false (roundN 1 0 (false && decide (72057594037927936 ≤ 1))) = fromIntN 1 := by decide
        rw [eR] at cR
        unfold partsV at cP
        rw [t1.kind] at cP
        clear eR t1
        obtain ⟨X, hX⟩ : ∃ X, fromIntN 1 = X := ⟨_, rfl⟩
        rw [hX] at cW cP cR
        clear hX
        obtain ⟨q1, h1⟩ : ∃ q, belowN X = q := ⟨_, rfl⟩
        obtain ⟨q2, h2⟩ : ∃ q, (mantN X : Int) = q := ⟨_, rfl⟩
        obtain ⟨q3, h3⟩ : ∃ q, expN X = q := ⟨_, rfl⟩
        rw [h1, h2, h3] at cP
        clear h1 h2 h3
        go_wp2_with fail
        refine (cW _).mono ?_
        rintro e w2 ⟨rfl, rfl⟩
        go_wp2_with fail
        refine (cP _).mono ?_
        rintro e w3 ⟨rfl, b3⟩
        go_wp2_with fail
        simp only [Try.partsKind]
        go_wp2_with fail
        refine (cR _).mono ?_
        rintro e w4 ⟨rfl, b4⟩
        go_wp2_with fail
        refine (cW _).mono ?_
        rintro e w5 ⟨rfl, rfl⟩
        go_wp2_with fail
        go_ret
        exact ⟨rfl, chain (chain (hbl.trans (hbr.mono hbl.size)) b3) b4⟩

set_option maxRecDepth 100000 in
theorem fnParts_lifted (os : Os) (started : os.Started) (H : Type) (enc : TypeId × Value → H) :
    ReturnsInHanded {} Try.checked os 3 .any (Rows.fnPartsSpec.pre6 enc Try.prog Try.f3 Rows.fnPartsRow.domain false) (Rows.fnPartsSpec.post enc Try.prog Try.f3 false true false false) := by
  refine returnsInHanded_of_change (C := Try.checked) fnParts_own started (by kernel_rfl) Try.func3
    (ChangeSpec.witness6 (enc := enc) (C := Try.checked) false ⟨#[], #[.slice none 0 0], []⟩ 8 (by kernel_rfl) (by kernel_rfl) (by kernel_rfl) (by kernel_rfl)) ?_
  intro W base args ds gs before hval0 hW hcnd _
  have hval : ∀ (j : Nat) t v, Try.f3.params[j]? = some t → args[j]? = some v → Value.okWide Try.prog W .any base t v := hval0
  have hW' := hW
  obtain ⟨p, q, hA0, hV, rfl, hfz, hnd⟩ := hW
  have hA : DataW.TrodAll enc Try.prog W 0 (fun _ => true) true Try.f3.params.toList args.toList ds p := hA0
  rw [Try.params3] at hA hval
  obtain ⟨v0, vs0, d0, ds0, p0, q0, hargs, rfl, rfl, h0, r0⟩ := trodAll_cons hA
  obtain ⟨rfl, rfl, rfl⟩ := trodAll_nil r0
  obtain rfl : args = #[v0] := by cases args; simp_all
  obtain ⟨rfl, rfl⟩ := trodVars_none hV
  obtain ⟨a0, len0, cap0, rfl⟩ := okWide_slice Try.underlying22 (hval 0 22 v0 rfl rfl)
  have k0 := h0
  have lt0 : ∀ x ∈ p0, x.block < W.heap.size := by obtain ⟨m, hm⟩ := k0; exact DataW.trod_lt m _ _ _ hm
  obtain ⟨z0, w0⟩ : ∃ zs, IsRow .u8 W a0 len0 cap0 zs := by
    obtain ⟨fuel, hf⟩ := h0
    rcases open_ints Try.underlying22 Try.underlying5 (by kernel_rfl) hf with ⟨hcs, _⟩ | ⟨x, l, c, zs, hcs, _, hl, hm, hz, _, hcell, hwz⟩
    · simp [Value.cells] at hcs
      obtain ⟨rfl, rfl, rfl⟩ := hcs
      exact ⟨[], .inl ⟨rfl, rfl, rfl, rfl⟩⟩
    · simp [Value.cells] at hcs
      obtain ⟨rfl, rfl, rfl⟩ := hcs
      exact ⟨zs, .inr ⟨_, rfl, hl, hm, by simpa using hz, hcell, hwz⟩⟩
  clear hA0 hval0
  refine (fnParts_walk a0 len0 cap0 z0 W w0).mono fun e W' ⟨he, bel⟩ => ?_
  subst he
  exact ⟨_, rfl, _, _, _, [], _, [], hW', trodAll_mk1 (shut_bool Try.underlying4 _), (trodAll_cons_mk (Below.trod fnParts_laidOut (by kernel_rfl) (of_decide_eq_true (by kernel_rfl)) k0 bel lt0) trodAll_mk0), rfl, bel.frame _, fun h => by cases h⟩

theorem fnParts_over : Rows.fnPartsRow.holds Try.pinned (OpenSpec.ofChange Rows.fnPartsSpec) :=
  OpenClaim.holds_of_wide 3 Try.f3 rfl rfl rfl rfl rfl rfl rfl ⟨rfl, rfl, rfl, rfl, rfl⟩ rfl rfl rfl rfl rfl (by kernel_rfl) Try.func3 (by kernel_rfl)
    (of_decide_eq_true (by kernel_rfl)) (by unfold Func.isWrapper; first | (rw [if_pos (by decide +kernel)]; kernel_rfl) | (rw [if_neg (by decide +kernel)]; exact ⟨rfl, rfl⟩))
    (fun os started H enc _ => fnParts_lifted os started H enc)

theorem fnParts_holds : Rows.FnPartsSaid := fnParts_over
#print axioms fnParts_holds
end Go.Proofs.Ytdaebbejpoejcaa
