/-
  A drawn sum is the number that is nearest: what is lost of it, told by the difference of its parts, is no more than a step of it, and makes the sum again; no condition.
-/
import Derived.Test.YtdaebbejpoejcaaRows
import Derived.WalkKit
import Derived.ProofKit
import Derived.OpenShut
import Derived.ShutString
import Derived.ChangeOld
import Derived.Below
import Derived.Test.YtdaebbejpoejcaaIAddF
import Derived.Test.YtdaebbejpoejcaaAddL
import Derived.Test.YtdaebbejpoejcaaDraw3
import Derived.Test.YtdaebbejpoejcaaLaws3
namespace Go.Proofs.Ytdaebbejpoejcaa
open Go.ChangeShapes Go.WideShapes Go.ChangeAt Go.RowKit
open Go.ChangeMaps (open_string shut_string)
set_option linter.unusedVariables false

theorem fnNear_own : ownKnob Try.prog.godebug = none := by kernel_rfl
theorem fnNear_laidOut : laidOutB Try.prog = true := by kernel_rfl

/-- WHAT THE WALK IS TOLD OF A SLICE OF INTEGERS THAT CAME IN: it is nil; or it leads to a row of 'cap' cells, the numbers 'zs' (the first 'len' are its elements, the rest its spare room), each fitting its kind. -/
def IsRow (k : IntKind) (w : World) (a : Option Addr) (len cap : Nat) (zs : List Int) : Prop :=
  (a = none ∧ len = 0 ∧ cap = 0 ∧ zs = []) ∨
  ∃ x, a = some x ∧ len ≤ cap ∧ cap ≤ maxLen ∧ zs.length = cap ∧ (∀ i, i < zs.length → w.cell? (x.add i) = some (.int k (zs.getD i 0))) ∧ ∀ n ∈ zs, (Lit.int k n).wf = true

set_option maxHeartbeats 4000000 in
set_option maxRecDepth 100000 in
theorem fnNear_walk (a0 : Option Addr) (len0 cap0 : Nat) (z0 : List Int) (w : World) (w0 : IsRow .u8 w a0 len0 cap0 z0) :
    Calls Try.prog 7 #[.slice a0 len0 cap0] w fun e w' => e = .returned (.bool true) ∧ Below w.heap.size w w' := by
  have hl9 : len0 ≤ 9223372036854775807 := by
    rcases w0 with ⟨_, h, _⟩ | ⟨_, _, h1, h2, _⟩
    · omega
    · unfold maxLen at h2; omega
  by_cases hbig : 1048576 < len0
  · clear w0
    go_enter Try.func7, Try.ntmps7
    go_wp2_with fail
    refine (big_any a0 len0 cap0 _ hl9).mono ?_
    rintro e w1 ⟨rfl, rfl⟩
    go_wp2
    go_ret
    exact ⟨rfl, Below.refl _ _⟩
  · have hcode : CodeIn w a0 len0 w.heap.size := codeIn_of w0 (by omega)
    clear w0
    go_enter Try.func7, Try.ntmps7
    go_wp2_with fail
    refine (big_any a0 len0 cap0 _ hl9).mono ?_
    rintro e w1 ⟨rfl, rfl⟩
    go_wp2_with fail
    refine (drawNumbers_any a0 len0 cap0 _ hcode).mono ?_
    rintro e w1 ⟨x, y, z, hx, hy, hz, rfl, b1⟩
    clear hz hcode hl9 hbig
    have hs := addN_lt hx hy
    have hz := subN_lt hs hx
    have hl := subN_lt hy hz
    have cPx := fun W => specParts_any x W hx
    have cPy := fun W => specParts_any y W hy
    have cPs := fun W => specParts_any (addN x y) W hs
    have cPl := fun W => specParts_any (subN y (subN (addN x y) x)) W hl
    have cXY := fun W => iAdd x y W hx hy
    have sXY := fun W => specAdd_any x y W hx hy
    have cZ := fun W => iSub (addN x y) x W hs hx
    have cL := fun W => iSub y (subN (addN x y) x) W hy hz
    have sE := fun W => specEqual_any (addN x y) x W hs hx
    have cR := fun W => specRound_any false false 1 (expN (addN x y)) W (by decide) (by have := expN_ge (addN x y); omega) (by have := expN_le (addN x y); omega)
    have sL := fun W => specLess_any (signN false (roundN 1 (expN (addN x y)) false)) (subN y (subN (addN x y) x)) W (sign_small _ (by have := roundN_le 1 (expN (addN x y)) false; omega)) hl
    have cA := fun W => iAdd (addN x y) (subN y (subN (addN x y) x)) W hs hl
    have sS := fun W => specEqual_any (addN x y) (addN x y) W hs hs
    have HQ : Hid (Unit → kindN x = 4 → addN x y = x → equalN (addN x y) x = true) := fun _ h1 h2 => by rw [h2]; exact equal_same (by omega)
    have HN : Hid (Unit → kindN x = 4 → kindN y = 4 → expN y ≤ expN x → expN x ≤ 900 → expN x - expN y ≤ 52 →
        (kindN (addN x y) = 3 ∨ kindN (addN x y) = 4) ∧ (kindN (addN x y) = 4 → lessN (signN false (roundN 1 (expN (addN x y)) false)) (subN y (subN (addN x y) x)) = false) ∧ addN (addN x y) (subN y (subN (addN x y) x)) = addN x y ∧ equalN (addN x y) (addN x y) = true) := fun _ h1 h2 h3 h4 h5 => by
      obtain ⟨f1, f2, f3, f4, f5, f6⟩ := near_main hx hy h1 h2 h3 h4 h5
      refine ⟨f1.kind, fun k => step_less (expN_ge _) (expN_le _) (by rw [f4]; exact f5 k), near_again hx hy h1 h2 rfl f1 f3 f4 f6, equal_self f1⟩
    rw [Bool.false_and] at cR
    unfold partsV at cPx cPy cPs cPl
    clear hx hy hs hz hl
    obtain ⟨s, hs⟩ : ∃ q, addN x y = q := ⟨_, rfl⟩
    rw [hs] at cPs cXY sXY cZ sE sS HQ cR cL cPl cA sL HN
    clear hs
    obtain ⟨d, hd⟩ : ∃ q, subN s x = q := ⟨_, rfl⟩
    rw [hd] at cZ cL cPl cA sL HN
    clear hd
    obtain ⟨l, hl⟩ : ∃ q, subN y d = q := ⟨_, rfl⟩
    rw [hl] at cL cPl cA sL HN
    clear hl
    obtain ⟨t, ht⟩ : ∃ q, signN false (roundN 1 (expN s) false) = q := ⟨_, rfl⟩
    rw [ht] at cR sL HN
    clear ht
    obtain ⟨g, hg⟩ : ∃ q, addN s l = q := ⟨_, rfl⟩
    rw [hg] at cA HN
    clear hg
    obtain ⟨r1, hr1⟩ : ∃ q, equalN s x = q := ⟨_, rfl⟩
    obtain ⟨r2, hr2⟩ : ∃ q, lessN t l = q := ⟨_, rfl⟩
    obtain ⟨r3, hr3⟩ : ∃ q, equalN s s = q := ⟨_, rfl⟩
    rw [hr1] at sE HQ
    rw [hr2] at sL HN
    rw [hr3] at sS HN
    clear hr1 hr2 hr3
    obtain ⟨K1, hK1⟩ : ∃ q, kindN x = q := ⟨_, rfl⟩
    obtain ⟨B1, hB1⟩ : ∃ q, belowN x = q := ⟨_, rfl⟩
    obtain ⟨M1, hM1⟩ : ∃ q, mantN x = q := ⟨_, rfl⟩
    obtain ⟨E1, hE1⟩ : ∃ q, expN x = q := ⟨_, rfl⟩
    have i1 := expN_ge x
    have i2 := expN_le x
    have i3 := expN_ge y
    have i4 := expN_le y
    rw [hK1, hE1] at HN
    rw [hK1] at HQ
    rw [hK1, hB1, hM1, hE1] at cPx
    rw [hE1] at i1 i2
    clear hK1 hB1 hM1 hE1
    obtain ⟨K2, hK2⟩ : ∃ q, kindN y = q := ⟨_, rfl⟩
    obtain ⟨B2, hB2⟩ : ∃ q, belowN y = q := ⟨_, rfl⟩
    obtain ⟨M2, hM2⟩ : ∃ q, mantN y = q := ⟨_, rfl⟩
    obtain ⟨E2, hE2⟩ : ∃ q, expN y = q := ⟨_, rfl⟩
    rw [hK2, hE2] at HN
    rw [hK2, hB2, hM2, hE2] at cPy
    rw [hE2] at i3 i4
    clear hK2 hB2 hM2 hE2
    obtain ⟨K3, hK3⟩ : ∃ q, kindN s = q := ⟨_, rfl⟩
    obtain ⟨B3, hB3⟩ : ∃ q, belowN s = q := ⟨_, rfl⟩
    obtain ⟨M3, hM3⟩ : ∃ q, mantN s = q := ⟨_, rfl⟩
    obtain ⟨E3, hE3⟩ : ∃ q, expN s = q := ⟨_, rfl⟩
    rw [hK3] at HN
    rw [hE3] at cR
    rw [hK3, hB3, hM3, hE3] at cPs
    clear hK3 hB3 hM3 hE3
    obtain ⟨K4, hK4⟩ : ∃ q, kindN l = q := ⟨_, rfl⟩
    obtain ⟨B4, hB4⟩ : ∃ q, belowN l = q := ⟨_, rfl⟩
    obtain ⟨M4, hM4⟩ : ∃ q, mantN l = q := ⟨_, rfl⟩
    obtain ⟨E4, hE4⟩ : ∃ q, expN l = q := ⟨_, rfl⟩
    rw [hK4, hB4, hM4, hE4] at cPl
    clear hK4 hB4 hM4 hE4
    go_wp2_with fail
    refine (cPx _).mono ?_
    rintro e w2 ⟨rfl, b2⟩
    go_wp2_with fail
    refine (cPy _).mono ?_
    rintro e w3 ⟨rfl, b3⟩
    go_upto_region 6 with fail
    have b12 := chain b1 b2
    have hlt : w2.heap.size < w3.heap.size := by have := b3.size; simp at this; omega
    obtain ⟨wq, hwq⟩ : ∃ wq, w3.alloc (.cells #[.int .i64 K2, .bool B2, .int .u64 M2, .int .i64 E2] 29) = wq := ⟨_, rfl⟩
    have hQ : wq.heap[w3.heap.size]? = some (.cells #[.int .i64 K2, .bool B2, .int .u64 M2, .int .i64 E2] 29) := by rw [← hwq]; exact heap_alloc_new _ _
    have hP : wq.heap[w2.heap.size]? = some (.cells #[.int .i64 K1, .bool B1, .int .u64 M1, .int .i64 E1] 29) := by rw [← hwq]; exact (Below.heap_alloc w3 _ _ hlt).trans (alloc_kept b3)
    have hBb : Below w.heap.size w wq := by
      have hb3 : Below w.heap.size w w3 := (b12.alloc b12.size _).trans (b3.mono (by simp; exact Nat.le_succ_of_le b12.size))
      rw [← hwq]; exact hb3.alloc hb3.size _
    have hgl : w3.heap.size < wq.heap.size := by rw [← hwq]; simp
    obtain ⟨gq, hgq⟩ : ∃ g, w3.heap.size = g := ⟨_, rfl⟩
    obtain ⟨gp, hgp⟩ : ∃ g, w2.heap.size = g := ⟨_, rfl⟩
    simp only [hwq, hgq, hgp]
    rw [hgq] at hQ hlt hgl
    rw [hgp] at hP hlt
    clear hwq hgq hgp b12 b1 b2 b3
    clear w1 w2 w3
    obtain ⟨p0, p1, p2, p3⟩ := cells_four hP
    obtain ⟨q0, q1, q2, q3⟩ := cells_four hQ
    clear p1 p2 q1 q2
    by_cases hk : K1 = 4 ∧ K2 = 4 ∧ E2 ≤ E1 ∧ E1 ≤ 900
    · obtain ⟨hk1, hk2, hE, h9⟩ := hk
      have HN2 : Hid (Unit → E1 - E2 ≤ 52 → (K3 = 3 ∨ K3 = 4) ∧ (K3 = 4 → r2 = false) ∧ g = s ∧ r3 = true) := fun _ h => HN.out () hk1 hk2 hE h9 h
      have HQ2 : Hid (Unit → s = x → r1 = true) := fun _ h => HQ.out () hk1 h
      clear HN HQ
      subst hk1 hk2
      have hE' : decide (E1 < E2) = false := by simp; omega
      have h9' : decide ((900 : Int) < E1) = false := by simp; omega
      go_wp2_with fail
      refine (cXY _).mono ?_
      rintro e w2 ⟨rfl, b2⟩
      go_wp2_with fail
      refine (cZ _).mono ?_
      rintro e w3 ⟨rfl, b3⟩
      go_wp2_with fail
      refine (cL _).mono ?_
      rintro e w4 ⟨rfl, b4⟩
      have b24 := chain (chain b2 b3) b4
      have hP4 := (b24.block gp (by omega)).trans hP
      have hQ4 := (b24.block gq hgl).trans hQ
      have b4' := chain hBb b24
      clear hP hQ p0 p3 q0 q3 b2 b3 b4 hBb b24
      obtain ⟨_, _, _, p3⟩ := cells_four hP4
      obtain ⟨_, _, _, q3⟩ := cells_four hQ4
      clear hP4 hQ4
      by_cases h52 : 52 < E1 - E2
      · clear HN2
        go_wp2_with fail
        refine (sE _).mono ?_
        rintro e w5 ⟨rfl, b5⟩
        cases r1
        · have hsx : s ≠ x := fun h => by simpa using HQ2.out () h
          clear HQ2
          have hsx' : ((s : Int) != x) = true := by simp; omega
          go_wp2_with fail
          go_ret
          exact ⟨rfl, chain b4' b5⟩
        · go_wp2_with fail
          go_ret
          exact ⟨rfl, chain b4' b5⟩
      · obtain ⟨n1, n2, rfl, rfl⟩ := HN2.out () (by omega)
        clear HQ2 HN2
        have h52' : decide ((52 : Int) < E1 - E2) = false := by simp; omega
        go_wp2_with fail
        refine (cPs _).mono ?_
        rintro e w5 ⟨rfl, b5⟩
        go_wp2_with fail
        refine (cPl _).mono ?_
        rintro e w6 ⟨rfl, b6⟩
        have b45 := chain b4' b5
        have hlt6 : w5.heap.size < w6.heap.size := by have := b6.size; simp at this; omega
        have hS6 := alloc_kept b6
        have b46 : Below w.heap.size w w6 := (b45.alloc b45.size _).trans (b6.mono (by simp; exact Nat.le_succ_of_le b45.size))
        go_upto_region 14 with fail
        obtain ⟨wr, hwr⟩ : ∃ wr, w6.alloc (.cells #[.int .i64 K4, .bool B4, .int .u64 M4, .int .i64 E4] 29) = wr := ⟨_, rfl⟩
        have hL : wr.heap[w6.heap.size]? = some (.cells #[.int .i64 K4, .bool B4, .int .u64 M4, .int .i64 E4] 29) := by rw [← hwr]; exact heap_alloc_new _ _
        have hS : wr.heap[w5.heap.size]? = some (.cells #[.int .i64 K3, .bool B3, .int .u64 M3, .int .i64 E3] 29) := by rw [← hwr]; exact (Below.heap_alloc w6 _ _ hlt6).trans hS6
        have hBr : Below w.heap.size w wr := by rw [← hwr]; exact b46.alloc b46.size _
        have hrl : w6.heap.size < wr.heap.size := by rw [← hwr]; simp
        obtain ⟨gl, hgl2⟩ : ∃ g, w6.heap.size = g := ⟨_, rfl⟩
        obtain ⟨gs, hgs2⟩ : ∃ g, w5.heap.size = g := ⟨_, rfl⟩
        simp only [hwr, hgl2, hgs2]
        rw [hgl2] at hL hlt6 hrl
        rw [hgs2] at hS hlt6
        clear hwr hgl2 hgs2 hS6 b46 b45 b4' b5 b6 p3 q3
        go_wp2_with fail
        refine (sXY _).mono ?_
        rintro e w7 ⟨rfl, b7⟩
        obtain ⟨k0, _, _, _⟩ := cells_four ((b7.block gl hrl).trans hL)
        obtain ⟨j0, _, _, j3⟩ := cells_four ((b7.block gs (by omega)).trans hS)
        have b77 := chain hBr b7
        clear b7 hL hS hBr
        by_cases hK4 : K4 = 3
        · subst hK4
          go_wp2_with fail
          refine (cA _).mono ?_
          rintro e w8 ⟨rfl, b8⟩
          go_wp2_with fail
          refine (sS _).mono ?_
          rintro e w9 ⟨rfl, b9⟩
          go_wp2_with fail
          go_ret
          exact ⟨rfl, chain (chain b77 b8) b9⟩
        · have hK4' : ((K4 : Int) == 3) = false := by rw [beq_eq_false_iff_ne]; omega
          clear hK4
          rcases n1 with rfl | rfl
          · clear n2
            go_wp2_with fail
            refine (cA _).mono ?_
            rintro e w8 ⟨rfl, b8⟩
            go_wp2_with fail
            refine (sS _).mono ?_
            rintro e w9 ⟨rfl, b9⟩
            go_wp2_with fail
            go_ret
            exact ⟨rfl, chain (chain b77 b8) b9⟩
          · have hr2 := n2 rfl
            subst hr2
            clear n2
            go_wp2_with fail
            refine (cR _).mono ?_
            rintro e w8 ⟨rfl, rfl⟩
            go_wp2_with fail
            refine (sL _).mono ?_
            rintro e w9 ⟨rfl, b9⟩
            go_wp2_with fail
            refine (cA _).mono ?_
            rintro e w10 ⟨rfl, b10⟩
            go_wp2_with fail
            refine (sS _).mono ?_
            rintro e w11 ⟨rfl, b11⟩
            go_wp2_with fail
            go_ret
            exact ⟨rfl, chain (chain (chain b77 b9) b10) b11⟩
    · have HK : Hid (Unit → ¬(K1 = 4 ∧ K2 = 4 ∧ E2 ≤ E1 ∧ E1 ≤ 900)) := fun _ => hk
      clear hk HN HQ cPs cPl cZ cL sE cR sL cA sS
      by_cases h1 : K1 = 4
      · by_cases h2 : K2 = 4
        · by_cases h3 : E1 < E2
          · subst h1 h2
            clear HK
            go_wp2_with fail
            refine (cXY _).mono ?_
            rintro e w2 ⟨rfl, b2⟩
            go_wp2_with fail
            refine (sXY _).mono ?_
            rintro e w3 ⟨rfl, b3⟩
            go_wp2_with fail
            go_ret
            exact ⟨by simp, chain (chain hBb b2) b3⟩
          · have h3' : decide (E1 < E2) = false := by simp; omega
            have h4 : 900 < E1 := by
              by_cases h : 900 < E1
              · exact h
              · exact absurd ⟨h1, h2, by omega, by omega⟩ (HK.out ())
            subst h1 h2
            clear HK
            go_wp2_with fail
            refine (cXY _).mono ?_
            rintro e w2 ⟨rfl, b2⟩
            go_wp2_with fail
            refine (sXY _).mono ?_
            rintro e w3 ⟨rfl, b3⟩
            go_wp2_with fail
            go_ret
            exact ⟨by simp, chain (chain hBb b2) b3⟩
        · have h2' : ((K2 : Int) != 4) = true := by simp; omega
          subst h1
          clear HK h2
          go_wp2_with fail
          refine (cXY _).mono ?_
          rintro e w2 ⟨rfl, b2⟩
          go_wp2_with fail
          refine (sXY _).mono ?_
          rintro e w3 ⟨rfl, b3⟩
          go_wp2_with fail
          go_ret
          exact ⟨by simp, chain (chain hBb b2) b3⟩
      · have h1' : ((K1 : Int) != 4) = true := by simp; omega
        clear HK h1
        go_wp2_with fail
        refine (cXY _).mono ?_
        rintro e w2 ⟨rfl, b2⟩
        go_wp2_with fail
        refine (sXY _).mono ?_
        rintro e w3 ⟨rfl, b3⟩
        go_wp2_with fail
        go_ret
        exact ⟨by simp, chain (chain hBb b2) b3⟩

set_option maxRecDepth 100000 in
theorem fnNear_lifted (os : Os) (started : os.Started) (H : Type) (enc : TypeId × Value → H) :
    ReturnsInHanded {} Try.checked os 7 .any (Rows.fnNearSpec.pre6 enc Try.prog Try.f7 Rows.fnNearRow.domain false) (Rows.fnNearSpec.post enc Try.prog Try.f7 false true false false) := by
  refine returnsInHanded_of_change (C := Try.checked) fnNear_own started (by kernel_rfl) Try.func7
    (ChangeSpec.witness6 (enc := enc) (C := Try.checked) false ⟨#[], #[.slice none 0 0], []⟩ 8 (by kernel_rfl) (by kernel_rfl) (by kernel_rfl) (by kernel_rfl)) ?_
  intro W base args ds gs before hval0 hW hcnd _
  have hval : ∀ (j : Nat) t v, Try.f7.params[j]? = some t → args[j]? = some v → Value.okWide Try.prog W .any base t v := hval0
  have hW' := hW
  obtain ⟨p, q, hA0, hV, rfl, hfz, hnd⟩ := hW
  have hA : DataW.TrodAll enc Try.prog W 0 (fun _ => true) true Try.f7.params.toList args.toList ds p := hA0
  rw [Try.params7] at hA hval
  obtain ⟨v0, vs0, d0, ds0, p0, q0, hargs, rfl, rfl, h0, r0⟩ := trodAll_cons hA
  obtain ⟨rfl, rfl, rfl⟩ := trodAll_nil r0
  obtain rfl : args = #[v0] := by cases args; simp_all
  obtain ⟨rfl, rfl⟩ := trodVars_none hV
  obtain ⟨a0, len0, cap0, rfl⟩ := okWide_slice Try.underlying22 (hval 0 22 v0 rfl rfl)
  have k0 := h0
  have lt0 : ∀ x ∈ p0, x.block < W.heap.size := by obtain ⟨m, hm⟩ := k0; exact DataW.trod_lt m _ _ _ hm
  obtain ⟨z0, w0⟩ : ∃ zs, IsRow .u8 W a0 len0 cap0 zs := by
    obtain ⟨fuel, hf⟩ := h0
    rcases open_ints Try.underlying22 Try.underlying5 (by kernel_rfl) hf with ⟨hcs, _⟩ | ⟨x, l, c, zs, hcs, _, hl, hm, hz, _, hcell, hwz⟩
    · simp [Value.cells] at hcs
      obtain ⟨rfl, rfl, rfl⟩ := hcs
      exact ⟨[], .inl ⟨rfl, rfl, rfl, rfl⟩⟩
    · simp [Value.cells] at hcs
      obtain ⟨rfl, rfl, rfl⟩ := hcs
      exact ⟨zs, .inr ⟨_, rfl, hl, hm, by simpa using hz, hcell, hwz⟩⟩
  clear hA0 hval0
  refine (fnNear_walk a0 len0 cap0 z0 W w0).mono fun e W' ⟨he, bel⟩ => ?_
  subst he
  exact ⟨_, rfl, _, _, _, [], _, [], hW', trodAll_mk1 (shut_bool Try.underlying4 _), (trodAll_cons_mk (Below.trod fnNear_laidOut (by kernel_rfl) (of_decide_eq_true (by kernel_rfl)) k0 bel lt0) trodAll_mk0), rfl, bel.frame _, fun h => by cases h⟩

theorem fnNear_over : Rows.fnNearRow.holds Try.pinned (OpenSpec.ofChange Rows.fnNearSpec) :=
  OpenClaim.holds_of_wide 7 Try.f7 rfl rfl rfl rfl rfl rfl rfl ⟨rfl, rfl, rfl, rfl, rfl⟩ rfl rfl rfl rfl rfl (by kernel_rfl) Try.func7 (by kernel_rfl)
    (of_decide_eq_true (by kernel_rfl)) (by unfold Func.isWrapper; first | (rw [if_pos (by decide +kernel)]; kernel_rfl) | (rw [if_neg (by decide +kernel)]; exact ⟨rfl, rfl⟩))
    (fun os started H enc _ => fnNear_lifted os started H enc)

theorem fnNear_holds : Rows.FnNearSaid := fnNear_over
#print axioms fnNear_holds
end Go.Proofs.Ytdaebbejpoejcaa
