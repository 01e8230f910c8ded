/-
  The exact figures of a drawn finite number are nearest to it, with a nought more too, and what is a little more is nearest to no lesser one; at all others the program's Nearest answers as the specification's; no condition.
-/
import Derived.Test.YtfbdhafbpcpjlaaRows
import Derived.WalkKit
import Derived.ProofKit
import Derived.OpenShut
import Derived.ShutString
import Derived.ChangeOld
import Derived.Below
import Derived.Test.YtfbdhafbpcpjlaaINear
import Derived.Test.YtfbdhafbpcpjlaaNear7L
import Derived.Test.YtfbdhafbpcpjlaaDraw3
import Derived.Test.YtfbdhafbpcpjlaaLaws3
namespace Go.Proofs.Ytfbdhafbpcpjlaa
open Go.ChangeShapes Go.WideShapes Go.ChangeAt Go.RowKit
open Go.ChangeMaps (open_string shut_string)
set_option linter.unusedVariables false

theorem fnNearest_own : ownKnob Try.prog.godebug = none := by kernel_rfl
theorem fnNearest_laidOut : laidOutB Try.prog = true := by kernel_rfl

/-- WHAT THE WALK IS TOLD OF A SLICE OF INTEGERS THAT CAME IN: it is nil; or it leads to a row of 'cap' cells, the numbers 'zs' (the first 'len' are its elements, the rest its spare room), each fitting its kind. -/
def IsRow (k : IntKind) (w : World) (a : Option Addr) (len cap : Nat) (zs : List Int) : Prop :=
  (a = none ∧ len = 0 ∧ cap = 0 ∧ zs = []) ∨
  ∃ x, a = some x ∧ len ≤ cap ∧ cap ≤ maxLen ∧ zs.length = cap ∧ (∀ i, i < zs.length → w.cell? (x.add i) = some (.int k (zs.getD i 0))) ∧ ∀ n ∈ zs, (Lit.int k n).wf = true

set_option maxHeartbeats 4000000 in
set_option maxRecDepth 100000 in
theorem fnNearest_walk (a0 : Option Addr) (len0 cap0 : Nat) (z0 : List Int) (w : World) (w0 : IsRow .u8 w a0 len0 cap0 z0) :
    Calls Try.prog 3 #[.slice a0 len0 cap0] w fun e w' => e = .returned (.bool true) ∧ Below w.heap.size w w' := by
  have hl9 : len0 ≤ 9223372036854775807 := by
    rcases w0 with ⟨_, h, _⟩ | ⟨_, _, h1, h2, _⟩
    · omega
    · unfold maxLen at h2; omega
  by_cases hbig : 1048576 < len0
  · clear w0
    go_enter Try.func3, Try.ntmps3
    go_wp2_with fail
    refine (big_any a0 len0 cap0 _ hl9).mono ?_
    rintro e w1 ⟨rfl, rfl⟩
    go_wp2
    go_ret
    exact ⟨rfl, Below.refl _ _⟩
  · have hcode : CodeIn w a0 len0 w.heap.size := codeIn_of w0 (by omega)
    clear w0
    go_enter Try.func3, Try.ntmps3
    go_wp2_with fail
    refine (big_any a0 len0 cap0 _ hl9).mono ?_
    rintro e w1 ⟨rfl, rfl⟩
    go_wp2_with fail
    refine (drawNumbers_any a0 len0 cap0 _ hcode).mono ?_
    rintro e w1 ⟨x0, y, z, hx, hy, hz, rfl, b1⟩
    clear hz hy hcode hl9 hbig
    obtain ⟨x, hx2⟩ : ∃ x : Nat, (x0 : Int) % 9223372036854775808 = x := ⟨x0 % 9223372036854775808, by omega⟩
    have hx3 : x < 9223372036854775808 := by omega
    have cE := fun W => specExact_any x W (by omega)
    have HS : Hid (exactS x = (if kindN x = 4 then txt (Lib.decDigits (exactF (mantN x) (expN x))) else ⟨#[]⟩) ∧ exactE x = (if kindN x = 4 then exactX (mantN x) (expN x) else 0)) := ⟨rfl, rfl⟩
    have HB : Hid ((exactS x).size ≤ 800 ∧ -1074 ≤ exactE x ∧ exactE x ≤ 400) := by
      by_cases kx : kindN x = 4
      · obtain ⟨f1, f2, f3, _⟩ := exact_bounds (mantN_pos kx) (mantN_lt x) (expN_ge x) (expN_le x)
        have hlen := dec_len (n := exactF (mantN x) (expN x)) (k := 800) (by decide) f1
        clear f1
        have e1 : exactS x = txt (Lib.decDigits (exactF (mantN x) (expN x))) := by unfold exactS; rw [if_pos kx]
        have e2 : exactE x = exactX (mantN x) (expN x) := by unfold exactE; rw [if_pos kx]
        refine ⟨by rw [e1, txt_size]; exact hlen, by rw [e2]; exact f3, by rw [e2]; exact f2⟩
      · have e1 : exactS x = ⟨#[]⟩ := by unfold exactS; rw [if_neg kx]
        have e2 : exactE x = 0 := by unfold exactE; rw [if_neg kx]
        refine ⟨by rw [e1]; exact Nat.zero_le _, by rw [e2]; decide, by rw [e2]; decide⟩
    obtain ⟨S, hS⟩ : ∃ q, exactS x = q := ⟨_, rfl⟩
    obtain ⟨X, hX⟩ : ∃ q, exactE x = q := ⟨_, rfl⟩
    rw [hS, hX] at cE HS HB
    have hSs := HB.out.1
    have hX1 := HB.out.2.1
    have hX4 := HB.out.2.2
    have cI := fun W => iNearest S X W (by omega) (by omega) (by omega)
    have cN := fun W => specNearest_any S X W (by omega) (by omega) (by omega)
    clear hS hX HB
    by_cases hgo : 1 ≤ S.size ∧ S.size ≤ 58 ∧ -490 ≤ X
    · have kx : kindN x = 4 := by
        by_cases kx : kindN x = 4
        · exact kx
        · have := HS.out.1
          rw [if_neg kx] at this
          rw [this] at hgo
          exact absurd hgo.1 (by decide)
      have hS := HS.out
      rw [if_pos kx, if_pos kx] at hS
      have hl : S.data.toList = Lib.decDigits (exactF (mantN x) (expN x)) := by rw [hS.1, txt_data]
      obtain ⟨n1, n2, n3, n4, n5, n6, n7⟩ := near_exact kx hx3 hl (by rw [size_list]; exact hgo.2.1) (by rw [← hS.2]; exact hgo.2.2)
      rw [← hS.2] at n1 n2 n7
      obtain ⟨Z, hZ⟩ : ∃ Z, S ++ (⟨#[48]⟩ : ByteArray) = Z := ⟨_, rfl⟩
      have hZl : Z.data.toList = S.data.toList ++ [48] := by rw [← hZ]; simp [ByteArray.data_append]
      have hZs : Z.size = S.size + 1 := by rw [← size_list, hZl, List.length_append, size_list]; rfl
      obtain ⟨D, hD⟩ : ∃ D, digV S.data.toList = D := ⟨_, rfl⟩
      rw [hD] at n5 n6
      rw [← hZl] at n2 n4 n5
      have hDl : D < 10 ^ 58 := by
        have := digV_lt (figsOk_figs n3)
        rw [hD] at this
        exact pow_up this (by rw [size_list]; exact hgo.2.1)
      have hlen := dec_len (n := 10 * D + 1) (k := 60) (by decide) (by
        have : (10 : Nat) ^ 58 * 100 = 10 ^ 60 := by decide
        omega)
      clear hDl
      have cG := fun W => specGreatAdd_any Z ⟨#[49]⟩ W
      have hone : figsOk (⟨#[49]⟩ : ByteArray).data.toList = true := by decide
      have hov : digV (⟨#[49]⟩ : ByteArray).data.toList = 1 := by decide
      have eG : opS (· + ·) Z ⟨#[49]⟩ = txt (Lib.decDigits (10 * D + 1)) := by
        unfold opS
        rw [if_pos ⟨n4, hone⟩, n5, hov]
        unfold greatS
        rw [if_pos (by show (Lib.decDigits (10 * D + 1)).length ≤ 800; omega)]
      obtain ⟨o1, ho1⟩ : ∃ q, opB (· + ·) Z ⟨#[49]⟩ = q := ⟨_, rfl⟩
      obtain ⟨T, hT⟩ : ∃ T, txt (Lib.decDigits (10 * D + 1)) = T := ⟨_, rfl⟩
      rw [eG, hT, ho1] at cG
      have hTl : T.data.toList = Lib.decDigits (10 * D + 1) := by rw [← hT, txt_data]
      have hTs : T.size ≤ 60 := by rw [← hT, txt_size]; exact hlen
      have hTo : figsOk T.data.toList = true := by rw [hTl]; exact figs_of_dec (by omega)
      obtain ⟨m1, m2⟩ := near_more (F := 10 * D) (e := X - 1) n4 hTo (by rw [size_list]; omega) (by rw [size_list]; exact hTs) (by omega) n5 (by rw [hTl, (digV_dec _).1]) (by omega) (by omega)
      rw [n2] at m1
      have cT := fun W => iNearest T (X - 1) W (by omega) (by omega) (by omega)
      have cZ := fun W => iNearest Z (X - 1) W (by omega) (by omega) (by omega)
      rw [n1] at cI
      rw [n2] at cZ
      obtain ⟨Y, hY⟩ : ∃ Y, nearN T.data.toList (X - 1) = Y := ⟨_, rfl⟩
      rw [hY] at cT m1 m2
      have cL := fun W => specLess_any Y x W (by omega) (by omega)
      rw [not_less m1 m2] at cL
      have d1 : ((S.size : Int) == 0) = false := by rw [beq_eq_false_iff_ne]; omega
      have d1' : S.size ≠ 0 := by omega
      have d2 : decide ((58 : Int) < S.size) = false := by simp; omega
      have d3 : decide (X < -490) = false := by simp; omega
      have x9 : (x : Int) < 9223372036854775808 := by omega
      have y9 : (Y : Int) ≤ 9218868437227405312 := by omega
      have hXX : -490 ≤ X := hgo.2.2
      clear hS hl n1 n2 n3 n4 n5 n6 n7 HS hZl hD hlen hone hov eG ho1 hT hTl hTo m1 m2 hY kx hgo cN hx3 hx
      go_wp2_with fail
      refine (cE _).mono ?_
      rintro e w2 ⟨rfl, b2⟩
      replace b1 := chain b1 b2
      clear b2 cE
      go_wp2_with fail
      try simp only [hZ]
      refine (cG _).mono ?_
      rintro e w2 ⟨rfl, b2⟩
      replace b1 := chain b1 b2
      clear b2 cG
      go_wp2_with fail
      refine (cT _).mono ?_
      rintro e w2 ⟨rfl, b2⟩
      replace b1 := chain b1 b2
      clear b2 cT
      go_wp2_with fail
      refine (cI _).mono ?_
      rintro e w2 ⟨rfl, b2⟩
      replace b1 := chain b1 b2
      clear b2 cI
      go_wp2_with fail
      try simp only [hZ]
      refine (cZ _).mono ?_
      rintro e w2 ⟨rfl, b2⟩
      replace b1 := chain b1 b2
      clear b2 cZ
      go_wp2_with fail
      refine (cL _).mono ?_
      rintro e w2 ⟨rfl, b2⟩
      replace b1 := chain b1 b2
      clear b2 cL
      go_wp2
      go_ret
      exact ⟨rfl, b1⟩
    · obtain ⟨Y, hY⟩ : ∃ Y, nearN S.data.toList X = Y := ⟨_, rfl⟩
      rw [hY] at cI cN
      clear HS hY hx3 hx
      by_cases g1 : S.size = 0
      · have d1 : (S.size : Int) = 0 := by omega
        clear hgo
        go_wp2_with fail
        refine (cE _).mono ?_
        rintro e w2 ⟨rfl, b2⟩
        replace b1 := chain b1 b2
        clear b2 cE
        go_wp2_with fail
        refine (cI _).mono ?_
        rintro e w2 ⟨rfl, b2⟩
        replace b1 := chain b1 b2
        clear b2 cI
        go_wp2_with fail
        refine (cN _).mono ?_
        rintro e w2 ⟨rfl, b2⟩
        replace b1 := chain b1 b2
        clear b2 cN
        go_wp2
        go_ret
        exact ⟨by simp, b1⟩
      · have d1 : ((S.size : Int) == 0) = false := by rw [beq_eq_false_iff_ne]; omega
        by_cases g2 : 58 < S.size
        · have d2 : (58 : Int) < S.size := by omega
          clear hgo
          go_wp2_with fail
          refine (cE _).mono ?_
          rintro e w2 ⟨rfl, b2⟩
          replace b1 := chain b1 b2
          clear b2 cE
          go_wp2_with fail
          refine (cI _).mono ?_
          rintro e w2 ⟨rfl, b2⟩
          replace b1 := chain b1 b2
          clear b2 cI
          go_wp2_with fail
          refine (cN _).mono ?_
          rintro e w2 ⟨rfl, b2⟩
          replace b1 := chain b1 b2
          clear b2 cN
          go_wp2
          go_ret
          exact ⟨by simp, b1⟩
        · have d2 : decide ((58 : Int) < S.size) = false := by simp; omega
          have d3 : X < -490 := by omega
          clear hgo
          go_wp2_with fail
          refine (cE _).mono ?_
          rintro e w2 ⟨rfl, b2⟩
          replace b1 := chain b1 b2
          clear b2 cE
          go_wp2_with fail
          refine (cI _).mono ?_
          rintro e w2 ⟨rfl, b2⟩
          replace b1 := chain b1 b2
          clear b2 cI
          go_wp2_with fail
          refine (cN _).mono ?_
          rintro e w2 ⟨rfl, b2⟩
          replace b1 := chain b1 b2
          clear b2 cN
          go_wp2
          go_ret
          exact ⟨by simp, b1⟩

set_option maxRecDepth 100000 in
theorem fnNearest_lifted (os : Os) (started : os.Started) (H : Type) (enc : TypeId × Value → H) :
    ReturnsInHanded {} Try.checked os 3 .any (Rows.fnNearestSpec.pre6 enc Try.prog Try.f3 Rows.fnNearestRow.domain false) (Rows.fnNearestSpec.post enc Try.prog Try.f3 false true false false) := by
  refine returnsInHanded_of_change (C := Try.checked) fnNearest_own started (by kernel_rfl) Try.func3
    (ChangeSpec.witness6 (enc := enc) (C := Try.checked) false ⟨#[], #[.slice none 0 0], []⟩ 8 (by kernel_rfl) (by kernel_rfl) (by kernel_rfl) (by kernel_rfl)) ?_
  intro W base args ds gs before hval0 hW hcnd _
  have hval : ∀ (j : Nat) t v, Try.f3.params[j]? = some t → args[j]? = some v → Value.okWide Try.prog W .any base t v := hval0
  have hW' := hW
  obtain ⟨p, q, hA0, hV, rfl, hfz, hnd⟩ := hW
  have hA : DataW.TrodAll enc Try.prog W 0 (fun _ => true) true Try.f3.params.toList args.toList ds p := hA0
  rw [Try.params3] at hA hval
  obtain ⟨v0, vs0, d0, ds0, p0, q0, hargs, rfl, rfl, h0, r0⟩ := trodAll_cons hA
  obtain ⟨rfl, rfl, rfl⟩ := trodAll_nil r0
  obtain rfl : args = #[v0] := by cases args; simp_all
  obtain ⟨rfl, rfl⟩ := trodVars_none hV
  obtain ⟨a0, len0, cap0, rfl⟩ := okWide_slice Try.underlying22 (hval 0 22 v0 rfl rfl)
  have k0 := h0
  have lt0 : ∀ x ∈ p0, x.block < W.heap.size := by obtain ⟨m, hm⟩ := k0; exact DataW.trod_lt m _ _ _ hm
  obtain ⟨z0, w0⟩ : ∃ zs, IsRow .u8 W a0 len0 cap0 zs := by
    obtain ⟨fuel, hf⟩ := h0
    rcases open_ints Try.underlying22 Try.underlying5 (by kernel_rfl) hf with ⟨hcs, _⟩ | ⟨x, l, c, zs, hcs, _, hl, hm, hz, _, hcell, hwz⟩
    · simp [Value.cells] at hcs
      obtain ⟨rfl, rfl, rfl⟩ := hcs
      exact ⟨[], .inl ⟨rfl, rfl, rfl, rfl⟩⟩
    · simp [Value.cells] at hcs
      obtain ⟨rfl, rfl, rfl⟩ := hcs
      exact ⟨zs, .inr ⟨_, rfl, hl, hm, by simpa using hz, hcell, hwz⟩⟩
  clear hA0 hval0
  refine (fnNearest_walk a0 len0 cap0 z0 W w0).mono fun e W' ⟨he, bel⟩ => ?_
  subst he
  exact ⟨_, rfl, _, _, _, [], _, [], hW', trodAll_mk1 (shut_bool Try.underlying4 _), (trodAll_cons_mk (Below.trod fnNearest_laidOut (by kernel_rfl) (of_decide_eq_true (by kernel_rfl)) k0 bel lt0) trodAll_mk0), rfl, bel.frame _, fun h => by cases h⟩

theorem fnNearest_over : Rows.fnNearestRow.holds Try.pinned (OpenSpec.ofChange Rows.fnNearestSpec) :=
  OpenClaim.holds_of_wide 3 Try.f3 rfl rfl rfl rfl rfl rfl rfl ⟨rfl, rfl, rfl, rfl, rfl⟩ rfl rfl rfl rfl rfl (by kernel_rfl) Try.func3 (by kernel_rfl)
    (of_decide_eq_true (by kernel_rfl)) (by unfold Func.isWrapper; first | (rw [if_pos (by decide +kernel)]; kernel_rfl) | (rw [if_neg (by decide +kernel)]; exact ⟨rfl, rfl⟩))
    (fun os started H enc _ => fnNearest_lifted os started H enc)

theorem fnNearest_holds : Rows.FnNearestSaid := fnNearest_over
#print axioms fnNearest_holds
end Go.Proofs.Ytfbdhafbpcpjlaa
