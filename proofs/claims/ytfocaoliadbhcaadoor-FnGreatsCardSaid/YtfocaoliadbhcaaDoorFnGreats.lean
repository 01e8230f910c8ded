/-
  Drawn great numbers: what is added is taken off again; a product is as many sums; powers go on by one product each; of two one is less, or they are the same; no condition.
-/
import Derived.Test.YtfocaoliadbhcaaDoorRows
import Derived.WalkKit
import Derived.ProofKit
import Derived.OpenShut
import Derived.ShutString
import Derived.ChangeOld
import Derived.Below
import Derived.LaidMore
import Derived.Lay
import Derived.LaidLaws
import Derived.Stop.Joined
import Derived.SevenTiedAt
import Derived.Test.YtfocaoliadbhcaaDoorTie
import Derived.Test.YtfocaoliadbhcaaDoorCards
import Derived.Test.YtfocaoliadbhcaaDoorIPow
import Derived.Test.YtfocaoliadbhcaaDoorGreatL
import Derived.Test.YtfocaoliadbhcaaDoorDrawG
import Derived.Test.YtfocaoliadbhcaaDoorPlaces
import Derived.Test.YtfocaoliadbhcaaDoorLaws3
import Derived.Test.YtfocaoliadbhcaaDoorLaws5
import Derived.ChangeOld
import Derived.Below
namespace Go.Proofs.YtfocaoliadbhcaaDoor
open Go.ChangeShapes Go.WideShapes Go.ChangeAt Go.RowKit
open Go.ChangeMaps (open_string shut_string)
set_option linter.unusedVariables false

theorem fnGreats_own : ownKnob Tryd.prog.godebug = none := by kernel_rfl
theorem fnGreats_laidOut : laidOutB Tryd.prog = true := by kernel_rfl

/-- WHAT THE WALK IS TOLD OF A SLICE OF INTEGERS THAT CAME IN: it is nil; or it leads to a row of 'cap' cells, the numbers 'zs' (the first 'len' are its elements, the rest its spare room), each fitting its kind. -/
def IsRow (k : IntKind) (w : World) (a : Option Addr) (len cap : Nat) (zs : List Int) : Prop :=
  (a = none ∧ len = 0 ∧ cap = 0 ∧ zs = []) ∨
  ∃ x, a = some x ∧ len ≤ cap ∧ cap ≤ maxLen ∧ zs.length = cap ∧ (∀ i, i < zs.length → w.cell? (x.add i) = some (.int k (zs.getD i 0))) ∧ ∀ n ∈ zs, (Lit.int k n).wf = true


set_option maxHeartbeats 4000000 in
set_option maxRecDepth 100000 in
theorem fnGreats_walk (a0 : Option Addr) (len0 cap0 : Nat) (z0 : List Int) (w : World) (w0 : IsRow .u8 w a0 len0 cap0 z0)  :
    Calls Tryd.prog 9 #[.slice a0 len0 cap0] w fun e w' => e = .returned (.bool true) ∧ Below w.heap.size w w' := by
  have hl9 : len0 ≤ 9223372036854775807 := by
    rcases w0 with ⟨_, h, _⟩ | ⟨_, _, h1, h2, _⟩
    · omega
    · unfold maxLen at h2; omega
  by_cases hbig : 1048576 < len0
  · clear w0
    go_enter Tryd.func9, Tryd.ntmps9
    go_wp2_with fail
    refine (big_any a0 len0 cap0 _ hl9).mono ?_
    rintro e w1 ⟨rfl, rfl⟩
    go_wp2
    go_ret
    exact ⟨rfl, Below.refl _ _⟩
  · have hcode : CodeIn w a0 len0 w.heap.size := codeIn_of w0 (by omega)
    clear w0
    go_enter Tryd.func9, Tryd.ntmps9
    go_wp2_with fail
    refine (big_any a0 len0 cap0 _ hl9).mono ?_
    rintro e w1 ⟨rfl, rfl⟩
    go_wp2_with fail
    refine (drawGreats_any a0 len0 cap0 _ hcode).mono ?_
    rintro en w1 ⟨m, n, ⟨hm, hn⟩, rfl, bb⟩
    clear hl9 hbig
    have HC : Hid (CodeIn w a0 len0 w.heap.size) := hcode
    clear hcode
    obtain ⟨x1, x2, x3, x4, x5, x6⟩ := sixty_add hm hn
    have z1 : (1 : Nat) < 10 ^ 800 := pow_up (n := 1) (m := 800) (by decide) (by decide)
    have cS := fun W => iGreatAdd (txt (Lib.decDigits m)) (txt (Lib.decDigits n)) W (size_txt x1) (size_txt x2)
    have cT := fun W => iGreatSub (txt (Lib.decDigits (m + n))) (txt (Lib.decDigits n)) W (size_txt x3) (size_txt x2)
    have cM := fun W => iGreatMul (txt (Lib.decDigits m)) (txt (Lib.decDigits n)) W (size_txt x1) (size_txt x2)
    have cC := fun W => iGreatAdd (txt (Lib.decDigits n)) (txt (Lib.decDigits 1)) W (size_txt x2) (size_txt z1)
    have cN := fun W => iGreatMul (txt (Lib.decDigits m)) (txt (Lib.decDigits (n + 1))) W (size_txt x1) (size_txt x4)
    have cU := fun W => iGreatAdd (txt (Lib.decDigits (m * n))) (txt (Lib.decDigits m)) W (size_txt x5) (size_txt x1)
    have cL := fun W => iGreatLess (txt (Lib.decDigits m)) (txt (Lib.decDigits n)) W (size_txt x1) (size_txt x2)
    have cK := fun W => iGreatLess (txt (Lib.decDigits n)) (txt (Lib.decDigits m)) W (size_txt x2) (size_txt x1)
    have cFa := fun W => iFiguresOk (txt (Lib.decDigits m)) W (size_txt x1)
    have cFs := fun W => iFiguresOk (txt (Lib.decDigits (m + n))) W (size_txt x3)
    have cFm := fun W => iFiguresOk (txt (Lib.decDigits (m * n))) W (size_txt x5)
    have eS := op_txt (· + ·) x1 x2 rfl x3
    have eT := sub_txt (A := m) x2 x3 rfl
    have eM := op_txt (· * ·) x1 x2 rfl x5
    have eC := op_txt (· + ·) x2 z1 rfl x4
    have eN := op_txt (· * ·) x1 x4 rfl x6
    have eU := op_txt (· + ·) (C := m * (n + 1)) x5 x1 (by rw [Nat.mul_add, Nat.mul_one]) x6
    have eL := less_txt x1 x2
    have eK := less_txt x2 x1
    rw [eS.1, eS.2] at cS
    rw [eT.1, eT.2] at cT
    rw [eM.1, eM.2] at cM
    rw [eC.1, eC.2, ← one_txt] at cC
    rw [eN.1, eN.2] at cN
    rw [eU.1, eU.2] at cU
    rw [eL] at cL
    rw [eK] at cK
    rw [ok_txt x1] at cFa
    rw [ok_txt x3] at cFs
    rw [ok_txt x5] at cFm
    have HE : Hid (m = n → txt (Lib.decDigits m) = txt (Lib.decDigits n)) := fun h => by rw [h]
    obtain ⟨A, hA⟩ : ∃ q, txt (Lib.decDigits m) = q := ⟨_, rfl⟩
    obtain ⟨B, hB⟩ : ∃ q, txt (Lib.decDigits n) = q := ⟨_, rfl⟩
    obtain ⟨S, hS⟩ : ∃ q, txt (Lib.decDigits (m + n)) = q := ⟨_, rfl⟩
    obtain ⟨P, hP⟩ : ∃ q, txt (Lib.decDigits (m * n)) = q := ⟨_, rfl⟩
    obtain ⟨D, hD⟩ : ∃ q, txt (Lib.decDigits (n + 1)) = q := ⟨_, rfl⟩
    obtain ⟨U, hU⟩ : ∃ q, txt (Lib.decDigits (m * (n + 1))) = q := ⟨_, rfl⟩
    simp only [hA, hB, hS, hP, hD, hU] at cS cT cM cC cN cU cL cK cFa cFs cFm HE
    simp only [hA, hB]
    clear hA hB hS hP hD hU eS eT eM eC eN eU eL eK x1 x2 x3 x4 x5 x6 z1 hm hn
    go_wp2_with fail
    refine (cS _).mono ?_
    rintro en w2 ⟨rfl, b2⟩
    replace bb := chain bb b2
    clear b2
    go_wp2_with fail
    refine (cT _).mono ?_
    rintro en w3 ⟨rfl, b3⟩
    replace bb := chain bb b3
    clear b3
    go_wp2_with fail
    refine (cM _).mono ?_
    rintro en w4 ⟨rfl, b4⟩
    replace bb := chain bb b4
    clear b4
    go_wp2_with fail
    refine (cC _).mono ?_
    rintro en w5 ⟨rfl, b5⟩
    replace bb := chain bb b5
    clear b5
    go_wp2_with fail
    refine (cN _).mono ?_
    rintro en w6 ⟨rfl, b6⟩
    replace bb := chain bb b6
    clear b6
    go_wp2_with fail
    refine (cU _).mono ?_
    rintro en w7 ⟨rfl, b7⟩
    replace bb := chain bb b7
    clear b7
    clear cS cT cM cC cN cU
    go_wp2_with fail
    refine (drawPlaces_any a0 len0 cap0 _ (codeIn_below HC.out bb)).mono ?_
    rintro en w8 ⟨v, ps, rfl, ⟨hps, hlow, gp, cp, rfl, hgp, hgl, hcell⟩, b8⟩
    replace bb := chain bb b8
    clear b8 HC
    obtain ⟨p0, hp0⟩ : ∃ p, ps.getD 0 0 = p := ⟨_, rfl⟩
    have l0 := hlow 0
    have c0 := hcell 0 (by omega)
    rw [hp0] at l0 c0
    clear hp0 hlow hcell hps
    obtain ⟨k, hk⟩ : ∃ k : Nat, (p0 : Int) % 200 = k := ⟨p0 % 200, by omega⟩
    have hk2 : (k : Int) < 200 := by omega
    have y1 := seven_pow (k := k) (by omega)
    have y2 := seven_pow (k := k + 1) (by omega)
    have z7 : (7 : Nat) < 10 ^ 800 := pow_up (n := 1) (m := 800) (by decide) (by decide)
    have cP := fun W => iGreatPower 7 k W (by omega) (by omega) (by omega) (by omega)
    have cQ := fun W => iGreatPower 7 ((k + 1 : Nat) : Int) W (by omega) (by omega) (by omega) (by omega)
    have cW := fun W => iGreatMul (txt (Lib.decDigits (7 ^ k))) (txt (Lib.decDigits 7)) W (size_txt y1) (size_txt z7)
    have eP : powS 7 k = txt (Lib.decDigits (7 ^ k)) := pow_txt (b := 7) (by decide) (by omega) rfl y1
    have eQ : powS 7 ((k + 1 : Nat) : Int) = txt (Lib.decDigits (7 ^ (k + 1))) := pow_txt (b := 7) (by decide) (by omega) rfl y2
    have eP2 : powB 7 k = true := powB_txt (b := 7) (by decide) (by omega) y1
    have eQ2 : powB 7 ((k + 1 : Nat) : Int) = true := powB_txt (b := 7) (by decide) (by omega) y2
    have eW := op_txt (· * ·) (C := 7 ^ (k + 1)) y1 z7 (by rw [Nat.pow_succ]) y2
    rw [eP, eP2] at cP
    rw [eQ, eQ2, Int.natCast_add] at cQ
    rw [eW.1, eW.2, ← seven_txt] at cW
    obtain ⟨G, hG⟩ : ∃ q, txt (Lib.decDigits (7 ^ k)) = q := ⟨_, rfl⟩
    obtain ⟨H, hH⟩ : ∃ q, txt (Lib.decDigits (7 ^ (k + 1))) = q := ⟨_, rfl⟩
    rw [hG] at cP cW
    rw [hH] at cQ cW
    clear hG hH eP eQ eP2 eQ2 eW y1 y2 z7
    go_wp2_with fail
    refine (cP _).mono ?_
    rintro en w9 ⟨rfl, b9⟩
    replace bb := chain bb b9
    clear b9
    go_wp2_with fail
    refine (cQ _).mono ?_
    rintro en w10 ⟨rfl, b10⟩
    replace bb := chain bb b10
    clear b10
    go_wp2_with fail
    refine (cW _).mono ?_
    rintro en w11 ⟨rfl, b11⟩
    replace bb := chain bb b11
    clear b11
    clear cP cQ cW c0
    by_cases hlt : m < n
    · have hgt : ¬n < m := by omega
      rw [decide_eq_true hlt] at cL
      rw [decide_eq_false hgt] at cK
      clear HE hlt hgt
      go_wp2_with fail
      refine (cL _).mono ?_
      rintro en w12 ⟨rfl, b12⟩
      replace bb := chain bb b12
      clear b12
      go_wp2_with fail
      refine (cFa _).mono ?_
      rintro en w13 ⟨rfl, b13⟩
      replace bb := chain bb b13
      clear b13
      go_wp2_with fail
      refine (cFs _).mono ?_
      rintro en w14 ⟨rfl, b14⟩
      replace bb := chain bb b14
      clear b14
      go_wp2_with fail
      refine (cFm _).mono ?_
      rintro en w15 ⟨rfl, b15⟩
      replace bb := chain bb b15
      clear b15
      go_wp2_with fail
      refine (cK _).mono ?_
      rintro en w16 ⟨rfl, b16⟩
      replace bb := chain bb b16
      clear b16
      go_wp2
      go_ret
      exact ⟨by simp, bb⟩
    · rw [decide_eq_false hlt] at cL
      by_cases hgt : n < m
      · rw [decide_eq_true hgt] at cK
        clear HE hlt hgt
        go_wp2_with fail
        refine (cL _).mono ?_
        rintro en w12 ⟨rfl, b12⟩
        replace bb := chain bb b12
        clear b12
        go_wp2_with fail
        refine (cFa _).mono ?_
        rintro en w13 ⟨rfl, b13⟩
        replace bb := chain bb b13
        clear b13
        go_wp2_with fail
        refine (cFs _).mono ?_
        rintro en w14 ⟨rfl, b14⟩
        replace bb := chain bb b14
        clear b14
        go_wp2_with fail
        refine (cFm _).mono ?_
        rintro en w15 ⟨rfl, b15⟩
        replace bb := chain bb b15
        clear b15
        go_wp2_with fail
        refine (cK _).mono ?_
        rintro en w16 ⟨rfl, b16⟩
        replace bb := chain bb b16
        clear b16
        go_wp2
        go_ret
        exact ⟨by simp, bb⟩
      · rw [decide_eq_false hgt] at cK
        have hE := HE.out (by omega)
        subst hE
        clear HE hlt hgt
        go_wp2_with fail
        refine (cL _).mono ?_
        rintro en w12 ⟨rfl, b12⟩
        replace bb := chain bb b12
        clear b12
        go_wp2_with fail
        refine (cFa _).mono ?_
        rintro en w13 ⟨rfl, b13⟩
        replace bb := chain bb b13
        clear b13
        go_wp2_with fail
        refine (cFs _).mono ?_
        rintro en w14 ⟨rfl, b14⟩
        replace bb := chain bb b14
        clear b14
        go_wp2_with fail
        refine (cFm _).mono ?_
        rintro en w15 ⟨rfl, b15⟩
        replace bb := chain bb b15
        clear b15
        go_wp2_with fail
        refine (cK _).mono ?_
        rintro en w16 ⟨rfl, b16⟩
        replace bb := chain bb b16
        clear b16
        go_wp2
        go_ret
        exact ⟨by simp, bb⟩

set_option maxRecDepth 100000 in
theorem fnGreats_lifted (os : Os) (started : os.Started) (H : Type) (enc : TypeId × Value → H) :
    ReturnsInHanded {} Tryd.checked os 9 .any (fun w args => (Rows.fnGreatsSpec.pre enc Tryd.prog Tryd.f9 [] false w args ∧ laidMetH Tryd.prog Rows.fnGreatsRow.laid w) ∧ sizedMet enc Tryd.prog Tryd.f9 (OpenSpec.ofChange Rows.fnGreatsSpec) false w args)
      (Rows.fnGreatsSpec.post enc Tryd.prog Tryd.f9 false true false false) := by
  refine returnsInHanded_of_change_and (C := Tryd.checked) (X := fun w _ => laidMetH Tryd.prog Rows.fnGreatsRow.laid w) (fun _ _ _ hh h => h.of_heap hh) fnGreats_own started (by kernel_rfl) Tryd.func9
    (ChangeSpec.witness_shaped (enc := enc) (C := Tryd.checked) (os := os) (X := fun w _ => laidMetH Tryd.prog Rows.fnGreatsRow.laid w) false (World.laidAll Tryd.prog os Rows.fnGreatsRow.laid) #[.slice none 0 0] 8 (World.laidAll_os _ _ _) (World.shaped_of_ZipB (by kernel_rfl) (by kernel_rfl)) (by kernel_rfl) (by kernel_rfl) (by kernel_rfl) (by rw [MakeChecks.laidMetH_plain _ _ _ (by kernel_rfl)]; exact laidMet_laidAll _ (by kernel_rfl) (by kernel_rfl))) ?_
  intro W base args ds gs before hval0 hW _ _ hL _
  have hval : ∀ (j : Nat) t v, Tryd.f9.params[j]? = some t → args[j]? = some v → Value.okWide Tryd.prog W .any base t v := hval0
  have hW' := hW
  obtain ⟨p, q, hA0, hV, rfl, hfz, hnd⟩ := hW
  have hA : DataW.TrodAll enc Tryd.prog W 0 (fun _ => true) true Tryd.f9.params.toList args.toList ds p := hA0
  rw [Tryd.params9] at hA hval
  obtain ⟨v0, vs0, d0, ds0, p0, q0, hargs, rfl, rfl, h0, r0⟩ := trodAll_cons hA
  obtain ⟨rfl, rfl, rfl⟩ := trodAll_nil r0
  obtain rfl : args = #[v0] := by cases args; simp_all
  obtain ⟨rfl, rfl⟩ := trodVars_none hV
  obtain ⟨a0, len0, cap0, rfl⟩ := okWide_slice Tryd.underlying31 (hval 0 31 v0 rfl rfl)
  have k0 := h0
  have lt0 : ∀ x ∈ p0, x.block < W.heap.size := by obtain ⟨m, hm⟩ := k0; exact DataW.trod_lt m _ _ _ hm
  obtain ⟨z0, w0⟩ : ∃ zs, IsRow .u8 W a0 len0 cap0 zs := by
    obtain ⟨fuel, hf⟩ := h0
    rcases open_ints Tryd.underlying31 Tryd.underlying5 (by kernel_rfl) hf with ⟨hcs, _⟩ | ⟨x, l, c, zs, hcs, _, hl, hm, hz, _, hcell, hwz⟩
    · simp [Value.cells] at hcs
      obtain ⟨rfl, rfl, rfl⟩ := hcs
      exact ⟨[], .inl ⟨rfl, rfl, rfl, rfl⟩⟩
    · simp [Value.cells] at hcs
      obtain ⟨rfl, rfl, rfl⟩ := hcs
      exact ⟨zs, .inr ⟨_, rfl, hl, hm, by simpa using hz, hcell, hwz⟩⟩
  clear hA0 hval0
  refine (fnGreats_walk a0 len0 cap0 z0 W w0 ).mono fun e W' ⟨he, bel⟩ => ?_
  subst he
  exact ⟨_, rfl, _, _, _, [], _, [], hW', trodAll_mk1 (shut_bool Tryd.underlying4 _), (trodAll_cons_mk (Below.trod fnGreats_laidOut (by kernel_rfl) (of_decide_eq_true (by kernel_rfl)) k0 bel lt0) trodAll_mk0), rfl, bel.frame _, fun h => by cases h⟩

theorem fnGreats_over : Rows.fnGreatsRow.holds Tryd.pinned (OpenSpec.ofChange Rows.fnGreatsSpec) :=
  OpenClaim.holds_of_wide 9 Tryd.f9 rfl rfl rfl rfl rfl rfl rfl ⟨rfl, rfl, rfl, rfl, rfl⟩ rfl rfl rfl rfl rfl (by kernel_rfl) Tryd.func9 (by kernel_rfl)
    (of_decide_eq_true (by kernel_rfl)) (by unfold Func.isWrapper; first | (rw [if_pos (by decide +kernel)]; kernel_rfl) | (rw [if_neg (by decide +kernel)]; exact ⟨rfl, rfl⟩))
    (fun os started H enc _ => fnGreats_lifted os started H enc)

theorem fnGreats_row : Rows.FnGreatsSaid := fnGreats_over

theorem fnGreats_holds : Rows.FnGreatsCardSaid :=
  Claim7.holds_tied_plain_at .later [] [.data, .data, .data, .data, .pinned] true (true, "696f2ef48a28e818fe72a2f3d257e9f5dbcaaa6747c06d9066cde0d6c4e9b92b") false
    fnGreats_row (fun _ h => by cases h) (by kernel_rfl) (fun _ h => by cases h) fnGreats_row_tie rfl ⟨rfl, rfl⟩ (by kernel_rfl) rfl
    (fun f fn hf hfn => by
      obtain rfl : f = 9 := Option.some.inj ((show Tryd.prog.funcNamed "loop.example/g00115/laws.FnGreats" = some 9 by kernel_rfl).symm.trans hf) |>.symm
      obtain rfl : fn = Tryd.f9 := (Option.some.inj (Tryd.func9.symm.trans hfn)).symm
      exact ⟨by kernel_rfl, fun j t ht => by
        rw [Tryd.params9] at ht
        have hm : t ∈ [31] := by simpa using Array.mem_of_getElem? ht
        have hall : ([31].all fun u => !Tryd.prog.wantsStandIn u) = true := by kernel_rfl
        exact (show Tryd.prog.wantsStandIn t = false by simpa using List.all_eq_true.1 hall t hm)⟩)
    (by kernel_rfl)
#print axioms fnGreats_holds
end Go.Proofs.YtfocaoliadbhcaaDoor
