/-
  The fewest figures of a drawn finite number read back as it, they are at most seventeen, no nought stands at their end, and with one figure less neither of the two nearest reads back; of all other numbers they are none; the table that the library's writer reads is listed and tied to the program's text; no other condition.
-/
import Derived.Test.YtfbdhafbpcpjlaaGreatDoorRows
import Derived.WalkKit
import Derived.ProofKit
import Derived.OpenShut
import Derived.ShutString
import Derived.ChangeOld
import Derived.Below
import Derived.LaidMore
import Derived.Lay
import Derived.LaidLaws
import Derived.Stop.Joined
import Derived.SevenTiedAt
import Derived.Test.YtfbdhafbpcpjlaaGreatDoorTie
import Derived.Test.YtfbdhafbpcpjlaaGreatDoorCards
import Derived.Test.YtfbdhafbpcpjlaaGreatDoorIShort
import Derived.Test.YtfbdhafbpcpjlaaGreatDoorDraw3
import Derived.Test.YtfbdhafbpcpjlaaGreatDoorLaws3
import Derived.Test.YtfbdhafbpcpjlaaGreatDoorShortA
namespace Go.Proofs.YtfbdhafbpcpjlaaGreatDoor
open Go.ChangeShapes Go.WideShapes Go.ChangeAt Go.RowKit
open Go.ChangeMaps (open_string shut_string)
set_option linter.unusedVariables false

theorem fnShortest_own : ownKnob Tryz.prog.godebug = none := by kernel_rfl
theorem fnShortest_laidOut : laidOutB Tryz.prog = true := by kernel_rfl

/-- WHAT THE WALK IS TOLD OF A SLICE OF INTEGERS THAT CAME IN: it is nil; or it leads to a row of 'cap' cells, the numbers 'zs' (the first 'len' are its elements, the rest its spare room), each fitting its kind. -/
def IsRow (k : IntKind) (w : World) (a : Option Addr) (len cap : Nat) (zs : List Int) : Prop :=
  (a = none ∧ len = 0 ∧ cap = 0 ∧ zs = []) ∨
  ∃ x, a = some x ∧ len ≤ cap ∧ cap ≤ maxLen ∧ zs.length = cap ∧ (∀ i, i < zs.length → w.cell? (x.add i) = some (.int k (zs.getD i 0))) ∧ ∀ n ∈ zs, (Lit.int k n).wf = true

theorem fnShortest_tab {W : World} (h : laidMetH Tryz.prog Rows.fnShortestRow.laid W) : Lib.TabIs Tryz.prog W "internal/strconv.uint64pow10" .u64 Lib.pow10Tab := by
  rw [MakeChecks.laidMetH_plain _ _ _ (by kernel_rfl)] at h
  obtain ⟨ps, hv, _⟩ := h
  exact tabIs_at (g := 7) (by kernel_rfl) (by kernel_rfl) Tryz.underlying169 Tryz.underlying24 (by kernel_rfl) (by kernel_rfl) hv (by
    first | (left) | (right; left) | (right; right; left) | (right; right; right; left) | (right; right; right; right; left) | (right; right; right; right; right; left) | (right; right; right; right; right; right; left) | (right; right; right; right; right; right; right; left))
theorem fnShortest_tabs {w : World} (h : laidMetH Tryz.prog Rows.fnShortestRow.laid w) : ∀ W : World, Below w.heap.size w W → Lib.TabIs Tryz.prog W "internal/strconv.uint64pow10" .u64 Lib.pow10Tab := by
  have ht := fnShortest_tab h
  have hc := ht.cell (g := 7) (by kernel_rfl) 0 (by decide)
  exact fun W hb => tabIs_later (g := 7) hb (by kernel_rfl) (World.block_lt_of_cell? w _ hc) ht
set_option maxHeartbeats 4000000 in
set_option maxRecDepth 100000 in
theorem fnShortest_walk (a0 : Option Addr) (len0 cap0 : Nat) (z0 : List Int) (w : World) (w0 : IsRow .u8 w a0 len0 cap0 z0) (htab : ∀ W : World, Below w.heap.size w W → Lib.TabIs Tryz.prog W "internal/strconv.uint64pow10" .u64 Lib.pow10Tab) :
    Calls Tryz.prog 3 #[.slice a0 len0 cap0] w fun e w' => e = .returned (.bool true) ∧ Below w.heap.size w w' := by
  have hl9 : len0 ≤ 9223372036854775807 := by
    rcases w0 with ⟨_, h, _⟩ | ⟨_, _, h1, h2, _⟩
    · omega
    · unfold maxLen at h2; omega
  have HT : Hid (∀ W : World, Below w.heap.size w W → Lib.TabIs Tryz.prog W "internal/strconv.uint64pow10" .u64 Lib.pow10Tab) := htab
  clear htab
  by_cases hbig : 1048576 < len0
  · clear w0
    go_enter Tryz.func3, Tryz.ntmps3
    go_wp2_with fail
    refine (big_any a0 len0 cap0 _ hl9).mono ?_
    rintro e w1 ⟨rfl, rfl⟩
    go_wp2
    go_ret
    exact ⟨rfl, Below.refl _ _⟩
  · have hcode : CodeIn w a0 len0 w.heap.size := codeIn_of w0 (by omega)
    clear w0
    go_enter Tryz.func3, Tryz.ntmps3
    go_wp2_with fail
    refine (big_any a0 len0 cap0 _ hl9).mono ?_
    rintro e w1 ⟨rfl, rfl⟩
    go_wp2_with fail
    refine (drawNumbers_any a0 len0 cap0 _ hcode).mono ?_
    rintro e w1 ⟨x0, y, z, hx, hy, hz, rfl, b1⟩
    clear hz hy hcode hl9 hbig
    obtain ⟨x, hx2⟩ : ∃ x : Nat, (x0 : Int) % 9223372036854775808 = x := ⟨x0 % 9223372036854775808, by omega⟩
    have hx3 : x < 9223372036854775808 := by omega
    have cI := iShortest x w1 (by omega) (fun W h => HT.out W (chain b1 h))
    have cP := fun W => specParts_any x W (by omega)
    unfold partsV at cP
    by_cases kx : kindN x = 4
    · have hok := short_ok (l := (exactS x).data.toList) kx hx3 (by unfold exactS; rw [if_pos kx, txt_data])
      have hS : shortS x = txt (shortR (exactS x).data.toList (exactX (mantN x) (expN x)) x 17 1).1 := by
        unfold shortS exactE
        rw [if_pos kx, if_pos kx, Nat.mod_eq_of_lt hx3]
      have hE : shortE x = (shortR (exactS x).data.toList (exactX (mantN x) (expN x)) x 17 1).2 := by
        unfold shortE exactE
        rw [if_pos kx, if_pos kx, Nat.mod_eq_of_lt hx3]
      generalize shortR (exactS x).data.toList (exactX (mantN x) (expN x)) x 17 1 = q at *
      obtain ⟨l, e⟩ := q
      simp only at hok hS hE
      rw [hS, hE, ← txt_self (txt l)] at cI
      rw [kx] at cP
      obtain ⟨t, ht⟩ : ∃ t, txt l = t := ⟨_, rfl⟩
      have htl : t.data.toList = l := by rw [← ht, txt_data]
      rw [txt_self, ht] at cI
      rw [← htl] at hok
      have HOK : Hid (Unit → ShortOk t.data.toList e x) := fun _ => hok
      have hts := size_list t
      have hl17 := hok.len
      rw [hts] at hl17
      have er := hok.range
      have h1 : 1 ≤ t.size := by
        have := hok.fig
        rcases Nat.eq_zero_or_pos t.size with h | h
        · rw [h] at hts
          rw [List.eq_nil_of_length_eq_zero hts] at this
          cases this
        · exact h
      have cN := fun W => iNearest t e W (by omega) (by omega) (by omega)
      rw [hok.back] at cN
      obtain ⟨B, hB⟩ : ∃ q, belowN x = q := ⟨_, rfl⟩
      obtain ⟨M, hM⟩ : ∃ q, mantN x = q := ⟨_, rfl⟩
      obtain ⟨F, hF⟩ : ∃ q, expN x = q := ⟨_, rfl⟩
      rw [hB, hM, hF] at cP
      obtain ⟨e1, e2⟩ := er
      have s1 : (1 : Int) ≤ t.size := by omega
      have s2 : (t.size : Int) ≤ 17 := by omega
      clear hok hS hE ht htl hts hB hM hF kx hx3 hx hl17 h1
      go_wp2_with fail
      refine cI.mono ?_
      rintro e w2 ⟨rfl, b2⟩
      go_wp2_with fail
      refine (cP _).mono ?_
      rintro e w3 ⟨rfl, b3⟩
      go_wp2_with fail
      simp only [Tryz.partsKind]
      have b13 := chain (chain b1 b2) b3
      clear b1 b2 b3 cI cP
      obtain ⟨k, hk⟩ : ∃ k : Nat, (t.size : Int) - 1 = k := ⟨t.size - 1, by omega⟩
      have hks : k < t.size := by omega
      obtain ⟨c, hc⟩ : ∃ c : Nat, (t[k]).toNat = c := ⟨_, rfl⟩
      have hk2 : (k : Int) ≤ 16 := by omega
      have HSN : Hid (Unit → t.data.toList = t.data.toList.take k ++ [t[k]] ∧ t.data.toList.length - 1 = k) := fun _ => by
        have h := take_snoc t k hks
        rw [(by omega : k + 1 = t.size), take_all] at h
        exact ⟨h, by rw [size_list]; omega⟩
      have hc0 : c ≠ 48 := by
        intro h
        have hl := (HOK.out ()).last
        rw [(HSN.out ()).1, digV_snoc, hc, h] at hl
        omega
      have dc : ((c : Int) == 48) = false := by rw [beq_eq_false_iff_ne]; omega
      clear hc0
      go_wp2_with fail
      refine (cN _).mono ?_
      rintro e w4 ⟨rfl, b4⟩
      have b14 := chain b13 b4
      clear b13 b4 cN
      by_cases hone : t.size = 1
      · have h1 : (t.size : Int) = 1 := by omega
        obtain rfl : k = 0 := by omega
        clear hk hk2 s1 s2 HSN
        go_wp2
        go_ret
        exact ⟨rfl, b14⟩
      · have h1 : ((t.size : Int) == 1) = false := by rw [beq_eq_false_iff_ne]; omega
        obtain ⟨lo, hlo⟩ : ∃ lo, t.extract 0 k = lo := ⟨_, rfl⟩
        have hlol : lo.data.toList = t.data.toList.take k := by rw [← hlo, Lib.extract_eq]; simp
        have hlos : lo.size = k := by rw [← hlo, ByteArray.size_extract]; omega
        obtain ⟨D, hD⟩ : ∃ D, digV (t.data.toList.take k) = D := ⟨_, rfl⟩
        have hft : figsOk (t.data.toList.take k) = true := figsOk_take (HOK.out ()).fig (by omega)
        have hDl : D < 10 ^ k := by
          have := digV_lt (figsOk_figs hft)
          rw [hD, List.length_take, Nat.min_eq_left (by rw [size_list]; omega)] at this
          exact this
        have hdl : (Lib.decDigits (D + 1)).length ≤ k + 1 := dec_len (by omega) (Nat.lt_of_le_of_lt (Nat.succ_le_of_lt hDl) (Nat.pow_lt_pow_right (by decide) (Nat.lt_succ_self k)))
        obtain ⟨hi, hhi⟩ : ∃ hi, txt (Lib.decDigits (D + 1)) = hi := ⟨_, rfl⟩
        have hhs : hi.size ≤ 20 := by rw [← hhi, txt_size]; omega
        have hhl : hi.data.toList = Lib.decDigits (D + 1) := by rw [← hhi, txt_data]
        have cG : ∀ W, Calls Tryz.prog 11 #[.string lo, .string ⟨#[49]⟩] W fun e w' => e = .returned (.tuple #[.string hi, .bool (opB (· + ·) lo ⟨#[49]⟩)]) ∧ Below W.heap.size W w' := fun W => by
          have h := specGreatAdd_any lo ⟨#[49]⟩ W
          have ho : opS (· + ·) lo ⟨#[49]⟩ = hi := by
            unfold opS
            rw [hlol, if_pos ⟨hft, by decide⟩, hD]
            show greatS (D + 1) = hi
            unfold greatS
            rw [if_pos (by omega), hhi]
          rw [ho] at h
          exact h
        obtain ⟨ob, hob⟩ : ∃ b, opB (· + ·) lo ⟨#[49]⟩ = b := ⟨_, rfl⟩
        rw [hob] at cG
        have cL := fun W => specNearest_any lo (e + 1) W (by omega) (by omega) (by omega)
        have cH := fun W => specNearest_any hi (e + 1) W (by omega) (by omega) (by omega)
        have hless := (HOK.out ()).less (by rw [size_list]; exact hone)
        rw [(HSN.out ()).2, hD] at hless
        rw [← hlol, ← hhl] at hless
        obtain ⟨p, hp⟩ : ∃ p, nearN lo.data.toList (e + 1) = p := ⟨_, rfl⟩
        obtain ⟨q, hq⟩ : ∃ p, nearN hi.data.toList (e + 1) = p := ⟨_, rfl⟩
        rw [hp] at cL hless
        rw [hq] at cH hless
        have d1 : ((p : Int) == x) = false := by rw [beq_eq_false_iff_ne]; have := hless.1; omega
        have d2 : ((q : Int) == x) = false := by rw [beq_eq_false_iff_ne]; have := hless.2; omega
        have d3 : ((p : Int) != x) = true := by simp only [bne, d1]; rfl
        have d4 : ((q : Int) != x) = true := by simp only [bne, d2]; rfl
        clear hless hp hq hob hhl hhs hhi hdl hDl hft hD hlol HSN HOK hone
        go_wp2_with fail
        refine (cG _).mono ?_
        rintro e w5 ⟨rfl, b5⟩
        go_wp2_with fail
        refine (cL _).mono ?_
        rintro e w6 ⟨rfl, b6⟩
        go_wp2_with fail
        refine (cH _).mono ?_
        rintro e w7 ⟨rfl, b7⟩
        go_wp2
        go_ret
        exact ⟨rfl, chain (chain (chain b14 b5) b6) b7⟩
    · have hS : shortS x = ⟨#[]⟩ := by unfold shortS; rw [if_neg kx]
      have hE : shortE x = 0 := by unfold shortE; rw [if_neg kx]
      rw [hS, hE] at cI
      obtain ⟨K, hK⟩ : ∃ q, kindN x = q := ⟨_, rfl⟩
      obtain ⟨B, hB⟩ : ∃ q, belowN x = q := ⟨_, rfl⟩
      obtain ⟨M, hM⟩ : ∃ q, mantN x = q := ⟨_, rfl⟩
      obtain ⟨E, hE2⟩ : ∃ q, expN x = q := ⟨_, rfl⟩
      rw [hK, hB, hM, hE2] at cP
      rw [hK] at kx
      have dk : ((K : Int) == 4) = false := by rw [beq_eq_false_iff_ne]; omega
      clear hS hE hK hB hM hE2 kx hx3 hx
      go_wp2_with fail
      refine cI.mono ?_
      rintro e w2 ⟨rfl, b2⟩
      go_wp2_with fail
      refine (cP _).mono ?_
      rintro e w3 ⟨rfl, b3⟩
      go_wp2_with fail
      simp only [Tryz.partsKind]
      go_wp2
      go_ret
      exact ⟨rfl, chain (chain b1 b2) b3⟩

set_option maxRecDepth 100000 in
theorem fnShortest_lifted (os : Os) (started : os.Started) (H : Type) (enc : TypeId × Value → H) :
    ReturnsInHanded {} Tryz.checked os 3 .any (fun w args => (Rows.fnShortestSpec.pre enc Tryz.prog Tryz.f3 [] false w args ∧ laidMetH Tryz.prog Rows.fnShortestRow.laid w) ∧ sizedMet enc Tryz.prog Tryz.f3 (OpenSpec.ofChange Rows.fnShortestSpec) false w args)
      (Rows.fnShortestSpec.post enc Tryz.prog Tryz.f3 false true false false) := by
  refine returnsInHanded_of_change_and (C := Tryz.checked) (X := fun w _ => laidMetH Tryz.prog Rows.fnShortestRow.laid w) (fun _ _ _ hh h => h.of_heap hh) fnShortest_own started (by kernel_rfl) Tryz.func3
    (ChangeSpec.witness_shaped (enc := enc) (C := Tryz.checked) (os := os) (X := fun w _ => laidMetH Tryz.prog Rows.fnShortestRow.laid w) false (World.laidAll Tryz.prog os Rows.fnShortestRow.laid) #[.slice none 0 0] 8 (World.laidAll_os _ _ _) (World.shaped_of_ZipB (by kernel_rfl) (by kernel_rfl)) (by kernel_rfl) (by kernel_rfl) (by kernel_rfl) (by rw [MakeChecks.laidMetH_plain _ _ _ (by kernel_rfl)]; exact laidMet_laidAll _ (by kernel_rfl) (by kernel_rfl))) ?_
  intro W base args ds gs before hval0 hW _ _ hL _
  have hval : ∀ (j : Nat) t v, Tryz.f3.params[j]? = some t → args[j]? = some v → Value.okWide Tryz.prog W .any base t v := hval0
  have hW' := hW
  obtain ⟨p, q, hA0, hV, rfl, hfz, hnd⟩ := hW
  have hA : DataW.TrodAll enc Tryz.prog W 0 (fun _ => true) true Tryz.f3.params.toList args.toList ds p := hA0
  rw [Tryz.params3] at hA hval
  obtain ⟨v0, vs0, d0, ds0, p0, q0, hargs, rfl, rfl, h0, r0⟩ := trodAll_cons hA
  obtain ⟨rfl, rfl, rfl⟩ := trodAll_nil r0
  obtain rfl : args = #[v0] := by cases args; simp_all
  obtain ⟨rfl, rfl⟩ := trodVars_none hV
  obtain ⟨a0, len0, cap0, rfl⟩ := okWide_slice Tryz.underlying22 (hval 0 22 v0 rfl rfl)
  have k0 := h0
  have lt0 : ∀ x ∈ p0, x.block < W.heap.size := by obtain ⟨m, hm⟩ := k0; exact DataW.trod_lt m _ _ _ hm
  obtain ⟨z0, w0⟩ : ∃ zs, IsRow .u8 W a0 len0 cap0 zs := by
    obtain ⟨fuel, hf⟩ := h0
    rcases open_ints Tryz.underlying22 Tryz.underlying5 (by kernel_rfl) hf with ⟨hcs, _⟩ | ⟨x, l, c, zs, hcs, _, hl, hm, hz, _, hcell, hwz⟩
    · simp [Value.cells] at hcs
      obtain ⟨rfl, rfl, rfl⟩ := hcs
      exact ⟨[], .inl ⟨rfl, rfl, rfl, rfl⟩⟩
    · simp [Value.cells] at hcs
      obtain ⟨rfl, rfl, rfl⟩ := hcs
      exact ⟨zs, .inr ⟨_, rfl, hl, hm, by simpa using hz, hcell, hwz⟩⟩
  clear hA0 hval0
  refine (fnShortest_walk a0 len0 cap0 z0 W w0 (fnShortest_tabs hL)).mono fun e W' ⟨he, bel⟩ => ?_
  subst he
  exact ⟨_, rfl, _, _, _, [], _, [], hW', trodAll_mk1 (shut_bool Tryz.underlying4 _), (trodAll_cons_mk (Below.trod fnShortest_laidOut (by kernel_rfl) (of_decide_eq_true (by kernel_rfl)) k0 bel lt0) trodAll_mk0), rfl, bel.frame _, fun h => by cases h⟩

theorem fnShortest_over : Rows.fnShortestRow.holds Tryz.pinned (OpenSpec.ofChange Rows.fnShortestSpec) :=
  OpenClaim.holds_of_wide 3 Tryz.f3 rfl rfl rfl rfl rfl rfl rfl ⟨rfl, rfl, rfl, rfl, rfl⟩ rfl rfl rfl rfl rfl (by kernel_rfl) Tryz.func3 (by kernel_rfl)
    (of_decide_eq_true (by kernel_rfl)) (by unfold Func.isWrapper; first | (rw [if_pos (by decide +kernel)]; kernel_rfl) | (rw [if_neg (by decide +kernel)]; exact ⟨rfl, rfl⟩))
    (fun os started H enc _ => fnShortest_lifted os started H enc)

theorem fnShortest_row : Rows.FnShortestSaid := fnShortest_over

theorem fnShortest_holds : Rows.FnShortestCardSaid :=
  Claim7.holds_tied_plain_at .later [] [.data, .data, .data, .data, .pinned] true (true, "b303bf2fcbe1e22193eeebdadfe22671935a2cc893926ecaeebe920831397055") true
    fnShortest_row (fun _ h => by cases h) (by kernel_rfl) (fun _ h => by cases h) fnShortest_row_tie rfl ⟨rfl, rfl⟩ (by kernel_rfl) rfl
    (fun f fn hf hfn => by
      obtain rfl : f = 3 := Option.some.inj ((show Tryz.prog.funcNamed "loop.example/g00115/laws.FnShortest" = some 3 by kernel_rfl).symm.trans hf) |>.symm
      obtain rfl : fn = Tryz.f3 := (Option.some.inj (Tryz.func3.symm.trans hfn)).symm
      exact ⟨by kernel_rfl, fun j t ht => by
        rw [Tryz.params3] at ht
        have hm : t ∈ [22] := by simpa using Array.mem_of_getElem? ht
        have hall : ([22].all fun u => !Tryz.prog.wantsStandIn u) = true := by kernel_rfl
        exact (show Tryz.prog.wantsStandIn t = false by simpa using List.all_eq_true.1 hall t hm)⟩)
    (by kernel_rfl)
#print axioms fnShortest_holds
end Go.Proofs.YtfbdhafbpcpjlaaGreatDoor
