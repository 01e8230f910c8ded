/-
  What is shown of two drawn numbers that are not below 0 reads back as they are where they are finite or 0; what is shown of the other sign is that with a sign ahead; the names of what is no number and of what is infinite; the table that the library's writer reads is listed and tied to the program's text; no other condition.
-/
import Derived.Test.YtcdplnejejpjnaaGreatDoorRows
import Derived.WalkKit
import Derived.ProofKit
import Derived.OpenShut
import Derived.ShutString
import Derived.ChangeOld
import Derived.Below
import Derived.LaidMore
import Derived.Lay
import Derived.LaidLaws
import Derived.Stop.Joined
import Derived.SevenTiedAt
import Derived.Test.YtcdplnejejpjnaaGreatDoorTie
import Derived.Test.YtcdplnejejpjnaaGreatDoorCards
import Derived.Test.YtcdplnejejpjnaaGreatDoorReadA
import Derived.Test.YtcdplnejejpjnaaGreatDoorIShow
import Derived.Test.YtcdplnejejpjnaaGreatDoorShow7L
import Derived.Test.YtcdplnejejpjnaaGreatDoorDrawA
import Derived.Test.YtcdplnejejpjnaaGreatDoorLawA
import Derived.Test.YtcdplnejejpjnaaGreatDoorBaseA
import Derived.ChangeOld
import Derived.Below
namespace Go.Proofs.YtcdplnejejpjnaaGreatDoor
open Go.ChangeShapes Go.WideShapes Go.ChangeAt Go.RowKit
open Go.ChangeMaps (open_string shut_string)
set_option linter.unusedVariables false

theorem fnShows_own : ownKnob Tryz.prog.godebug = none := by kernel_rfl
theorem fnShows_laidOut : laidOutB Tryz.prog = true := by kernel_rfl

/-- WHAT THE WALK IS TOLD OF A SLICE OF INTEGERS THAT CAME IN: it is nil; or it leads to a row of 'cap' cells, the numbers 'zs' (the first 'len' are its elements, the rest its spare room), each fitting its kind. -/
def IsRow (k : IntKind) (w : World) (a : Option Addr) (len cap : Nat) (zs : List Int) : Prop :=
  (a = none ∧ len = 0 ∧ cap = 0 ∧ zs = []) ∨
  ∃ x, a = some x ∧ len ≤ cap ∧ cap ≤ maxLen ∧ zs.length = cap ∧ (∀ i, i < zs.length → w.cell? (x.add i) = some (.int k (zs.getD i 0))) ∧ ∀ n ∈ zs, (Lit.int k n).wf = true

theorem fnShows_tab {W : World} (h : laidMetH Tryz.prog Rows.fnShowsRow.laid W) : Lib.TabIs Tryz.prog W "internal/strconv.uint64pow10" .u64 Lib.pow10Tab := by
  rw [MakeChecks.laidMetH_plain _ _ _ (by kernel_rfl)] at h
  obtain ⟨ps, hv, _⟩ := h
  exact tabIs_at (g := 7) (by kernel_rfl) (by kernel_rfl) Tryz.underlying182 Tryz.underlying24 (by kernel_rfl) (by kernel_rfl) hv (by
    first | (left) | (right; left) | (right; right; left) | (right; right; right; left) | (right; right; right; right; left) | (right; right; right; right; right; left) | (right; right; right; right; right; right; left) | (right; right; right; right; right; right; right; left))
theorem fnShows_tabs {w : World} (h : laidMetH Tryz.prog Rows.fnShowsRow.laid w) : ∀ W : World, Below w.heap.size w W → Lib.TabIs Tryz.prog W "internal/strconv.uint64pow10" .u64 Lib.pow10Tab := by
  have ht := fnShows_tab h
  have hc := ht.cell (g := 7) (by kernel_rfl) 0 (by decide)
  exact fun W hb => tabIs_later (g := 7) hb (by kernel_rfl) (World.block_lt_of_cell? w _ hc) ht
set_option maxHeartbeats 4000000 in
set_option maxRecDepth 100000 in
theorem fnShows_walk (a0 : Option Addr) (len0 cap0 : Nat) (z0 : List Int) (w : World) (w0 : IsRow .u8 w a0 len0 cap0 z0) (htab : ∀ W : World, Below w.heap.size w W → Lib.TabIs Tryz.prog W "internal/strconv.uint64pow10" .u64 Lib.pow10Tab) (hseek : SeekOk w) :
    Calls Tryz.prog 3 #[.slice a0 len0 cap0] w fun e w' => e = .returned (.bool true) ∧ Below w.heap.size w w' := by
  have hl9 : len0 ≤ 9223372036854775807 := by
    rcases w0 with ⟨_, h, _⟩ | ⟨_, _, h1, h2, _⟩
    · omega
    · unfold maxLen at h2; omega
  have HT : Hid (∀ W : World, Below w.heap.size w W → Lib.TabIs Tryz.prog W "internal/strconv.uint64pow10" .u64 Lib.pow10Tab) := htab
  have HM : Hid (SeekOk w) := hseek
  clear htab hseek
  by_cases hbig : 1048576 < len0
  · clear w0
    go_enter Tryz.func3, Tryz.ntmps3
    go_wp2_with fail
    refine (big_any a0 len0 cap0 _ hl9).mono ?_
    rintro e w1 ⟨rfl, rfl⟩
    go_wp2
    go_ret
    exact ⟨rfl, Below.refl _ _⟩
  · have hcode : CodeIn w a0 len0 w.heap.size := codeIn_of w0 (by omega)
    clear w0
    go_enter Tryz.func3, Tryz.ntmps3
    go_wp2_with fail
    refine (big_any a0 len0 cap0 _ hl9).mono ?_
    rintro e w1 ⟨rfl, rfl⟩
    go_wp2_with fail
    refine (drawNumbers_any a0 len0 cap0 _ hcode).mono ?_
    rintro e w1 ⟨x0, y0, z0, hx0, hy0, hz0, rfl, b1⟩
    clear hz0 hcode hl9 hbig
    obtain ⟨xa, ha⟩ : ∃ x : Nat, (x0 : Int) % 9223372036854775808 = x := ⟨x0 % 9223372036854775808, by omega⟩
    obtain ⟨xb, hb⟩ : ∃ x : Nat, (y0 : Int) % 9223372036854775808 = x := ⟨y0 % 9223372036854775808, by omega⟩
    have ha3 : xa < 9223372036854775808 := by omega
    have hb3 : xb < 9223372036854775808 := by omega
    have HAB : Hid (xa < 9223372036854775808 ∧ xb < 9223372036854775808) := ⟨ha3, hb3⟩
    obtain ⟨gl, hgl⟩ : ∃ g, w1.heap.size = g := ⟨_, rfl⟩
    have bb0 := b1.alloc b1.size (.cells #[.int .u64 xa, .int .u64 xb] 24)
    have hblk0 := heap_alloc_new w1 (.cells #[.int .u64 xa, .int .u64 xb] 24)
    rw [hgl] at hblk0
    clear ha3 hb3 hx0 hy0 b1
    go_upto_region 6 with fail
    try simp only [ha, hb]
    clear ha hb
    go_loopw [7] (fun y wr => ∃ i : Nat, y = .int .i64 i ∧ (i : Int) ≤ 2 ∧ Below w.heap.size w wr ∧ wr.heap[gl]? = some (.cells #[.int .u64 xa, .int .u64 xb] 24)) (fun y _ => 2 - (intOf y).toNat)
    case atStart => exact ⟨0, rfl, by omega, bb0, hblk0⟩
    case round =>
      clear bb0 hblk0
      obtain ⟨i, rfl, hi2, bb, hblk⟩ := hrel
      by_cases hi : (i : Int) < 2
      · obtain ⟨x, hx3, hcell⟩ : ∃ x : Nat, x < 9223372036854775808 ∧ wr.cell? ⟨gl, i, none⟩ = some (.int .u64 x) := by
          rcases (by omega : i = 0 ∨ i = 1) with rfl | rfl
          · exact ⟨xa, HAB.out.1, by rw [cell_of_row _ _ _ _ _ _ hblk]; rfl⟩
          · exact ⟨xb, HAB.out.2, by rw [cell_of_row _ _ _ _ _ _ hblk]; rfl⟩
        have cS := fun W (hb : Below w.heap.size w W) => iShowNumber x W (by omega) (fun W' h' => HT.out W' (chain hb h'))
        have cP := fun W => specParts_any x W (by omega)
        unfold partsV at cP
        have HX : Hid (x < 9223372036854775808) := hx3
        obtain ⟨T, hT⟩ : ∃ T, txt (showN x) = T := ⟨_, rfl⟩
        rw [hT] at cS
        have hTl : T.data.toList = showN x := by rw [← hT, txt_data]
        obtain ⟨bl, hbl⟩ : ∃ q, belowN x = q := ⟨_, rfl⟩
        obtain ⟨M, hM⟩ : ∃ q, mantN x = q := ⟨_, rfl⟩
        obtain ⟨Q, hQ⟩ : ∃ q, expN x = q := ⟨_, rfl⟩
        have hb0 : belowN x = false := by
          unfold belowN
          exact decide_eq_false (fun h => by omega)
        rw [hbl, hM, hQ] at cP
        have xi : (x : Int) < 9223372036854775808 := by omega
        rcases kindN_cases x with hk | hk | hk | hk
        · rw [hk] at cP
          have hT1 : T = ⟨#[78, 97, 78]⟩ := by rw [← hT]; unfold showN; rw [hk]; rfl
          subst hT1
          have cR := fun W (hb : Below w.heap.size w W) => iReadNumber ⟨#[78, 97, 78]⟩ W (by decide) (seek_kept HM.out hb)
          obtain ⟨rv, hrv⟩ : ∃ q, readI (⟨#[78, 97, 78]⟩ : ByteArray).data.toList = q := ⟨_, rfl⟩
          obtain ⟨rb, hrb⟩ : ∃ q, okI (⟨#[78, 97, 78]⟩ : ByteArray).data.toList = q := ⟨_, rfl⟩
          rw [hrv, hrb] at cR
          clear hrv hrb hT hTl hbl hM hQ hb0 hk HX hx3
          go_wp2_with fail
          refine (cS _ bb).mono ?_
          rintro e w2 ⟨rfl, b2⟩
          replace hblk := kept_block b2 hblk
          replace bb := chain bb b2
          clear b2
          go_wp2_with fail
          refine (cP _).mono ?_
          rintro e w3 ⟨rfl, b3⟩
          replace hblk := kept_block b3 hblk
          replace bb := chain bb b3
          clear b3
          go_wp2_with fail
          simp only [Tryz.partsKind]
          go_wp2_with fail
          refine (cR _ bb).mono ?_
          rintro e w4 ⟨rfl, b4⟩
          replace hblk := kept_block b4 hblk
          replace bb := chain bb b4
          clear b4 hcell cS cP cR
          go_wp2
          go_roundw
          case rel => exact ⟨i + 1, by go_num, by omega, bb, hblk⟩
          case measure => simp [intOf]; omega
        · rw [hk] at cP
          have hT1 : T = ⟨#[73, 110, 102, 105, 110, 105, 116, 121]⟩ := by rw [← hT]; unfold showN; rw [hk, hb0]; rfl
          subst hT1
          have cR := fun W (hb : Below w.heap.size w W) => iReadNumber ⟨#[73, 110, 102, 105, 110, 105, 116, 121]⟩ W (by decide) (seek_kept HM.out hb)
          obtain ⟨rv, hrv⟩ : ∃ q, readI (⟨#[73, 110, 102, 105, 110, 105, 116, 121]⟩ : ByteArray).data.toList = q := ⟨_, rfl⟩
          obtain ⟨rb, hrb⟩ : ∃ q, okI (⟨#[73, 110, 102, 105, 110, 105, 116, 121]⟩ : ByteArray).data.toList = q := ⟨_, rfl⟩
          rw [hrv, hrb] at cR
          clear hrv hrb hT hTl hbl hM hQ hb0 hk HX hx3
          go_wp2_with fail
          refine (cS _ bb).mono ?_
          rintro e w2 ⟨rfl, b2⟩
          replace hblk := kept_block b2 hblk
          replace bb := chain bb b2
          clear b2
          go_wp2_with fail
          refine (cP _).mono ?_
          rintro e w3 ⟨rfl, b3⟩
          replace hblk := kept_block b3 hblk
          replace bb := chain bb b3
          clear b3
          go_wp2_with fail
          simp only [Tryz.partsKind]
          go_wp2_with fail
          refine (cR _ bb).mono ?_
          rintro e w4 ⟨rfl, b4⟩
          replace hblk := kept_block b4 hblk
          replace bb := chain bb b4
          clear b4 hcell cS cP cR
          go_wp2
          go_roundw
          case rel => exact ⟨i + 1, by go_num, by omega, bb, hblk⟩
          case measure => simp [intOf]; omega
        · rw [hk] at cP
          have hT1 : T = ⟨#[48]⟩ := by rw [← hT]; unfold showN; rw [hk]; rfl
          have hx0 : x = 0 := by
            unfold kindN expBits fracBits at hk
            split at hk
            · split at hk <;> omega
            · split at hk <;> omega
          subst hT1
          subst hx0
          have cR := fun W (hb : Below w.heap.size w W) => iReadNumber ⟨#[48]⟩ W (by decide) (seek_kept HM.out hb)
          have hr := readI_told zero_back.1 zero_back.2 (by decide)
          rw [hr.1, hr.2] at cR
          clear hr hT hTl hbl hM hQ hb0 hk HX hx3 xi
          go_wp2_with fail
          refine (cS _ bb).mono ?_
          rintro e w2 ⟨rfl, b2⟩
          replace hblk := kept_block b2 hblk
          replace bb := chain bb b2
          clear b2
          go_wp2_with fail
          refine (cP _).mono ?_
          rintro e w3 ⟨rfl, b3⟩
          replace hblk := kept_block b3 hblk
          replace bb := chain bb b3
          clear b3
          go_wp2_with fail
          simp only [Tryz.partsKind]
          go_wp2_with fail
          refine (cR _ bb).mono ?_
          rintro e w4 ⟨rfl, b4⟩
          replace hblk := kept_block b4 hblk
          replace bb := chain bb b4
          clear b4 hcell cS cP cR
          go_wp2
          go_roundw
          case rel => exact ⟨i + 1, by go_num, by omega, bb, hblk⟩
          case measure => simp [intOf]; omega
        · rw [hk] at cP
          obtain ⟨g1, g2, h3⟩ := shows_back hk hx3
          obtain ⟨h1, h2⟩ := readI_told g1 g2 (by rintro rfl; exact absurd hk (by decide))
          clear g1 g2
          have hTs : T.size ≤ 80 := by rw [← size_list, hTl]; exact h3
          have cR := fun W (hb : Below w.heap.size w W) => iReadNumber T W (by omega) (seek_kept HM.out hb)
          rw [hTl, h1, h2] at cR
          have cN := fun W => specNegate_any x W (by omega)
          have hneg : negN x = x + 9223372036854775808 := neg_plain hk hx3
          rw [hneg] at cN
          obtain ⟨y, hy⟩ : ∃ y, x + 9223372036854775808 = y := ⟨_, rfl⟩
          rw [hy] at cN
          have cY := fun W (hb : Below w.heap.size w W) => iShowNumber y W (by omega) (fun W' h' => HT.out W' (chain hb h'))
          have hN : (⟨#[45]⟩ : ByteArray) ++ T = txt (showN y) := by
            rw [shows_sign hk hx3 hy.symm, ← hT]
            have h45 : (⟨#[45]⟩ : ByteArray) = txt [45] := rfl
            rw [h45, txt_app]; rfl
          obtain ⟨N, hNN⟩ : ∃ N, txt (showN y) = N := ⟨_, rfl⟩
          rw [hNN] at cY hN
          have hTi : (T.size : Int) ≤ 80 := by omega
          clear hT hTl hbl hM hQ hb0 hk HX hx3 h1 h2 h3 hneg hy hNN hTs
          go_wp2_with fail
          refine (cS _ bb).mono ?_
          rintro e w2 ⟨rfl, b2⟩
          replace hblk := kept_block b2 hblk
          replace bb := chain bb b2
          clear b2
          go_wp2_with fail
          refine (cP _).mono ?_
          rintro e w3 ⟨rfl, b3⟩
          replace hblk := kept_block b3 hblk
          replace bb := chain bb b3
          clear b3
          go_wp2_with fail
          simp only [Tryz.partsKind]
          go_wp2_with fail
          refine (cR _ bb).mono ?_
          rintro e w4 ⟨rfl, b4⟩
          replace hblk := kept_block b4 hblk
          replace bb := chain bb b4
          clear b4 hcell cS cP cR
          go_wp2_with fail
          refine (cN _).mono ?_
          rintro e w5 ⟨rfl, b5⟩
          replace hblk := kept_block b5 hblk
          replace bb := chain bb b5
          clear b5 cN
          go_wp2_with fail
          refine (cY _ bb).mono ?_
          rintro e w6 ⟨rfl, b6⟩
          replace hblk := kept_block b6 hblk
          replace bb := chain bb b6
          clear b6 cY
          go_wp2
          go_roundw
          case rel => exact ⟨i + 1, by go_num, by omega, bb, hblk⟩
          case measure => simp [intOf]; omega
      · have hi' : decide ((i : Int) < 2) = false := by simp; omega
        go_wp2
        go_ret
        exact ⟨rfl, bb⟩

set_option maxRecDepth 100000 in
theorem fnShows_lifted (os : Os) (started : os.Started) (H : Type) (enc : TypeId × Value → H) :
    ReturnsInHanded {} Tryz.checked os 3 .any (fun w args => (Rows.fnShowsSpec.pre enc Tryz.prog Tryz.f3 [] false w args ∧ laidMetH Tryz.prog Rows.fnShowsRow.laid w) ∧ sizedMet enc Tryz.prog Tryz.f3 (OpenSpec.ofChange Rows.fnShowsSpec) false w args)
      (Rows.fnShowsSpec.post enc Tryz.prog Tryz.f3 false true false false) := by
  refine handed_shaped (C := Tryz.checked) (X := fun w _ => laidMetH Tryz.prog Rows.fnShowsRow.laid w) (fun _ _ _ hh h => h.of_heap hh) fnShows_own started (by kernel_rfl) Tryz.func3
    (ChangeSpec.witness_shaped (enc := enc) (C := Tryz.checked) (os := os) (X := fun w _ => laidMetH Tryz.prog Rows.fnShowsRow.laid w) false (World.laidAll Tryz.prog os Rows.fnShowsRow.laid) #[.slice none 0 0] 8 (World.laidAll_os _ _ _) (World.shaped_of_ZipB (by kernel_rfl) (by kernel_rfl)) (by kernel_rfl) (by kernel_rfl) (by kernel_rfl) (by rw [MakeChecks.laidMetH_plain _ _ _ (by kernel_rfl)]; exact laidMet_laidAll _ (by kernel_rfl) (by kernel_rfl))) ?_
  intro W base args ds gs before hval0 hW hL hsh
  have hval : ∀ (j : Nat) t v, Tryz.f3.params[j]? = some t → args[j]? = some v → Value.okWide Tryz.prog W .any base t v := hval0
  have hW' := hW
  obtain ⟨p, q, hA0, hV, rfl, hfz, hnd⟩ := hW
  have hA : DataW.TrodAll enc Tryz.prog W 0 (fun _ => true) true Tryz.f3.params.toList args.toList ds p := hA0
  rw [Tryz.params3] at hA hval
  obtain ⟨v0, vs0, d0, ds0, p0, q0, hargs, rfl, rfl, h0, r0⟩ := trodAll_cons hA
  obtain ⟨rfl, rfl, rfl⟩ := trodAll_nil r0
  obtain rfl : args = #[v0] := by cases args; simp_all
  obtain ⟨rfl, rfl⟩ := trodVars_none hV
  obtain ⟨a0, len0, cap0, rfl⟩ := okWide_slice Tryz.underlying22 (hval 0 22 v0 rfl rfl)
  have k0 := h0
  have lt0 : ∀ x ∈ p0, x.block < W.heap.size := by obtain ⟨m, hm⟩ := k0; exact DataW.trod_lt m _ _ _ hm
  obtain ⟨z0, w0⟩ : ∃ zs, IsRow .u8 W a0 len0 cap0 zs := by
    obtain ⟨fuel, hf⟩ := h0
    rcases open_ints Tryz.underlying22 Tryz.underlying5 (by kernel_rfl) hf with ⟨hcs, _⟩ | ⟨x, l, c, zs, hcs, _, hl, hm, hz, _, hcell, hwz⟩
    · simp [Value.cells] at hcs
      obtain ⟨rfl, rfl, rfl⟩ := hcs
      exact ⟨[], .inl ⟨rfl, rfl, rfl, rfl⟩⟩
    · simp [Value.cells] at hcs
      obtain ⟨rfl, rfl, rfl⟩ := hcs
      exact ⟨zs, .inr ⟨_, rfl, hl, hm, by simpa using hz, hcell, hwz⟩⟩
  clear hA0 hval0
  refine (fnShows_walk a0 len0 cap0 z0 W w0 (fnShows_tabs hL) (seek_of hsh)).mono fun e W' ⟨he, bel⟩ => ?_
  subst he
  exact ⟨_, rfl, _, _, _, [], _, [], hW', trodAll_mk1 (shut_bool Tryz.underlying4 _), (trodAll_cons_mk (Below.trod fnShows_laidOut (by kernel_rfl) (of_decide_eq_true (by kernel_rfl)) k0 bel lt0) trodAll_mk0), rfl, bel.frame _, fun h => by cases h⟩

theorem fnShows_over : Rows.fnShowsRow.holds Tryz.pinned (OpenSpec.ofChange Rows.fnShowsSpec) :=
  OpenClaim.holds_of_wide 3 Tryz.f3 rfl rfl rfl rfl rfl rfl rfl ⟨rfl, rfl, rfl, rfl, rfl⟩ rfl rfl rfl rfl rfl (by kernel_rfl) Tryz.func3 (by kernel_rfl)
    (of_decide_eq_true (by kernel_rfl)) (by unfold Func.isWrapper; first | (rw [if_pos (by decide +kernel)]; kernel_rfl) | (rw [if_neg (by decide +kernel)]; exact ⟨rfl, rfl⟩))
    (fun os started H enc _ => fnShows_lifted os started H enc)

theorem fnShows_row : Rows.FnShowsSaid := fnShows_over

theorem fnShows_holds : Rows.FnShowsCardSaid :=
  Claim7.holds_tied_plain_at .later [] [.data, .data, .data, .data, .sentinel, .sentinel, .pinned] true (true, "accb81a9f0eaa67c312b285064c8c5d6092136d33cfca5a46ab775b440bb2c46") true
    fnShows_row (fun _ h => by cases h) (by kernel_rfl) (fun _ h => by cases h) fnShows_row_tie rfl ⟨rfl, rfl⟩ (by kernel_rfl) rfl
    (fun f fn hf hfn => by
      obtain rfl : f = 3 := Option.some.inj ((show Tryz.prog.funcNamed "loop.example/g00115/laws.FnShows" = some 3 by kernel_rfl).symm.trans hf) |>.symm
      obtain rfl : fn = Tryz.f3 := (Option.some.inj (Tryz.func3.symm.trans hfn)).symm
      exact ⟨by kernel_rfl, fun j t ht => by
        rw [Tryz.params3] at ht
        have hm : t ∈ [22] := by simpa using Array.mem_of_getElem? ht
        have hall : ([22].all fun u => !Tryz.prog.wantsStandIn u) = true := by kernel_rfl
        exact (show Tryz.prog.wantsStandIn t = false by simpa using List.all_eq_true.1 hall t hm)⟩)
    (by kernel_rfl)
#print axioms fnShows_holds
end Go.Proofs.YtcdplnejejpjnaaGreatDoor
