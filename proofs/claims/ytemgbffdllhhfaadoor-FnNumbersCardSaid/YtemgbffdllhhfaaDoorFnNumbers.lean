/-
  At every run of bytes the drawn number comes back from VarText and from Decimal, the drawn text from ShortText and from Hex; the table that the library's writer reads is listed and tied to the program's text; no other condition.
-/
import Derived.Test.YtemgbffdllhhfaaDoorRows
import Derived.WalkKit
import Derived.ProofKit
import Derived.OpenShut
import Derived.ShutString
import Derived.ChangeOld
import Derived.Below
import Derived.LaidMore
import Derived.LaidLaws
import Derived.Stop.Joined
import Derived.SevenTiedAt
import Derived.Test.YtemgbffdllhhfaaDoorTie
import Derived.Test.YtemgbffdllhhfaaDoorCards
import Derived.Test.YtemgbffdllhhfaaDoorTab
import Derived.Test.YtemgbffdllhhfaaDoorNumsB
import Derived.Test.YtemgbffdllhhfaaDoorDraw1
import Derived.Test.YtemgbffdllhhfaaDoorVar
import Derived.Test.YtemgbffdllhhfaaDoorRead
import Derived.Test.YtemgbffdllhhfaaDoorShort
import Derived.Test.YtemgbffdllhhfaaDoorRShort
import Derived.Test.YtemgbffdllhhfaaDoorHex
import Derived.Test.YtemgbffdllhhfaaDoorUnhex2
import Derived.Test.YtemgbffdllhhfaaDoorRDec
import Derived.Test.YtemgbffdllhhfaaDoorItoa
import Derived.ChangeOld
import Derived.Below
namespace Go.Proofs.YtemgbffdllhhfaaDoor
open Go.ChangeShapes Go.WideShapes Go.ChangeAt Go.RowKit
open Go.ChangeMaps (open_string shut_string)
set_option linter.unusedVariables false

theorem fnNumbers_own : ownKnob Tryd.prog.godebug = none := by kernel_rfl
theorem fnNumbers_laidOut : laidOutB Tryd.prog = true := by kernel_rfl

/-- WHAT THE WALK IS TOLD OF A SLICE OF INTEGERS THAT CAME IN: it is nil; or it leads to a row of 'cap' cells, the numbers 'zs' (the first 'len' are its elements, the rest its spare room), each fitting its kind. -/
def IsRow (k : IntKind) (w : World) (a : Option Addr) (len cap : Nat) (zs : List Int) : Prop :=
  (a = none ∧ len = 0 ∧ cap = 0 ∧ zs = []) ∨
  ∃ x, a = some x ∧ len ≤ cap ∧ cap ≤ maxLen ∧ zs.length = cap ∧ (∀ i, i < zs.length → w.cell? (x.add i) = some (.int k (zs.getD i 0))) ∧ ∀ n ∈ zs, (Lit.int k n).wf = true

theorem fnNumbers_tab {W : World} (h : laidMetH Tryd.prog Rows.fnNumbersRow.laid W) : Lib.TabIs Tryd.prog W "internal/strconv.uint64pow10" .u64 Lib.pow10Tab := by
  rw [MakeChecks.laidMetH_plain _ _ _ (by kernel_rfl)] at h
  obtain ⟨ps, hv, _⟩ := h
  exact tabIs_at (g := 0) (by kernel_rfl) (by kernel_rfl) Tryd.underlying59 Tryd.underlying52 (by kernel_rfl) (by kernel_rfl) hv (by
    right; right; left)
theorem fnNumbers_size {W : World} (h : laidMetH Tryd.prog Rows.fnNumbersRow.laid W) : 0 < W.heap.size := by
  have ht := fnNumbers_tab h
  have hc := ht.cell (g := 0) (by kernel_rfl) 0 (by decide)
  exact World.block_lt_of_cell? W _ hc
set_option maxHeartbeats 4000000 in
set_option maxRecDepth 100000 in
theorem fnNumbers_walk (a0 : Option Addr) (len0 cap0 : Nat) (z0 : List Int) (w : World) (w0 : IsRow .u8 w a0 len0 cap0 z0) (hg : Tryd.prog.globalNamed "internal/strconv.uint64pow10" = some 0) (hlt : 0 < w.heap.size) (htab : Lib.TabIs Tryd.prog w "internal/strconv.uint64pow10" .u64 Lib.pow10Tab) :
    Calls Tryd.prog 3 #[.slice a0 len0 cap0] w fun e w' => e = .returned (.bool true) ∧ Below w.heap.size w w' := by
  have hl9 : len0 ≤ 9223372036854775807 := by
    rcases w0 with ⟨_, h, _⟩ | ⟨_, _, h1, h2, _⟩
    · omega
    · unfold maxLen at h2; omega
  by_cases hbig : 1048576 < len0
  · clear htab hg w0
    go_enter Tryd.func3, Tryd.ntmps3
    go_wp2_with fail
    refine (big_any a0 len0 cap0 _ hl9).mono ?_
    rintro e w1 ⟨rfl, rfl⟩
    go_wp2
    go_ret
    exact ⟨rfl, Below.refl _ _⟩
  · have hcode : CodeIn w a0 len0 w.heap.size := codeIn_of w0 (by omega)
    have T : ∀ w1, Below w.heap.size w w1 → Lib.TabIs Tryd.prog w1 "internal/strconv.uint64pow10" .u64 Lib.pow10Tab := fun w1 hb => tabIs_later hb hg hlt htab
    have HT : Hid (∀ w1, Below w.heap.size w w1 → Lib.TabIs Tryd.prog w1 "internal/strconv.uint64pow10" .u64 Lib.pow10Tab) := T
    clear htab hg T w0
    have dbig : decide (1048576 < (len0 : Int)) = false := by simp; omega
    go_enter Tryd.func3, Tryd.ntmps3
    go_wp2_with fail
    refine (big_any a0 len0 cap0 _ hl9).mono ?_
    rintro e w1 ⟨rfl, rfl⟩
    go_wp2_with fail
    refine (drawVarText_any a0 len0 cap0 _ hcode).mono ?_
    rintro e w1 ⟨z, rfl, b1⟩
    by_cases hz : z < 0 ∨ 1000000000 < z
    · obtain ⟨N, hx, hN⟩ : ∃ N : Nat, (12345 : Int) = N ∧ N ≤ 1000000000 := ⟨12345, rfl, by omega⟩
      by_cases hz0 : z < 0
      · go_wp2_with fail
        rw [hx]
        clear hx
        refine (implVarText_in N _ hN).mono ?_
        rintro e w2 ⟨rfl, b2⟩
        have hvs : (strOfNums (varB N)).size ≤ 5 := by rw [strOfNums_size]; exact varB_len5 hN
        have cV := fun w1 => implReadVar_some ((⟨#[120]⟩ : ByteArray) ++ strOfNums (varB N) ++ ⟨#[121]⟩) 1 w1 (by rw [ByteArray.size_append, ByteArray.size_append]; show 1 + _ + 1 ≤ _; omega) (by rw [ByteArray.size_append, ByteArray.size_append]; show 1 ≤ 1 + _ + 1; omega) (read_var_x hN)
        go_wp2_with fail
        refine (cV _).mono ?_
        rintro e w3 ⟨rfl, rfl⟩
        clear cV
        go_wp2_with fail
        refine (implDecimal_any N _ (by omega) (by omega) (HT.out _ (chain b1 b2))).mono ?_
        rintro e w4 ⟨rfl, b4⟩
        have cD := fun w1 => implReadDecimal_yes ⟨(Lib.itoa (N : Int)).toArray⟩ w1 (by have := itoa_size hN; omega) (tells_itoa hN)
        go_wp2_with fail
        refine (cD _).mono ?_
        rintro e w4' ⟨rfl, rfl⟩
        clear cD
        have B4 := chain (chain b1 b2) b4
        go_wp2_with fail
        refine (drawHex_any a0 len0 cap0 _ (codeIn_later hcode B4)).mono ?_
        rintro e w5 ⟨t, ht, rfl, b5⟩
        have B5 := chain B4 b5
        by_cases h300 : 300 < t.size
        · obtain ⟨T, hT, hTs⟩ : ∃ T : ByteArray, T = ⟨#[97, 98, 99]⟩ ∧ T.size ≤ 300 := ⟨_, rfl, by decide⟩
          go_wp2_with fail
          rw [← hT]
          clear hT
          refine (implShortText_in T _ (by omega)).mono ?_
          rintro e w6 ⟨rfl, b6⟩
          have hSr : rsOut (strOfNums (varB T.size) ++ T) (rdV (strOfNums (varB T.size) ++ T) 0 5 0 0 1) = .tuple #[.string T, .int .i64 (((strOfNums (varB T.size)).size + T.size : Nat) : Int), .bool true] := by
            rw [read_var_0 (by omega)]
            refine (if_pos ⟨by omega, by rw [ByteArray.size_append]; omega⟩).trans ?_
            rw [extract_back]
          have cR := fun w1 => implReadShort_yes (strOfNums (varB T.size) ++ T) 0 w1 (by have := varS_size T.size; rw [ByteArray.size_append]; omega) (Nat.zero_le _) hSr
          clear hSr
          go_wp2_with fail
          refine (cR _).mono ?_
          rintro e w7 ⟨rfl, b7⟩
          clear cR
          go_wp2_with fail
          refine (implHex_in T _ (by omega)).mono ?_
          rintro e w8 ⟨rfl, b8⟩
          have hU := implUnhex_in (strOfNums (hexOf T.data.toList)) w8 (by rw [hex_size]; omega) (by rw [hex_size]; omega)
          rw [unhex_hex] at hU
          go_wp2_with fail
          refine hU.mono ?_
          rintro e w9 ⟨rfl, b9⟩
          clear hU
          go_wp2
          go_ret
          exact ⟨rfl, chain (chain (chain (chain B5 b6) b7) b8) b9⟩
        · have hTs : t.size ≤ 300 := by omega
          go_wp2_with fail
          refine (implShortText_in t _ (by omega)).mono ?_
          rintro e w6 ⟨rfl, b6⟩
          have hSr : rsOut (strOfNums (varB t.size) ++ t) (rdV (strOfNums (varB t.size) ++ t) 0 5 0 0 1) = .tuple #[.string t, .int .i64 (((strOfNums (varB t.size)).size + t.size : Nat) : Int), .bool true] := by
            rw [read_var_0 (by omega)]
            refine (if_pos ⟨by omega, by rw [ByteArray.size_append]; omega⟩).trans ?_
            rw [extract_back]
          have cR := fun w1 => implReadShort_yes (strOfNums (varB t.size) ++ t) 0 w1 (by have := varS_size t.size; rw [ByteArray.size_append]; omega) (Nat.zero_le _) hSr
          clear hSr
          go_wp2_with fail
          refine (cR _).mono ?_
          rintro e w7 ⟨rfl, b7⟩
          clear cR
          go_wp2_with fail
          refine (implHex_in t _ (by omega)).mono ?_
          rintro e w8 ⟨rfl, b8⟩
          have hU := implUnhex_in (strOfNums (hexOf t.data.toList)) w8 (by rw [hex_size]; omega) (by rw [hex_size]; omega)
          rw [unhex_hex] at hU
          go_wp2_with fail
          refine hU.mono ?_
          rintro e w9 ⟨rfl, b9⟩
          clear hU
          go_wp2
          go_ret
          exact ⟨rfl, chain (chain (chain (chain B5 b6) b7) b8) b9⟩
      · have hz1 : 1000000000 < z := by omega
        go_wp2_with fail
        rw [hx]
        clear hx
        refine (implVarText_in N _ hN).mono ?_
        rintro e w2 ⟨rfl, b2⟩
        have hvs : (strOfNums (varB N)).size ≤ 5 := by rw [strOfNums_size]; exact varB_len5 hN
        have cV := fun w1 => implReadVar_some ((⟨#[120]⟩ : ByteArray) ++ strOfNums (varB N) ++ ⟨#[121]⟩) 1 w1 (by rw [ByteArray.size_append, ByteArray.size_append]; show 1 + _ + 1 ≤ _; omega) (by rw [ByteArray.size_append, ByteArray.size_append]; show 1 ≤ 1 + _ + 1; omega) (read_var_x hN)
        go_wp2_with fail
        refine (cV _).mono ?_
        rintro e w3 ⟨rfl, rfl⟩
        clear cV
        go_wp2_with fail
        refine (implDecimal_any N _ (by omega) (by omega) (HT.out _ (chain b1 b2))).mono ?_
        rintro e w4 ⟨rfl, b4⟩
        have cD := fun w1 => implReadDecimal_yes ⟨(Lib.itoa (N : Int)).toArray⟩ w1 (by have := itoa_size hN; omega) (tells_itoa hN)
        go_wp2_with fail
        refine (cD _).mono ?_
        rintro e w4' ⟨rfl, rfl⟩
        clear cD
        have B4 := chain (chain b1 b2) b4
        go_wp2_with fail
        refine (drawHex_any a0 len0 cap0 _ (codeIn_later hcode B4)).mono ?_
        rintro e w5 ⟨t, ht, rfl, b5⟩
        have B5 := chain B4 b5
        by_cases h300 : 300 < t.size
        · obtain ⟨T, hT, hTs⟩ : ∃ T : ByteArray, T = ⟨#[97, 98, 99]⟩ ∧ T.size ≤ 300 := ⟨_, rfl, by decide⟩
          go_wp2_with fail
          rw [← hT]
          clear hT
          refine (implShortText_in T _ (by omega)).mono ?_
          rintro e w6 ⟨rfl, b6⟩
          have hSr : rsOut (strOfNums (varB T.size) ++ T) (rdV (strOfNums (varB T.size) ++ T) 0 5 0 0 1) = .tuple #[.string T, .int .i64 (((strOfNums (varB T.size)).size + T.size : Nat) : Int), .bool true] := by
            rw [read_var_0 (by omega)]
            refine (if_pos ⟨by omega, by rw [ByteArray.size_append]; omega⟩).trans ?_
            rw [extract_back]
          have cR := fun w1 => implReadShort_yes (strOfNums (varB T.size) ++ T) 0 w1 (by have := varS_size T.size; rw [ByteArray.size_append]; omega) (Nat.zero_le _) hSr
          clear hSr
          go_wp2_with fail
          refine (cR _).mono ?_
          rintro e w7 ⟨rfl, b7⟩
          clear cR
          go_wp2_with fail
          refine (implHex_in T _ (by omega)).mono ?_
          rintro e w8 ⟨rfl, b8⟩
          have hU := implUnhex_in (strOfNums (hexOf T.data.toList)) w8 (by rw [hex_size]; omega) (by rw [hex_size]; omega)
          rw [unhex_hex] at hU
          go_wp2_with fail
          refine hU.mono ?_
          rintro e w9 ⟨rfl, b9⟩
          clear hU
          go_wp2
          go_ret
          exact ⟨rfl, chain (chain (chain (chain B5 b6) b7) b8) b9⟩
        · have hTs : t.size ≤ 300 := by omega
          go_wp2_with fail
          refine (implShortText_in t _ (by omega)).mono ?_
          rintro e w6 ⟨rfl, b6⟩
          have hSr : rsOut (strOfNums (varB t.size) ++ t) (rdV (strOfNums (varB t.size) ++ t) 0 5 0 0 1) = .tuple #[.string t, .int .i64 (((strOfNums (varB t.size)).size + t.size : Nat) : Int), .bool true] := by
            rw [read_var_0 (by omega)]
            refine (if_pos ⟨by omega, by rw [ByteArray.size_append]; omega⟩).trans ?_
            rw [extract_back]
          have cR := fun w1 => implReadShort_yes (strOfNums (varB t.size) ++ t) 0 w1 (by have := varS_size t.size; rw [ByteArray.size_append]; omega) (Nat.zero_le _) hSr
          clear hSr
          go_wp2_with fail
          refine (cR _).mono ?_
          rintro e w7 ⟨rfl, b7⟩
          clear cR
          go_wp2_with fail
          refine (implHex_in t _ (by omega)).mono ?_
          rintro e w8 ⟨rfl, b8⟩
          have hU := implUnhex_in (strOfNums (hexOf t.data.toList)) w8 (by rw [hex_size]; omega) (by rw [hex_size]; omega)
          rw [unhex_hex] at hU
          go_wp2_with fail
          refine hU.mono ?_
          rintro e w9 ⟨rfl, b9⟩
          clear hU
          go_wp2
          go_ret
          exact ⟨rfl, chain (chain (chain (chain B5 b6) b7) b8) b9⟩
    · obtain ⟨N, rfl⟩ : ∃ N : Nat, z = N := ⟨z.toNat, by omega⟩
      have hN : N ≤ 1000000000 := by omega
      clear hz
      go_wp2_with fail
      refine (implVarText_in N _ hN).mono ?_
      rintro e w2 ⟨rfl, b2⟩
      have hvs : (strOfNums (varB N)).size ≤ 5 := by rw [strOfNums_size]; exact varB_len5 hN
      have cV := fun w1 => implReadVar_some ((⟨#[120]⟩ : ByteArray) ++ strOfNums (varB N) ++ ⟨#[121]⟩) 1 w1 (by rw [ByteArray.size_append, ByteArray.size_append]; show 1 + _ + 1 ≤ _; omega) (by rw [ByteArray.size_append, ByteArray.size_append]; show 1 ≤ 1 + _ + 1; omega) (read_var_x hN)
      go_wp2_with fail
      refine (cV _).mono ?_
      rintro e w3 ⟨rfl, rfl⟩
      clear cV
      go_wp2_with fail
      refine (implDecimal_any N _ (by omega) (by omega) (HT.out _ (chain b1 b2))).mono ?_
      rintro e w4 ⟨rfl, b4⟩
      have cD := fun w1 => implReadDecimal_yes ⟨(Lib.itoa (N : Int)).toArray⟩ w1 (by have := itoa_size hN; omega) (tells_itoa hN)
      go_wp2_with fail
      refine (cD _).mono ?_
      rintro e w4' ⟨rfl, rfl⟩
      clear cD
      have B4 := chain (chain b1 b2) b4
      go_wp2_with fail
      refine (drawHex_any a0 len0 cap0 _ (codeIn_later hcode B4)).mono ?_
      rintro e w5 ⟨t, ht, rfl, b5⟩
      have B5 := chain B4 b5
      by_cases h300 : 300 < t.size
      · obtain ⟨T, hT, hTs⟩ : ∃ T : ByteArray, T = ⟨#[97, 98, 99]⟩ ∧ T.size ≤ 300 := ⟨_, rfl, by decide⟩
        go_wp2_with fail
        rw [← hT]
        clear hT
        refine (implShortText_in T _ (by omega)).mono ?_
        rintro e w6 ⟨rfl, b6⟩
        have hSr : rsOut (strOfNums (varB T.size) ++ T) (rdV (strOfNums (varB T.size) ++ T) 0 5 0 0 1) = .tuple #[.string T, .int .i64 (((strOfNums (varB T.size)).size + T.size : Nat) : Int), .bool true] := by
          rw [read_var_0 (by omega)]
          refine (if_pos ⟨by omega, by rw [ByteArray.size_append]; omega⟩).trans ?_
          rw [extract_back]
        have cR := fun w1 => implReadShort_yes (strOfNums (varB T.size) ++ T) 0 w1 (by have := varS_size T.size; rw [ByteArray.size_append]; omega) (Nat.zero_le _) hSr
        clear hSr
        go_wp2_with fail
        refine (cR _).mono ?_
        rintro e w7 ⟨rfl, b7⟩
        clear cR
        go_wp2_with fail
        refine (implHex_in T _ (by omega)).mono ?_
        rintro e w8 ⟨rfl, b8⟩
        have hU := implUnhex_in (strOfNums (hexOf T.data.toList)) w8 (by rw [hex_size]; omega) (by rw [hex_size]; omega)
        rw [unhex_hex] at hU
        go_wp2_with fail
        refine hU.mono ?_
        rintro e w9 ⟨rfl, b9⟩
        clear hU
        go_wp2
        go_ret
        exact ⟨rfl, chain (chain (chain (chain B5 b6) b7) b8) b9⟩
      · have hTs : t.size ≤ 300 := by omega
        go_wp2_with fail
        refine (implShortText_in t _ (by omega)).mono ?_
        rintro e w6 ⟨rfl, b6⟩
        have hSr : rsOut (strOfNums (varB t.size) ++ t) (rdV (strOfNums (varB t.size) ++ t) 0 5 0 0 1) = .tuple #[.string t, .int .i64 (((strOfNums (varB t.size)).size + t.size : Nat) : Int), .bool true] := by
          rw [read_var_0 (by omega)]
          refine (if_pos ⟨by omega, by rw [ByteArray.size_append]; omega⟩).trans ?_
          rw [extract_back]
        have cR := fun w1 => implReadShort_yes (strOfNums (varB t.size) ++ t) 0 w1 (by have := varS_size t.size; rw [ByteArray.size_append]; omega) (Nat.zero_le _) hSr
        clear hSr
        go_wp2_with fail
        refine (cR _).mono ?_
        rintro e w7 ⟨rfl, b7⟩
        clear cR
        go_wp2_with fail
        refine (implHex_in t _ (by omega)).mono ?_
        rintro e w8 ⟨rfl, b8⟩
        have hU := implUnhex_in (strOfNums (hexOf t.data.toList)) w8 (by rw [hex_size]; omega) (by rw [hex_size]; omega)
        rw [unhex_hex] at hU
        go_wp2_with fail
        refine hU.mono ?_
        rintro e w9 ⟨rfl, b9⟩
        clear hU
        go_wp2
        go_ret
        exact ⟨rfl, chain (chain (chain (chain B5 b6) b7) b8) b9⟩

theorem fnNumbers_door (os : Os) (args : Array Value) : laidMetH Tryd.prog Rows.fnNumbersRow.laid ((World.doorLaid Tryd.prog 24 os).forCall (fun _ _ => 0) ⟨#[], args, []⟩).memory :=
  laidMetH_of_parts3 (fuel := 8) (laidMet_of_run' 8 (by kernel_rfl) (by kernel_rfl)) (by kernel_rfl) (by kernel_rfl)

set_option maxRecDepth 100000 in
theorem fnNumbers_lifted (os : Os) (started : os.Started) (H : Type) (enc : TypeId × Value → H) :
    ReturnsInHanded {} Tryd.checked os 3 .any (fun w args => (Rows.fnNumbersSpec.pre enc Tryd.prog Tryd.f3 [] false w args ∧ laidMetH Tryd.prog Rows.fnNumbersRow.laid w) ∧ sizedMet enc Tryd.prog Tryd.f3 (OpenSpec.ofChange Rows.fnNumbersSpec) false w args)
      (Rows.fnNumbersSpec.post enc Tryd.prog Tryd.f3 false true false false) := by
  refine returnsInHanded_of_change_and (C := Tryd.checked) (X := fun w _ => laidMetH Tryd.prog Rows.fnNumbersRow.laid w) (fun _ _ _ hh h => h.of_heap hh) fnNumbers_own started (by kernel_rfl) Tryd.func3
    (ChangeSpec.witness_shaped (enc := enc) (C := Tryd.checked) (os := os) (X := fun w _ => laidMetH Tryd.prog Rows.fnNumbersRow.laid w) false (World.doorLaid Tryd.prog 24 os) #[.slice none 0 0] 8 rfl (World.shaped_of_RefB (by kernel_rfl) (by kernel_rfl)) (by kernel_rfl) (by kernel_rfl) (by kernel_rfl) (fnNumbers_door os _)) ?_
  intro W base args ds gs before hval0 hW _ _ hL _
  have hval : ∀ (j : Nat) t v, Tryd.f3.params[j]? = some t → args[j]? = some v → Value.okWide Tryd.prog W .any base t v := hval0
  have hW' := hW
  obtain ⟨p, q, hA0, hV, rfl, hfz, hnd⟩ := hW
  have hA : DataW.TrodAll enc Tryd.prog W 0 (fun _ => true) true Tryd.f3.params.toList args.toList ds p := hA0
  rw [Tryd.params3] at hA hval
  obtain ⟨v0, vs0, d0, ds0, p0, q0, hargs, rfl, rfl, h0, r0⟩ := trodAll_cons hA
  obtain ⟨rfl, rfl, rfl⟩ := trodAll_nil r0
  obtain rfl : args = #[v0] := by cases args; simp_all
  obtain ⟨rfl, rfl⟩ := trodVars_none hV
  obtain ⟨a0, len0, cap0, rfl⟩ := okWide_slice Tryd.underlying22 (hval 0 22 v0 rfl rfl)
  have k0 := h0
  have lt0 : ∀ x ∈ p0, x.block < W.heap.size := by obtain ⟨m, hm⟩ := k0; exact DataW.trod_lt m _ _ _ hm
  obtain ⟨z0, w0⟩ : ∃ zs, IsRow .u8 W a0 len0 cap0 zs := by
    obtain ⟨fuel, hf⟩ := h0
    rcases open_ints Tryd.underlying22 Tryd.underlying5 (by kernel_rfl) hf with ⟨hcs, _⟩ | ⟨x, l, c, zs, hcs, _, hl, hm, hz, _, hcell, hwz⟩
    · simp [Value.cells] at hcs
      obtain ⟨rfl, rfl, rfl⟩ := hcs
      exact ⟨[], .inl ⟨rfl, rfl, rfl, rfl⟩⟩
    · simp [Value.cells] at hcs
      obtain ⟨rfl, rfl, rfl⟩ := hcs
      exact ⟨zs, .inr ⟨_, rfl, hl, hm, by simpa using hz, hcell, hwz⟩⟩
  clear hA0 hval0
  refine (fnNumbers_walk a0 len0 cap0 z0 W w0 (by kernel_rfl) (fnNumbers_size hL) (fnNumbers_tab hL)).mono fun e W' ⟨he, bel⟩ => ?_
  subst he
  exact ⟨_, rfl, _, _, _, [], _, [], hW', trodAll_mk1 (shut_bool Tryd.underlying4 _), (trodAll_cons_mk (Below.trod fnNumbers_laidOut (by kernel_rfl) (of_decide_eq_true (by kernel_rfl)) k0 bel lt0) trodAll_mk0), rfl, bel.frame _, fun h => by cases h⟩

theorem fnNumbers_over : Rows.fnNumbersRow.holds Tryd.pinned (OpenSpec.ofChange Rows.fnNumbersSpec) :=
  OpenClaim.holds_of_wide 3 Tryd.f3 rfl rfl rfl rfl rfl rfl rfl ⟨rfl, rfl, rfl, rfl, rfl⟩ rfl rfl rfl rfl rfl (by kernel_rfl) Tryd.func3 (by kernel_rfl)
    (of_decide_eq_true (by kernel_rfl)) (by unfold Func.isWrapper; first | (rw [if_pos (by decide +kernel)]; kernel_rfl) | (rw [if_neg (by decide +kernel)]; exact ⟨rfl, rfl⟩))
    (fun os started H enc _ => fnNumbers_lifted os started H enc)

theorem fnNumbers_row : Rows.FnNumbersSaid := fnNumbers_over

theorem fnNumbers_holds : Rows.FnNumbersCardSaid :=
  Claim7.holds_tied_plain_at .later [] [.data, .data, .data] true (true, "0b98e2f3996c8f76eb44255e098f3f8bdf43bac7cf6297db28c46650b1913e30") false
    fnNumbers_row (fun _ h => by cases h) (by kernel_rfl) (fun _ h => by cases h) fnNumbers_row_tie rfl ⟨rfl, rfl⟩ (by kernel_rfl) rfl
    (fun f fn hf hfn => by
      obtain rfl : f = 3 := Option.some.inj ((show Tryd.prog.funcNamed "loop.example/g00115/laws.FnNumbers" = some 3 by kernel_rfl).symm.trans hf) |>.symm
      obtain rfl : fn = Tryd.f3 := (Option.some.inj (Tryd.func3.symm.trans hfn)).symm
      exact ⟨by kernel_rfl, fun j t ht => by
        rw [Tryd.params3] at ht
        have hm : t ∈ [22] := by simpa using Array.mem_of_getElem? ht
        have hall : ([22].all fun u => !Tryd.prog.wantsStandIn u) = true := by kernel_rfl
        exact (show Tryd.prog.wantsStandIn t = false by simpa using List.all_eq_true.1 hall t hm)⟩)
    (by kernel_rfl)
#print axioms fnNumbers_holds
end Go.Proofs.YtemgbffdllhhfaaDoor
