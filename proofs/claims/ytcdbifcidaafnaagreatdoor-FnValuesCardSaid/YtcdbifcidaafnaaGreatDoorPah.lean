/-
  Part 8 of what is proved of drawn right trees.
-/
import Derived.Shelf.Strings.Builder1
import Derived.Shelf.Strings.Builder2
import Derived.Shelf.Small.Utf8
import Derived.Shelf.Small.Bits
import Derived.Shelf.Small.Strs
import Derived.Shelf.Strings.BuilderF
import Derived.Shelf.Strings.BuilderK
import Derived.Shelf.Strconv.Itoa0
import Derived.Shelf.LaysM
import Derived.Shelf.Strconv.Clone
import Derived.Shelf.Strings.Search1
import Derived.Shelf.Strings.Prefix
import Derived.Shelf.Strings.Runes
import Derived.Shelf.Strings.AsciiSet
import Derived.Shelf.Bits.Mul64
import Derived.Shelf.Unicode.DecodeSlow
import Derived.Test.YtcdbifcidaafnaaGreatDoorProg
import Derived.Test.YtcdbifcidaafnaaGreatDoorPag
import Derived.Test.YtcdbifcidaafnaaGreatDoorPab
import Derived.Lib.ItoaNum
import Derived.Deep.DeepCutAuto
import Derived.Laws.Shifts
import Derived.Deep.QuietTactic
import Derived.BigQuiet
import Derived.Lib.QuietBelow
import Derived.Deep.CutRange
import Derived.Test.YtcdbifcidaafnaaGreatDoorPaa

namespace Go.Proofs
open Go.Shelf
def Tryz.lays169_ren : Go.Shelf.Ren := ⟨fun | 169 => 98 | n => n, fun | 70 => 147 | 9 => 9 | 0 => 0 | 72 => 149 | 37 => 22 | 127 => 160 | 3 => 3 | 5 => 5 | n => n, fun | n => n⟩
theorem Tryz.lays169 : Go.Proofs.Lays.n169 Tryz.prog Tryz.lays169_ren := {
  mixed := by kernel_rfl
  f169 := Tryz.func98.trans (congrArg some (by kernel_rfl))
  t0 := Tryz.underlying0
  a0 := Tryz.isAgg0
  z0 := Tryz.sizeOf0
  v0 := Tryz.zeroValue0
  t3 := Tryz.underlying3
  a3 := Tryz.isAgg3
  z3 := Tryz.sizeOf3
  v3 := Tryz.zeroValue3
  t9 := Tryz.underlying9
  a9 := Tryz.isAgg9
  z9 := Tryz.sizeOf9
  v9 := Tryz.zeroValue9
  t37 := Tryz.underlying22
  a37 := Tryz.isAgg22
  z37 := Tryz.sizeOf22
  v37 := Tryz.zeroValue22
  t70 := Tryz.underlying147
  a70 := Tryz.isAgg147
  z70 := Tryz.sizeOf147
  v70 := Tryz.zeroValue147
  t72 := Tryz.underlying149
  a72 := Tryz.isAgg149
  z72 := Tryz.sizeOf149
  v72 := Tryz.zeroValue149
  t127 := Tryz.underlying160
  a127 := Tryz.isAgg160
  z127 := Tryz.sizeOf160
  v127 := Tryz.zeroValue160 }
theorem Tryz.Builder_Extra_169 : Builder.Extra Tryz.prog Tryz.lays169_ren := {
  sizeBuilder := by kernel_rfl
  liesBuilder := by kernel_rfl
  t5 := Tryz.underlying5
  a5 := Tryz.isAgg5
  z5 := Tryz.sizeOf5
  v5 := Tryz.zeroValue5
  infoByte := by kernel_rfl
  cellsByte := by kernel_rfl
  sizeByte := by kernel_rfl
  neB5 := by decide }
open Go.RowKit in
theorem Tryz.Builder_String_any (B b : Nat) (l : List UInt8) (w : World) (h : Lib.IsBuilder 149 5 B b (Lib.byteCells l) w) (hBw : B ≤ w.heap.size) :
    Calls Tryz.prog 98 #[.pointer (some ⟨b, 0, none⟩)] w fun e w' => e = .returned (.string ⟨l.toArray⟩) ∧ Below B w w' := Any.Builder_String_any Tryz.lays169 Tryz.Builder_Extra_169 B b l w h hBw
def Tryz.lays165_ren : Go.Shelf.Ren := ⟨fun | 165 => 96 | 240 => 106 | 241 => 107 | 276 => 112 | 277 => 113 | n => n, fun | 70 => 147 | 3 => 3 | 0 => 0 | 4 => 4 | 9 => 9 | 20 => 20 | 72 => 149 | 37 => 22 | 164 => 106 | 5 => 5 | n => n, fun | n => n⟩
theorem Tryz.lays165 : Go.Proofs.Lays.n165 Tryz.prog Tryz.lays165_ren := {
  mixed := by kernel_rfl
  f165 := Tryz.func96.trans (congrArg some (by kernel_rfl))
  f240 := Tryz.func106.trans (congrArg some (by kernel_rfl))
  f241 := Tryz.func107.trans (congrArg some (by kernel_rfl))
  f276 := Tryz.func112.trans (congrArg some (by kernel_rfl))
  f277 := Tryz.func113.trans (congrArg some (by kernel_rfl))
  t0 := Tryz.underlying0
  a0 := Tryz.isAgg0
  z0 := Tryz.sizeOf0
  v0 := Tryz.zeroValue0
  t3 := Tryz.underlying3
  a3 := Tryz.isAgg3
  z3 := Tryz.sizeOf3
  v3 := Tryz.zeroValue3
  t4 := Tryz.underlying4
  a4 := Tryz.isAgg4
  z4 := Tryz.sizeOf4
  v4 := Tryz.zeroValue4
  t9 := Tryz.underlying9
  a9 := Tryz.isAgg9
  z9 := Tryz.sizeOf9
  v9 := Tryz.zeroValue9
  t20 := Tryz.underlying20
  a20 := Tryz.isAgg20
  z20 := Tryz.sizeOf20
  v20 := Tryz.zeroValue20
  t37 := Tryz.underlying22
  a37 := Tryz.isAgg22
  z37 := Tryz.sizeOf22
  v37 := Tryz.zeroValue22
  t70 := Tryz.underlying147
  a70 := Tryz.isAgg147
  z70 := Tryz.sizeOf147
  v70 := Tryz.zeroValue147
  t72 := Tryz.underlying149
  a72 := Tryz.isAgg149
  z72 := Tryz.sizeOf149
  v72 := Tryz.zeroValue149
  t164 := Tryz.underlying106
  a164 := Tryz.isAgg106
  z164 := Tryz.sizeOf106
  v164 := Tryz.zeroValue106 }
theorem Tryz.Builder_Extra_165 : Builder.Extra Tryz.prog Tryz.lays165_ren := {
  sizeBuilder := by kernel_rfl
  liesBuilder := by kernel_rfl
  t5 := Tryz.underlying5
  a5 := Tryz.isAgg5
  z5 := Tryz.sizeOf5
  v5 := Tryz.zeroValue5
  infoByte := by kernel_rfl
  cellsByte := by kernel_rfl
  sizeByte := by kernel_rfl
  neB5 := by decide }
open Go.RowKit in
theorem Tryz.Builder_Grow_fresh (B b n : Nat) (w : World) (hB : B ≤ b) (hbk : w.heap[b]? = some (.cells #[.pointer none, .slice none 0 0] 149 (0, 0))) (hBw : B ≤ w.heap.size) (hn : n ≤ 281474976710656) :
    Calls Tryz.prog 96 #[.pointer (some ⟨b, 0, none⟩), .int .i64 n] w fun e w' => e = .returned (.tuple #[]) ∧ (Lib.BuilderAt 149 5 B b (.pointer (some ⟨b, 0, none⟩)) [] w' ∧ Below B w w') := Any.Builder_Grow_fresh Tryz.lays165 Tryz.Builder_Extra_165 B b n w hB hbk hBw hn
def Tryz.lays134_ren : Go.Shelf.Ren := ⟨fun | 134 => 111 | 129 => 114 | n => n, fun | 53 => 24 | 3 => 3 | 4 => 4 | 46 => 126 | 5 => 5 | 9 => 9 | n => n, fun | n => n⟩
theorem Tryz.lays134 : Go.Proofs.Lays.n134 Tryz.prog Tryz.lays134_ren := {
  mixed := by kernel_rfl
  f129 := Tryz.func114.trans (congrArg some (by kernel_rfl))
  f134 := Tryz.func111.trans (congrArg some (by kernel_rfl))
  t3 := Tryz.underlying3
  a3 := Tryz.isAgg3
  z3 := Tryz.sizeOf3
  v3 := Tryz.zeroValue3
  t4 := Tryz.underlying4
  a4 := Tryz.isAgg4
  z4 := Tryz.sizeOf4
  v4 := Tryz.zeroValue4
  t5 := Tryz.underlying5
  a5 := Tryz.isAgg5
  z5 := Tryz.sizeOf5
  v5 := Tryz.zeroValue5
  t9 := Tryz.underlying9
  a9 := Tryz.isAgg9
  z9 := Tryz.sizeOf9
  v9 := Tryz.zeroValue9
  t46 := Tryz.underlying126
  a46 := Tryz.isAgg126
  z46 := Tryz.sizeOf126
  v46 := Tryz.zeroValue126
  t53 := Tryz.underlying24
  a53 := Tryz.isAgg24
  z53 := Tryz.sizeOf24
  v53 := Tryz.zeroValue24 }
theorem Tryz.bits_LeadingZeros64 (x : Int) (w : World) (h0 : 0 ≤ x) (h1 : x ≤ 18446744073709551615) :
    Calls Tryz.prog 111 #[.int .u64 x] w fun e w' => e = .returned (.int .i64 (64 - (Lib.bitLen x.toNat : Int))) ∧ w' = w := Any.bits_LeadingZeros64 Tryz.lays134 x w h0 h1
def Tryz.laysM316_ren : Go.Shelf.Ren := ⟨fun | 316 => 225 | n => n, fun | 9 => 9 | 3 => 3 | 4 => 4 | 37 => 22 | 0 => 0 | 127 => 160 | 5 => 5 | n => n, fun | n => n⟩
theorem Tryz.laysM316 : Go.Proofs.LaysM.n316 Tryz.prog Tryz.laysM316_ren := {
  mixed := by kernel_rfl
  f316 := Tryz.func225.trans (congrArg some (by kernel_rfl))
  t0 := Tryz.underlying0
  a0 := Tryz.isAgg0
  z0 := Tryz.sizeOf0
  v0 := Tryz.zeroValue0
  t3 := Tryz.underlying3
  a3 := Tryz.isAgg3
  z3 := Tryz.sizeOf3
  v3 := Tryz.zeroValue3
  t4 := Tryz.underlying4
  a4 := Tryz.isAgg4
  z4 := Tryz.sizeOf4
  v4 := Tryz.zeroValue4
  t9 := Tryz.underlying9
  a9 := Tryz.isAgg9
  z9 := Tryz.sizeOf9
  v9 := Tryz.zeroValue9
  t37 := Tryz.underlying22
  a37 := Tryz.isAgg22
  z37 := Tryz.sizeOf22
  v37 := Tryz.zeroValue22
  t127 := Tryz.underlying160
  a127 := Tryz.isAgg160
  z127 := Tryz.sizeOf160
  v127 := Tryz.zeroValue160
  t5 := Tryz.underlying5
  a5 := Tryz.isAgg5
  z5 := Tryz.sizeOf5
  v5 := Tryz.zeroValue5
  i0 := by kernel_rfl
  i3 := by kernel_rfl
  i4 := by kernel_rfl
  i5 := by kernel_rfl
  i9 := by kernel_rfl
  i37 := by kernel_rfl
  i127 := by kernel_rfl }
open Go.RowKit in
theorem Tryz.stringslite_Clone (s : ByteArray) (w : World) (hlim : s.size ≤ 281474976710656) :
    Calls Tryz.prog 225 #[.string s] w fun e w' => e = .returned (.string s) ∧ Below w.heap.size w w' := Any.stringslite_Clone Tryz.laysM316 s w hlim
def Tryz.lays264_ren : Go.Shelf.Ren := ⟨fun | 264 => 110 | n => n, fun | 53 => 24 | 46 => 126 | n => n, fun | n => n⟩
theorem Tryz.lays264 : Go.Proofs.Lays.n264 Tryz.prog Tryz.lays264_ren := {
  mixed := by kernel_rfl
  f264 := Tryz.func110.trans (congrArg some (by kernel_rfl))
  t46 := Tryz.underlying126
  a46 := Tryz.isAgg126
  z46 := Tryz.sizeOf126
  v46 := Tryz.zeroValue126
  t53 := Tryz.underlying24
  a53 := Tryz.isAgg24
  z53 := Tryz.sizeOf24
  v53 := Tryz.zeroValue24 }
open Go.RowKit Go.Lib in
theorem Tryz.bits_Mul64 (x y : Nat) (hx : x < 18446744073709551616) (hy : y < 18446744073709551616) (w : World) :
    Calls Tryz.prog 110 #[.int .u64 x, .int .u64 y] w fun e w' => e = .returned (.tuple #[.int .u64 ((x * y / 18446744073709551616 : Nat) : Int), .int .u64 ((x * y % 18446744073709551616 : Nat) : Int)]) ∧ w' = w := Any.bits_Mul64 Tryz.lays264 x y hx hy w
end Go.Proofs
namespace Go.Proofs.YtcdbifcidaafnaaGreatDoor
open Go.RowKit Go.Sort
set_option linter.unusedVariables false
theorem lz_any (m : Nat) (hm : m < 18446744073709551616) (h0 : m ≠ 0) :
    ∃ f M : Nat, f ≤ 63 ∧ 9223372036854775808 ≤ M ∧ M < 18446744073709551616 ∧ M = m * 2 ^ f ∧ ∀ W, Calls Tryz.prog 111 #[.int .u64 m] W fun e w' => e = .returned (.int .i64 f) ∧ W = w' := by
  obtain ⟨b1, b2, b3⟩ := Lib.bitLenAux_bounds 64 m hm h0
  have b4 : Lib.bitLenAux 64 m ≤ 64 := Lib.bitLen_le m 64 (by omega) (by omega)
  have ht := len_top b2 b3 b1 b4
  refine ⟨64 - Lib.bitLenAux 64 m, m * 2 ^ (64 - Lib.bitLenAux 64 m), by omega, ht.1, ht.2, rfl, fun W => ?_⟩
  refine (Tryz.bits_LeadingZeros64 m W (by omega) (by omega)).mono ?_
  rintro e w' ⟨rfl, rfl⟩
  refine ⟨ret_int ?_, rfl⟩
  rw [Int.toNat_natCast]
  show 64 - (Lib.bitLenAux 64 m : Int) = _
  omega
set_option maxHeartbeats 400000 in
set_option maxRecDepth 100000 in
theorem iMovedUp (m : Nat) (hm : m < 18446744073709551616) (h0 : m ≠ 0) :
    ∃ f M : Nat, f ≤ 63 ∧ 9223372036854775808 ≤ M ∧ M < 18446744073709551616 ∧ M = m * 2 ^ f ∧ ∀ (e : Int) (W : World), -9000 ≤ e → e ≤ 9000 → Calls Tryz.prog 109 #[.int .u64 m, .int .i64 e] W fun en w' => en = .returned (.tuple #[.int .u64 M, .int .i64 (e - f)]) ∧ W = w' := by
  obtain ⟨f, M, hf, hM1, hM2, hMm, cL⟩ := lz_any m hm h0
  refine ⟨f, M, hf, hM1, hM2, hMm, fun e W he1 he2 => ?_⟩
  have dM : IntKind.u64.wrap ((m : Int) * 2 ^ f) = M := by
    have e1 : (m : Int) * 2 ^ f = ((m * 2 ^ f : Nat) : Int) := by simp
    rw [e1, ← hMm]
    show (M : Int) % 18446744073709551616 = M
    omega
  clear hMm hM1 hM2 h0 hm
  go_enter Tryz.func109, Tryz.ntmps109
  go_wp2_with (go_at_call 111; refine (cL _).mono ?_; rintro e w' ⟨rfl, rfl⟩)
  go_ret2
  exact ⟨rfl, rfl⟩
set_option maxHeartbeats 1000000 in
set_option maxRecDepth 100000 in
theorem iRounded (m : Nat) (e : Int) (st : Bool) (w : World) (hm : m < 18446744073709551616) (he1 : -5000 ≤ e) (he2 : e ≤ 5000) :
    Calls Tryz.prog 108 #[.int .u64 m, .int .i64 e, .bool st] w fun en w' => en = .returned (.int .u64 (roundN m e st : Nat)) ∧ w = w' := by
  obtain ⟨R, hR⟩ : ∃ R, roundN m e st = R := ⟨_, rfl⟩
  rw [hR]
  by_cases h0 : m = 0
  · have HR : Hid (Unit → R = 0) := fun _ => by rw [← hR, h0, roundN_nil]
    clear hR
    subst h0
    go_enter Tryz.func108, Tryz.ntmps108
    go_wp2
    go_ret
    exact ⟨by rw [HR.out ()]; rfl, rfl⟩
  · obtain ⟨f, M, hf, hM1, hM2, hMm, cU⟩ := iMovedUp m hm h0
    have cL := fun W => cU e W (by omega) (by omega)
    clear cU
    have d0 : ((m : Int) == 0) = false := by rw [beq_eq_false_iff_ne]; omega
    obtain ⟨E, hE⟩ : ∃ E, e - f = E := ⟨_, rfl⟩
    rw [hE] at cL
    have e1 : -5063 ≤ E := by omega
    have e2 : E ≤ 5000 := by omega
    have HR : Hid (Unit → roundN M E st = R) := fun _ => by rw [hMm, ← hE, roundN_times]; exact hR
    have HM : Hid (Unit → 9223372036854775808 ≤ M ∧ M < 18446744073709551616) := fun _ => ⟨hM1, hM2⟩
    clear hR hMm hM1 hM2 h0 hm
    by_cases hE1 : E ≤ -1139
    · have HZ : Hid (Unit → R = 0) := fun _ => by rw [← HR.out (), roundN_tiny st (HM.out ()).2 hE1]
      clear HR HM
      go_enter Tryz.func108, Tryz.ntmps108
      go_wp2_with (go_at_call 109; refine (cL _).mono ?_; rintro e w' ⟨rfl, rfl⟩)
      go_ret
      exact ⟨by rw [HZ.out ()]; rfl, rfl⟩
    · obtain ⟨D, hD, hD2⟩ : ∃ D : Nat, max 11 (-1074 - E) = (D : Int) ∧ 11 ≤ D ∧ D ≤ 64 ∧ -1074 ≤ E + D ∧ (E + D = -1074 ∨ D = 11) := ⟨(max 11 (-1074 - E)).toNat, by omega, by omega⟩
      obtain ⟨q1, q2, q3, q4⟩ := hD2
      by_cases hE2 : 961 ≤ E
      · have HZ : Hid (Unit → R = 9218868437227405312) := fun _ => by rw [← HR.out (), roundN_inf64 st (HM.out ()).1 (HM.out ()).2 hE2]
        clear HR HM
        go_enter Tryz.func108, Tryz.ntmps108
        go_wp2_with (go_at_call 109; refine (cL _).mono ?_; rintro e w' ⟨rfl, rfl⟩)
        go_ret
        exact ⟨by rw [HZ.out ()]; rfl, rfl⟩
      · obtain ⟨P, hP⟩ : ∃ P, E + D = P := ⟨_, rfl⟩
        have p1 : -1074 ≤ P := by omega
        have p2 : P ≤ 971 := by omega
        obtain ⟨A, hA⟩ : ∃ A : Nat, P + 1074 = A := ⟨(P + 1074).toNat, by omega⟩
        obtain ⟨S, hS⟩ : ∃ S, A * 4503599627370496 + M / 2 ^ D = S := ⟨_, rfl⟩
        obtain ⟨T, hT⟩ : ∃ T, M * 2 ^ (64 - D) % 18446744073709551616 = T := ⟨_, rfl⟩
        have hML : M / 2 ^ D ≤ 9007199254740991 := by
          have h11 : 2 ^ 11 ≤ 2 ^ D := Nat.pow_le_pow_right (by decide) q1
          have h2 : M / 2 ^ D ≤ M / 2 ^ 11 := Nat.div_le_div_left h11 (by decide)
          have h3 := (HM.out ()).2
          omega
        have hS1 : S < 9218868437227405312 := by omega
        have HZ : Hid (Unit → R = S + (if 9223372036854775808 < T ∨ (T = 9223372036854775808 ∧ (st = true ∨ S % 2 = 1)) then 1 else 0)) := fun _ => by
          have e1 : (E + D + 1074).toNat = A := by omega
          rw [← HR.out (), roundN_mid64 st (HM.out ()).1 (HM.out ()).2 q1 q3 q4 (by omega), rne_drop (S := S) st q2 (by omega), e1, hT, ← hS, Nat.add_assoc]
        have WS : Hid (Unit → IntKind.u64.wrap ((P + 1074) * 4503599627370496 + (M : Int) / 2 ^ D) = S) := fun _ => by
          have e1 : (P + 1074) * 4503599627370496 + (M : Int) / 2 ^ D = (S : Int) := by rw [hA, ← hS]; simp
          rw [e1]
          show (S : Int) % 18446744073709551616 = S
          omega
        have WT : Hid (Unit → IntKind.u64.wrap ((M : Int) * 2 ^ (64 - D)) = T) := fun _ => by
          have e1 : (M : Int) * 2 ^ (64 - D) = ((M * 2 ^ (64 - D) : Nat) : Int) := by simp
          rw [e1, ← hT]
          show ((M * 2 ^ (64 - D) : Nat) : Int) % 18446744073709551616 = _
          omega
        have HS2 : Hid (Unit → (S : Int) < 9218868437227405312) := fun _ => by omega
        clear q3 q4 HR hE1 hE2 hA hS hT hML hS1 HM
        go_enter Tryz.func108, Tryz.ntmps108
        go_upto_region 13 with (go_at_call 109; refine (cL _).mono ?_; rintro e w' ⟨rfl, rfl⟩)
        simp only [WS.out (), WT.out ()]
        clear WS WT hP hD hE
        have hS2 := HS2.out ()
        by_cases c1 : (9223372036854775808 : Int) < T
        · have HY : Hid (Unit → R = S + 1) := fun _ => by rw [HZ.out (), if_pos (.inl (by omega))]
          clear HZ
          go_wp2
          go_ret
          exact ⟨by rw [HY.out ()]; rfl, rfl⟩
        · have c1' : decide ((9223372036854775808 : Int) < T) = false := by simp; omega
          by_cases c2 : (T : Int) = 9223372036854775808
          · have hT2 : T = 9223372036854775808 := by omega
            have HZ2 : Hid (Unit → R = S + (if st = true ∨ S % 2 = 1 then 1 else 0)) := fun _ => by
              rw [HZ.out (), hT2]
              simp
            simp only [c2]
            clear HZ c1 c1' hT2 c2
            cases st
            · by_cases c3 : S % 2 = 1
              · have c3' : ((S : Int) % 2 == 1) = true := by simp; omega
                have HY : Hid (Unit → R = S + 1) := fun _ => by rw [HZ2.out (), if_pos (.inr c3)]
                clear HZ2 c3
                go_wp2
                go_ret
                exact ⟨by rw [HY.out ()]; rfl, rfl⟩
              · have c3' : ((S : Int) % 2 == 1) = false := by rw [beq_eq_false_iff_ne]; omega
                have HY : Hid (Unit → R = S) := fun _ => by rw [HZ2.out (), if_neg (by simpa using c3)]; rfl
                clear HZ2 c3
                go_wp2
                go_ret
                exact ⟨by rw [HY.out ()]; rfl, rfl⟩
            · have HY : Hid (Unit → R = S + 1) := fun _ => by rw [HZ2.out (), if_pos (.inl rfl)]
              clear HZ2
              go_wp2
              go_ret
              exact ⟨by rw [HY.out ()]; rfl, rfl⟩
          · have c2' : ((T : Int) == 9223372036854775808) = false := by rw [beq_eq_false_iff_ne]; exact c2
            have HY : Hid (Unit → R = S) := fun _ => by rw [HZ.out (), if_neg (by omega)]; rfl
            clear HZ c1 c2
            go_wp2
            go_ret
            exact ⟨by rw [HY.out ()]; rfl, rfl⟩
theorem roundN_clamp5 {m : Nat} {e E : Int} (st : Bool) (hm : m < 18446744073709551616) (hE : min (max e (-5000)) 5000 = E) : roundN m E st = roundN m e st := by
  by_cases h0 : m = 0
  · subst h0; rw [roundN_nil, roundN_nil]
  · by_cases h1 : e < -5000
    · rw [roundN_tiny st hm (by omega), roundN_tiny st hm (by omega)]
    · by_cases h2 : 5000 < e
      · rw [roundN_huge st h0 (by omega), roundN_huge st h0 (by omega)]
      · rw [(by omega : E = e)]
set_option maxHeartbeats 1000000 in
set_option maxRecDepth 100000 in
theorem iRound_w (b more : Bool) (m : Nat) (e : Int) (w : World) (hm : m < 18446744073709551616) (h1 : -9223372036854775808 ≤ e) (h2 : e ≤ 9223372036854775807) :
    Calls Tryz.prog 102 #[.bool b, .int .u64 m, .int .i64 e, .bool more] w fun en w' => en = .returned (.int .u64 (signN b (roundN m e (more && decide (72057594037927936 ≤ m))) : Nat)) ∧ w = w' := by
  obtain ⟨E, hE⟩ : ∃ E, min (max e (-5000)) 5000 = E := ⟨_, rfl⟩
  obtain ⟨st, hst⟩ : ∃ st, (more && decide (72057594037927936 ≤ m)) = st := ⟨_, rfl⟩
  rw [hst, ← roundN_clamp5 st hm hE]
  have cR := fun W => iRounded m E st W hm (by omega) (by omega)
  have HL := roundN_le m E st
  obtain ⟨R, hR⟩ : ∃ R, roundN m E st = R := ⟨_, rfl⟩
  rw [hR] at cR HL ⊢
  have cS := fun W => iSigned R b W HL
  clear HL hR
  obtain ⟨Q, hQ⟩ : ∃ Q, signN b R = Q := ⟨_, rfl⟩
  rw [hQ] at cS ⊢
  clear hQ
  cases more
  · have hst' : false = st := by simpa using hst
    subst hst'
    clear hst hm
    go_enter Tryz.func102, Tryz.ntmps102
    go_wp2_with (first | (go_at_call 108; refine (cR _).mono ?_; rintro e w' ⟨rfl, rfl⟩) | (go_at_call 91; refine (cS _).mono ?_; rintro e w' ⟨rfl, rfl⟩))
    go_ret
    exact ⟨rfl, rfl⟩
  · have hst' : decide ((72057594037927936 : Int) ≤ m) = st := by rw [← hst, Bool.true_and, Bool.eq_iff_iff, decide_eq_true_iff, decide_eq_true_iff]; omega
    clear hst hm
    go_enter Tryz.func102, Tryz.ntmps102
    go_wp2_with (first | (go_at_call 108; refine (cR _).mono ?_; rintro e w' ⟨rfl, rfl⟩) | (go_at_call 91; refine (cS _).mono ?_; rintro e w' ⟨rfl, rfl⟩))
    go_ret
    exact ⟨rfl, rfl⟩
end Go.Proofs.YtcdbifcidaafnaaGreatDoor
namespace Go.Proofs.YtcdbifcidaafnaaGreatDoor
open Go.RowKit
set_option linter.unusedVariables false
set_option maxHeartbeats 1000000 in
set_option maxRecDepth 100000 in
theorem specAdd_fin (a b : Nat) (w : World) (ha : a < 18446744073709551616) (hb : b < 18446744073709551616) (ka : kindN a = 4) (kb : kindN b = 4) :
    Calls Tryz.prog 36 #[.int .u64 a, .int .u64 b] w fun e w' => e = .returned (.int .u64 (addN a b : Nat)) ∧ Below w.heap.size w w' := by
  have cA := fun W => specParts_any a W ha
  have cB := fun W => specParts_any b W hb
  unfold partsV at cA cB
  obtain ⟨k1, hk1⟩ : ∃ k, kindN a = k := ⟨_, rfl⟩
  obtain ⟨k2, hk2⟩ : ∃ k, kindN b = k := ⟨_, rfl⟩
  obtain ⟨s1, hs1⟩ : ∃ k, belowN a = k := ⟨_, rfl⟩
  obtain ⟨s2, hs2⟩ : ∃ k, belowN b = k := ⟨_, rfl⟩
  obtain ⟨m1, hm1⟩ : ∃ k, mantN a = k := ⟨_, rfl⟩
  obtain ⟨m2, hm2⟩ : ∃ k, mantN b = k := ⟨_, rfl⟩
  obtain ⟨e1, he1⟩ : ∃ k, expN a = k := ⟨_, rfl⟩
  obtain ⟨e2, he2⟩ : ∃ k, expN b = k := ⟨_, rfl⟩
  have HD : Hid (Unit → addN a b = addP a b k1 k2 s1 s2 m1 m2 e1 e2) := fun _ => by rw [addN_P, hk1, hk2, hs1, hs2, hm1, hm2, he1, he2]
  rw [hk1, hs1, hm1, he1] at cA
  rw [hk2, hs2, hm2, he2] at cB
  have HF1 : Hid (Unit → Fin1 k1 m1 e1) := fun _ => by rw [← hk1, ← hm1, ← he1]; exact fin1_of a
  have HF2 : Hid (Unit → Fin1 k2 m2 e2) := fun _ => by rw [← hk2, ← hm2, ← he2]; exact fin1_of b
  obtain ⟨R, hR⟩ : ∃ R, addN a b = R := ⟨_, rfl⟩
  rw [hR] at HD ⊢
  have HK1 : Hid (Unit → k1 = 4) := fun _ => hk1.symm.trans ka
  have HK2 : Hid (Unit → k2 = 4) := fun _ => hk2.symm.trans kb
  clear hR hk1 hk2 ka kb hs1 hs2 hm1 hm2 he1 he2 ha hb
  go_enter Tryz.func36, Tryz.ntmps36
  go_wp2_with fail
  refine (cA _).mono ?_
  rintro e w1 ⟨rfl, hb1⟩
  clear cA
  go_wp2_with fail
  refine (cB _).mono ?_
  rintro e w2 ⟨rfl, hb2⟩
  clear cB
  go_upto_region 3 with fail
  have hlt : w1.heap.size < w2.heap.size := by have := hb2.size; simp at this; omega
  obtain ⟨wq, hwq⟩ : ∃ wq, w2.alloc (.cells #[.int .i64 k2, .bool s2, .int .u64 m2, .int .i64 e2] 62) = wq := ⟨_, rfl⟩
  have hQ : wq.heap[w2.heap.size]? = some (.cells #[.int .i64 k2, .bool s2, .int .u64 m2, .int .i64 e2] 62) := by rw [← hwq]; exact heap_alloc_new _ _
  have hP : wq.heap[w1.heap.size]? = some (.cells #[.int .i64 k1, .bool s1, .int .u64 m1, .int .i64 e1] 62) := by rw [← hwq]; exact (Below.heap_alloc w2 _ _ hlt).trans (alloc_kept hb2)
  have hBb : Below w.heap.size w wq := by
    have hb3 : Below w.heap.size w w2 := (hb1.alloc hb1.size _).trans (hb2.mono (by simp; exact Nat.le_succ_of_le hb1.size))
    rw [← hwq]; exact hb3.alloc hb3.size _
  have hgp : w.heap.size ≤ w1.heap.size := hb1.size
  obtain ⟨gq, hgq⟩ : ∃ g, w2.heap.size = g := ⟨_, rfl⟩
  obtain ⟨gp, hgp2⟩ : ∃ g, w1.heap.size = g := ⟨_, rfl⟩
  simp only [hwq, hgq, hgp2]
  rw [hgq] at hQ hlt
  rw [hgp2] at hP hgp hlt
  clear hwq hgq hgp2 hb1 hb2
  clear w1 w2
  have fp := fun j => frozen_of_row wq gp j _ _ hP
  have fq := fun j => frozen_of_row wq gq j _ _ hQ
  obtain ⟨p0, p1, p2, p3⟩ := cells_four hP
  obtain ⟨q0, q1, q2, q3⟩ := cells_four hQ
  have hK1 := HK1.out ()
  have hK2 := HK2.out ()
  subst hK1 hK2
  clear HK1 HK2
  have HE : Hid (Unit → R = roundZ (sumZ s1 m1 e1 s2 m2 e2) (min e1 e2)) := fun _ => by rw [HD.out ()]; simp [addP]
  clear HD
  go_upto_region 21 with fail
  go_cut [94] (fun c wx => ∃ cb : Bool, c = .bool cb ∧ wx = wq ∧ Hid (Unit → (cb = true → e1 ≤ e2) ∧ (cb = false → e2 ≤ e1)))
  case first =>
    by_cases h1 : e1 < e2
    · go_wp2
      go_meet
      case rel => exact ⟨true, rfl, rfl, fun _ => ⟨fun _ => by omega, fun h => by simp at h⟩⟩
    · have h1' : decide (e1 < e2) = false := by simp; omega
      by_cases h2 : e1 = e2
      · subst h2
        by_cases h3 : (m1 : Int) < m2
        · go_wp2
          go_meet
          case rel => exact ⟨true, rfl, rfl, fun _ => ⟨fun _ => by omega, fun h => by simp at h⟩⟩
        · have h3' : decide ((m1 : Int) < m2) = false := by simp; omega
          go_wp2
          go_meet
          case rel => exact ⟨false, rfl, rfl, fun _ => ⟨fun h => by simp at h, fun _ => by omega⟩⟩
      · have h2' : (e1 == e2) = false := by rw [beq_eq_false_iff_ne]; exact h2
        go_wp2
        go_meet
        case rel => exact ⟨false, rfl, rfl, fun _ => ⟨fun h => by simp at h, fun _ => by omega⟩⟩
  case rest =>
    obtain ⟨cb, rfl, rfl, HC⟩ := hcut
    go_upto_if 94 with fail
    go_cut [] (fun wx => ∃ sP mP eP sQ mQ eQ, R = roundZ (sumZ sP mP eP sQ mQ eQ) (min eP eQ) ∧ Fin1 4 mP eP ∧ Fin1 4 mQ eQ ∧ eQ ≤ eP ∧ Below w.heap.size w wx ∧ wx.cell? ⟨gp, 1, none⟩ = some (.bool sP) ∧ wx.cell? ⟨gp, 2, none⟩ = some (.int .u64 (mP : Nat)) ∧ wx.cell? ⟨gp, 3, none⟩ = some (.int .i64 eP) ∧ wx.cell? ⟨gq, 1, none⟩ = some (.bool sQ) ∧ wx.cell? ⟨gq, 2, none⟩ = some (.int .u64 (mQ : Nat)) ∧ wx.cell? ⟨gq, 3, none⟩ = some (.int .i64 eQ))
    case first =>
      cases cb
      · go_wp2
        go_meet
        case rel => exact ⟨s1, m1, e1, s2, m2, e2, HE.out (), HF1.out (), HF2.out (), (HC.out ()).2 (by simp), hBb, p1, p2, p3, q1, q2, q3⟩
      · go_wp2
        go_meet
        case rel =>
          refine ⟨s2, m2, e2, s1, m1, e1, by rw [HE.out (), sumZ_comm, Int.min_comm], HF2.out (), HF1.out (), (HC.out ()).1 (by simp), ?_⟩
          have hne : gp ≠ gq := by omega
          have hne' : gq ≠ gp := by omega
          have hgq : w.heap.size ≤ gq := by omega
          refine ⟨?_, ?_, ?_, ?_, ?_, ?_, ?_⟩
          · exact (((((((hBb.setCell (p := ⟨gp, 0, none⟩) hgp _).setCell (p := ⟨gp, 1, none⟩) hgp _).setCell (p := ⟨gp, 2, none⟩) hgp _).setCell (p := ⟨gp, 3, none⟩) hgp _).setCell (p := ⟨gq, 0, none⟩) hgq _).setCell (p := ⟨gq, 1, none⟩) hgq _).setCell (p := ⟨gq, 2, none⟩) hgq _).setCell (p := ⟨gq, 3, none⟩) hgq _
          · exact set_keep_b hne' (set_keep_b hne' (set_keep_b hne' (set_keep_b hne' (set_keep_o (by decide) (set_keep_o (by decide) (set_here (set_keep_o (by decide) (p1))))))))
          · exact set_keep_b hne' (set_keep_b hne' (set_keep_b hne' (set_keep_b hne' (set_keep_o (by decide) (set_here (set_keep_o (by decide) (set_keep_o (by decide) (p2))))))))
          · exact set_keep_b hne' (set_keep_b hne' (set_keep_b hne' (set_keep_b hne' (set_here (set_keep_o (by decide) (set_keep_o (by decide) (set_keep_o (by decide) (p3))))))))
          · exact set_keep_o (by decide) (set_keep_o (by decide) (set_here (set_keep_o (by decide) (set_keep_b hne (set_keep_b hne (set_keep_b hne (set_keep_b hne (q1))))))))
          · exact set_keep_o (by decide) (set_here (set_keep_o (by decide) (set_keep_o (by decide) (set_keep_b hne (set_keep_b hne (set_keep_b hne (set_keep_b hne (q2))))))))
          · exact set_here (set_keep_o (by decide) (set_keep_o (by decide) (set_keep_o (by decide) (set_keep_b hne (set_keep_b hne (set_keep_b hne (set_keep_b hne (q3))))))))
    case rest =>
      obtain ⟨sP, mP, eP, sQ, mQ, eQ, hR, f1, f2, hle, hBc, c1, c2, c3, d1, d2, d3⟩ := hcut
      clear hBb fp fq p0 p1 p2 p3 q0 q1 q2 q3 HF1 HF2 HE HC
      have HR : Hid (Unit → R = roundZ (sumZ sP mP eP sQ mQ eQ) (min eP eQ)) := fun _ => hR
      have HF1 : Hid (Unit → Fin1 4 mP eP) := fun _ => f1
      have HF2 : Hid (Unit → Fin1 4 mQ eQ) := fun _ => f2
      have b1 := f1.lo
      have b2 := f1.hi
      have b3 := f2.lo
      have b4 := f2.hi
      clear f1 f2 hR
      go_upto_region 25 with fail
      go_loop [7, 8] (fun x7 x8 => ∃ j X : Nat, x7 = .int .u64 X ∧ x8 = .int .i64 (eP - j) ∧ (j : Int) ≤ eP - eQ ∧ Hid (Unit → X = mP * 2 ^ j ∧ X < 4611686018427387904)) (fun _ x8 => (intOf x8 - eQ).toNat)
      case atStart => exact ⟨0, mP, rfl, by simp, by omega, fun _ => ⟨by simp, by have := (HF1.out ()).lt; omega⟩⟩
      case round =>
        obtain ⟨j, X, rfl, rfl, hj, HX⟩ := hrel
        obtain ⟨F, hF⟩ : ∃ F, eP - j = F := ⟨_, rfl⟩
        rw [hF]
        have HFF : Hid (Unit → eP - j = F) := fun _ => hF
        have hF1 : eQ ≤ F := by omega
        have hF2 : F ≤ 971 := by omega
        clear hF
        go_upto_region 25 with fail
        go_cut [109] from 101 to 113 (fun c wx => ∃ cb : Bool, c = .bool cb ∧ wx = wc ∧ Hid (Unit → (cb = true → X < 2305843009213693952 ∧ eQ < F) ∧ (cb = false → 2305843009213693952 ≤ X ∨ F = eQ)))
        case first =>
          have cP := fun W => l03Pow_any 61 W (by decide)
          by_cases h1 : (X : Int) < 2305843009213693952
          · by_cases h2 : eQ < F
            · go_wp2_with (go_at_call 46; refine (cP _).mono ?_; rintro e w' ⟨rfl, rfl⟩)
              go_meet
              case rel => exact ⟨true, rfl, rfl, fun _ => ⟨fun _ => ⟨by omega, h2⟩, fun h => by simp at h⟩⟩
            · have h2' : decide (eQ < F) = false := by simp; omega
              go_wp2_with (go_at_call 46; refine (cP _).mono ?_; rintro e w' ⟨rfl, rfl⟩)
              go_meet
              case rel => exact ⟨false, rfl, rfl, fun _ => ⟨fun h => by simp at h, fun _ => .inr (by omega)⟩⟩
          · have h1' : decide ((X : Int) < 2305843009213693952) = false := by simp; omega
            go_wp2_with (go_at_call 46; refine (cP _).mono ?_; rintro e w' ⟨rfl, rfl⟩)
            go_meet
            case rel => exact ⟨false, rfl, rfl, fun _ => ⟨fun h => by simp at h, fun _ => .inl (by omega)⟩⟩
        case rest =>
          obtain ⟨cb2, rfl, rfl, HC⟩ := hcut
          cases cb2
          · have HE1 : Hid (Unit → 2305843009213693952 ≤ X ∨ F = eQ) := fun _ => (HC.out ()).2 (by simp)
            clear HC
            obtain ⟨D, hD⟩ : ∃ D : Nat, F = eQ + D := ⟨(F - eQ).toNat, by omega⟩
            have HDD : Hid (Unit → F = eQ + D) := fun _ => hD
            clear hD
            go_upto_region 31 with fail
            go_loop [9, 10, 11] (fun x9 x10 x11 => ∃ (n : Nat) (l : Bool) (I : Int), x9 = .int .u64 n ∧ x10 = .bool l ∧ x11 = .int .i64 I ∧ (n : Int) < 9007199254740992 ∧ -1075 ≤ I ∧ I ≤ F + 1 ∧ Hid (Unit → (∃ k : Nat, I = eQ + k ∧ k ≤ D ∧ LostAt mQ k n l) ∨ (F < I ∧ LostAt mQ D n l))) (fun _ _ x11 => (F + 1 - intOf x11).toNat)
            case atStart => exact ⟨mQ, false, eQ, rfl, rfl, rfl, by have := (HF2.out ()).lt; omega, by omega, by omega, fun _ => .inl ⟨0, by simp, by omega, lost_start mQ⟩⟩
            case round =>
              obtain ⟨n, l, I, rfl, rfl, rfl, hn1, hI1, hI2, HI⟩ := hrel
              by_cases hlt : I < F
              · have HL : Hid (Unit → ∃ k : Nat, I + 1 = eQ + k ∧ k ≤ D ∧ LostAt mQ k (n / 2) (l || decide (n % 2 = 1))) := fun _ => by
                  have hD := HDD.out ()
                  rcases HI.out () with ⟨k, h1, h2, h3⟩ | ⟨h1, _⟩
                  · exact ⟨k + 1, by omega, by omega, lost_step h3⟩
                  · omega
                clear HI
                by_cases hz : n / 2 = 0
                · have hz' : (n : Int) / 2 = 0 := by omega
                  cases l
                  · by_cases ho : n % 2 = 1
                    · have ho' : ((n : Int) % 2 == 1) = true := by simp; omega
                      have HS : Hid (Unit → LostAt mQ D (n / 2) true) := fun _ => by
                        obtain ⟨k, _, h2, h3⟩ := HL.out ()
                        rw [hz, ho] at *
                        exact lost_stop (l := true) h3 h2
                      go_wp2
                      go_round
                      case rel => exact ⟨n / 2, true, F + 1, by go_num, rfl, by go_num, by omega, by omega, by omega, fun _ => .inr ⟨by omega, HS.out ()⟩⟩
                      case measure => simp [intOf]; omega
                    · have ho' : ((n : Int) % 2 == 1) = false := by rw [beq_eq_false_iff_ne]; omega
                      have HS : Hid (Unit → ∃ k : Nat, I + 1 = eQ + k ∧ k ≤ D ∧ LostAt mQ k (n / 2) false) := fun _ => by
                        obtain ⟨k, h1, h2, h3⟩ := HL.out ()
                        rw [decide_eq_false ho] at h3
                        exact ⟨k, h1, h2, h3⟩
                      go_wp2
                      go_round
                      case rel => exact ⟨n / 2, false, I + 1, by go_num, rfl, by go_num, by omega, by omega, by omega, fun _ => .inl (HS.out ())⟩
                      case measure => simp [intOf]; omega
                  · have HS : Hid (Unit → LostAt mQ D (n / 2) true) := fun _ => by
                      obtain ⟨k, _, h2, h3⟩ := HL.out ()
                      rw [hz] at *
                      exact lost_stop (l := true) h3 h2
                    go_wp2
                    go_round
                    case rel => exact ⟨n / 2, true, F + 1, by go_num, rfl, by go_num, by omega, by omega, by omega, fun _ => .inr ⟨by omega, HS.out ()⟩⟩
                    case measure => simp [intOf]; omega
                · have hz' : ((n : Int) / 2 == 0) = false := by rw [beq_eq_false_iff_ne]; omega
                  cases l
                  · by_cases ho : n % 2 = 1
                    · have ho' : ((n : Int) % 2 == 1) = true := by simp; omega
                      have HS : Hid (Unit → ∃ k : Nat, I + 1 = eQ + k ∧ k ≤ D ∧ LostAt mQ k (n / 2) true) := fun _ => by
                        obtain ⟨k, h1, h2, h3⟩ := HL.out ()
                        rw [decide_eq_true ho] at h3
                        exact ⟨k, h1, h2, h3⟩
                      go_wp2
                      go_round
                      case rel => exact ⟨n / 2, true, I + 1, by go_num, rfl, by go_num, by omega, by omega, by omega, fun _ => .inl (HS.out ())⟩
                      case measure => simp [intOf]; omega
                    · have ho' : ((n : Int) % 2 == 1) = false := by rw [beq_eq_false_iff_ne]; omega
                      have HS : Hid (Unit → ∃ k : Nat, I + 1 = eQ + k ∧ k ≤ D ∧ LostAt mQ k (n / 2) false) := fun _ => by
                        obtain ⟨k, h1, h2, h3⟩ := HL.out ()
                        rw [decide_eq_false ho] at h3
                        exact ⟨k, h1, h2, h3⟩
                      go_wp2
                      go_round
                      case rel => exact ⟨n / 2, false, I + 1, by go_num, rfl, by go_num, by omega, by omega, by omega, fun _ => .inl (HS.out ())⟩
                      case measure => simp [intOf]; omega
                  · have HS : Hid (Unit → ∃ k : Nat, I + 1 = eQ + k ∧ k ≤ D ∧ LostAt mQ k (n / 2) true) := fun _ => HL.out ()
                    go_wp2
                    go_round
                    case rel => exact ⟨n / 2, true, I + 1, by go_num, rfl, by go_num, by omega, by omega, by omega, fun _ => .inl (HS.out ())⟩
                    case measure => simp [intOf]; omega
              · have HL : Hid (Unit → LostAt mQ D n l) := fun _ => by
                  have hD := HDD.out ()
                  rcases HI.out () with ⟨k, h1, h2, h3⟩ | ⟨_, h1⟩
                  · have : k = D := by omega
                    subst this; exact h3
                  · exact h1
                have HEnd : Hid (Unit → AddEnd R sP sQ X n F l) := fun _ => by
                  have hD := HDD.out ()
                  have hF := HFF.out ()
                  rw [← hF, (HX.out ()).1]
                  exact addEnd_of (HR.out ()) (HF1.out ()) (HF2.out ()) (by omega) (by have := HE1.out (); rw [(HX.out ()).1] at this; omega) (HL.out ())
                have HN : Hid (Unit → n < 9007199254740992) := fun _ => by rw [(HL.out ()).1]; exact Nat.lt_of_le_of_lt (Nat.div_le_self _ _) (HF2.out ()).lt
                have HXX : Hid (Unit → X < 4611686018427387904) := fun _ => (HX.out ()).2
                have hlt' : decide (I < F) = false := by simp; omega
                have hFl : -1074 ≤ F := by omega
                clear HI HL HX HDD HE1 HR HF1 HF2
                go_upto_region 37 with fail
                have hXi : (X : Int) < 4611686018427387904 := by have := HXX.out (); omega
                by_cases hs : sP = sQ
                · subst hs
                  have cR : ∀ W, Calls Tryz.prog 57 #[.bool sP, .int .u64 ((X : Int) + n), .int .i64 F, .bool l] W fun e w' => e = .returned (.int .u64 (R : Nat)) ∧ W = w' := fun W => by
                    have h := specRound_any sP l (X + n) F W (by omega) (by omega) (by omega)
                    rw [← (HEnd.out ()).same rfl, Int.natCast_add] at h
                    exact h
                  clear HEnd
                  go_wp2_with (go_at_call 57; refine (cR _).mono ?_; rintro e w' ⟨rfl, rfl⟩)
                  go_ret
                  exact ⟨rfl, hBc⟩
                · have hs' : (sP == sQ) = false := by simpa using hs
                  by_cases hx1 : X = n
                  · have hl := (HEnd.out ()).whole (by omega)
                    have HZ : Hid (Unit → R = 0) := fun _ => (HEnd.out ()).none hs hx1
                    subst hx1 hl
                    clear HEnd
                    go_wp2
                    go_ret
                    exact ⟨by rw [HZ.out ()]; rfl, hBc⟩
                  · have hx1' : ((X : Int) == n) = false := by rw [beq_eq_false_iff_ne]; omega
                    by_cases hx2 : X < n
                    · have cR : ∀ W, Calls Tryz.prog 57 #[.bool sQ, .int .u64 ((n : Int) - X), .int .i64 F, .bool false] W fun e w' => e = .returned (.int .u64 (R : Nat)) ∧ W = w' := fun W => by
                        have h := specRound_any sQ false (n - X) F W (by omega) (by omega) (by omega)
                        rw [Bool.false_and, ← (HEnd.out ()).less hs hx2, Int.natCast_sub (by omega)] at h
                        exact h
                      clear HEnd
                      go_wp2_with (go_at_call 57; refine (cR _).mono ?_; rintro e w' ⟨rfl, rfl⟩)
                      go_ret
                      exact ⟨rfl, hBc⟩
                    · have hx3 : n < X := by omega
                      obtain ⟨Y, hY⟩ : ∃ Y, X - n = Y := ⟨_, rfl⟩
                      have hw1 : IntKind.u64.wrap ((X : Int) - n) = Y := by
                        show ((X : Int) - n) % 18446744073709551616 = Y
                        omega
                      cases l
                      · have cR : ∀ W, Calls Tryz.prog 57 #[.bool sP, .int .u64 Y, .int .i64 F, .bool false] W fun e w' => e = .returned (.int .u64 (R : Nat)) ∧ W = w' := fun W => by
                          have h := specRound_any sP false (X - n) F W (by omega) (by omega) (by omega)
                          rw [Bool.false_and, ← (HEnd.out ()).more hs hx3 rfl, hY] at h
                          exact h
                        clear HEnd hx3 hx1 hlt HN HXX hlt' hXi hn1 hY
                        go_wp2_with (go_at_call 57; refine (cR _).mono ?_; rintro e w' ⟨rfl, rfl⟩)
                        go_ret
                        exact ⟨rfl, hBc⟩
                      · obtain ⟨Z, hZ⟩ : ∃ Z, X - n - 1 = Z := ⟨_, rfl⟩
                        have hw2 : IntKind.u64.wrap ((Y : Int) - 1) = Z := by
                          show ((Y : Int) - 1) % 18446744073709551616 = Z
                          omega
                        have cR : ∀ W, Calls Tryz.prog 57 #[.bool sP, .int .u64 Z, .int .i64 F, .bool true] W fun e w' => e = .returned (.int .u64 (R : Nat)) ∧ W = w' := fun W => by
                          have h := specRound_any sP true (X - n - 1) F W (by omega) (by omega) (by omega)
                          rw [← (HEnd.out ()).lost hs hx3 rfl, hZ] at h
                          exact h
                        clear HEnd hx3 hx1 hlt HN HXX hlt' hXi hn1 hY hZ
                        go_wp2_with (go_at_call 57; refine (cR _).mono ?_; rintro e w' ⟨rfl, rfl⟩)
                        go_ret
                        exact ⟨rfl, hBc⟩
          · have hX2 : (X : Int) < 2305843009213693952 := by have := ((HC.out ()).1 (by simp)).1; omega
            go_wp2
            go_round
            case rel => exact ⟨j + 1, X * 2, by go_num, by have := HFF.out (); go_num, by have := ((HC.out ()).1 (by simp)).2; have := HFF.out (); omega, fun _ => ⟨by rw [(HX.out ()).1, Nat.pow_succ, Nat.mul_assoc], by have := ((HC.out ()).1 (by simp)).1; omega⟩⟩
            case measure => have := ((HC.out ()).1 (by simp)).2; simp [intOf]; omega
end Go.Proofs.YtcdbifcidaafnaaGreatDoor
namespace Go.Proofs.YtcdbifcidaafnaaGreatDoor
open Go.RowKit
set_option linter.unusedVariables false
set_option maxHeartbeats 1000000 in
set_option maxRecDepth 100000 in
theorem specAdd_any (a b : Nat) (w : World) (ha : a < 18446744073709551616) (hb : b < 18446744073709551616) :
    Calls Tryz.prog 36 #[.int .u64 a, .int .u64 b] w fun e w' => e = .returned (.int .u64 (addN a b : Nat)) ∧ Below w.heap.size w w' := by
  by_cases hkk : kindN a = 4 ∧ kindN b = 4
  · exact specAdd_fin a b w ha hb hkk.1 hkk.2
  have cA := fun W => specParts_any a W ha
  have cB := fun W => specParts_any b W hb
  unfold partsV at cA cB
  obtain ⟨k1, hk1⟩ : ∃ k, kindN a = k := ⟨_, rfl⟩
  obtain ⟨k2, hk2⟩ : ∃ k, kindN b = k := ⟨_, rfl⟩
  obtain ⟨s1, hs1⟩ : ∃ k, belowN a = k := ⟨_, rfl⟩
  obtain ⟨s2, hs2⟩ : ∃ k, belowN b = k := ⟨_, rfl⟩
  obtain ⟨m1, hm1⟩ : ∃ k, mantN a = k := ⟨_, rfl⟩
  obtain ⟨m2, hm2⟩ : ∃ k, mantN b = k := ⟨_, rfl⟩
  obtain ⟨e1, he1⟩ : ∃ k, expN a = k := ⟨_, rfl⟩
  obtain ⟨e2, he2⟩ : ∃ k, expN b = k := ⟨_, rfl⟩
  have HD : Hid (Unit → addN a b = addP a b k1 k2 s1 s2 m1 m2 e1 e2) := fun _ => by rw [addN_P, hk1, hk2, hs1, hs2, hm1, hm2, he1, he2]
  have hK1 := kindN_cases a
  have hK2 := kindN_cases b
  rw [hk1] at hK1
  rw [hk2] at hK2
  rw [hk1, hs1, hm1, he1] at cA
  rw [hk2, hs2, hm2, he2] at cB
  have HF1 : Hid (Unit → Fin1 k1 m1 e1) := fun _ => by rw [← hk1, ← hm1, ← he1]; exact fin1_of a
  have HF2 : Hid (Unit → Fin1 k2 m2 e2) := fun _ => by rw [← hk2, ← hm2, ← he2]; exact fin1_of b
  have HN : Hid (Unit → k1 = 4 → k2 = 4 → False) := fun _ h1 h2 => hkk ⟨hk1.trans h1, hk2.trans h2⟩
  obtain ⟨R, hR⟩ : ∃ R, addN a b = R := ⟨_, rfl⟩
  rw [hR] at HD ⊢
  clear hkk hR hk1 hk2 hs1 hs2 hm1 hm2 he1 he2 ha hb
  go_enter Tryz.func36, Tryz.ntmps36
  go_wp2_with fail
  refine (cA _).mono ?_
  rintro e w1 ⟨rfl, hb1⟩
  clear cA
  go_wp2_with fail
  refine (cB _).mono ?_
  rintro e w2 ⟨rfl, hb2⟩
  clear cB
  go_upto_region 3 with fail
  have hlt : w1.heap.size < w2.heap.size := by have := hb2.size; simp at this; omega
  obtain ⟨wq, hwq⟩ : ∃ wq, w2.alloc (.cells #[.int .i64 k2, .bool s2, .int .u64 m2, .int .i64 e2] 62) = wq := ⟨_, rfl⟩
  have hQ : wq.heap[w2.heap.size]? = some (.cells #[.int .i64 k2, .bool s2, .int .u64 m2, .int .i64 e2] 62) := by rw [← hwq]; exact heap_alloc_new _ _
  have hP : wq.heap[w1.heap.size]? = some (.cells #[.int .i64 k1, .bool s1, .int .u64 m1, .int .i64 e1] 62) := by rw [← hwq]; exact (Below.heap_alloc w2 _ _ hlt).trans (alloc_kept hb2)
  have hBb : Below w.heap.size w wq := by
    have hb3 : Below w.heap.size w w2 := (hb1.alloc hb1.size _).trans (hb2.mono (by simp; exact Nat.le_succ_of_le hb1.size))
    rw [← hwq]; exact hb3.alloc hb3.size _
  have hgp : w.heap.size ≤ w1.heap.size := hb1.size
  obtain ⟨gq, hgq⟩ : ∃ g, w2.heap.size = g := ⟨_, rfl⟩
  obtain ⟨gp, hgp2⟩ : ∃ g, w1.heap.size = g := ⟨_, rfl⟩
  simp only [hwq, hgq, hgp2]
  rw [hgq] at hQ hlt
  rw [hgp2] at hP hgp hlt
  clear hwq hgq hgp2 hb1 hb2
  clear w1 w2
  obtain ⟨p0, p1, p2, p3⟩ := cells_four hP
  obtain ⟨q0, q1, q2, q3⟩ := cells_four hQ
  rcases hK1 with rfl | rfl | rfl | rfl
  · go_wp2
    go_ret
    exact ⟨by rw [HD.out ()]; rfl, hBb⟩
  all_goals rcases hK2 with rfl | rfl | rfl | rfl
  · go_wp2
    go_ret
    exact ⟨by rw [HD.out ()]; rfl, hBb⟩
  · have HE : Hid (Unit → R = if s1 ≠ s2 then 9221120237041090560 else a) := fun _ => by rw [HD.out ()]; simp [addP]
    clear HD
    by_cases hs : s1 = s2
    · subst hs
      go_wp2
      go_ret
      exact ⟨by rw [HE.out ()]; simp, hBb⟩
    · have hs' : (s1 == s2) = false := by simpa using hs
      go_wp2
      go_ret
      exact ⟨by rw [HE.out ()]; simp [hs], hBb⟩
  iterate 2
    · go_wp2
      go_ret
      exact ⟨by rw [HD.out ()]; rfl, hBb⟩
  iterate 2
    · go_wp2
      go_ret
      exact ⟨by rw [HD.out ()]; rfl, hBb⟩
  · have HE : Hid (Unit → R = if s1 = true ∧ s2 = true then a else 0) := fun _ => by rw [HD.out ()]; simp [addP]
    clear HD
    cases s1 <;> cases s2
    all_goals
      go_wp2
      go_ret
      exact ⟨by rw [HE.out ()]; rfl, hBb⟩
  · go_wp2
    go_ret
    exact ⟨by rw [HD.out ()]; rfl, hBb⟩
  iterate 3
    · go_wp2
      go_ret
      exact ⟨by rw [HD.out ()]; rfl, hBb⟩
  · have hF : False := HN.out () rfl rfl
    exact hF.elim
def subN (a b : Nat) : Nat := addN a (negN b)
theorem negN_lt {x : Nat} (h : x < 18446744073709551616) : negN x < 18446744073709551616 := by
  unfold negN
  split
  · decide
  · split <;> omega
set_option maxHeartbeats 400000 in
set_option maxRecDepth 100000 in
theorem specSub_any (a b : Nat) (w : World) (ha : a < 18446744073709551616) (hb : b < 18446744073709551616) :
    Calls Tryz.prog 37 #[.int .u64 a, .int .u64 b] w fun e w' => e = .returned (.int .u64 (subN a b : Nat)) ∧ Below w.heap.size w w' := by
  have cN := fun W => specNegate_any b W hb
  have cA := fun W => specAdd_any a (negN b) W ha (negN_lt hb)
  unfold subN
  obtain ⟨n, hn⟩ : ∃ n, negN b = n := ⟨_, rfl⟩
  rw [hn] at cN cA ⊢
  obtain ⟨r, hr⟩ : ∃ r, addN a n = r := ⟨_, rfl⟩
  rw [hr] at cA ⊢
  clear hn hr ha hb
  go_enter Tryz.func37, Tryz.ntmps37
  go_wp2_with (first | (go_at_call 18; refine (cN _).mono ?_; rintro e w1 ⟨rfl, hb1⟩) | (go_at_call 36; refine (cA _).mono ?_; rintro e w2 ⟨rfl, hb2⟩))
  go_ret
  exact ⟨rfl, chain hb1 hb2⟩
end Go.Proofs.YtcdbifcidaafnaaGreatDoor
namespace Go.Proofs.YtcdbifcidaafnaaGreatDoor
theorem sign_small (b : Bool) {P : Nat} (h : P < 9223372036854775808) : signN b P < 18446744073709551616 := by
  unfold signN
  split <;> omega
end Go.Proofs.YtcdbifcidaafnaaGreatDoor
