/-
  The walks of ReadVar.
-/
import Derived.Test.YtemgbffdllhhfahVar
import Derived.Test.YtemgbffdllhhfahReadB
import Derived.Deep.QuietTactic
import Derived.BigQuiet
import Derived.Lib.QuietBelow
namespace Go.Proofs.Ytemgbffdllhhfah
open Go.RowKit Go.Sort
set_option linter.unusedVariables false

set_option maxHeartbeats 1000000 in
set_option maxRecDepth 100000 in
theorem implReadVar_in (s : ByteArray) (b0 : Nat) (w : World) (hs : s.size ≤ 1048576) (hb : b0 ≤ s.size) :
    Calls Try.prog 10 #[.string s, .int .i64 b0] w fun e w' => e = .returned (rdOut (rdV s b0 5 b0 0 1)) ∧ w = w' := by
  go_enter Try.func10, Try.ntmps10
  go_wp2
  go_loop [7, 8, 9] (fun x y z => ∃ f i n u : Nat, b0 ≤ i ∧ i ≤ s.size ∧ n < u ∧ Unit128 f u ∧ x = .int .i64 n ∧ y = .int .i64 u ∧ z = .int .i64 i ∧ rdV s b0 f i n u = rdV s b0 5 b0 0 1) (fun _ _ z => s.size - (intOf z).toNat)
  case atStart => exact ⟨5, b0, 0, 1, by omega, hb, by omega, unit_first, rfl, rfl, rfl, rfl⟩
  case round =>
    obtain ⟨f, i, n, u, hi0, hi1, hnu, hu, rfl, rfl, rfl, hR⟩ := hrel
    have HR : Hid (rdV s b0 f i n u = rdV s b0 5 b0 0 1) := hR
    clear hR
    by_cases hlt : i < s.size
    · cases f with
      | zero =>
        obtain rfl := unit_zero hu
        go_wp2
        go_ret3
        exact ⟨rdOut_none HR.out.symm, rfl⟩
      | succ f =>
        obtain ⟨hu1, hu2, hu3, hf⟩ := unit_step hu
        have hmb : (n : Int) + ((s[i]).toNat : Int) % 128 * (u : Int) < (u : Int) * 128 := by exact_mod_cast mul_bd (b := (s[i]).toNat) hnu
        have hm0 : (0 : Int) ≤ ((s[i]).toNat : Int) % 128 * (u : Int) := Int.mul_nonneg (by omega) (by omega)
        have h255 : (s[i]).toNat < 256 := (s[i]).toNat_lt
        have HU : Hid (Unit128 f (u * 128)) := hu1
        clear hu hu1
        by_cases hb128 : (s[i]).toNat < 128
        · by_cases hz : (s[i]).toNat = 0
          · by_cases hi2 : b0 < i
            · have E : Hid (rdV s b0 (f + 1) i n u = none) := rdV_bad hlt hb128 (.inl ⟨hz, hi2⟩)
              clear hmb hm0
              go_wp2
              go_ret3
              exact ⟨rdOut_none (HR.out.symm.trans E.out), rfl⟩
            · have E : Hid (rdV s b0 (f + 1) i n u = some (n, i + 1)) := by
                show rdV s b0 (f + 1) i n u = some (n, i + 1)
                rw [rdV_ok hlt hb128 (by rw [hz]; omega), hz]; simp
              clear hmb hm0
              go_wp2
              go_ret3
              exact ⟨rdOut_some (HR.out.symm.trans E.out) rfl (by omega), rfl⟩
          · by_cases hbig : (1000000000 : Int) < (n : Int) + ((s[i]).toNat : Int) % 128 * (u : Int)
            · have E : Hid (rdV s b0 (f + 1) i n u = none) := rdV_bad hlt hb128 (.inr ((big_iff _ _ _).1 hbig))
              go_wp2
              go_ret3
              exact ⟨rdOut_none (HR.out.symm.trans E.out), rfl⟩
            · have E : Hid (rdV s b0 (f + 1) i n u = some (n + (s[i]).toNat % 128 * u, i + 1)) := rdV_ok hlt hb128 (by
                rintro (h | h)
                · exact hz h.1
                · exact hbig ((big_iff _ _ _).2 h))
              go_wp2
              go_ret3
              exact ⟨rdOut_some (HR.out.symm.trans E.out) (by simp) (by omega), rfl⟩
        · have E : Hid (rdV s b0 (f + 1) i n u = rdV s b0 f (i + 1) (n + (s[i]).toNat % 128 * u) (u * 128)) := rdV_more hlt hb128
          have hmN := mul_bd (b := (s[i]).toNat) hnu
          go_wp2
          go_round
          case rel => exact ⟨f, i + 1, n + (s[i]).toNat % 128 * u, u * 128, by omega, by omega, hmN, HU.out, by simp, by go_num, by go_num, E.out.symm.trans HR.out⟩
          case measure => simp [intOf]; omega
    · have E : Hid (rdV s b0 f i n u = none) := rdV_end hlt
      go_wp2
      go_ret3
      exact ⟨rdOut_none (HR.out.symm.trans E.out), rfl⟩

set_option maxHeartbeats 400000 in
set_option maxRecDepth 100000 in
theorem implReadVar_out (s : ByteArray) (x : Int) (w : World) (hs : s.size ≤ 1048576) (hx : x < 0 ∨ (s.size : Int) < x) :
    Calls Try.prog 10 #[.string s, .int .i64 x] w fun e w' => e = .returned (.tuple #[.int .i64 0, .int .i64 0, .bool false]) ∧ w = w' := by
  by_cases h : x < 0
  · go_enter Try.func10, Try.ntmps10
    go_wp2
    go_ret3
    exact ⟨rfl, rfl⟩
  · have h2 : (s.size : Int) < x := by omega
    go_enter Try.func10, Try.ntmps10
    go_wp2
    go_ret3
    exact ⟨rfl, rfl⟩

set_option maxHeartbeats 400000 in
set_option maxRecDepth 100000 in
theorem specReadVar_out (s : ByteArray) (x : Int) (w : World) (hs : s.size ≤ 1048576) (hx : x < 0 ∨ (s.size : Int) < x) :
    Calls Try.prog 9 #[.string s, .int .i64 x] w fun e w' => e = .returned (.tuple #[.int .i64 0, .int .i64 0, .bool false]) ∧ w = w' := by
  go_enter Try.func9, Try.ntmps9
  go_wp2_with (go_at_call 15; refine (l01In_no _ _ _ _ hx).mono ?_; rintro e w' ⟨rfl, rfl⟩)
  go_ret3
  exact ⟨rfl, rfl⟩

theorem l01Var_eq {x : Int} (N : Nat) (hx : x = N) (w : World) (hN : N ≤ 1000000000) :
    Calls Try.prog 16 #[.int .i64 x] w fun e w' => e = .returned (.string (strOfNums (varB N))) ∧ Below w.heap.size w w' := by
  subst hx; exact l01Var_any N w hN

set_option maxHeartbeats 1000000 in
set_option maxRecDepth 100000 in
theorem specReadVar_in (s : ByteArray) (b0 : Nat) (w : World) (hs : s.size ≤ 1048576) (hb : b0 ≤ s.size) :
    Calls Try.prog 9 #[.string s, .int .i64 b0] w fun e w' => e = .returned (rdOut (rdV s b0 5 b0 0 1)) ∧ Below w.heap.size w w' := by
  have h0 : (0 : Int) ≤ (b0 : Int) := by omega
  have h1 : (b0 : Int) ≤ (s.size : Int) := by omega
  go_enter Try.func9, Try.ntmps9
  go_wp2_with (go_at_call 15; refine (l01In_yes _ _ _ _ h0 h1).mono ?_; rintro e w' ⟨rfl, rfl⟩)
  go_loop [7, 8, 9] (fun x y z => ∃ i n u : Nat, b0 ≤ i ∧ i ≤ s.size ∧ i ≤ b0 + 5 ∧ n < u ∧ Unit128 (b0 + 5 - i) u ∧ Opens (ints (sl s b0 i)) n u ∧ (i = b0 → n = 0) ∧ x = .int .i64 n ∧ y = .int .i64 u ∧ z = .int .i64 i ∧ rdV s b0 (b0 + 5 - i) i n u = rdV s b0 5 b0 0 1) (fun _ _ z => s.size - (intOf z).toNat)
  case atStart =>
    have e5 : b0 + 5 - b0 = 5 := by omega
    exact ⟨b0, 0, 1, by omega, hb, by omega, by omega, by rw [e5]; exact unit_first, by rw [sl_self]; exact opens_first, fun _ => rfl, rfl, rfl, rfl, by rw [e5]⟩
  case round =>
    obtain ⟨i, n, u, hi0, hi1, hi5, hnu, hu, hop, hn0, rfl, rfl, rfl, hR⟩ := hrel
    obtain ⟨f', hf'⟩ : ∃ f', f' = b0 + 5 - i := ⟨_, rfl⟩
    rw [← hf'] at hu hR
    have HR : Hid (rdV s b0 f' i n u = rdV s b0 5 b0 0 1) := hR
    have HO : Hid (Opens (ints (sl s b0 i)) n u) := hop
    have HN : Hid (i = b0 → n = 0) := hn0
    have HF : Hid (f' = b0 + 5 - i) := hf'
    clear hR hop hn0
    by_cases hlt : i < s.size
    · by_cases h5 : i < b0 + 5
      · obtain ⟨f, rfl⟩ : ∃ f, f' = f + 1 := ⟨f' - 1, by omega⟩
        obtain ⟨hu1, hu2, hu3, hf⟩ := unit_step hu
        have hmb : (n : Int) + ((s[i]).toNat : Int) % 128 * (u : Int) < (u : Int) * 128 := by exact_mod_cast mul_bd (b := (s[i]).toNat) hnu
        have hm0 : (0 : Int) ≤ ((s[i]).toNat : Int) % 128 * (u : Int) := Int.mul_nonneg (by omega) (by omega)
        have h255 : (s[i]).toNat < 256 := (s[i]).toNat_lt
        have HU : Hid (Unit128 f (u * 128)) := hu1
        clear hu hu1 hf'
        by_cases hb128 : (s[i]).toNat < 128
        · by_cases hbig : (1000000000 : Int) < (n : Int) + ((s[i]).toNat : Int) % 128 * (u : Int)
          · have E : Hid (rdV s b0 (f + 1) i n u = none) := rdV_bad hlt hb128 (.inr ((big_iff _ _ _).1 hbig))
            go_wp2
            go_quiet (fail)
            go_wp2
            go_ret3
            exact ⟨rdOut_none (HR.out.symm.trans E.out), below_drewN (Below.refl _ _) _⟩
          · have hN : n + (s[i]).toNat % 128 * u ≤ 1000000000 := by have := (not_congr (big_iff _ _ _)).1 hbig; omega
            have hd : decide ((1000000000 : Int) < (n : Int) + ((s[i]).toNat : Int) % 128 * (u : Int)) = false := by simp only [decide_eq_false_iff_not]; exact hbig
            have cQ := fun d os => Calls.regrown_of (w := w) (d := d) (os := os) (l01Var_eq (n + (s[i]).toNat % 128 * u) (cast_mul _ _ _).symm (grow (redrawn w d) os) hN)
            by_cases hx : (s[i]).toNat = 0 ∧ b0 < i
            · have E : Hid (rdV s b0 (f + 1) i n u = none) := rdV_bad hlt hb128 (.inl hx)
              have HV : Hid (((strOfNums (varB (n + (s[i]).toNat % 128 * u))).toList == (s.extract b0 (i + 1)).toList) = false) := var_other hi0 hlt hx
              clear hx
              go_wp2
              refine wp_region_quiet_below (by kernel_rfl) (by kernel_rfl) ?_
              repeat (first | go_big_quiet_step (exact cQ _ _) | quiet_step (exact cQ _ _))
              refine wpQuiet_nil ?_
              intro _ hw'
              obtain ⟨⟨dq, osq⟩, hw''⟩ := hw'
              subst hw''
              have hv : (!((strOfNums (varB (n + (s[i]).toNat % 128 * u))).toList == (s.extract b0 (i + 1)).toList)) = true := by rw [HV.out]; rfl
              go_wp2
              · go_ret3
                exact ⟨rdOut_none (HR.out.symm.trans E.out), below_regrown w dq osq⟩
              · exact absurd (show true = false from hv.symm.trans (by assumption)) (by decide)
            · have E : Hid (rdV s b0 (f + 1) i n u = some (n + (s[i]).toNat % 128 * u, i + 1)) := rdV_ok hlt hb128 (by
                rintro (h | h)
                · exact hx h
                · omega)
              have HV : Hid (((strOfNums (varB (n + (s[i]).toNat % 128 * u))).toList == (s.extract b0 (i + 1)).toList) = true) := var_same HO.out hi0 hlt hb128 HN.out hx
              clear hx
              go_wp2
              refine wp_region_quiet_below (by kernel_rfl) (by kernel_rfl) ?_
              repeat (first | go_big_quiet_step (exact cQ _ _) | quiet_step (exact cQ _ _))
              refine wpQuiet_nil ?_
              intro _ hw'
              obtain ⟨⟨dq, osq⟩, hw''⟩ := hw'
              subst hw''
              have hv : (!((strOfNums (varB (n + (s[i]).toNat % 128 * u))).toList == (s.extract b0 (i + 1)).toList)) = false := by rw [HV.out]; rfl
              go_wp2
              · exact absurd (show true = false from Eq.trans (Eq.symm (by assumption)) hv) (by decide)
              · go_ret3
                exact ⟨rdOut_some (HR.out.symm.trans E.out) (cast_mul _ _ _).symm (by omega), below_regrown w dq osq⟩
        · have E : Hid (rdV s b0 (f + 1) i n u = rdV s b0 f (i + 1) (n + (s[i]).toNat % 128 * u) (u * 128)) := rdV_more hlt hb128
          have hmN := mul_bd (b := (s[i]).toNat) hnu
          go_wp2
          go_round
          case rel =>
            have ef : b0 + 5 - (i + 1) = f := by have := HF.out; omega
            exact ⟨i + 1, n + (s[i]).toNat % 128 * u, u * 128, by omega, by omega, by omega, hmN, by rw [ef]; exact HU.out, by rw [sl_snoc hi0 hlt, ints_append]; exact opens_more HO.out (by omega) h255, by omega, by simp, by go_num, by go_num, by rw [ef]; exact E.out.symm.trans HR.out⟩
          case measure => simp [intOf]; omega
      · have E : Hid (rdV s b0 f' i n u = none) := by rw [show f' = 0 by omega]; rfl
        clear hf'
        go_wp2
        go_ret3
        exact ⟨rdOut_none (HR.out.symm.trans E.out), Below.refl _ _⟩
    · have E : Hid (rdV s b0 f' i n u = none) := rdV_end hlt
      clear hf'
      go_wp2
      go_ret3
      exact ⟨rdOut_none (HR.out.symm.trans E.out), Below.refl _ _⟩

theorem implReadVar_none (s : ByteArray) (b0 : Nat) (w : World) (hs : s.size ≤ 1048576) (hb : b0 ≤ s.size) (hR : rdV s b0 5 b0 0 1 = none) :
    Calls Try.prog 10 #[.string s, .int .i64 b0] w fun e w' => e = .returned (.tuple #[.int .i64 0, .int .i64 0, .bool false]) ∧ w = w' := by
  have h := implReadVar_in s b0 w hs hb
  rw [hR] at h
  exact h
theorem implReadVar_some (s : ByteArray) (b0 : Nat) (w : World) (hs : s.size ≤ 1048576) (hb : b0 ≤ s.size) {n j : Nat} (hR : rdV s b0 5 b0 0 1 = some (n, j)) :
    Calls Try.prog 10 #[.string s, .int .i64 b0] w fun e w' => e = .returned (.tuple #[.int .i64 n, .int .i64 j, .bool true]) ∧ w = w' := by
  have h := implReadVar_in s b0 w hs hb
  rw [hR] at h
  exact h

theorem specReadVar_none (s : ByteArray) (b0 : Nat) (w : World) (hs : s.size ≤ 1048576) (hb : b0 ≤ s.size) (hR : rdV s b0 5 b0 0 1 = none) :
    Calls Try.prog 9 #[.string s, .int .i64 b0] w fun e w' => e = .returned (.tuple #[.int .i64 0, .int .i64 0, .bool false]) ∧ Below w.heap.size w w' := by
  have h := specReadVar_in s b0 w hs hb
  rw [hR] at h
  exact h
theorem specReadVar_some (s : ByteArray) (b0 : Nat) (w : World) (hs : s.size ≤ 1048576) (hb : b0 ≤ s.size) {n j : Nat} (hR : rdV s b0 5 b0 0 1 = some (n, j)) :
    Calls Try.prog 9 #[.string s, .int .i64 b0] w fun e w' => e = .returned (.tuple #[.int .i64 n, .int .i64 j, .bool true]) ∧ Below w.heap.size w w' := by
  have h := specReadVar_in s b0 w hs hb
  rw [hR] at h
  exact h

end Go.Proofs.Ytemgbffdllhhfah
