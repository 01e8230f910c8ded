/-
  The walks of ReadVar.
-/
import Derived.Test.YtemgbffdllhhfaaDoorVar
import Derived.Test.YtemgbffdllhhfaaDoorReadB
import Derived.Deep.QuietTactic
import Derived.BigQuiet
import Derived.Lib.QuietBelow
namespace Go.Proofs.YtemgbffdllhhfaaDoor
open Go.RowKit Go.Sort
set_option linter.unusedVariables false

set_option maxHeartbeats 1000000 in
set_option maxRecDepth 100000 in
theorem implReadVar_in (s : ByteArray) (b0 : Nat) (w : World) (hs : s.size ≤ 1048576) (hb : b0 ≤ s.size) :
    Calls Tryd.prog 7 #[.string s, .int .i64 b0] w fun e w' => e = .returned (rdOut (rdV s b0 5 b0 0 1)) ∧ w = w' := by
  go_enter Tryd.func7, Tryd.ntmps7
  go_wp2
  go_loop [7, 8, 9] (fun x y z => ∃ f i n u : Nat, b0 ≤ i ∧ i ≤ s.size ∧ n < u ∧ Unit128 f u ∧ x = .int .i64 n ∧ y = .int .i64 u ∧ z = .int .i64 i ∧ rdV s b0 f i n u = rdV s b0 5 b0 0 1) (fun _ _ z => s.size - (intOf z).toNat)
  case atStart => exact ⟨5, b0, 0, 1, by omega, hb, by omega, unit_first, rfl, rfl, rfl, rfl⟩
  case round =>
    obtain ⟨f, i, n, u, hi0, hi1, hnu, hu, rfl, rfl, rfl, hR⟩ := hrel
    have HR : Hid (rdV s b0 f i n u = rdV s b0 5 b0 0 1) := hR
    clear hR
    by_cases hlt : i < s.size
    · cases f with
      | zero =>
        obtain rfl := unit_zero hu
        go_wp2
        go_ret3
        exact ⟨rdOut_none HR.out.symm, rfl⟩
      | succ f =>
        obtain ⟨hu1, hu2, hu3, hf⟩ := unit_step hu
        have hmb : (n : Int) + ((s[i]).toNat : Int) % 128 * (u : Int) < (u : Int) * 128 := by exact_mod_cast mul_bd (b := (s[i]).toNat) hnu
        have hm0 : (0 : Int) ≤ ((s[i]).toNat : Int) % 128 * (u : Int) := Int.mul_nonneg (by omega) (by omega)
        have h255 : (s[i]).toNat < 256 := (s[i]).toNat_lt
        have HU : Hid (Unit128 f (u * 128)) := hu1
        clear hu hu1
        by_cases hb128 : (s[i]).toNat < 128
        · by_cases hz : (s[i]).toNat = 0
          · by_cases hi2 : b0 < i
            · have E : Hid (rdV s b0 (f + 1) i n u = none) := rdV_bad hlt hb128 (.inl ⟨hz, hi2⟩)
              clear hmb hm0
              go_wp2
              go_ret3
              exact ⟨rdOut_none (HR.out.symm.trans E.out), rfl⟩
            · have E : Hid (rdV s b0 (f + 1) i n u = some (n, i + 1)) := by
                show rdV s b0 (f + 1) i n u = some (n, i + 1)
                rw [rdV_ok hlt hb128 (by rw [hz]; omega), hz]; simp
              clear hmb hm0
              go_wp2
              go_ret3
              exact ⟨rdOut_some (HR.out.symm.trans E.out) rfl (by omega), rfl⟩
          · by_cases hbig : (1000000000 : Int) < (n : Int) + ((s[i]).toNat : Int) % 128 * (u : Int)
            · have E : Hid (rdV s b0 (f + 1) i n u = none) := rdV_bad hlt hb128 (.inr ((big_iff _ _ _).1 hbig))
              go_wp2
              go_ret3
              exact ⟨rdOut_none (HR.out.symm.trans E.out), rfl⟩
            · have E : Hid (rdV s b0 (f + 1) i n u = some (n + (s[i]).toNat % 128 * u, i + 1)) := rdV_ok hlt hb128 (by
                rintro (h | h)
                · exact hz h.1
                · exact hbig ((big_iff _ _ _).2 h))
              go_wp2
              go_ret3
              exact ⟨rdOut_some (HR.out.symm.trans E.out) (by simp) (by omega), rfl⟩
        · have E : Hid (rdV s b0 (f + 1) i n u = rdV s b0 f (i + 1) (n + (s[i]).toNat % 128 * u) (u * 128)) := rdV_more hlt hb128
          have hmN := mul_bd (b := (s[i]).toNat) hnu
          go_wp2
          go_round
          case rel => exact ⟨f, i + 1, n + (s[i]).toNat % 128 * u, u * 128, by omega, by omega, hmN, HU.out, by simp, by go_num, by go_num, E.out.symm.trans HR.out⟩
          case measure => simp [intOf]; omega
    · have E : Hid (rdV s b0 f i n u = none) := rdV_end hlt
      go_wp2
      go_ret3
      exact ⟨rdOut_none (HR.out.symm.trans E.out), rfl⟩

set_option maxHeartbeats 400000 in
set_option maxRecDepth 100000 in
theorem implReadVar_out (s : ByteArray) (x : Int) (w : World) (hs : s.size ≤ 1048576) (hx : x < 0 ∨ (s.size : Int) < x) :
    Calls Tryd.prog 7 #[.string s, .int .i64 x] w fun e w' => e = .returned (.tuple #[.int .i64 0, .int .i64 0, .bool false]) ∧ w = w' := by
  by_cases h : x < 0
  · go_enter Tryd.func7, Tryd.ntmps7
    go_wp2
    go_ret3
    exact ⟨rfl, rfl⟩
  · have h2 : (s.size : Int) < x := by omega
    go_enter Tryd.func7, Tryd.ntmps7
    go_wp2
    go_ret3
    exact ⟨rfl, rfl⟩

theorem implReadVar_none (s : ByteArray) (b0 : Nat) (w : World) (hs : s.size ≤ 1048576) (hb : b0 ≤ s.size) (hR : rdV s b0 5 b0 0 1 = none) :
    Calls Tryd.prog 7 #[.string s, .int .i64 b0] w fun e w' => e = .returned (.tuple #[.int .i64 0, .int .i64 0, .bool false]) ∧ w = w' := by
  have h := implReadVar_in s b0 w hs hb
  rw [hR] at h
  exact h

theorem implReadVar_some (s : ByteArray) (b0 : Nat) (w : World) (hs : s.size ≤ 1048576) (hb : b0 ≤ s.size) {n j : Nat} (hR : rdV s b0 5 b0 0 1 = some (n, j)) :
    Calls Tryd.prog 7 #[.string s, .int .i64 b0] w fun e w' => e = .returned (.tuple #[.int .i64 n, .int .i64 j, .bool true]) ∧ w = w' := by
  have h := implReadVar_in s b0 w hs hb
  rw [hR] at h
  exact h

end Go.Proofs.YtemgbffdllhhfaaDoor
