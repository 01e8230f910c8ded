/-
  The walk of the program's own rest of finite numbers.
-/
import Derived.Test.YtepfjeamiokgnaaIMul
namespace Go.Proofs.Ytepfjeamiokgnaa
open Go.RowKit Go.Sort
set_option linter.unusedVariables false

set_option maxHeartbeats 1000000 in
set_option maxRecDepth 100000 in
theorem iFinRest (a b : Nat) (w : World) (ha : a < 18446744073709551616) (hb : b < 18446744073709551616) (ka : kindN a = 4) (kb : kindN b = 4) :
    Calls Try.prog 40 #[.int .u64 a, .int .u64 b] w fun e w' => e = .returned (.int .u64 (restN (mantN a) (expN a) (mantN b) (expN b) : Nat)) ∧ w = w' := by
  have cA := fun W => iSize a W
  have cB := fun W => iSize b W
  obtain ⟨p, hp⟩ : ∃ p : Int, (a : Int) % 9223372036854775808 = p := ⟨_, rfl⟩
  obtain ⟨q, hq⟩ : ∃ p : Int, (b : Int) % 9223372036854775808 = p := ⟨_, rfl⟩
  rw [hp] at cA
  rw [hq] at cB
  by_cases h : p < q
  · have HR : Hid (Unit → ((restN (mantN a) (expN a) (mantN b) (expN b) : Nat) : Int) = p) := fun _ => by
      rw [rest_self ka kb (by omega), ← hp]
      have h1 := round_parts false ka ha
      have h2 := roundN_le (mantN a) (expN a) false
      obtain ⟨R, hR⟩ : ∃ R, roundN (mantN a) (expN a) false = R := ⟨_, rfl⟩
      rw [hR] at h1 h2 ⊢
      rw [← h1]
      unfold signN
      split <;> omega
    obtain ⟨R, hR⟩ : ∃ R, restN (mantN a) (expN a) (mantN b) (expN b) = R := ⟨_, rfl⟩
    rw [hR] at HR ⊢
    clear hp hq ha hb ka kb hR
    go_enter Try.func40, Try.ntmps40
    go_wp2_with fail
    refine (cA _).mono ?_
    rintro e w' ⟨rfl, rfl⟩
    go_wp2_with fail
    refine (cB _).mono ?_
    rintro e w' ⟨rfl, rfl⟩
    go_wp2_with fail
    refine (cA _).mono ?_
    rintro e w' ⟨rfl, rfl⟩
    go_wp2
    go_ret
    exact ⟨by rw [HR.out ()]; rfl, rfl⟩
  · have d : decide (p < q) = false := by simpa using h
    obtain ⟨o1, o2, o3⟩ := raw_order (g := a) (l := b) (by omega)
    rw [(raw_fin ka).2, (raw_fin kb).2] at o1
    obtain ⟨D, hD⟩ : ∃ D : Nat, expN a = expN b + D := ⟨(expN a - expN b).toNat, by omega⟩
    rw [rest_up hD]
    have cM := fun W => iMantExp a W ha ka
    have cN := fun W => iMantExp b W hb kb
    have hm := mantN_lt a
    have hn := mantN_lt b
    have hn0 := mantN_pos kb
    have e1 := expN_ge b
    have e2 := expN_le b
    have e3 := expN_ge a
    have e4 := expN_le a
    generalize mantN a = m at *
    generalize mantN b = n at *
    generalize expN a = E at *
    generalize expN b = F at *
    obtain ⟨R, hR⟩ : ∃ R, roundN (m * 2 ^ D % n) F false = R := ⟨_, rfl⟩
    rw [hR]
    have cR : ∀ X : Nat, X = m * 2 ^ D % n → ∀ W, Calls Try.prog 49 #[.bool false, .int .u64 X, .int .i64 F, .bool false] W fun en w' => en = .returned (.int .u64 (R : Nat)) ∧ W = w' := fun X hX W => by
      have hlt := Nat.mod_lt (m * 2 ^ D) (by omega : 0 < n)
      have h := iRound_w false false X F W (by omega) (by omega) (by omega)
      rw [Bool.false_and, signN_false, hX, hR, ← hX] at h
      exact h
    have M1 : (m : Int) < 9007199254740992 := by omega
    have N1 : (n : Int) < 9007199254740992 := by omega
    have z2 : ((n : Int) == 0) = false := by rw [beq_eq_false_iff_ne]; omega
    have hDE : E - F = D := by omega
    have D2 : (D : Int) ≤ 2046 := by omega
    have HN : Hid (Unit → 0 < n ∧ n < 9007199254740992) := fun _ => ⟨by omega, hn⟩
    clear hp hq ha hb ka kb hR h o1 o2 o3 hm hn hD
    go_enter Try.func40, Try.ntmps40
    go_wp2_with fail
    refine (cA _).mono ?_
    rintro e w' ⟨rfl, rfl⟩
    go_wp2_with fail
    refine (cB _).mono ?_
    rintro e w' ⟨rfl, rfl⟩
    go_wp2_with fail
    refine (cM _).mono ?_
    rintro e w' ⟨rfl, rfl⟩
    go_wp2_with fail
    refine (cN _).mono ?_
    rintro e w' ⟨rfl, rfl⟩
    go_wp2_with fail
    go_loop [9, 10] (fun x9 x10 => ∃ X L j : Nat, x9 = .int .u64 X ∧ x10 = .int .i64 L ∧ (X : Int) < 9007199254740992 ∧ (L : Int) ≤ 2046 ∧ Hid (Unit → X = m * 2 ^ j % n ∧ j + L = D)) (fun _ x10 => (intOf x10).toNat)
    case atStart => exact ⟨m % n, D, 0, by go_num, rfl, by have := Nat.mod_le m n; omega, D2, fun _ => ⟨by simp, by simp⟩⟩
    case round =>
      obtain ⟨X, L, j, rfl, rfl, hX, hL, HI⟩ := hrel
      by_cases hL0 : L = 0
      · subst hL0
        have cX := cR X (by have := HI.out (); rw [this.1, (by omega : j = D)])
        clear cR HI
        go_wp2_with (go_at_call 49; refine (cX _).mono ?_; rintro e w' ⟨rfl, rfl⟩)
        go_ret
        exact ⟨rfl, rfl⟩
      · obtain ⟨P, hP⟩ : ∃ P : Nat, min (L : Int) 11 = P := ⟨min L 11, by omega⟩
        have hP2 : P ≤ 63 := by omega
        have hP3 : P ≤ L := by omega
        have hP4 : 0 < P := by omega
        obtain ⟨Y, hY⟩ : ∃ Y : Nat, X * 2 ^ P = Y := ⟨_, rfl⟩
        have hY2 : Y < 18446744073709551616 := by
          have h1 : 2 ^ P ≤ 2 ^ 11 := Nat.pow_le_pow_right (by decide) (by omega)
          have h2 : X * 2 ^ P ≤ X * 2 ^ 11 := Nat.mul_le_mul_left _ h1
          omega
        have dY : IntKind.u64.wrap ((X : Int) * 2 ^ P) = Y := by
          have e1 : (X : Int) * 2 ^ P = ((X * 2 ^ P : Nat) : Int) := by simp
          rw [e1, hY]
          show (Y : Int) % 18446744073709551616 = Y
          omega
        have Y2 : (Y : Int) < 18446744073709551616 := by omega
        have HY : Hid (Unit → X * 2 ^ P = Y) := fun _ => hY
        have HL : Hid (Unit → P ≤ L) := fun _ => hP3
        have hL1 : 0 < L := by omega
        have hPL : (P : Int) ≤ L := by omega
        clear hY hY2 hL0 hP3
        go_wp2
        go_round
        case rel => exact ⟨Y % n, L - P, j + P, by go_num, by have := HL.out (); go_num, by have := Nat.mod_lt Y (HN.out ()).1; have := (HN.out ()).2; omega, by omega, fun _ => ⟨by rw [← HY.out (), (HI.out ()).1, rest_places], by have := (HI.out ()).2; have := HL.out (); omega⟩⟩
        case measure => simp [intOf]; omega

end Go.Proofs.Ytepfjeamiokgnaa
