/-
  The walks of the program's powers of five, and of words times them.
-/
import Derived.Test.YtfbdhafbpcpjlaaIWordT
namespace Go.Proofs.Ytfbdhafbpcpjlaa
open Go.RowKit
set_option linter.unusedVariables false

theorem five_lt {k : Nat} (h : k ≤ 27) : 5 ^ k < 9223372036854775808 := by
  have : (5 : Nat) ^ k ≤ 5 ^ 27 := Nat.pow_le_pow_right (by decide) h
  have e : (5 : Nat) ^ 27 = 7450580596923828125 := by decide
  omega

set_option maxHeartbeats 1000000 in
set_option maxRecDepth 100000 in
theorem fiveWalk (n : Nat) (w : World) (hn : n ≤ 27) :
    Calls Try.prog 47 #[.int .i64 n] w fun e w' => e = .returned (.int .u64 ((5 ^ n : Nat) : Int)) ∧ w = w' := by
  obtain ⟨F, hF⟩ : ∃ F, 5 ^ n = F := ⟨_, rfl⟩
  rw [hF]
  have HF : Hid (Unit → 5 ^ n = F ∧ n ≤ 27) := fun _ => ⟨hF, hn⟩
  have hn' : (n : Int) ≤ 27 := by omega
  clear hF hn
  go_enter Try.func47, Try.ntmps47
  go_upto_region 3 with fail
  go_loop [3, 5] (fun x y => ∃ i p : Nat, y = .int .i64 i ∧ x = .int .u64 p ∧ (i : Int) ≤ n ∧ Hid (Unit → p = 5 ^ i)) (fun _ y => n - (intOf y).toNat)
  case atStart => exact ⟨0, 1, rfl, rfl, by omega, fun _ => rfl⟩
  case round =>
    obtain ⟨i, p, rfl, rfl, hi, HP⟩ := hrel
    by_cases hlt : (i : Int) < n
    · obtain ⟨q, hq⟩ : ∃ q, p * 5 = q := ⟨_, rfl⟩
      have hw : IntKind.u64.wrap ((p : Int) * 5) = q := by
        have h1 := HP.out ()
        have h2 := five_lt (k := i + 1) (by have := (HF.out ()).2; omega)
        rw [Nat.pow_succ, ← h1] at h2
        show (p : Int) * 5 % 18446744073709551616 = q
        omega
      have HQ : Hid (Unit → q = 5 ^ (i + 1)) := fun _ => by rw [Nat.pow_succ, ← HP.out (), hq]
      clear hq HP
      go_wp2
      go_round
      case rel => exact ⟨i + 1, q, by go_num, by simp, by omega, HQ⟩
      case measure => simp [intOf]; omega
    · have hin : i = n := by omega
      subst hin
      have hlt' : decide ((i : Int) < i) = false := by simp
      have HE : Hid (Unit → p = F) := fun _ => (HP.out ()).trans (HF.out ()).1
      clear HP
      go_wp2
      go_ret
      exact ⟨by rw [HE.out ()]; rfl, rfl⟩

theorem RowW.nonempty {w : World} {B : Nat} {v : Value} {xs : List Nat} (h : RowW w B v xs) (h1 : xs.length ≠ 0) : ∃ g cap, v = .slice (some ⟨g, 0, none⟩) xs.length cap ∧ B ≤ g ∧ g < w.heap.size := by
  rcases h.cells with ⟨_, rfl⟩ | ⟨g, cap, rfl, h2, h3, _⟩
  · simp at h1
  · exact ⟨g, cap, rfl, h2, h3⟩
theorem below_of_grown {B g : Nat} {w0 w w' : World} (h : Below B w0 w) (hg : w.grownBy w' (some g)) (hB : B ≤ w.heap.size) (hle : B ≤ g) : Below B w0 w' :=
  h.grown hg hB (fun k e => by cases e; exact hle)

set_option maxHeartbeats 2000000 in
set_option maxRecDepth 100000 in
theorem timesFivesWalk (v : Value) (xs : List Nat) (cnt : Int) (B : Nat) (w : World) (hA : RowW w B v xs) (oa : WordOk xs) (h1 : 1 ≤ xs.length) (hB : B ≤ w.heap.size) (hc1 : -500 ≤ cnt) (hc2 : cnt ≤ 500) (la : xs.length ≤ 100) :
    Calls Try.prog 20 #[v, .int .i64 cnt] w fun e w' => ∃ (v' : Value) (ys : List Nat), e = .returned v' ∧ RowW w' B v' ys ∧ Below B w w' ∧ wordV ys = wordV xs * 5 ^ cnt.toNat ∧ WordOk ys ∧ (2 ^ (64 * (xs.length - 1)) ≤ wordV xs → 2 ^ (64 * (ys.length - 1)) ≤ wordV ys) ∧ 1 ≤ ys.length ∧ ys.length ≤ xs.length + 19 := by
  obtain ⟨g, ca, rfl, hg1, hg2⟩ := hA.nonempty (by omega)
  obtain ⟨L, hL⟩ : ∃ L, xs.length = L := ⟨_, rfl⟩
  rw [hL] at hA h1 la
  rw [hL]
  have HA : Hid (Unit → WordOk xs ∧ xs.length = L) := fun _ => ⟨oa, hL⟩
  obtain ⟨N, hN⟩ : ∃ N, wordV xs = N := ⟨_, rfl⟩
  have HN : Hid (Unit → wordV xs = N) := fun _ => hN
  rw [hN]
  have hsz0 := hB
  clear hL oa hN hg1 hg2
  go_enter Try.func20, Try.ntmps20
  go_upto_region 1 with fail
  go_loopw [0, 1] (fun x y wr => ∃ (c : Int) (ys : List Nat) (g ca d : Nat), y = .int .i64 c ∧ x = .slice (some ⟨g, 0, none⟩) ys.length ca ∧ RowW wr B (.slice (some ⟨g, 0, none⟩) ys.length ca) ys ∧ Below B w wr ∧ c ≤ 500 ∧ -500 ≤ c ∧ 1 ≤ ys.length ∧ ys.length + (c.toNat + 26) / 27 ≤ L + 19 ∧ Hid (Unit → wordV ys = N * 5 ^ d ∧ d + c.toNat = cnt.toNat ∧ WordOk ys ∧ (2 ^ (64 * (L - 1)) ≤ N → 2 ^ (64 * (ys.length - 1)) ≤ wordV ys))) (fun _ y _ => (intOf y).toNat)
  case atStart =>
    refine ⟨cnt, xs, g, ca, 0, rfl, by rw [(HA.out ()).2], by rw [(HA.out ()).2]; exact hA, Below.refl _ _, hc2, hc1, by rw [(HA.out ()).2]; exact h1, by rw [(HA.out ()).2]; omega, fun _ => ⟨by rw [HN.out ()]; simp, by omega, (HA.out ()).1, fun h => by rw [(HA.out ()).2, HN.out ()]; exact h⟩⟩
  case round =>
    clear hA HA HN
    clear xs g ca
    obtain ⟨c, ys, g, ca, d, rfl, rfl, hown, hbel, hc3, hc4, hy1, hyl, HI⟩ := hrel
    have hsz := hbel.size
    by_cases hpos : 0 < c
    · obtain ⟨k, hk⟩ : ∃ k : Nat, min c 27 = k := ⟨(min c 27).toNat, by omega⟩
      have hk27 : k ≤ 27 := by omega
      have cF := fun W => fiveWalk k W hk27
      obtain ⟨F, hF⟩ : ∃ F, 5 ^ k = F := ⟨_, rfl⟩
      rw [hF] at cF
      rw [← hk] at cF
      obtain ⟨g', ca', hv, hg1, hg2⟩ := hown.nonempty (by omega)
      injection hv with hv _ hca
      injection hv with hv
      injection hv with hv
      subst hv
      subst hca
      have hk0 : 1 ≤ k := by omega
      have hF0 : 1 ≤ F := by rw [← hF]; exact Nat.pos_of_ne_zero (by simp)
      have cT := timesWalk g ca F 0 B ys wr hown (HI.out ()).2.2.1 (by omega) (by have := five_lt hk27; omega) (by decide) (by omega)
      have z0 : ((0 : Nat) : Int) = 0 := rfl
      rw [z0] at cT
      have HK : Hid (Unit → 5 ^ k = F ∧ min c 27 = k ∧ 1 ≤ F) := fun _ => ⟨hF, hk, hF0⟩
      have hkc : c - 27 ≤ 0 ∨ (k : Int) = 27 := by omega
      have HC : Hid (Unit → c - 27 ≤ 0 ∨ (k : Int) = 27) := fun _ => hkc
      clear hF hk hk0 hF0 hk27 hkc
      go_wp2_with fail
      with_reducible refine (cF _).mono ?_
      rintro e w' ⟨rfl, rfl⟩
      go_wp2_with fail
      with_reducible refine cT.mono ?_
      rintro e w1 ⟨v', zs, rfl, hrow, hgr, hval, hok, hlen⟩
      clear cT
      obtain ⟨g2, ca2, rfl, _, _⟩ := hrow.nonempty (by omega)
      have hb1 : Below B w w1 := below_of_grown hbel hgr (by omega) hg1
      have HV : Hid (Unit → wordV zs = wordV ys * F + 0 ∧ WordOk zs ∧ (zs.length = ys.length ∨ (zs.length = ys.length + 1 ∧ 2 ^ (64 * ys.length) ≤ wordV zs))) := fun _ => ⟨hval, hok, hlen⟩
      have hl1 : 1 ≤ zs.length := by omega
      have hl2 : zs.length ≤ ys.length + 1 := by omega
      clear hval hok hlen hgr
      go_wp2
      go_roundw
      case rel =>
        refine ⟨c - 27, zs, g2, ca2, d + k, by go_num, rfl, hrow, hb1, by omega, by omega, hl1, by omega, fun _ => ?_⟩
        obtain ⟨i1, i2, i3, i4⟩ := HI.out ()
        obtain ⟨k1, k2, k3⟩ := HK.out ()
        obtain ⟨v1, v2, v3⟩ := HV.out ()
        refine ⟨by rw [v1, Nat.add_zero, i1, Nat.pow_add, k1, Nat.mul_assoc], by omega, v2, fun h => ?_⟩
        rcases v3 with v3 | ⟨v3, v4⟩
        · rw [v3, v1, Nat.add_zero]
          exact Nat.le_trans (i4 h) (Nat.le_mul_of_pos_right _ k3)
        · rw [v3, Nat.add_sub_cancel]; exact v4
      case measure => simp [intOf]; omega
    · have hpos' : decide (0 < c) = false := by simp; omega
      go_wp2
      go_ret
      obtain ⟨i1, i2, i3, i4⟩ := HI.out ()
      refine ⟨_, rfl, ys, hown, hbel, ?_, i3, i4, hy1, by omega⟩
      rw [i1, (by omega : d = cnt.toNat)]

end Go.Proofs.Ytfbdhafbpcpjlaa
