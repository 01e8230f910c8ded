/-
  The walk of the program's division of words by powers of five.
-/
import Derived.Test.YtcabanghegddhaaGreatDoorIWordD
namespace Go.Proofs.YtcabanghegddhaaGreatDoor
open Go.RowKit
set_option linter.unusedVariables false

set_option maxHeartbeats 2000000 in
set_option maxRecDepth 100000 in
theorem divFivesWalk (g ca B : Nat) (xs : List Nat) (cnt : Int) (w : World) (hA : RowW w B (.slice (some ⟨g, 0, none⟩) xs.length ca) xs) (oa : WordOk xs) (hB : B ≤ w.heap.size) (hc1 : -500 ≤ cnt) (hc2 : cnt ≤ 500) (la : xs.length ≤ 1000) :
    Calls Tryz.prog 77 #[.slice (some ⟨g, 0, none⟩) xs.length ca, .int .i64 cnt] w fun e w' => ∃ ys : List Nat, e = .returned (.bool (decide (wordV xs % 5 ^ cnt.toNat ≠ 0))) ∧ RowW w' B (.slice (some ⟨g, 0, none⟩) xs.length ca) ys ∧ ys.length = xs.length ∧ Below B w w' ∧ wordV ys = wordV xs / 5 ^ cnt.toNat ∧ WordOk ys := by
  obtain ⟨L, hL⟩ : ∃ L, xs.length = L := ⟨_, rfl⟩
  obtain ⟨N, hN⟩ : ∃ N, wordV xs = N := ⟨_, rfl⟩
  obtain ⟨R, hR⟩ : ∃ R, decide (N % 5 ^ cnt.toNat ≠ 0) = R := ⟨_, rfl⟩
  rw [hL, hN, hR]
  rw [hL] at hA la
  have HX : Hid (Unit → wordV xs = N ∧ WordOk xs ∧ xs.length = L ∧ decide (N % 5 ^ cnt.toNat ≠ 0) = R) := fun _ => ⟨hN, oa, hL, hR⟩
  clear hL hN hR oa
  go_enter Tryz.func77, Tryz.ntmps77
  go_upto_region 2 with fail
  go_loopw [1, 5] (fun y m wr => ∃ (c : Int) (ys : List Nat) (d : Nat) (mo : Bool), y = .int .i64 c ∧ m = .bool mo ∧ RowW wr B (.slice (some ⟨g, 0, none⟩) L ca) ys ∧ Below B w wr ∧ c ≤ 500 ∧ -500 ≤ c ∧ Hid (Unit → ys.length = L ∧ wordV ys = N / 5 ^ d ∧ d + c.toNat = cnt.toNat ∧ WordOk ys ∧ decide (N % 5 ^ d ≠ 0) = mo)) (fun y _ _ => (intOf y).toNat)
  case atStart =>
    refine ⟨cnt, xs, 0, false, rfl, rfl, hA, Below.refl _ _, hc2, hc1, fun _ => ⟨(HX.out ()).2.2.1, by rw [(HX.out ()).1]; simp, by omega, (HX.out ()).2.1, by simp [Nat.mod_one]⟩⟩
  case round =>
    clear hA
    obtain ⟨c, ys, d, mo, rfl, rfl, hown, hbel, hc3, hc4, HI⟩ := hrel
    have hsz := hbel.size
    by_cases hpos : 0 < c
    · obtain ⟨k, hk⟩ : ∃ k : Nat, min c 27 = k := ⟨(min c 27).toNat, by omega⟩
      have hk27 : k ≤ 27 := by omega
      have cF := fun W => fiveWalk k W hk27
      obtain ⟨F, hF⟩ : ∃ F, 5 ^ k = F := ⟨_, rfl⟩
      have hF0 : 0 < F := by rw [← hF]; exact Nat.pos_of_ne_zero (by simp)
      rw [hF, ← hk] at cF
      have cD := divideWalk g ca F B ys wr (by rw [(HI.out ()).1]; exact hown) (HI.out ()).2.2.2.1 (by omega) hF0 (by have := five_lt hk27; omega) (by rw [(HI.out ()).1]; exact la)
      obtain ⟨V, hV⟩ : ∃ V, wordV ys = V := ⟨_, rfl⟩
      obtain ⟨r, hr⟩ : ∃ r, V % F = r := ⟨_, rfl⟩
      rw [(HI.out ()).1, hV, hr] at cD
      have HK : Hid (Unit → 5 ^ k = F ∧ min c 27 = k ∧ wordV ys = V ∧ V % F = r) := fun _ => ⟨hF, hk, hV, hr⟩
      clear hF hk hF0 hk27 hV hr
      go_wp2_with fail
      with_reducible refine (cF _).mono ?_
      rintro e w' ⟨rfl, rfl⟩
      go_wp2_with fail
      with_reducible refine cD.mono ?_
      rintro e w1 ⟨zs, rfl, hrow, hzl, hb1, hval, hok⟩
      have HV : Hid (Unit → wordV zs = V / F ∧ WordOk zs ∧ zs.length = L) := fun _ => ⟨hval, hok, hzl⟩
      have hb2 : Below B w w1 := hbel.trans hb1
      clear hval hok hzl hb1 cD
      have HE : Hid (Unit → ∀ mo', mo' = (mo || decide (0 < r)) → zs.length = L ∧ wordV zs = N / 5 ^ (d + k) ∧ d + k + (c - 27).toNat = cnt.toNat ∧ WordOk zs ∧ decide (N % 5 ^ (d + k) ≠ 0) = mo') := fun _ mo' hmo => by
        obtain ⟨i1, i2, i3, i4, i5⟩ := HI.out ()
        obtain ⟨k1, k2, k3, k4⟩ := HK.out ()
        obtain ⟨v1, v2, v3⟩ := HV.out ()
        obtain ⟨f1, f2⟩ := five_step (N := N) (c := d) (d := k)
        refine ⟨v3, by rw [v1, ← k1, ← k3, i2, f1], by omega, v2, ?_⟩
        rw [hmo, ← f2, i5, ← i2, k3, k1, k4]
      cases mo
      · by_cases hr0 : r = 0
        · subst hr0
          go_wp2
          go_roundw
          case rel => exact ⟨c - 27, zs, d + k, false, by go_num, rfl, hrow, hb2, by omega, by omega, fun _ => HE.out () _ (by simp)⟩
          case measure => simp [intOf]; omega
        · have hr1 : 0 < r := by omega
          go_wp2
          go_roundw
          case rel => exact ⟨c - 27, zs, d + k, true, by go_num, rfl, hrow, hb2, by omega, by omega, fun _ => HE.out () _ (by simp; omega)⟩
          case measure => simp [intOf]; omega
      · go_wp2
        go_roundw
        case rel => exact ⟨c - 27, zs, d + k, true, by go_num, rfl, hrow, hb2, by omega, by omega, fun _ => HE.out () _ (by simp)⟩
        case measure => simp [intOf]; omega
    · have hpos' : decide (0 < c) = false := by simp; omega
      go_wp2
      go_ret
      obtain ⟨i1, i2, i3, i4, i5⟩ := HI.out ()
      have hd : d = cnt.toNat := by omega
      subst hd
      refine ⟨?_, ys, hown, i1, hbel, i2, i4⟩
      rw [← (HX.out ()).2.2.2, i5]
      rfl

end Go.Proofs.YtcabanghegddhaaGreatDoor
