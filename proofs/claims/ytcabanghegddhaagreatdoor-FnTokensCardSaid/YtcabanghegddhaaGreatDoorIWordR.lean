/-
  The walk of the program's rounding of words.
-/
import Derived.Test.YtcabanghegddhaaGreatDoorIWordA
import Derived.Test.YtcabanghegddhaaGreatDoorIRound
import Derived.Test.YtcabanghegddhaaGreatDoorNumA
import Derived.Laws.BitsAllLaws
namespace Go.Proofs.YtcabanghegddhaaGreatDoor
open Go.RowKit Go.Sort
set_option linter.unusedVariables false

theorem drop_zero {xs : List Nat} (a : Nat) (h : ∀ j, a ≤ j → xs.getD j 0 = 0) : wordV (xs.drop a) = 0 := by
  obtain ⟨n, hn⟩ : ∃ n, xs.length - a = n := ⟨_, rfl⟩
  induction n generalizing a with
  | zero => rw [List.drop_of_length_le (by omega)]; rfl
  | succ n ih => rw [wordV_drop, h a (Nat.le_refl _), ih (a + 1) (fun j hj => h j (by omega)) (by omega)]
theorem top_split {xs : List Nat} {t : Nat} (ht : t + 1 < xs.length) (h : ∀ j, t + 1 < j → xs.getD j 0 = 0) : wordV xs = wordV (xs.take t) + 2 ^ (64 * t) * (xs.getD t 0 + 18446744073709551616 * xs.getD (t + 1) 0) := by
  rw [wordV_split xs t (by omega), wordV_drop xs t, wordV_drop xs (t + 1), drop_zero (t + 1 + 1) (fun j hj => h j (by omega)), Nat.mul_zero, Nat.add_zero]
theorem take_zero_iff (xs : List Nat) (i : Nat) : wordV (xs.take (i + 1)) = 0 ↔ wordV (xs.take i) = 0 ∧ xs.getD i 0 = 0 := by
  rw [wordV_take]
  have := Nat.two_pow_pos (64 * i)
  constructor
  · intro h
    refine ⟨by omega, ?_⟩
    have h2 : 2 ^ (64 * i) * xs.getD i 0 = 0 := by omega
    rcases Nat.mul_eq_zero.1 h2 with h3 | h3
    · omega
    · exact h3
  · rintro ⟨h1, h2⟩
    rw [h1, h2, Nat.mul_zero]
theorem or_high {h f m : Nat} (hm : m < 2 ^ f) : h * 2 ^ f ||| m = h * 2 ^ f + m := by
  rw [Nat.mul_comm, ← Nat.two_pow_add_eq_or_of_lt hm]
theorem or_zero_iff (a b : Nat) : a ||| b = 0 ↔ a = 0 ∧ b = 0 := Nat.or_eq_zero_iff

set_option maxHeartbeats 2000000 in
set_option maxRecDepth 100000 in
theorem roundedWalk (g ca B : Nat) (xs : List Nat) (e0 : Int) (more : Bool) (w : World) (hA : RowW w B (.slice (some ⟨g, 0, none⟩) xs.length ca) xs) (oa : WordOk xs) (h2 : 2 ≤ xs.length) (la : xs.length ≤ 1000) (he1 : -9000 ≤ e0) (he2 : e0 ≤ 9000) (hQ : 18446744073709551616 ≤ wordV xs) :
    Calls Tryz.prog 78 #[.slice (some ⟨g, 0, none⟩) xs.length ca, .int .i64 e0, .bool more] w fun e w' => e = .returned (.int .u64 (roundN (wordV xs) e0 more : Nat)) ∧ Below w.heap.size w w' := by
  obtain ⟨R, hR⟩ : ∃ R, roundN (wordV xs) e0 more = R := ⟨_, rfl⟩
  rw [hR]
  obtain ⟨L, hL⟩ : ∃ L, xs.length = L := ⟨_, rfl⟩
  have hc : ∀ j, j < L → w.cell? ⟨g, j, none⟩ = some (.int .u64 (xs.getD j 0 : Nat)) := fun j hj => by
    obtain ⟨ga, hga, h⟩ := hA.at (i := j) (by omega)
    cases hga
    exact h
  have HC : Hid (∀ j, j < L → w.cell? ⟨g, j, none⟩ = some (.int .u64 (xs.getD j 0 : Nat))) := hc
  have HH : Hid (Unit → roundN (wordV xs) e0 more = R ∧ xs.length = L ∧ WordOk xs ∧ 18446744073709551616 ≤ wordV xs) := fun _ => ⟨hR, hL, oa, hQ⟩
  rw [hL] at h2 la
  rw [hL]
  have hca : L ≤ ca := by
    rcases hA.2 with ⟨h', _⟩ | ⟨g', cap', cur, h', _, _, hnc, _⟩
    · cases h'
    · cases h'
      omega
  clear hR hL hc oa hQ hA
  go_enter Tryz.func78, Tryz.ntmps78
  go_upto_region 2 with fail
  go_loop [7] (fun y => ∃ t : Nat, y = .int .i64 (t + 1 : Nat) ∧ t + 1 < L ∧ Hid (∀ j, t + 1 < j → xs.getD j 0 = 0)) (fun y => (intOf y).toNat)
  case atStart => exact ⟨L - 2, by go_num, by omega, fun j hj => by rw [List.getD_eq_getElem?_getD, List.getElem?_eq_none (by have := (HH.out ()).2.1; omega)]; rfl⟩
  case round =>
    obtain ⟨t, rfl, ht, HT⟩ := hrel
    obtain ⟨h, hh⟩ : ∃ h, xs.getD (t + 1) 0 = h := ⟨_, rfl⟩
    have hcell := HC.out (t + 1) ht
    rw [hh] at hcell
    by_cases hz : h = 0 ∧ 0 < t
    · obtain ⟨hz1, hz2⟩ := hz
      subst hz1
      have HN : Hid (∀ j, t - 1 + 1 < j → xs.getD j 0 = 0) := fun j hj => by
        by_cases hjt : j = t + 1
        · rw [hjt]; exact hh
        · exact HT.out j (by omega)
      clear HT hh
      go_wp2
      go_round
      case rel => exact ⟨t - 1, by go_num, by omega, HN⟩
      case measure => simp [intOf]
    · have hh0 : h ≠ 0 := fun h0 => by
        have ht0 : t = 0 := by omega
        subst ht0
        have h1 := top_split (t := 0) (by have := (HH.out ()).2.1; omega) HT.out
        have h3 := (HH.out ()).2.2.2
        have h4 := wordOk_at (HH.out ()).2.2.1 0
        rw [hh, h0, List.take_zero] at h1
        simp [wordV] at h1
        simp at h4
        omega
      have oh : h < 18446744073709551616 := by rw [← hh]; exact wordOk_at (HH.out ()).2.2.1 _
      obtain ⟨f, M, hf, hM1, hM2, hMm, cL⟩ := lz_any h oh hh0
      obtain ⟨l, hl⟩ : ∃ l, xs.getD t 0 = l := ⟨_, rfl⟩
      have ol : l < 18446744073709551616 := by rw [← hl]; exact wordOk_at (HH.out ()).2.2.1 _
      have hcl := HC.out t (by omega)
      rw [hl] at hcl
      have dM : IntKind.u64.wrap ((h : Int) * 2 ^ f) = M := by
        have e1 : (h : Int) * 2 ^ f = ((h * 2 ^ f : Nat) : Int) := by simp
        rw [e1, ← hMm]
        show (M : Int) % 18446744073709551616 = M
        omega
      obtain ⟨m, hm⟩ : ∃ m, l / 2 ^ (64 - f) = m := ⟨_, rfl⟩
      have hmf : m < 2 ^ f := by
        rw [← hm, Nat.div_lt_iff_lt_mul (Nat.two_pow_pos _), ← Nat.pow_add, (by omega : f + (64 - f) = 64)]
        exact ol
      have dm : (l : Int) / 2 ^ (64 - f) = m := by rw [← hm]; simp
      have hpf : 2 ^ f ≤ 2 ^ 63 := Nat.pow_le_pow_right (by decide) hf
      have hMm2 : M + m < 18446744073709551616 := by
        have hle : h * 2 ^ f + 2 ^ f ≤ 2 ^ (64 - f) * 2 ^ f := by
          have : h < 2 ^ (64 - f) := by
            refine Nat.lt_of_mul_lt_mul_right (a := 2 ^ f) ?_
            rw [← Nat.pow_add, (by omega : 64 - f + f = 64), ← hMm]
            exact hM2
          have : (h + 1) * 2 ^ f ≤ 2 ^ (64 - f) * 2 ^ f := Nat.mul_le_mul_right _ this
          rw [Nat.add_mul] at this
          omega
        rw [← Nat.pow_add, (by omega : 64 - f + f = 64), ← hMm] at hle
        have : (2 : Nat) ^ 64 = 18446744073709551616 := rfl
        omega
      have dor : bits .or .u64 (M : Int) (m : Int) = ((M + m : Nat) : Int) := by
        rw [u64_or_nat M m hM2 (by omega), hMm, or_high hmf]
      obtain ⟨Z, hZ⟩ : ∃ Z, M + m = Z := ⟨_, rfl⟩
      rw [hZ] at dor hMm2
      obtain ⟨l0, hl0⟩ : ∃ l0, l * 2 ^ f % 18446744073709551616 = l0 := ⟨_, rfl⟩
      have dl : IntKind.u64.wrap ((l : Int) * 2 ^ f) = l0 := by
        have e1 : (l : Int) * 2 ^ f = ((l * 2 ^ f : Nat) : Int) := by simp
        rw [e1]
        generalize l * 2 ^ f = q at *
        show (q : Int) % 18446744073709551616 = l0
        omega
      have HE : Hid (Unit → R = roundN Z (e0 + (t + 1 : Nat) * 64 - f) (more || decide (wordV (xs.take t) ≠ 0 ∨ l0 ≠ 0)) ∧ l0 < 18446744073709551616 ∧ 9223372036854775808 ≤ Z) := fun _ => by
        refine ⟨?_, by omega, by omega⟩
        have o1 := (HH.out ()).2.2.1
        have h5 : wordV (xs.take t) < 2 ^ (64 * t) := by
          have := wordV_lt (xs := xs.take t) (fun x hx => o1 x (List.mem_of_mem_take hx))
          rw [List.length_take, Nat.min_eq_left (by have := (HH.out ()).2.1; omega)] at this
          exact this
        rw [← (HH.out ()).1, top_split (by have := (HH.out ()).2.1; omega) HT.out, hh, hl, rounded_end more h5 ol hf hMm hM1 hM2, hm, hZ, hl0]
      have HZ1 : Hid (Unit → Z < 18446744073709551616) := fun _ => by omega
      have hb0 : ((h : Int) == 0) = false := by rw [beq_eq_false_iff_ne]; omega
      have hz' : ¬(h = 0 ∧ 0 < t) := hz
      clear hz hz'
      have HL : Hid (∀ j, j < t → w.cell? ⟨g, j, none⟩ = some (.int .u64 (xs.getD j 0 : Nat)) ∧ xs.getD j 0 < 18446744073709551616) := fun j hj => ⟨HC.out j (by omega), wordOk_at (HH.out ()).2.2.1 j⟩
      clear hh HT HC oh hMm hM1 hM2 hl ol hm hmf hpf hMm2 hZ hl0 HH
      have hf' : (f : Int) ≤ 63 := by omega
      have ht0 : (0 : Int) ≤ t := by omega
      by_cases hcond : 0 < t
      · go_wp2_with fail
        with_reducible refine (cL _).mono ?_
        rintro e w' ⟨rfl, rfl⟩
        go_wp2_with fail
        go_big_region
        go_upto_region 8 with fail
        go_loop [10, 59] (fun x y => ∃ i X : Nat, y = .int .i64 i ∧ x = .int .u64 X ∧ (i : Int) ≤ t ∧ Hid (Unit → X < 18446744073709551616 ∧ (X = 0 ↔ l0 = 0 ∧ wordV (xs.take i) = 0))) (fun _ y => t - (intOf y).toNat)
        case atStart => exact ⟨0, l0, rfl, rfl, by omega, fun _ => ⟨(HE.out ()).2.1, by rw [List.take_zero]; simp [wordV]⟩⟩
        case round =>
          obtain ⟨i, X, rfl, rfl, hi, HX⟩ := hrel
          by_cases hlt : (i : Int) < t
          · obtain ⟨hcx, oy⟩ := HL.out i (by omega)
            obtain ⟨y, hy⟩ : ∃ y, xs.getD i 0 = y := ⟨_, rfl⟩
            rw [hy] at hcx oy
            have hcx' : w.drew.cell? ⟨g, i, none⟩ = some (.int .u64 (y : Int)) := hcx
            have hor : bits .or .u64 (X : Int) (y : Int) = ((X ||| y : Nat) : Int) := u64_or_nat X y (HX.out ()).1 oy
            have HN : Hid (Unit → (X ||| y) < 18446744073709551616 ∧ ((X ||| y) = 0 ↔ l0 = 0 ∧ wordV (xs.take (i + 1)) = 0)) := fun _ => by
              refine ⟨Nat.or_lt_two_pow (n := 64) (HX.out ()).1 oy, ?_⟩
              rw [or_zero_iff, (HX.out ()).2, take_zero_iff, hy, and_assoc]
            obtain ⟨Y, hY⟩ : ∃ Y, (X ||| y) = Y := ⟨_, rfl⟩
            rw [hY] at hor HN
            clear hcx oy hy HX hY
            go_wp2
            go_round
            case rel => exact ⟨i + 1, Y, by go_num, by simp, by omega, HN⟩
            case measure => simp [intOf]; omega
          · have hit : i = t := by omega
            subst hit
            have hlt' : decide ((i : Int) < i) = false := by simp
            obtain ⟨E, hE⟩ : ∃ E : Int, e0 + (i + 1 : Nat) * 64 - f = E := ⟨_, rfl⟩
            have HR : Hid (Unit → ∀ st, st = (more || decide (X ≠ 0)) → signN false (roundN Z E (st && decide (72057594037927936 ≤ Z))) = R) := fun _ st hst => by
              rw [signN_false, (HE.out ()).1, hE, hst]
              have h1 : decide (72057594037927936 ≤ Z) = true := by have := (HE.out ()).2.2; simp; omega
              have h2 : decide (X ≠ 0) = decide (wordV (xs.take i) ≠ 0 ∨ l0 ≠ 0) := by
                rw [Bool.eq_iff_iff, decide_eq_true_iff, decide_eq_true_iff, ne_eq, (HX.out ()).2]
                omega
              rw [h1, h2, Bool.and_true]
            have cR : ∀ st, st = (more || decide (X ≠ 0)) → Calls Tryz.prog 104 #[.bool false, .int .u64 Z, .int .i64 E, .bool st] w.drew fun en w' => en = .returned (.int .u64 (R : Int)) ∧ w.drew = w' := fun st hst => by
              have := iRound_w false st Z E w.drew (HZ1.out ()) (by omega) (by omega)
              rw [HR.out () st hst] at this
              exact this
            have hE' : e0 + ((i : Int) + 1) * 64 - f = E := by omega
            clear HR
            clear hE HX HE
            cases more
            · by_cases hX : X = 0
              · subst hX
                go_wp2_with fail
                with_reducible refine (cR false (by simp)).mono ?_
                rintro e w' ⟨rfl, rfl⟩
                go_wp2
                go_ret
                exact ⟨rfl, (Below.refl _ _).drew⟩
              · have hX' : 0 < X := by omega
                go_wp2_with fail
                with_reducible refine (cR true (by simp; omega)).mono ?_
                rintro e w' ⟨rfl, rfl⟩
                go_wp2
                go_ret
                exact ⟨rfl, (Below.refl _ _).drew⟩
            · go_wp2_with fail
              with_reducible refine (cR true (by simp)).mono ?_
              rintro e w' ⟨rfl, rfl⟩
              go_wp2
              go_ret
              exact ⟨rfl, (Below.refl _ _).drew⟩
      · have hcond' : decide (0 < t) = false := by simp; omega
        go_wp2_with fail
        with_reducible refine (cL _).mono ?_
        rintro e w' ⟨rfl, rfl⟩
        go_wp2_with fail
        go_big_region
        go_upto_region 8 with fail
        go_loop [10, 59] (fun x y => ∃ i X : Nat, y = .int .i64 i ∧ x = .int .u64 X ∧ (i : Int) ≤ t ∧ Hid (Unit → X < 18446744073709551616 ∧ (X = 0 ↔ l0 = 0 ∧ wordV (xs.take i) = 0))) (fun _ y => t - (intOf y).toNat)
        case atStart => exact ⟨0, l0, rfl, rfl, by omega, fun _ => ⟨(HE.out ()).2.1, by rw [List.take_zero]; simp [wordV]⟩⟩
        case round =>
          obtain ⟨i, X, rfl, rfl, hi, HX⟩ := hrel
          by_cases hlt : (i : Int) < t
          · obtain ⟨hcx, oy⟩ := HL.out i (by omega)
            obtain ⟨y, hy⟩ : ∃ y, xs.getD i 0 = y := ⟨_, rfl⟩
            rw [hy] at hcx oy
            have hcx' : w.drew.cell? ⟨g, i, none⟩ = some (.int .u64 (y : Int)) := hcx
            have hor : bits .or .u64 (X : Int) (y : Int) = ((X ||| y : Nat) : Int) := u64_or_nat X y (HX.out ()).1 oy
            have HN : Hid (Unit → (X ||| y) < 18446744073709551616 ∧ ((X ||| y) = 0 ↔ l0 = 0 ∧ wordV (xs.take (i + 1)) = 0)) := fun _ => by
              refine ⟨Nat.or_lt_two_pow (n := 64) (HX.out ()).1 oy, ?_⟩
              rw [or_zero_iff, (HX.out ()).2, take_zero_iff, hy, and_assoc]
            obtain ⟨Y, hY⟩ : ∃ Y, (X ||| y) = Y := ⟨_, rfl⟩
            rw [hY] at hor HN
            clear hcx oy hy HX hY
            go_wp2
            go_round
            case rel => exact ⟨i + 1, Y, by go_num, by simp, by omega, HN⟩
            case measure => simp [intOf]; omega
          · have hit : i = t := by omega
            subst hit
            have hlt' : decide ((i : Int) < i) = false := by simp
            obtain ⟨E, hE⟩ : ∃ E : Int, e0 + (i + 1 : Nat) * 64 - f = E := ⟨_, rfl⟩
            have HR : Hid (Unit → ∀ st, st = (more || decide (X ≠ 0)) → signN false (roundN Z E (st && decide (72057594037927936 ≤ Z))) = R) := fun _ st hst => by
              rw [signN_false, (HE.out ()).1, hE, hst]
              have h1 : decide (72057594037927936 ≤ Z) = true := by have := (HE.out ()).2.2; simp; omega
              have h2 : decide (X ≠ 0) = decide (wordV (xs.take i) ≠ 0 ∨ l0 ≠ 0) := by
                rw [Bool.eq_iff_iff, decide_eq_true_iff, decide_eq_true_iff, ne_eq, (HX.out ()).2]
                omega
              rw [h1, h2, Bool.and_true]
            have cR : ∀ st, st = (more || decide (X ≠ 0)) → Calls Tryz.prog 104 #[.bool false, .int .u64 Z, .int .i64 E, .bool st] w.drew fun en w' => en = .returned (.int .u64 (R : Int)) ∧ w.drew = w' := fun st hst => by
              have := iRound_w false st Z E w.drew (HZ1.out ()) (by omega) (by omega)
              rw [HR.out () st hst] at this
              exact this
            have hE' : e0 + ((i : Int) + 1) * 64 - f = E := by omega
            clear HR
            clear hE HX HE
            cases more
            · by_cases hX : X = 0
              · subst hX
                go_wp2_with fail
                with_reducible refine (cR false (by simp)).mono ?_
                rintro e w' ⟨rfl, rfl⟩
                go_wp2
                go_ret
                exact ⟨rfl, (Below.refl _ _).drew⟩
              · have hX' : 0 < X := by omega
                go_wp2_with fail
                with_reducible refine (cR true (by simp; omega)).mono ?_
                rintro e w' ⟨rfl, rfl⟩
                go_wp2
                go_ret
                exact ⟨rfl, (Below.refl _ _).drew⟩
            · go_wp2_with fail
              with_reducible refine (cR true (by simp)).mono ?_
              rintro e w' ⟨rfl, rfl⟩
              go_wp2
              go_ret
              exact ⟨rfl, (Below.refl _ _).drew⟩

theorem lz_none (W : World) : Calls Tryz.prog 103 #[.int .u64 0] W fun e w' => e = .returned (.int .i64 64) ∧ W = w' :=
  (Tryz.bits_LeadingZeros64 0 W (by decide) (by decide)).mono (by rintro e w' ⟨rfl, rfl⟩; exact ⟨rfl, rfl⟩)

set_option maxHeartbeats 2000000 in
set_option maxRecDepth 100000 in
theorem roundedNone (g ca B L : Nat) (e0 : Int) (w : World) (hA : RowW w B (.slice (some ⟨g, 0, none⟩) L ca) (List.replicate L 0)) (h2 : 2 ≤ L) (la : L ≤ 1000) (he1 : -9000 ≤ e0) (he2 : e0 ≤ 9000) :
    Calls Tryz.prog 78 #[.slice (some ⟨g, 0, none⟩) L ca, .int .i64 e0, .bool false] w fun e w' => e = .returned (.int .u64 0) ∧ Below w.heap.size w w' := by
  have hc : ∀ j, j < L → w.cell? ⟨g, j, none⟩ = some (.int .u64 0) := fun j hj => by
    have hA' : RowW w B (.slice (some ⟨g, 0, none⟩) (List.replicate L 0).length ca) (List.replicate L 0) := by rw [List.length_replicate]; exact hA
    obtain ⟨ga, hga, h⟩ := hA'.at (i := j) (by simpa using hj)
    cases hga
    rw [List.getD_eq_getElem?_getD, List.getElem?_eq_getElem (by simpa using hj), List.getElem_replicate] at h
    exact h
  have HC : Hid (∀ j, j < L → w.cell? ⟨g, j, none⟩ = some (.int .u64 0)) := hc
  have hca : L ≤ ca := by
    rcases hA.2 with ⟨h', _⟩ | ⟨g', cap', cur, h', _, _, hnc, _⟩
    · cases h'
    · injection h' with _ _ h4
      rw [h4]
      simpa using hnc
  have cR : Calls Tryz.prog 104 #[.bool false, .int .u64 0, .int .i64 e0, .bool false] w.drew fun en w' => en = .returned (.int .u64 0) ∧ w.drew = w' := by
    have := iRound_w false false 0 e0 w.drew (by decide) (by omega) (by omega)
    rw [roundN_nil] at this
    exact this
  have cL := fun W => lz_none W
  have hor : bits .or .u64 0 0 = 0 := by kernel_rfl
  clear hc hA
  go_enter Tryz.func78, Tryz.ntmps78
  go_upto_region 2 with fail
  go_loop [7] (fun y => ∃ t : Nat, y = .int .i64 (t + 1 : Nat) ∧ t + 1 < L) (fun y => (intOf y).toNat)
  case atStart => exact ⟨L - 2, by go_num, by omega⟩
  case round =>
    obtain ⟨t, rfl, ht⟩ := hrel
    have hcell := HC.out (t + 1) ht
    by_cases hz : 0 < t
    · go_wp2
      go_round
      case rel => exact ⟨t - 1, by go_num, by omega⟩
      case measure => simp [intOf]
    · have ht0 : t = 0 := by omega
      subst ht0
      have hc0 := HC.out 0 (by omega)
      go_wp2_with fail
      with_reducible refine (cL _).mono ?_
      rintro e w' ⟨rfl, rfl⟩
      go_wp2_with fail
      go_big_region
      go_upto_region 8 with fail
      go_loop [10, 59] (fun x y => x = .int .u64 0 ∧ y = .int .i64 0) (fun _ _ => 0)
      case atStart => exact ⟨rfl, rfl⟩
      case round =>
        obtain ⟨rfl, rfl⟩ := hrel
        go_wp2_with fail
        with_reducible refine cR.mono ?_
        rintro e w' ⟨rfl, rfl⟩
        go_wp2
        go_ret
        exact ⟨rfl, (Below.refl _ _).drew⟩

end Go.Proofs.YtcabanghegddhaaGreatDoor
