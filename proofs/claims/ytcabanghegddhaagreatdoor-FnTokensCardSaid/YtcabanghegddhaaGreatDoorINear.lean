/-
  The walk of the program's Nearest.
-/
import Derived.Test.YtcabanghegddhaaGreatDoorIWordE
import Derived.Test.YtcabanghegddhaaGreatDoorIWordR
import Derived.Test.YtcabanghegddhaaGreatDoorIWordO
import Derived.Test.YtcabanghegddhaaGreatDoorIWordA
import Derived.Test.YtcabanghegddhaaGreatDoorNumA
import Derived.Test.YtcabanghegddhaaGreatDoorIGreat
import Derived.Test.YtcabanghegddhaaGreatDoorNearA
namespace Go.Proofs.YtcabanghegddhaaGreatDoor
open Go.RowKit
set_option linter.unusedVariables false

theorem zero_list : ∀ l : List Nat, wordV l = 0 → l = List.replicate l.length 0
  | [], _ => rfl
  | a :: l, h => by
    rw [wordV] at h
    have h1 : a = 0 := by omega
    have h2 : wordV l = 0 := by omega
    rw [List.length_cons, List.replicate_succ, ← zero_list l h2, h1]

theorem row_size {w : World} {B g c : Nat} {xs : List Nat} (h : RowW w B (.slice (some ⟨g, 0, none⟩) xs.length c) xs) : B ≤ g ∧ g < w.heap.size := World.ownsRow.lt h g rfl

set_option maxHeartbeats 4000000 in
set_option maxRecDepth 100000 in
theorem nearWalk (s : ByteArray) (x : Int) (w : World) (h1 : 1 ≤ s.size) (h60 : s.size ≤ 60) (hF : Figs s.data.toList) (hok : figsOk s.data.toList = true) (hx1 : -500 ≤ x) (hx2 : x ≤ 500) :
    Calls Tryz.prog 62 #[.string s, .int .i64 x] w fun e w' => e = .returned (.int .u64 (nearN s.data.toList x : Nat)) ∧ Below w.heap.size w w' := by
  obtain ⟨i0, hi, hz0, hz1, hz2⟩ := info_parts Tryz.infoWord
  have cF := fun W => okWalk s W
  rw [hok] at cF
  have cW := wordsWalk s w (by omega) h1 hF
  obtain ⟨R, hR⟩ : ∃ R, nearN s.data.toList x = R := ⟨_, rfl⟩
  have HR : Hid (Unit → nearN s.data.toList x = R ∧ figsOk s.data.toList = true ∧ s.data.toList.length = s.size ∧ Figs s.data.toList) := fun _ => ⟨hR, hok, size_list s, hF⟩
  rw [hR]
  clear hR hok hF
  have h60' : (s.size : Int) ≤ 60 := by omega
  obtain ⟨d, hd, hdv⟩ : ∃ d : Nat, (max (-x) 0 + 27 - 1).tdiv 27 = d ∧ ((-x).toNat + 26) / 27 = d := by
    refine ⟨((-x).toNat + 26) / 27, ?_, rfl⟩
    rw [(by omega : max (-x) 0 + 27 - 1 = (((-x).toNat + 26 : Nat) : Int))]
    rfl
  have hd2 : (d : Int) ≤ 20 := by omega
  have HD : Hid (Unit → ((-x).toNat + 26) / 27 = d) := fun _ => hdv
  clear hdv
  go_enter Tryz.func62, Tryz.ntmps62
  go_wp2_with fail
  with_reducible refine (cF _).mono ?_
  rintro e w' ⟨rfl, rfl⟩
  go_wp2_with fail
  with_reducible refine cW.mono ?_
  rintro e w1 ⟨v1, xs, rfl, r1, b1, val1, ok1, top1, len1⟩
  have cT := timesFivesWalk v1 xs x w.heap.size w1 r1 ok1 top1.1 b1.size hx1 hx2 (by omega)
  have HV1 : Hid (Unit → wordV xs = digV s.data.toList ∧ TopW xs) := fun _ => ⟨val1, top1⟩
  clear val1 ok1 top1 r1 cW
  go_wp2_with fail
  with_reducible refine cT.mono ?_
  rintro e w2 ⟨v2, ys, rfl, r2, b2, val2, ok2, top2, l2, l2'⟩
  obtain ⟨g2, c2, rfl, _, _⟩ := r2.nonempty (by omega)
  obtain ⟨L, hL⟩ : ∃ L, ys.length = L := ⟨_, rfl⟩
  have HV2 : Hid (Unit → wordV ys = wordV xs * 5 ^ x.toNat ∧ (2 ^ (64 * (xs.length - 1)) ≤ wordV xs → 2 ^ (64 * (ys.length - 1)) ≤ wordV ys) ∧ WordOk ys ∧ ys.length = L) := fun _ => ⟨val2, top2, ok2, hL⟩
  have HR2 : Hid (RowW w2 w.heap.size (.slice (some ⟨g2, 0, none⟩) ys.length c2) ys) := r2
  have hL1 : 1 ≤ L := by omega
  have hL2 : (L : Int) ≤ 120 := by omega
  simp only [hL]
  clear val2 top2 ok2 cT r2 l2 l2' hL len1
  obtain ⟨k, hk⟩ : ∃ k : Nat, max ((d : Int) + 2 - L) 0 = k := ⟨(max ((d : Int) + 2 - L) 0).toNat, by omega⟩
  have HK : Hid (Unit → d + 2 ≤ k + L ∧ k ≤ 25) := fun _ => by omega
  have hk2 : (k : Int) ≤ 25 := by omega
  have b12 : Below w.heap.size w w2 := b1.trans b2
  have hs2 := b12.size
  obtain ⟨g3, hg3⟩ : ∃ g3, w2.heap.size = g3 := ⟨_, rfl⟩
  obtain ⟨w3, hmk, r3, b3, s3⟩ : ∃ w3, (Instr.makeSlice 93 (.int .i64 k) (.int .i64 k)).run Tryz.prog w2 = .ok (.slice (some ⟨g3, 0, none⟩) k k) w3 ∧ RowW w3 w.heap.size (.slice (some ⟨g3, 0, none⟩) k k) (List.replicate k 0) ∧ Below w2.heap.size w2 w3 ∧ w3.heap.size = g3 + 1 := by
    have h := run_make (P := Tryz.prog) w2 93 28 i0 (.int .u64 0) Tryz.underlying93 hi hz0 .i64 .i64 (k : Int) (k : Int) (by omega) (by omega) (by rw [hz2]; omega) (by omega)
    rw [Int.toNat_natCast, hg3] at h
    refine ⟨_, h, ?_, (Below.refl _ _).alloc (Nat.le_refl _) _, by simp [hg3]⟩
    refine ⟨by simp, .inr ⟨g3, k, _, by simp, by omega, by rw [← hg3]; exact heap_alloc_new w2 _, by simp, by unfold maxLen; omega, by simp [size_madeCells, hz1, Value.cells], ?_⟩⟩
    rw [hz1, List.length_replicate]
    show List.take (k * 1) (madeCells #[.int .u64 0] (k * 1)).toList = _
    rw [toList_madeCells_one, Nat.mul_one, List.map_replicate, List.take_of_length_le (by simp)]
    rfl
  have HR3 : Hid (RowW w3 w.heap.size (.slice (some ⟨g3, 0, none⟩) k k) (List.replicate k 0) ∧ RowW w3 w.heap.size (.slice (some ⟨g2, 0, none⟩) ys.length c2) ys) := ⟨r3, HR2.out.below b3⟩
  have bq := heap_alloc_new w3 (.cells #[.slice (some ⟨g3, 0, none⟩) k k, .slice (some ⟨g2, 0, none⟩) L c2] 93)
  obtain ⟨w4, hw4⟩ : ∃ w4, w3.alloc (.cells #[.slice (some ⟨g3, 0, none⟩) k k, .slice (some ⟨g2, 0, none⟩) L c2] 93) = w4 := ⟨_, rfl⟩
  have b4 : Below w3.heap.size w3 w4 := by rw [← hw4]; exact (Below.refl _ _).alloc (Nat.le_refl _) _
  rw [hw4, s3] at bq
  have cC := concatWalk (g3 + 1) w.heap.size w.heap.size g3 k g2 c2 (List.replicate k 0) ys w4 (by rw [List.length_replicate, (HV2.out ()).2.2.2]; exact bq) (by rw [List.length_replicate]; exact HR3.out.1.below b4) (HR3.out.2.below b4) (by rw [List.length_replicate]; omega) (by rw [(HV2.out ()).2.2.2]; omega) (by rw [(HV2.out ()).2.2.2]; omega)
  have b14 : Below w.heap.size w w4 := (b12.trans (b3.mono (by omega))).trans (b4.mono (by omega))
  clear r3 bq
  go_wp2_with fail
  with_reducible refine cC.mono ?_
  rintro e w5 ⟨v5, rfl, r5, b5⟩
  obtain ⟨M, hM⟩ : ∃ M, k + L = M := ⟨_, rfl⟩
  have hM2 : (List.replicate k 0 ++ ys).length = M := by rw [List.length_append, List.length_replicate, (HV2.out ()).2.2.2, hM]
  obtain ⟨zs, hzs⟩ : ∃ zs, List.replicate k 0 ++ ys = zs := ⟨_, rfl⟩
  rw [hzs] at hM2 r5
  obtain ⟨g5, c5, rfl, _, _⟩ := r5.nonempty (by omega)
  have hM3 : (k : Int) + L = M := by omega
  have vz : wordV zs = 2 ^ (64 * k) * wordV ys := by rw [← hzs, wordV_zeros]
  have oz : WordOk zs := by rw [← hzs]; exact wordOk_append (wordOk_zeros k) (HV2.out ()).2.2.1
  have b15 : Below w.heap.size w w5 := b14.trans (b5.mono b14.size)
  have cD := divFivesWalk g5 c5 w4.heap.size zs (-x) w5 r5 oz b5.size (by omega) (by omega) (by omega)
  obtain ⟨more, hmore⟩ : ∃ more, decide (wordV zs % 5 ^ (-x).toNat ≠ 0) = more := ⟨_, rfl⟩
  rw [hM2, hmore] at cD
  simp only [hM2]
  have HZ : Hid (Unit → wordV zs = 2 ^ (64 * k) * wordV ys ∧ decide (wordV zs % 5 ^ (-x).toNat ≠ 0) = more ∧ zs.length = M ∧ k + L = M) := fun _ => ⟨vz, hmore, hM2, hM⟩
  clear vz oz hmore hM2 hzs r5 cC hM
  go_wp2_with fail
  with_reducible refine cD.mono ?_
  rintro e w6 ⟨us, rfl, r6, l6, b6, val6, ok6⟩
  have b16 : Below w.heap.size w w6 := b15.trans (b6.mono b14.size)
  have HU : Hid (Unit → wordV us = wordV zs / 5 ^ (-x).toNat ∧ WordOk us ∧ us.length = M) := fun _ => ⟨val6, ok6, l6⟩
  clear val6 ok6 l6 cD
  have hkL := HK.out ()
  by_cases hD : digV s.data.toList = 0
  · have hu0 : us = List.replicate M 0 := by
      have e1 : wordV us = 0 := by
        rw [(HU.out ()).1, (HZ.out ()).1, (HV2.out ()).1, (HV1.out ()).1, hD, Nat.zero_mul, Nat.mul_zero, Nat.zero_div]
      rw [zero_list us e1, (HU.out ()).2.2]
    have hm0 : more = false := by
      rw [← (HZ.out ()).2.1, (HZ.out ()).1, (HV2.out ()).1, (HV1.out ()).1, hD, Nat.zero_mul, Nat.mul_zero, Nat.zero_mod]
      simp
    rw [hu0] at r6
    subst hm0
    have cR := roundedNone g5 c5 w4.heap.size M (x - (k : Int) * 64) w6 r6 (by omega) (by omega) (by omega) (by omega)
    have HE : Hid (Unit → R = 0) := fun _ => by
      rw [← (HR.out ()).1]
      refine nearN_none (fun h => ?_)
      have := h.2.2.2.2
      rw [zeroB_val (HR.out ()).2.2.2, hD] at this
      exact absurd this (by decide)
    clear hD hu0 r6
    go_wp2_with fail
    with_reducible refine cR.mono ?_
    rintro e w7 ⟨rfl, b7⟩
    go_wp2
    go_ret
    exact ⟨by rw [HE.out ()]; rfl, chain b16 b7⟩
  · have hxs : 2 ^ (64 * (xs.length - 1)) ≤ wordV xs := by
      obtain ⟨t1, t2⟩ := (HV1.out ()).2
      rcases t2 with t2 | ⟨t2, _⟩
      · exact t2
      · rw [(HV1.out ()).1] at t2; exact absurd t2 hD
    have hys : 2 ^ (64 * (L - 1)) ≤ digV s.data.toList * 5 ^ x.toNat := by
      have := (HV2.out ()).2.1 hxs
      rw [(HV2.out ()).2.2.2, (HV2.out ()).1, (HV1.out ()).1] at this
      exact this
    have hQ : 18446744073709551616 ≤ wordV us := by
      rw [(HU.out ()).1, (HZ.out ()).1, (HV2.out ()).1, (HV1.out ()).1]
      exact near_great hys hL1 (by rw [HD.out ()]; omega)
    have hl6 := (HU.out ()).2.2
    have cR := roundedWalk g5 c5 w4.heap.size us (x - (k : Int) * 64) more w6 (by rw [hl6]; exact r6) (HU.out ()).2.1 (by omega) (by omega) (by omega) (by omega) hQ
    have hE : roundN (wordV us) (x - (k : Int) * 64) more = R := by
      rw [← (HR.out ()).1, ← (HZ.out ()).2.1, (HU.out ()).1, (HZ.out ()).1, (HV2.out ()).1, (HV1.out ()).1, near_words hx1 hx2 hys hL1 (by rw [HD.out ()]; omega) (by omega)]
      unfold nearN
      rw [if_pos ⟨(HR.out ()).2.1, by rw [(HR.out ()).2.2.1]; exact h60, hx1, hx2, by rw [zeroB_val (HR.out ()).2.2.2]; simp [hD]⟩]
    rw [hE, hl6] at cR
    clear hD hxs hys hQ hE hl6 r6
    go_wp2_with fail
    with_reducible refine cR.mono ?_
    rintro e w7 ⟨rfl, b7⟩
    go_wp2
    go_ret
    exact ⟨rfl, chain b16 b7⟩

set_option maxHeartbeats 1000000 in
set_option maxRecDepth 100000 in
theorem iNearest (s : ByteArray) (x : Int) (w : World) (hs : s.size ≤ 1048576) (hx1 : -9223372036854775808 ≤ x) (hx2 : x ≤ 9223372036854775807) :
    Calls Tryz.prog 62 #[.string s, .int .i64 x] w fun e w' => e = .returned (.int .u64 (nearN s.data.toList x : Nat)) ∧ Below w.heap.size w w' := by
  by_cases hall : figsOk s.data.toList = true ∧ s.size ≤ 60 ∧ -500 ≤ x ∧ x ≤ 500
  · obtain ⟨a1, a2, a3, a4⟩ := hall
    have hne : 1 ≤ s.size := by
      rcases Nat.eq_zero_or_pos s.size with h | h
      · exfalso
        have hl : s.data.toList = [] := List.eq_nil_of_length_eq_zero (by rw [size_list, h])
        rw [hl] at a1
        exact absurd a1 (by decide)
      · exact h
    exact nearWalk s x w hne a2 (figsOk_figs a1) a1 a3 a4
  · have hz : nearN s.data.toList x = 0 := nearN_none (fun h => hall ⟨h.1, by have := h.2.1; rw [size_list] at this; exact this, h.2.2.1, h.2.2.2.1⟩)
    have z0 : ((0 : Nat) : Int) = 0 := rfl
    rw [hz, z0]
    have cF := fun W => okWalk s W
    obtain ⟨f, hf⟩ : ∃ f, figsOk s.data.toList = f := ⟨_, rfl⟩
    rw [hf] at cF hall
    clear hf hz
    cases f
    · clear hall
      go_enter Tryz.func62, Tryz.ntmps62
      go_wp2_with fail
      with_reducible refine (cF _).mono ?_
      rintro e w' ⟨rfl, rfl⟩
      go_wp2
      go_ret
      exact ⟨rfl, Below.refl _ _⟩
    · by_cases h60 : (60 : Int) < s.size
      · clear hall
        go_enter Tryz.func62, Tryz.ntmps62
        go_wp2_with fail
        with_reducible refine (cF _).mono ?_
        rintro e w' ⟨rfl, rfl⟩
        go_wp2
        go_ret
        exact ⟨rfl, Below.refl _ _⟩
      · have h60' : decide ((60 : Int) < s.size) = false := by simp; omega
        by_cases hx3 : x < -500
        · clear hall
          go_enter Tryz.func62, Tryz.ntmps62
          go_wp2_with fail
          with_reducible refine (cF _).mono ?_
          rintro e w' ⟨rfl, rfl⟩
          go_wp2
          go_ret
          exact ⟨rfl, Below.refl _ _⟩
        · have hx3' : decide (x < -500) = false := by simp; omega
          have hx4 : 500 < x := by
            rcases Int.lt_or_le 500 x with h | h
            · exact h
            · exact absurd ⟨rfl, by omega, by omega, h⟩ hall
          clear hall
          go_enter Tryz.func62, Tryz.ntmps62
          go_wp2_with fail
          with_reducible refine (cF _).mono ?_
          rintro e w' ⟨rfl, rfl⟩
          go_wp2
          go_ret
          exact ⟨rfl, Below.refl _ _⟩

end Go.Proofs.YtcabanghegddhaaGreatDoor
