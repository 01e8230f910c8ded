/-
  Part 6 of what is proved of drawn right trees.
-/
import Derived.Test.YtcdbifcidaafnaaGreatDoorPac
import Derived.Deep.CutRange
import Derived.Test.YtcdbifcidaafnaaGreatDoorPab
import Derived.Test.YtcdbifcidaafnaaGreatDoorPaa
import Derived.Test.YtcdbifcidaafnaaGreatDoorPad

namespace Go.Proofs.YtcdbifcidaafnaaGreatDoor
open Go.RowKit
set_option linter.unusedVariables false
set_option maxHeartbeats 1000000 in
set_option maxRecDepth 100000 in
theorem specAdd_fin (a b : Nat) (w : World) (ha : a < 18446744073709551616) (hb : b < 18446744073709551616) (ka : kindN a = 4) (kb : kindN b = 4) :
    Calls Tryz.prog 36 #[.int .u64 a, .int .u64 b] w fun e w' => e = .returned (.int .u64 (addN a b : Nat)) ∧ Below w.heap.size w w' := by
  have cA := fun W => specParts_any a W ha
  have cB := fun W => specParts_any b W hb
  unfold partsV at cA cB
  obtain ⟨k1, hk1⟩ : ∃ k, kindN a = k := ⟨_, rfl⟩
  obtain ⟨k2, hk2⟩ : ∃ k, kindN b = k := ⟨_, rfl⟩
  obtain ⟨s1, hs1⟩ : ∃ k, belowN a = k := ⟨_, rfl⟩
  obtain ⟨s2, hs2⟩ : ∃ k, belowN b = k := ⟨_, rfl⟩
  obtain ⟨m1, hm1⟩ : ∃ k, mantN a = k := ⟨_, rfl⟩
  obtain ⟨m2, hm2⟩ : ∃ k, mantN b = k := ⟨_, rfl⟩
  obtain ⟨e1, he1⟩ : ∃ k, expN a = k := ⟨_, rfl⟩
  obtain ⟨e2, he2⟩ : ∃ k, expN b = k := ⟨_, rfl⟩
  have HD : Hid (Unit → addN a b = addP a b k1 k2 s1 s2 m1 m2 e1 e2) := fun _ => by rw [addN_P, hk1, hk2, hs1, hs2, hm1, hm2, he1, he2]
  rw [hk1, hs1, hm1, he1] at cA
  rw [hk2, hs2, hm2, he2] at cB
  have HF1 : Hid (Unit → Fin1 k1 m1 e1) := fun _ => by rw [← hk1, ← hm1, ← he1]; exact fin1_of a
  have HF2 : Hid (Unit → Fin1 k2 m2 e2) := fun _ => by rw [← hk2, ← hm2, ← he2]; exact fin1_of b
  obtain ⟨R, hR⟩ : ∃ R, addN a b = R := ⟨_, rfl⟩
  rw [hR] at HD ⊢
  have HK1 : Hid (Unit → k1 = 4) := fun _ => hk1.symm.trans ka
  have HK2 : Hid (Unit → k2 = 4) := fun _ => hk2.symm.trans kb
  clear hR hk1 hk2 ka kb hs1 hs2 hm1 hm2 he1 he2 ha hb
  go_enter Tryz.func36, Tryz.ntmps36
  go_wp2_with fail
  refine (cA _).mono ?_
  rintro e w1 ⟨rfl, hb1⟩
  clear cA
  go_wp2_with fail
  refine (cB _).mono ?_
  rintro e w2 ⟨rfl, hb2⟩
  clear cB
  go_upto_region 3 with fail
  have hlt : w1.heap.size < w2.heap.size := by have := hb2.size; simp at this; omega
  obtain ⟨wq, hwq⟩ : ∃ wq, w2.alloc (.cells #[.int .i64 k2, .bool s2, .int .u64 m2, .int .i64 e2] 62) = wq := ⟨_, rfl⟩
  have hQ : wq.heap[w2.heap.size]? = some (.cells #[.int .i64 k2, .bool s2, .int .u64 m2, .int .i64 e2] 62) := by rw [← hwq]; exact heap_alloc_new _ _
  have hP : wq.heap[w1.heap.size]? = some (.cells #[.int .i64 k1, .bool s1, .int .u64 m1, .int .i64 e1] 62) := by rw [← hwq]; exact (Below.heap_alloc w2 _ _ hlt).trans (alloc_kept hb2)
  have hBb : Below w.heap.size w wq := by
    have hb3 : Below w.heap.size w w2 := (hb1.alloc hb1.size _).trans (hb2.mono (by simp; exact Nat.le_succ_of_le hb1.size))
    rw [← hwq]; exact hb3.alloc hb3.size _
  have hgp : w.heap.size ≤ w1.heap.size := hb1.size
  obtain ⟨gq, hgq⟩ : ∃ g, w2.heap.size = g := ⟨_, rfl⟩
  obtain ⟨gp, hgp2⟩ : ∃ g, w1.heap.size = g := ⟨_, rfl⟩
  simp only [hwq, hgq, hgp2]
  rw [hgq] at hQ hlt
  rw [hgp2] at hP hgp hlt
  clear hwq hgq hgp2 hb1 hb2
  clear w1 w2
  have fp := fun j => frozen_of_row wq gp j _ _ hP
  have fq := fun j => frozen_of_row wq gq j _ _ hQ
  obtain ⟨p0, p1, p2, p3⟩ := cells_four hP
  obtain ⟨q0, q1, q2, q3⟩ := cells_four hQ
  have hK1 := HK1.out ()
  have hK2 := HK2.out ()
  subst hK1 hK2
  clear HK1 HK2
  have HE : Hid (Unit → R = roundZ (sumZ s1 m1 e1 s2 m2 e2) (min e1 e2)) := fun _ => by rw [HD.out ()]; simp [addP]
  clear HD
  go_upto_region 21 with fail
  go_cut [94] (fun c wx => ∃ cb : Bool, c = .bool cb ∧ wx = wq ∧ Hid (Unit → (cb = true → e1 ≤ e2) ∧ (cb = false → e2 ≤ e1)))
  case first =>
    by_cases h1 : e1 < e2
    · go_wp2
      go_meet
      case rel => exact ⟨true, rfl, rfl, fun _ => ⟨fun _ => by omega, fun h => by simp at h⟩⟩
    · have h1' : decide (e1 < e2) = false := by simp; omega
      by_cases h2 : e1 = e2
      · subst h2
        by_cases h3 : (m1 : Int) < m2
        · go_wp2
          go_meet
          case rel => exact ⟨true, rfl, rfl, fun _ => ⟨fun _ => by omega, fun h => by simp at h⟩⟩
        · have h3' : decide ((m1 : Int) < m2) = false := by simp; omega
          go_wp2
          go_meet
          case rel => exact ⟨false, rfl, rfl, fun _ => ⟨fun h => by simp at h, fun _ => by omega⟩⟩
      · have h2' : (e1 == e2) = false := by rw [beq_eq_false_iff_ne]; exact h2
        go_wp2
        go_meet
        case rel => exact ⟨false, rfl, rfl, fun _ => ⟨fun h => by simp at h, fun _ => by omega⟩⟩
  case rest =>
    obtain ⟨cb, rfl, rfl, HC⟩ := hcut
    go_upto_if 94 with fail
    go_cut [] (fun wx => ∃ sP mP eP sQ mQ eQ, R = roundZ (sumZ sP mP eP sQ mQ eQ) (min eP eQ) ∧ Fin1 4 mP eP ∧ Fin1 4 mQ eQ ∧ eQ ≤ eP ∧ Below w.heap.size w wx ∧ wx.cell? ⟨gp, 1, none⟩ = some (.bool sP) ∧ wx.cell? ⟨gp, 2, none⟩ = some (.int .u64 (mP : Nat)) ∧ wx.cell? ⟨gp, 3, none⟩ = some (.int .i64 eP) ∧ wx.cell? ⟨gq, 1, none⟩ = some (.bool sQ) ∧ wx.cell? ⟨gq, 2, none⟩ = some (.int .u64 (mQ : Nat)) ∧ wx.cell? ⟨gq, 3, none⟩ = some (.int .i64 eQ))
    case first =>
      cases cb
      · go_wp2
        go_meet
        case rel => exact ⟨s1, m1, e1, s2, m2, e2, HE.out (), HF1.out (), HF2.out (), (HC.out ()).2 (by simp), hBb, p1, p2, p3, q1, q2, q3⟩
      · go_wp2
        go_meet
        case rel =>
          refine ⟨s2, m2, e2, s1, m1, e1, by rw [HE.out (), sumZ_comm, Int.min_comm], HF2.out (), HF1.out (), (HC.out ()).1 (by simp), ?_⟩
          have hne : gp ≠ gq := by omega
          have hne' : gq ≠ gp := by omega
          have hgq : w.heap.size ≤ gq := by omega
          refine ⟨?_, ?_, ?_, ?_, ?_, ?_, ?_⟩
          · exact (((((((hBb.setCell (p := ⟨gp, 0, none⟩) hgp _).setCell (p := ⟨gp, 1, none⟩) hgp _).setCell (p := ⟨gp, 2, none⟩) hgp _).setCell (p := ⟨gp, 3, none⟩) hgp _).setCell (p := ⟨gq, 0, none⟩) hgq _).setCell (p := ⟨gq, 1, none⟩) hgq _).setCell (p := ⟨gq, 2, none⟩) hgq _).setCell (p := ⟨gq, 3, none⟩) hgq _
          · exact set_keep_b hne' (set_keep_b hne' (set_keep_b hne' (set_keep_b hne' (set_keep_o (by decide) (set_keep_o (by decide) (set_here (set_keep_o (by decide) (p1))))))))
          · exact set_keep_b hne' (set_keep_b hne' (set_keep_b hne' (set_keep_b hne' (set_keep_o (by decide) (set_here (set_keep_o (by decide) (set_keep_o (by decide) (p2))))))))
          · exact set_keep_b hne' (set_keep_b hne' (set_keep_b hne' (set_keep_b hne' (set_here (set_keep_o (by decide) (set_keep_o (by decide) (set_keep_o (by decide) (p3))))))))
          · exact set_keep_o (by decide) (set_keep_o (by decide) (set_here (set_keep_o (by decide) (set_keep_b hne (set_keep_b hne (set_keep_b hne (set_keep_b hne (q1))))))))
          · exact set_keep_o (by decide) (set_here (set_keep_o (by decide) (set_keep_o (by decide) (set_keep_b hne (set_keep_b hne (set_keep_b hne (set_keep_b hne (q2))))))))
          · exact set_here (set_keep_o (by decide) (set_keep_o (by decide) (set_keep_o (by decide) (set_keep_b hne (set_keep_b hne (set_keep_b hne (set_keep_b hne (q3))))))))
    case rest =>
      obtain ⟨sP, mP, eP, sQ, mQ, eQ, hR, f1, f2, hle, hBc, c1, c2, c3, d1, d2, d3⟩ := hcut
      clear hBb fp fq p0 p1 p2 p3 q0 q1 q2 q3 HF1 HF2 HE HC
      have HR : Hid (Unit → R = roundZ (sumZ sP mP eP sQ mQ eQ) (min eP eQ)) := fun _ => hR
      have HF1 : Hid (Unit → Fin1 4 mP eP) := fun _ => f1
      have HF2 : Hid (Unit → Fin1 4 mQ eQ) := fun _ => f2
      have b1 := f1.lo
      have b2 := f1.hi
      have b3 := f2.lo
      have b4 := f2.hi
      clear f1 f2 hR
      go_upto_region 25 with fail
      go_loop [7, 8] (fun x7 x8 => ∃ j X : Nat, x7 = .int .u64 X ∧ x8 = .int .i64 (eP - j) ∧ (j : Int) ≤ eP - eQ ∧ Hid (Unit → X = mP * 2 ^ j ∧ X < 4611686018427387904)) (fun _ x8 => (intOf x8 - eQ).toNat)
      case atStart => exact ⟨0, mP, rfl, by simp, by omega, fun _ => ⟨by simp, by have := (HF1.out ()).lt; omega⟩⟩
      case round =>
        obtain ⟨j, X, rfl, rfl, hj, HX⟩ := hrel
        obtain ⟨F, hF⟩ : ∃ F, eP - j = F := ⟨_, rfl⟩
        rw [hF]
        have HFF : Hid (Unit → eP - j = F) := fun _ => hF
        have hF1 : eQ ≤ F := by omega
        have hF2 : F ≤ 971 := by omega
        clear hF
        go_upto_region 25 with fail
        go_cut [109] from 101 to 113 (fun c wx => ∃ cb : Bool, c = .bool cb ∧ wx = wc ∧ Hid (Unit → (cb = true → X < 2305843009213693952 ∧ eQ < F) ∧ (cb = false → 2305843009213693952 ≤ X ∨ F = eQ)))
        case first =>
          have cP := fun W => l03Pow_any 61 W (by decide)
          by_cases h1 : (X : Int) < 2305843009213693952
          · by_cases h2 : eQ < F
            · go_wp2_with (go_at_call 46; refine (cP _).mono ?_; rintro e w' ⟨rfl, rfl⟩)
              go_meet
              case rel => exact ⟨true, rfl, rfl, fun _ => ⟨fun _ => ⟨by omega, h2⟩, fun h => by simp at h⟩⟩
            · have h2' : decide (eQ < F) = false := by simp; omega
              go_wp2_with (go_at_call 46; refine (cP _).mono ?_; rintro e w' ⟨rfl, rfl⟩)
              go_meet
              case rel => exact ⟨false, rfl, rfl, fun _ => ⟨fun h => by simp at h, fun _ => .inr (by omega)⟩⟩
          · have h1' : decide ((X : Int) < 2305843009213693952) = false := by simp; omega
            go_wp2_with (go_at_call 46; refine (cP _).mono ?_; rintro e w' ⟨rfl, rfl⟩)
            go_meet
            case rel => exact ⟨false, rfl, rfl, fun _ => ⟨fun h => by simp at h, fun _ => .inl (by omega)⟩⟩
        case rest =>
          obtain ⟨cb2, rfl, rfl, HC⟩ := hcut
          cases cb2
          · have HE1 : Hid (Unit → 2305843009213693952 ≤ X ∨ F = eQ) := fun _ => (HC.out ()).2 (by simp)
            clear HC
            obtain ⟨D, hD⟩ : ∃ D : Nat, F = eQ + D := ⟨(F - eQ).toNat, by omega⟩
            have HDD : Hid (Unit → F = eQ + D) := fun _ => hD
            clear hD
            go_upto_region 31 with fail
            go_loop [9, 10, 11] (fun x9 x10 x11 => ∃ (n : Nat) (l : Bool) (I : Int), x9 = .int .u64 n ∧ x10 = .bool l ∧ x11 = .int .i64 I ∧ (n : Int) < 9007199254740992 ∧ -1075 ≤ I ∧ I ≤ F + 1 ∧ Hid (Unit → (∃ k : Nat, I = eQ + k ∧ k ≤ D ∧ LostAt mQ k n l) ∨ (F < I ∧ LostAt mQ D n l))) (fun _ _ x11 => (F + 1 - intOf x11).toNat)
            case atStart => exact ⟨mQ, false, eQ, rfl, rfl, rfl, by have := (HF2.out ()).lt; omega, by omega, by omega, fun _ => .inl ⟨0, by simp, by omega, lost_start mQ⟩⟩
            case round =>
              obtain ⟨n, l, I, rfl, rfl, rfl, hn1, hI1, hI2, HI⟩ := hrel
              by_cases hlt : I < F
              · have HL : Hid (Unit → ∃ k : Nat, I + 1 = eQ + k ∧ k ≤ D ∧ LostAt mQ k (n / 2) (l || decide (n % 2 = 1))) := fun _ => by
                  have hD := HDD.out ()
                  rcases HI.out () with ⟨k, h1, h2, h3⟩ | ⟨h1, _⟩
                  · exact ⟨k + 1, by omega, by omega, lost_step h3⟩
                  · omega
                clear HI
                by_cases hz : n / 2 = 0
                · have hz' : (n : Int) / 2 = 0 := by omega
                  cases l
                  · by_cases ho : n % 2 = 1
                    · have ho' : ((n : Int) % 2 == 1) = true := by simp; omega
                      have HS : Hid (Unit → LostAt mQ D (n / 2) true) := fun _ => by
                        obtain ⟨k, _, h2, h3⟩ := HL.out ()
                        rw [hz, ho] at *
                        exact lost_stop (l := true) h3 h2
                      go_wp2
                      go_round
                      case rel => exact ⟨n / 2, true, F + 1, by go_num, rfl, by go_num, by omega, by omega, by omega, fun _ => .inr ⟨by omega, HS.out ()⟩⟩
                      case measure => simp [intOf]; omega
                    · have ho' : ((n : Int) % 2 == 1) = false := by rw [beq_eq_false_iff_ne]; omega
                      have HS : Hid (Unit → ∃ k : Nat, I + 1 = eQ + k ∧ k ≤ D ∧ LostAt mQ k (n / 2) false) := fun _ => by
                        obtain ⟨k, h1, h2, h3⟩ := HL.out ()
                        rw [decide_eq_false ho] at h3
                        exact ⟨k, h1, h2, h3⟩
                      go_wp2
                      go_round
                      case rel => exact ⟨n / 2, false, I + 1, by go_num, rfl, by go_num, by omega, by omega, by omega, fun _ => .inl (HS.out ())⟩
                      case measure => simp [intOf]; omega
                  · have HS : Hid (Unit → LostAt mQ D (n / 2) true) := fun _ => by
                      obtain ⟨k, _, h2, h3⟩ := HL.out ()
                      rw [hz] at *
                      exact lost_stop (l := true) h3 h2
                    go_wp2
                    go_round
                    case rel => exact ⟨n / 2, true, F + 1, by go_num, rfl, by go_num, by omega, by omega, by omega, fun _ => .inr ⟨by omega, HS.out ()⟩⟩
                    case measure => simp [intOf]; omega
                · have hz' : ((n : Int) / 2 == 0) = false := by rw [beq_eq_false_iff_ne]; omega
                  cases l
                  · by_cases ho : n % 2 = 1
                    · have ho' : ((n : Int) % 2 == 1) = true := by simp; omega
                      have HS : Hid (Unit → ∃ k : Nat, I + 1 = eQ + k ∧ k ≤ D ∧ LostAt mQ k (n / 2) true) := fun _ => by
                        obtain ⟨k, h1, h2, h3⟩ := HL.out ()
                        rw [decide_eq_true ho] at h3
                        exact ⟨k, h1, h2, h3⟩
                      go_wp2
                      go_round
                      case rel => exact ⟨n / 2, true, I + 1, by go_num, rfl, by go_num, by omega, by omega, by omega, fun _ => .inl (HS.out ())⟩
                      case measure => simp [intOf]; omega
                    · have ho' : ((n : Int) % 2 == 1) = false := by rw [beq_eq_false_iff_ne]; omega
                      have HS : Hid (Unit → ∃ k : Nat, I + 1 = eQ + k ∧ k ≤ D ∧ LostAt mQ k (n / 2) false) := fun _ => by
                        obtain ⟨k, h1, h2, h3⟩ := HL.out ()
                        rw [decide_eq_false ho] at h3
                        exact ⟨k, h1, h2, h3⟩
                      go_wp2
                      go_round
                      case rel => exact ⟨n / 2, false, I + 1, by go_num, rfl, by go_num, by omega, by omega, by omega, fun _ => .inl (HS.out ())⟩
                      case measure => simp [intOf]; omega
                  · have HS : Hid (Unit → ∃ k : Nat, I + 1 = eQ + k ∧ k ≤ D ∧ LostAt mQ k (n / 2) true) := fun _ => HL.out ()
                    go_wp2
                    go_round
                    case rel => exact ⟨n / 2, true, I + 1, by go_num, rfl, by go_num, by omega, by omega, by omega, fun _ => .inl (HS.out ())⟩
                    case measure => simp [intOf]; omega
              · have HL : Hid (Unit → LostAt mQ D n l) := fun _ => by
                  have hD := HDD.out ()
                  rcases HI.out () with ⟨k, h1, h2, h3⟩ | ⟨_, h1⟩
                  · have : k = D := by omega
                    subst this; exact h3
                  · exact h1
                have HEnd : Hid (Unit → AddEnd R sP sQ X n F l) := fun _ => by
                  have hD := HDD.out ()
                  have hF := HFF.out ()
                  rw [← hF, (HX.out ()).1]
                  exact addEnd_of (HR.out ()) (HF1.out ()) (HF2.out ()) (by omega) (by have := HE1.out (); rw [(HX.out ()).1] at this; omega) (HL.out ())
                have HN : Hid (Unit → n < 9007199254740992) := fun _ => by rw [(HL.out ()).1]; exact Nat.lt_of_le_of_lt (Nat.div_le_self _ _) (HF2.out ()).lt
                have HXX : Hid (Unit → X < 4611686018427387904) := fun _ => (HX.out ()).2
                have hlt' : decide (I < F) = false := by simp; omega
                have hFl : -1074 ≤ F := by omega
                clear HI HL HX HDD HE1 HR HF1 HF2
                go_upto_region 37 with fail
                have hXi : (X : Int) < 4611686018427387904 := by have := HXX.out (); omega
                by_cases hs : sP = sQ
                · subst hs
                  have cR : ∀ W, Calls Tryz.prog 57 #[.bool sP, .int .u64 ((X : Int) + n), .int .i64 F, .bool l] W fun e w' => e = .returned (.int .u64 (R : Nat)) ∧ W = w' := fun W => by
                    have h := specRound_any sP l (X + n) F W (by omega) (by omega) (by omega)
                    rw [← (HEnd.out ()).same rfl, Int.natCast_add] at h
                    exact h
                  clear HEnd
                  go_wp2_with (go_at_call 57; refine (cR _).mono ?_; rintro e w' ⟨rfl, rfl⟩)
                  go_ret
                  exact ⟨rfl, hBc⟩
                · have hs' : (sP == sQ) = false := by simpa using hs
                  by_cases hx1 : X = n
                  · have hl := (HEnd.out ()).whole (by omega)
                    have HZ : Hid (Unit → R = 0) := fun _ => (HEnd.out ()).none hs hx1
                    subst hx1 hl
                    clear HEnd
                    go_wp2
                    go_ret
                    exact ⟨by rw [HZ.out ()]; rfl, hBc⟩
                  · have hx1' : ((X : Int) == n) = false := by rw [beq_eq_false_iff_ne]; omega
                    by_cases hx2 : X < n
                    · have cR : ∀ W, Calls Tryz.prog 57 #[.bool sQ, .int .u64 ((n : Int) - X), .int .i64 F, .bool false] W fun e w' => e = .returned (.int .u64 (R : Nat)) ∧ W = w' := fun W => by
                        have h := specRound_any sQ false (n - X) F W (by omega) (by omega) (by omega)
                        rw [Bool.false_and, ← (HEnd.out ()).less hs hx2, Int.natCast_sub (by omega)] at h
                        exact h
                      clear HEnd
                      go_wp2_with (go_at_call 57; refine (cR _).mono ?_; rintro e w' ⟨rfl, rfl⟩)
                      go_ret
                      exact ⟨rfl, hBc⟩
                    · have hx3 : n < X := by omega
                      obtain ⟨Y, hY⟩ : ∃ Y, X - n = Y := ⟨_, rfl⟩
                      have hw1 : IntKind.u64.wrap ((X : Int) - n) = Y := by
                        show ((X : Int) - n) % 18446744073709551616 = Y
                        omega
                      cases l
                      · have cR : ∀ W, Calls Tryz.prog 57 #[.bool sP, .int .u64 Y, .int .i64 F, .bool false] W fun e w' => e = .returned (.int .u64 (R : Nat)) ∧ W = w' := fun W => by
                          have h := specRound_any sP false (X - n) F W (by omega) (by omega) (by omega)
                          rw [Bool.false_and, ← (HEnd.out ()).more hs hx3 rfl, hY] at h
                          exact h
                        clear HEnd hx3 hx1 hlt HN HXX hlt' hXi hn1 hY
                        go_wp2_with (go_at_call 57; refine (cR _).mono ?_; rintro e w' ⟨rfl, rfl⟩)
                        go_ret
                        exact ⟨rfl, hBc⟩
                      · obtain ⟨Z, hZ⟩ : ∃ Z, X - n - 1 = Z := ⟨_, rfl⟩
                        have hw2 : IntKind.u64.wrap ((Y : Int) - 1) = Z := by
                          show ((Y : Int) - 1) % 18446744073709551616 = Z
                          omega
                        have cR : ∀ W, Calls Tryz.prog 57 #[.bool sP, .int .u64 Z, .int .i64 F, .bool true] W fun e w' => e = .returned (.int .u64 (R : Nat)) ∧ W = w' := fun W => by
                          have h := specRound_any sP true (X - n - 1) F W (by omega) (by omega) (by omega)
                          rw [← (HEnd.out ()).lost hs hx3 rfl, hZ] at h
                          exact h
                        clear HEnd hx3 hx1 hlt HN HXX hlt' hXi hn1 hY hZ
                        go_wp2_with (go_at_call 57; refine (cR _).mono ?_; rintro e w' ⟨rfl, rfl⟩)
                        go_ret
                        exact ⟨rfl, hBc⟩
          · have hX2 : (X : Int) < 2305843009213693952 := by have := ((HC.out ()).1 (by simp)).1; omega
            go_wp2
            go_round
            case rel => exact ⟨j + 1, X * 2, by go_num, by have := HFF.out (); go_num, by have := ((HC.out ()).1 (by simp)).2; have := HFF.out (); omega, fun _ => ⟨by rw [(HX.out ()).1, Nat.pow_succ, Nat.mul_assoc], by have := ((HC.out ()).1 (by simp)).1; omega⟩⟩
            case measure => have := ((HC.out ()).1 (by simp)).2; simp [intOf]; omega
end Go.Proofs.YtcdbifcidaafnaaGreatDoor
namespace Go.Proofs.YtcdbifcidaafnaaGreatDoor
open Go.RowKit
set_option linter.unusedVariables false
set_option maxHeartbeats 1000000 in
set_option maxRecDepth 100000 in
theorem specAdd_any (a b : Nat) (w : World) (ha : a < 18446744073709551616) (hb : b < 18446744073709551616) :
    Calls Tryz.prog 36 #[.int .u64 a, .int .u64 b] w fun e w' => e = .returned (.int .u64 (addN a b : Nat)) ∧ Below w.heap.size w w' := by
  by_cases hkk : kindN a = 4 ∧ kindN b = 4
  · exact specAdd_fin a b w ha hb hkk.1 hkk.2
  have cA := fun W => specParts_any a W ha
  have cB := fun W => specParts_any b W hb
  unfold partsV at cA cB
  obtain ⟨k1, hk1⟩ : ∃ k, kindN a = k := ⟨_, rfl⟩
  obtain ⟨k2, hk2⟩ : ∃ k, kindN b = k := ⟨_, rfl⟩
  obtain ⟨s1, hs1⟩ : ∃ k, belowN a = k := ⟨_, rfl⟩
  obtain ⟨s2, hs2⟩ : ∃ k, belowN b = k := ⟨_, rfl⟩
  obtain ⟨m1, hm1⟩ : ∃ k, mantN a = k := ⟨_, rfl⟩
  obtain ⟨m2, hm2⟩ : ∃ k, mantN b = k := ⟨_, rfl⟩
  obtain ⟨e1, he1⟩ : ∃ k, expN a = k := ⟨_, rfl⟩
  obtain ⟨e2, he2⟩ : ∃ k, expN b = k := ⟨_, rfl⟩
  have HD : Hid (Unit → addN a b = addP a b k1 k2 s1 s2 m1 m2 e1 e2) := fun _ => by rw [addN_P, hk1, hk2, hs1, hs2, hm1, hm2, he1, he2]
  have hK1 := kindN_cases a
  have hK2 := kindN_cases b
  rw [hk1] at hK1
  rw [hk2] at hK2
  rw [hk1, hs1, hm1, he1] at cA
  rw [hk2, hs2, hm2, he2] at cB
  have HF1 : Hid (Unit → Fin1 k1 m1 e1) := fun _ => by rw [← hk1, ← hm1, ← he1]; exact fin1_of a
  have HF2 : Hid (Unit → Fin1 k2 m2 e2) := fun _ => by rw [← hk2, ← hm2, ← he2]; exact fin1_of b
  have HN : Hid (Unit → k1 = 4 → k2 = 4 → False) := fun _ h1 h2 => hkk ⟨hk1.trans h1, hk2.trans h2⟩
  obtain ⟨R, hR⟩ : ∃ R, addN a b = R := ⟨_, rfl⟩
  rw [hR] at HD ⊢
  clear hkk hR hk1 hk2 hs1 hs2 hm1 hm2 he1 he2 ha hb
  go_enter Tryz.func36, Tryz.ntmps36
  go_wp2_with fail
  refine (cA _).mono ?_
  rintro e w1 ⟨rfl, hb1⟩
  clear cA
  go_wp2_with fail
  refine (cB _).mono ?_
  rintro e w2 ⟨rfl, hb2⟩
  clear cB
  go_upto_region 3 with fail
  have hlt : w1.heap.size < w2.heap.size := by have := hb2.size; simp at this; omega
  obtain ⟨wq, hwq⟩ : ∃ wq, w2.alloc (.cells #[.int .i64 k2, .bool s2, .int .u64 m2, .int .i64 e2] 62) = wq := ⟨_, rfl⟩
  have hQ : wq.heap[w2.heap.size]? = some (.cells #[.int .i64 k2, .bool s2, .int .u64 m2, .int .i64 e2] 62) := by rw [← hwq]; exact heap_alloc_new _ _
  have hP : wq.heap[w1.heap.size]? = some (.cells #[.int .i64 k1, .bool s1, .int .u64 m1, .int .i64 e1] 62) := by rw [← hwq]; exact (Below.heap_alloc w2 _ _ hlt).trans (alloc_kept hb2)
  have hBb : Below w.heap.size w wq := by
    have hb3 : Below w.heap.size w w2 := (hb1.alloc hb1.size _).trans (hb2.mono (by simp; exact Nat.le_succ_of_le hb1.size))
    rw [← hwq]; exact hb3.alloc hb3.size _
  have hgp : w.heap.size ≤ w1.heap.size := hb1.size
  obtain ⟨gq, hgq⟩ : ∃ g, w2.heap.size = g := ⟨_, rfl⟩
  obtain ⟨gp, hgp2⟩ : ∃ g, w1.heap.size = g := ⟨_, rfl⟩
  simp only [hwq, hgq, hgp2]
  rw [hgq] at hQ hlt
  rw [hgp2] at hP hgp hlt
  clear hwq hgq hgp2 hb1 hb2
  clear w1 w2
  obtain ⟨p0, p1, p2, p3⟩ := cells_four hP
  obtain ⟨q0, q1, q2, q3⟩ := cells_four hQ
  rcases hK1 with rfl | rfl | rfl | rfl
  · go_wp2
    go_ret
    exact ⟨by rw [HD.out ()]; rfl, hBb⟩
  all_goals rcases hK2 with rfl | rfl | rfl | rfl
  · go_wp2
    go_ret
    exact ⟨by rw [HD.out ()]; rfl, hBb⟩
  · have HE : Hid (Unit → R = if s1 ≠ s2 then 9221120237041090560 else a) := fun _ => by rw [HD.out ()]; simp [addP]
    clear HD
    by_cases hs : s1 = s2
    · subst hs
      go_wp2
      go_ret
      exact ⟨by rw [HE.out ()]; simp, hBb⟩
    · have hs' : (s1 == s2) = false := by simpa using hs
      go_wp2
      go_ret
      exact ⟨by rw [HE.out ()]; simp [hs], hBb⟩
  iterate 2
    · go_wp2
      go_ret
      exact ⟨by rw [HD.out ()]; rfl, hBb⟩
  iterate 2
    · go_wp2
      go_ret
      exact ⟨by rw [HD.out ()]; rfl, hBb⟩
  · have HE : Hid (Unit → R = if s1 = true ∧ s2 = true then a else 0) := fun _ => by rw [HD.out ()]; simp [addP]
    clear HD
    cases s1 <;> cases s2
    all_goals
      go_wp2
      go_ret
      exact ⟨by rw [HE.out ()]; rfl, hBb⟩
  · go_wp2
    go_ret
    exact ⟨by rw [HD.out ()]; rfl, hBb⟩
  iterate 3
    · go_wp2
      go_ret
      exact ⟨by rw [HD.out ()]; rfl, hBb⟩
  · have hF : False := HN.out () rfl rfl
    exact hF.elim
def subN (a b : Nat) : Nat := addN a (negN b)
theorem negN_lt {x : Nat} (h : x < 18446744073709551616) : negN x < 18446744073709551616 := by
  unfold negN
  split
  · decide
  · split <;> omega
set_option maxHeartbeats 400000 in
set_option maxRecDepth 100000 in
theorem specSub_any (a b : Nat) (w : World) (ha : a < 18446744073709551616) (hb : b < 18446744073709551616) :
    Calls Tryz.prog 37 #[.int .u64 a, .int .u64 b] w fun e w' => e = .returned (.int .u64 (subN a b : Nat)) ∧ Below w.heap.size w w' := by
  have cN := fun W => specNegate_any b W hb
  have cA := fun W => specAdd_any a (negN b) W ha (negN_lt hb)
  unfold subN
  obtain ⟨n, hn⟩ : ∃ n, negN b = n := ⟨_, rfl⟩
  rw [hn] at cN cA ⊢
  obtain ⟨r, hr⟩ : ∃ r, addN a n = r := ⟨_, rfl⟩
  rw [hr] at cA ⊢
  clear hn hr ha hb
  go_enter Tryz.func37, Tryz.ntmps37
  go_wp2_with (first | (go_at_call 18; refine (cN _).mono ?_; rintro e w1 ⟨rfl, hb1⟩) | (go_at_call 36; refine (cA _).mono ?_; rintro e w2 ⟨rfl, hb2⟩))
  go_ret
  exact ⟨rfl, chain hb1 hb2⟩
end Go.Proofs.YtcdbifcidaafnaaGreatDoor
namespace Go.Proofs.YtcdbifcidaafnaaGreatDoor
theorem round_sgn {S : Int} (h0 : S ≠ 0) (e : Int) : roundZ S e = signN (decide (S < 0)) (roundN S.natAbs e false) := by unfold roundZ; rw [if_neg h0]
theorem roundZ_scale (S : Int) (e : Int) (j : Nat) : roundZ (S * 2 ^ j) (e - j) = roundZ S e := by
  have hp : (0 : Int) < 2 ^ j := Int.pow_pos (by decide)
  by_cases h0 : S = 0
  · subst h0; simp [roundZ]
  · have h1 : S * 2 ^ j ≠ 0 := Int.mul_ne_zero h0 (by omega)
    rw [round_sgn h1, round_sgn h0, Int.natAbs_mul, Int.natAbs_pow]
    have e1 : decide (S * 2 ^ j < 0) = decide (S < 0) := by
      rw [Bool.eq_iff_iff, decide_eq_true_iff, decide_eq_true_iff]
      constructor
      · intro h
        rcases Int.lt_or_le S 0 with hs | hs
        · exact hs
        · have := Int.mul_nonneg hs (Int.le_of_lt hp); omega
      · intro h; exact Int.mul_neg_of_neg_of_pos h hp
    rw [e1]
    congr 1
    exact roundN_times j S.natAbs e false
end Go.Proofs.YtcdbifcidaafnaaGreatDoor
namespace Go.Proofs.YtcdbifcidaafnaaGreatDoor
theorem inf_bits {x : Nat} (hx : x < 18446744073709551616) (h : kindN x = 2) : x = signN (belowN x) 9218868437227405312 := by
  have hb := belowN_of (x := x) (by omega)
  rw [hb]
  unfold kindN expBits fracBits at h
  split at h
  · split at h
    · unfold signN
      by_cases h2 : 9223372036854775808 ≤ x
      · rw [decide_eq_true h2, if_pos rfl]; omega
      · rw [decide_eq_false h2, if_neg (by decide)]; omega
    · omega
  · split at h <;> omega
theorem zero_bits {x : Nat} (hx : x < 18446744073709551616) (h : kindN x = 3) : x = signN (belowN x) 0 := by
  have hb := belowN_of (x := x) (by omega)
  rw [hb]
  unfold kindN expBits fracBits at h
  split at h
  · split at h <;> omega
  · split at h
    · unfold signN
      by_cases h2 : 9223372036854775808 ≤ x
      · rw [decide_eq_true h2, if_pos rfl]; omega
      · rw [decide_eq_false h2, if_neg (by decide)]; omega
    · omega
theorem addN_comm {a b : Nat} (ha : a < 18446744073709551616) (hb : b < 18446744073709551616) : addN a b = addN b a := by
  have i1 := inf_bits ha
  have i2 := inf_bits hb
  have z1 := zero_bits ha
  have z2 := zero_bits hb
  have hs := sumZ_comm (belowN a) (mantN a) (expN a) (belowN b) (mantN b) (expN b)
  have hm := Int.min_comm (expN a) (expN b)
  unfold addN
  rcases kindN_cases a with k1 | k1 | k1 | k1 <;> rcases kindN_cases b with k2 | k2 | k2 | k2 <;> simp only [k1, k2] at i1 i2 z1 z2 ⊢
  all_goals simp
  · by_cases h : belowN a = belowN b
    · rw [if_pos h, if_pos h.symm]
      exact (i1 trivial).trans (by rw [h]; exact (i2 trivial).symm)
    · rw [if_neg h, if_neg (fun e => h e.symm)]
  · by_cases h1 : belowN a = true
    · by_cases h2 : belowN b = true
      · rw [if_pos ⟨h1, h2⟩, if_pos ⟨h2, h1⟩]
        exact (z1 trivial).trans (by rw [h1, ← h2]; exact (z2 trivial).symm)
      · rw [if_neg (fun h => h2 h.2), if_neg (fun h => h2 h.1)]
    · rw [if_neg (fun h => h1 h.1), if_neg (fun h => h1 h.2)]
  · rw [hs, hm]
end Go.Proofs.YtcdbifcidaafnaaGreatDoor
namespace Go.Proofs.YtcdbifcidaafnaaGreatDoor
def rawM (x : Nat) : Nat := if x / 4503599627370496 % 2048 = 0 then x % 4503599627370496 else 4503599627370496 + x % 4503599627370496
def rawE (x : Nat) : Int := if x / 4503599627370496 % 2048 = 0 then -1074 else ((x / 4503599627370496 % 2048 : Nat) : Int) - 1075
theorem raw_fin {x : Nat} (h : kindN x = 4) : rawM x = mantN x ∧ rawE x = expN x := by
  unfold rawM rawE mantN expN expBits fracBits
  rw [if_pos h, if_pos h]
  constructor
  · split
    · rfl
    · omega
  · rfl
theorem raw_zero {x : Nat} (h : kindN x = 3) : rawM x = 0 ∧ rawE x = -1074 := by
  have hz : expBits x = 0 ∧ fracBits x = 0 := by
    unfold kindN at h
    split at h
    · split at h <;> omega
    · split at h
      · assumption
      · omega
  unfold expBits fracBits at hz
  unfold rawM rawE
  rw [if_pos hz.1, if_pos hz.1]
  exact ⟨hz.2, rfl⟩
theorem rawM_lt (x : Nat) : rawM x < 9007199254740992 := by
  unfold rawM
  split <;> omega
theorem rawE_ge (x : Nat) : -1074 ≤ rawE x := by
  unfold rawE
  split <;> omega
theorem rawE_le (x : Nat) : rawE x ≤ 972 := by
  unfold rawE
  split <;> omega
theorem raw_order {g l : Nat} (h : l % 9223372036854775808 ≤ g % 9223372036854775808) : rawE l ≤ rawE g ∧ (rawE l = rawE g → rawM l ≤ rawM g) ∧ (rawE g = -1074 ∨ 4503599627370496 ≤ rawM g) := by
  have a1 : l % 9223372036854775808 / 4503599627370496 = l / 4503599627370496 % 2048 := by omega
  have a2 : g % 9223372036854775808 / 4503599627370496 = g / 4503599627370496 % 2048 := by omega
  have a3 : l % 9223372036854775808 % 4503599627370496 = l % 4503599627370496 := by omega
  have a4 : g % 9223372036854775808 % 4503599627370496 = g % 4503599627370496 := by omega
  unfold rawM rawE
  rw [← a1, ← a2, ← a3, ← a4]
  generalize l % 9223372036854775808 = u at *
  generalize g % 9223372036854775808 = v at *
  clear a1 a2 a3 a4
  refine ⟨?_, ?_, ?_⟩
  · split <;> split <;> omega
  · split <;> split <;> omega
  · split
    · exact .inl rfl
    · exact .inr (by omega)
structure SumEnd (R : Nat) (s t : Bool) (X n : Nat) (E : Int) (lost : Bool) : Prop where
  same : s = t → R = signN s (roundN (X + n) E (lost && decide (72057594037927936 ≤ X + n)))
  none : s ≠ t → lost = false → X = n → R = 0
  more : s ≠ t → lost = false → X ≠ n → n < X ∧ R = signN s (roundN (X - n) E false)
  less : s ≠ t → lost = true → n + 1 < X ∧ R = signN s (roundN (X - (n + 1)) E (true && decide (72057594037927936 ≤ X - (n + 1))))
theorem sgnM_times (b : Bool) (m k : Nat) : sgnM b (m * k) = sgnM b m * k := by
  unfold sgnM
  cases b
  · simp
  · simp [Int.neg_mul]
theorem sumZ_ten (s : Bool) (m : Nat) (e : Int) (t : Bool) (n : Nat) (f : Int) : sumZ s (m * 1024) (e - 10) t (n * 1024) (f - 10) = sumZ s m e t n f * 2 ^ 10 := by
  unfold sumZ
  rw [(by omega : (e - 10 - min (e - 10) (f - 10)).toNat = (e - min e f).toNat), (by omega : (f - 10 - min (e - 10) (f - 10)).toNat = (f - min e f).toNat), sgnM_times, sgnM_times, Int.add_mul]
  have e2 : (2 : Int) ^ 10 = ((1024 : Nat) : Int) := by decide
  rw [e2, Int.mul_right_comm, Int.mul_right_comm (sgnM t n)]
theorem sumEnd_fin {g l : Nat} (kg : kindN g = 4) (kl : kindN l = 4) (hs : l % 9223372036854775808 ≤ g % 9223372036854775808) {D : Nat} (hD : rawE g - rawE l = D) :
    SumEnd (addN g l) (belowN g) (belowN l) (rawM g * 1024) (rawM l * 1024 / 2 ^ D) (rawE g - 10) (decide (rawM l * 1024 % 2 ^ D ≠ 0)) := by
  obtain ⟨o1, o2, o3⟩ := raw_order hs
  have mg := rawM_lt g
  have ml := rawM_lt l
  have gl := rawE_ge l
  have pg : rawM g ≠ 0 := by rw [(raw_fin kg).1]; exact mantN_pos kg
  have e1 : addN g l = roundZ (sumZ (belowN g) (rawM g * 1024) (rawE g - 10) (belowN l) (rawM l * 1024) (rawE l - 10)) (rawE g - 10 - D) := by
    have : addN g l = roundZ (sumZ (belowN g) (mantN g) (expN g) (belowN l) (mantN l) (expN l)) (min (expN g) (expN l)) := by unfold addN; simp [kg, kl]
    rw [this, sumZ_ten, (by omega : rawE g - 10 - D = rawE l - ((10 : Nat) : Int)), roundZ_scale, (raw_fin kg).1, (raw_fin kg).2, (raw_fin kl).1, (raw_fin kl).2]
    rw [(raw_fin kg).2, (raw_fin kl).2] at o1
    rw [(by omega : min (expN g) (expN l) = expN l)]
  have hc := (sumZ_cut (b1 := belowN g) (b2 := belowN l) (pm := rawM g * 1024) (qm := rawM l * 1024) (j := 0) (d := D) (pe := rawE g - 10) (qe := rawE l - 10) (by omega)).2
  rw [hc, Nat.pow_zero, Nat.mul_one] at e1
  clear hc
  have hlow : rawM l * 1024 % 2 ^ D < 2 ^ D := Nat.mod_lt _ (Nat.two_pow_pos D)
  have hdiv : rawM l * 1024 / 2 ^ D * 2 ^ D ≤ rawM l * 1024 := Nat.div_mul_le_self _ _
  have hten : D ≤ 10 → rawM l * 1024 % 2 ^ D = 0 := fun h => by
    have h1 : 2 ^ D ∣ 2 ^ 10 := Nat.pow_dvd_pow 2 h
    exact Nat.mod_eq_zero_of_dvd (Nat.dvd_trans h1 (Nat.dvd_mul_left _ _))
  have hbig : rawM l * 1024 % 2 ^ D ≠ 0 → 4611686018427387904 ≤ rawM g * 1024 ∧ rawM l * 1024 / 2 ^ D ≤ 4503599627370496 := fun h => by
    have h11 : 11 ≤ D := by
      rcases Nat.lt_or_ge 10 D with h' | h'
      · exact h'
      · exact absurd (hten h') h
    refine ⟨by omega, ?_⟩
    have h2 : 2 ^ 11 ≤ 2 ^ D := Nat.pow_le_pow_right (by decide) h11
    have h3 : rawM l * 1024 / 2 ^ D ≤ rawM l * 1024 / 2 ^ 11 := Nat.div_le_div_left h2 (by decide)
    omega
  have hle : rawM l * 1024 / 2 ^ D ≤ rawM g * 1024 := by
    by_cases h0 : D = 0
    · subst h0
      rw [Nat.pow_zero, Nat.div_one]
      have := o2 (by omega)
      omega
    · have h1 : 2 ^ 1 ≤ 2 ^ D := Nat.pow_le_pow_right (by decide) (by omega)
      have h3 : rawM l * 1024 / 2 ^ D ≤ rawM l * 1024 / 2 ^ 1 := Nat.div_le_div_left h1 (by decide)
      omega
  generalize rawM l * 1024 % 2 ^ D = low at *
  generalize rawM l * 1024 / 2 ^ D = n at *
  obtain ⟨X, hX⟩ : ∃ X, rawM g * 1024 = X := ⟨_, rfl⟩
  rw [hX] at e1 hbig hle ⊢
  have hX0 : X ≠ 0 := by omega
  clear mg ml gl pg hX o1 o2 o3 hten hdiv
  generalize belowN g = s at *
  generalize belowN l = t at *
  refine ⟨?_, ?_, ?_, ?_⟩
  · intro e
    subst e
    rw [e1]
    exact round_same hlow hX0 (by omega)
  · intro hs' hz e
    have hst : t = !s := by cases s <;> cases t <;> simp at hs' ⊢
    have hz' : low = 0 := by simpa using hz
    subst hst hz' e
    rw [e1, Nat.add_zero]
    exact round_none _ _ _
  · intro hs' hz hne
    have hst : t = !s := by cases s <;> cases t <;> simp at hs' ⊢
    have hz' : low = 0 := by simpa using hz
    subst hst hz'
    rw [e1, Nat.add_zero]
    exact ⟨by omega, round_more (by omega)⟩
  · intro hs' hz
    have hst : t = !s := by cases s <;> cases t <;> simp at hs' ⊢
    have hz' : low ≠ 0 := by simpa using hz
    have hb := hbig hz'
    subst hst
    rw [e1, round_lost hlow hz' (by omega) (by omega), Nat.sub_sub]
    exact ⟨by omega, rfl⟩
theorem sumEnd_of {g l : Nat} (hg : g < 18446744073709551616) (kg : kindN g = 3 ∨ kindN g = 4) (kl : kindN l = 3 ∨ kindN l = 4) (hs : l % 9223372036854775808 ≤ g % 9223372036854775808) :
    ∃ D : Nat, rawE g - rawE l = D ∧ SumEnd (addN g l) (belowN g) (belowN l) (rawM g * 1024) (rawM l * 1024 / 2 ^ D) (rawE g - 10) (decide (rawM l * 1024 % 2 ^ D ≠ 0)) := by
  have ho := (raw_order hs).1
  refine ⟨(rawE g - rawE l).toNat, by omega, ?_⟩
  have hD : rawE g - rawE l = ((rawE g - rawE l).toNat : Nat) := by omega
  generalize (rawE g - rawE l).toNat = D at *
  rcases kl with kl | kl
  · rw [(raw_zero kl).1, Nat.zero_mul, Nat.zero_div, Nat.zero_mod]
    rcases kg with kg | kg
    · have hR : addN g l = if belowN g = true ∧ belowN l = true then g else 0 := by unfold addN; simp [kg, kl]
      have hz := zero_bits hg kg
      rw [(raw_zero kg).1, Nat.zero_mul]
      refine ⟨?_, ?_, ?_, ?_⟩
      · intro e
        rw [roundN_nil, hR, ← e]
        cases hb : belowN g
        · simp [signN]
        · rw [hb] at hz; simpa using hz
      · intro e _ _
        rw [hR, if_neg]
        rintro ⟨h1, h2⟩
        exact e (h1.trans h2.symm)
      · intro _ _ h; exact absurd rfl h
      · intro _ h; simp at h
    · have hR : addN g l = g := by unfold addN; simp [kg, kl]
      have hp : signN (belowN g) (roundN (rawM g * 1024) (rawE g - 10) false) = g := by
        have h := round_parts false kg hg
        have h2 : roundN (mantN g * 1024) (expN g - 10) false = roundN (mantN g) (expN g) false := roundN_times 10 (mantN g) (expN g) false
        rw [(raw_fin kg).1, (raw_fin kg).2, h2]
        exact h
      have pg : rawM g ≠ 0 := by rw [(raw_fin kg).1]; exact mantN_pos kg
      rw [hR]
      refine ⟨?_, ?_, ?_, ?_⟩
      · intro _; rw [Nat.add_zero, (by decide : decide ((0 : Nat) ≠ 0) = false), Bool.false_and]; exact hp.symm
      · intro _ _ h; omega
      · intro _ _ _; exact ⟨by omega, by rw [Nat.sub_zero]; exact hp.symm⟩
      · intro _ h; simp at h
  · have kg4 : kindN g = 4 := by
      rcases kg with kg | kg
      · exfalso
        have hz := (raw_zero kg)
        have hm : rawM l ≠ 0 := by rw [(raw_fin kl).1]; exact mantN_pos kl
        obtain ⟨o1, o2, o3⟩ := raw_order hs
        have := rawE_ge l
        have := o2 (by omega)
        omega
      · exact kg
    exact sumEnd_fin kg4 kl hs hD
end Go.Proofs.YtcdbifcidaafnaaGreatDoor
