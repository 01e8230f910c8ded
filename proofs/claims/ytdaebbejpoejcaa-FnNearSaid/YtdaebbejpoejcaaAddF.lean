/-
  The walk of the specification's Add at finite numbers.
-/
import Derived.Test.YtdaebbejpoejcaaAdd
import Derived.Deep.CutRange
namespace Go.Proofs.Ytdaebbejpoejcaa
open Go.RowKit
set_option linter.unusedVariables false

set_option maxHeartbeats 1000000 in
set_option maxRecDepth 100000 in
theorem specAdd_fin (a b : Nat) (w : World) (ha : a < 18446744073709551616) (hb : b < 18446744073709551616) (ka : kindN a = 4) (kb : kindN b = 4) :
    Calls Try.prog 26 #[.int .u64 a, .int .u64 b] w fun e w' => e = .returned (.int .u64 (addN a b : Nat)) ∧ Below w.heap.size w w' := by
  have cA := fun W => specParts_any a W ha
  have cB := fun W => specParts_any b W hb
  unfold partsV at cA cB
  obtain ⟨k1, hk1⟩ : ∃ k, kindN a = k := ⟨_, rfl⟩
  obtain ⟨k2, hk2⟩ : ∃ k, kindN b = k := ⟨_, rfl⟩
  obtain ⟨s1, hs1⟩ : ∃ k, belowN a = k := ⟨_, rfl⟩
  obtain ⟨s2, hs2⟩ : ∃ k, belowN b = k := ⟨_, rfl⟩
  obtain ⟨m1, hm1⟩ : ∃ k, mantN a = k := ⟨_, rfl⟩
  obtain ⟨m2, hm2⟩ : ∃ k, mantN b = k := ⟨_, rfl⟩
  obtain ⟨e1, he1⟩ : ∃ k, expN a = k := ⟨_, rfl⟩
  obtain ⟨e2, he2⟩ : ∃ k, expN b = k := ⟨_, rfl⟩
  have HD : Hid (Unit → addN a b = addP a b k1 k2 s1 s2 m1 m2 e1 e2) := fun _ => by rw [addN_P, hk1, hk2, hs1, hs2, hm1, hm2, he1, he2]
  rw [hk1, hs1, hm1, he1] at cA
  rw [hk2, hs2, hm2, he2] at cB
  have HF1 : Hid (Unit → Fin1 k1 m1 e1) := fun _ => by rw [← hk1, ← hm1, ← he1]; exact fin1_of a
  have HF2 : Hid (Unit → Fin1 k2 m2 e2) := fun _ => by rw [← hk2, ← hm2, ← he2]; exact fin1_of b
  obtain ⟨R, hR⟩ : ∃ R, addN a b = R := ⟨_, rfl⟩
  rw [hR] at HD ⊢
  have HK1 : Hid (Unit → k1 = 4) := fun _ => hk1.symm.trans ka
  have HK2 : Hid (Unit → k2 = 4) := fun _ => hk2.symm.trans kb
  clear hR hk1 hk2 ka kb hs1 hs2 hm1 hm2 he1 he2 ha hb
  go_enter Try.func26, Try.ntmps26
  go_wp2_with fail
  refine (cA _).mono ?_
  rintro e w1 ⟨rfl, hb1⟩
  clear cA
  go_wp2_with fail
  refine (cB _).mono ?_
  rintro e w2 ⟨rfl, hb2⟩
  clear cB
  go_upto_region 3 with fail
  have hlt : w1.heap.size < w2.heap.size := by have := hb2.size; simp at this; omega
  obtain ⟨wq, hwq⟩ : ∃ wq, w2.alloc (.cells #[.int .i64 k2, .bool s2, .int .u64 m2, .int .i64 e2] 29) = wq := ⟨_, rfl⟩
  have hQ : wq.heap[w2.heap.size]? = some (.cells #[.int .i64 k2, .bool s2, .int .u64 m2, .int .i64 e2] 29) := by rw [← hwq]; exact heap_alloc_new _ _
  have hP : wq.heap[w1.heap.size]? = some (.cells #[.int .i64 k1, .bool s1, .int .u64 m1, .int .i64 e1] 29) := by rw [← hwq]; exact (Below.heap_alloc w2 _ _ hlt).trans (alloc_kept hb2)
  have hBb : Below w.heap.size w wq := by
    have hb3 : Below w.heap.size w w2 := (hb1.alloc hb1.size _).trans (hb2.mono (by simp; exact Nat.le_succ_of_le hb1.size))
    rw [← hwq]; exact hb3.alloc hb3.size _
  have hgp : w.heap.size ≤ w1.heap.size := hb1.size
  obtain ⟨gq, hgq⟩ : ∃ g, w2.heap.size = g := ⟨_, rfl⟩
  obtain ⟨gp, hgp2⟩ : ∃ g, w1.heap.size = g := ⟨_, rfl⟩
  simp only [hwq, hgq, hgp2]
  rw [hgq] at hQ hlt
  rw [hgp2] at hP hgp hlt
  clear hwq hgq hgp2 hb1 hb2
  clear w1 w2
  have fp := fun j => frozen_of_row wq gp j _ _ hP
  have fq := fun j => frozen_of_row wq gq j _ _ hQ
  obtain ⟨p0, p1, p2, p3⟩ := cells_four hP
  obtain ⟨q0, q1, q2, q3⟩ := cells_four hQ
  have hK1 := HK1.out ()
  have hK2 := HK2.out ()
  subst hK1 hK2
  clear HK1 HK2
  have HE : Hid (Unit → R = roundZ (sumZ s1 m1 e1 s2 m2 e2) (min e1 e2)) := fun _ => by rw [HD.out ()]; simp [addP]
  clear HD
  go_upto_region 21 with fail
  go_cut [94] (fun c wx => ∃ cb : Bool, c = .bool cb ∧ wx = wq ∧ Hid (Unit → (cb = true → e1 ≤ e2) ∧ (cb = false → e2 ≤ e1)))
  case first =>
    by_cases h1 : e1 < e2
    · go_wp2
      go_meet
      case rel => exact ⟨true, rfl, rfl, fun _ => ⟨fun _ => by omega, fun h => by simp at h⟩⟩
    · have h1' : decide (e1 < e2) = false := by simp; omega
      by_cases h2 : e1 = e2
      · subst h2
        by_cases h3 : (m1 : Int) < m2
        · go_wp2
          go_meet
          case rel => exact ⟨true, rfl, rfl, fun _ => ⟨fun _ => by omega, fun h => by simp at h⟩⟩
        · have h3' : decide ((m1 : Int) < m2) = false := by simp; omega
          go_wp2
          go_meet
          case rel => exact ⟨false, rfl, rfl, fun _ => ⟨fun h => by simp at h, fun _ => by omega⟩⟩
      · have h2' : (e1 == e2) = false := by rw [beq_eq_false_iff_ne]; exact h2
        go_wp2
        go_meet
        case rel => exact ⟨false, rfl, rfl, fun _ => ⟨fun h => by simp at h, fun _ => by omega⟩⟩
  case rest =>
    obtain ⟨cb, rfl, rfl, HC⟩ := hcut
    go_upto_if 94 with fail
    go_cut [] (fun wx => ∃ sP mP eP sQ mQ eQ, R = roundZ (sumZ sP mP eP sQ mQ eQ) (min eP eQ) ∧ Fin1 4 mP eP ∧ Fin1 4 mQ eQ ∧ eQ ≤ eP ∧ Below w.heap.size w wx ∧ wx.cell? ⟨gp, 1, none⟩ = some (.bool sP) ∧ wx.cell? ⟨gp, 2, none⟩ = some (.int .u64 (mP : Nat)) ∧ wx.cell? ⟨gp, 3, none⟩ = some (.int .i64 eP) ∧ wx.cell? ⟨gq, 1, none⟩ = some (.bool sQ) ∧ wx.cell? ⟨gq, 2, none⟩ = some (.int .u64 (mQ : Nat)) ∧ wx.cell? ⟨gq, 3, none⟩ = some (.int .i64 eQ))
    case first =>
      cases cb
      · go_wp2
        go_meet
        case rel => exact ⟨s1, m1, e1, s2, m2, e2, HE.out (), HF1.out (), HF2.out (), (HC.out ()).2 (by simp), hBb, p1, p2, p3, q1, q2, q3⟩
      · go_wp2
        go_meet
        case rel =>
          refine ⟨s2, m2, e2, s1, m1, e1, by rw [HE.out (), sumZ_comm, Int.min_comm], HF2.out (), HF1.out (), (HC.out ()).1 (by simp), ?_⟩
          have hne : gp ≠ gq := by omega
          have hne' : gq ≠ gp := by omega
          have hgq : w.heap.size ≤ gq := by omega
          refine ⟨?_, ?_, ?_, ?_, ?_, ?_, ?_⟩
          · exact (((((((hBb.setCell (p := ⟨gp, 0, none⟩) hgp _).setCell (p := ⟨gp, 1, none⟩) hgp _).setCell (p := ⟨gp, 2, none⟩) hgp _).setCell (p := ⟨gp, 3, none⟩) hgp _).setCell (p := ⟨gq, 0, none⟩) hgq _).setCell (p := ⟨gq, 1, none⟩) hgq _).setCell (p := ⟨gq, 2, none⟩) hgq _).setCell (p := ⟨gq, 3, none⟩) hgq _
          · exact set_keep_b hne' (set_keep_b hne' (set_keep_b hne' (set_keep_b hne' (set_keep_o (by decide) (set_keep_o (by decide) (set_here (set_keep_o (by decide) (p1))))))))
          · exact set_keep_b hne' (set_keep_b hne' (set_keep_b hne' (set_keep_b hne' (set_keep_o (by decide) (set_here (set_keep_o (by decide) (set_keep_o (by decide) (p2))))))))
          · exact set_keep_b hne' (set_keep_b hne' (set_keep_b hne' (set_keep_b hne' (set_here (set_keep_o (by decide) (set_keep_o (by decide) (set_keep_o (by decide) (p3))))))))
          · exact set_keep_o (by decide) (set_keep_o (by decide) (set_here (set_keep_o (by decide) (set_keep_b hne (set_keep_b hne (set_keep_b hne (set_keep_b hne (q1))))))))
          · exact set_keep_o (by decide) (set_here (set_keep_o (by decide) (set_keep_o (by decide) (set_keep_b hne (set_keep_b hne (set_keep_b hne (set_keep_b hne (q2))))))))
          · exact set_here (set_keep_o (by decide) (set_keep_o (by decide) (set_keep_o (by decide) (set_keep_b hne (set_keep_b hne (set_keep_b hne (set_keep_b hne (q3))))))))
    case rest =>
      obtain ⟨sP, mP, eP, sQ, mQ, eQ, hR, f1, f2, hle, hBc, c1, c2, c3, d1, d2, d3⟩ := hcut
      clear hBb fp fq p0 p1 p2 p3 q0 q1 q2 q3 HF1 HF2 HE HC
      have HR : Hid (Unit → R = roundZ (sumZ sP mP eP sQ mQ eQ) (min eP eQ)) := fun _ => hR
      have HF1 : Hid (Unit → Fin1 4 mP eP) := fun _ => f1
      have HF2 : Hid (Unit → Fin1 4 mQ eQ) := fun _ => f2
      have b1 := f1.lo
      have b2 := f1.hi
      have b3 := f2.lo
      have b4 := f2.hi
      clear f1 f2 hR
      go_upto_region 25 with fail
      go_loop [7, 8] (fun x7 x8 => ∃ j X : Nat, x7 = .int .u64 X ∧ x8 = .int .i64 (eP - j) ∧ (j : Int) ≤ eP - eQ ∧ Hid (Unit → X = mP * 2 ^ j ∧ X < 4611686018427387904)) (fun _ x8 => (intOf x8 - eQ).toNat)
      case atStart => exact ⟨0, mP, rfl, by simp, by omega, fun _ => ⟨by simp, by have := (HF1.out ()).lt; omega⟩⟩
      case round =>
        obtain ⟨j, X, rfl, rfl, hj, HX⟩ := hrel
        obtain ⟨F, hF⟩ : ∃ F, eP - j = F := ⟨_, rfl⟩
        rw [hF]
        have HFF : Hid (Unit → eP - j = F) := fun _ => hF
        have hF1 : eQ ≤ F := by omega
        have hF2 : F ≤ 971 := by omega
        clear hF
        go_upto_region 25 with fail
        go_cut [109] from 101 to 113 (fun c wx => ∃ cb : Bool, c = .bool cb ∧ wx = wc ∧ Hid (Unit → (cb = true → X < 2305843009213693952 ∧ eQ < F) ∧ (cb = false → 2305843009213693952 ≤ X ∨ F = eQ)))
        case first =>
          have cP := fun W => l03Pow_any 61 W (by decide)
          by_cases h1 : (X : Int) < 2305843009213693952
          · by_cases h2 : eQ < F
            · go_wp2_with (go_at_call 38; refine (cP _).mono ?_; rintro e w' ⟨rfl, rfl⟩)
              go_meet
              case rel => exact ⟨true, rfl, rfl, fun _ => ⟨fun _ => ⟨by omega, h2⟩, fun h => by simp at h⟩⟩
            · have h2' : decide (eQ < F) = false := by simp; omega
              go_wp2_with (go_at_call 38; refine (cP _).mono ?_; rintro e w' ⟨rfl, rfl⟩)
              go_meet
              case rel => exact ⟨false, rfl, rfl, fun _ => ⟨fun h => by simp at h, fun _ => .inr (by omega)⟩⟩
          · have h1' : decide ((X : Int) < 2305843009213693952) = false := by simp; omega
            go_wp2_with (go_at_call 38; refine (cP _).mono ?_; rintro e w' ⟨rfl, rfl⟩)
            go_meet
            case rel => exact ⟨false, rfl, rfl, fun _ => ⟨fun h => by simp at h, fun _ => .inl (by omega)⟩⟩
        case rest =>
          obtain ⟨cb2, rfl, rfl, HC⟩ := hcut
          cases cb2
          · have HE1 : Hid (Unit → 2305843009213693952 ≤ X ∨ F = eQ) := fun _ => (HC.out ()).2 (by simp)
            clear HC
            obtain ⟨D, hD⟩ : ∃ D : Nat, F = eQ + D := ⟨(F - eQ).toNat, by omega⟩
            have HDD : Hid (Unit → F = eQ + D) := fun _ => hD
            clear hD
            go_upto_region 31 with fail
            go_loop [9, 10, 11] (fun x9 x10 x11 => ∃ (n : Nat) (l : Bool) (I : Int), x9 = .int .u64 n ∧ x10 = .bool l ∧ x11 = .int .i64 I ∧ (n : Int) < 9007199254740992 ∧ -1075 ≤ I ∧ I ≤ F + 1 ∧ Hid (Unit → (∃ k : Nat, I = eQ + k ∧ k ≤ D ∧ LostAt mQ k n l) ∨ (F < I ∧ LostAt mQ D n l))) (fun _ _ x11 => (F + 1 - intOf x11).toNat)
            case atStart => exact ⟨mQ, false, eQ, rfl, rfl, rfl, by have := (HF2.out ()).lt; omega, by omega, by omega, fun _ => .inl ⟨0, by simp, by omega, lost_start mQ⟩⟩
            case round =>
              obtain ⟨n, l, I, rfl, rfl, rfl, hn1, hI1, hI2, HI⟩ := hrel
              by_cases hlt : I < F
              · have HL : Hid (Unit → ∃ k : Nat, I + 1 = eQ + k ∧ k ≤ D ∧ LostAt mQ k (n / 2) (l || decide (n % 2 = 1))) := fun _ => by
                  have hD := HDD.out ()
                  rcases HI.out () with ⟨k, h1, h2, h3⟩ | ⟨h1, _⟩
                  · exact ⟨k + 1, by omega, by omega, lost_step h3⟩
                  · omega
                clear HI
                by_cases hz : n / 2 = 0
                · have hz' : (n : Int) / 2 = 0 := by omega
                  cases l
                  · by_cases ho : n % 2 = 1
                    · have ho' : ((n : Int) % 2 == 1) = true := by simp; omega
                      have HS : Hid (Unit → LostAt mQ D (n / 2) true) := fun _ => by
                        obtain ⟨k, _, h2, h3⟩ := HL.out ()
                        rw [hz, ho] at *
                        exact lost_stop (l := true) h3 h2
                      go_wp2
                      go_round
                      case rel => exact ⟨n / 2, true, F + 1, by go_num, rfl, by go_num, by omega, by omega, by omega, fun _ => .inr ⟨by omega, HS.out ()⟩⟩
                      case measure => simp [intOf]; omega
                    · have ho' : ((n : Int) % 2 == 1) = false := by rw [beq_eq_false_iff_ne]; omega
                      have HS : Hid (Unit → ∃ k : Nat, I + 1 = eQ + k ∧ k ≤ D ∧ LostAt mQ k (n / 2) false) := fun _ => by
                        obtain ⟨k, h1, h2, h3⟩ := HL.out ()
                        rw [decide_eq_false ho] at h3
                        exact ⟨k, h1, h2, h3⟩
                      go_wp2
                      go_round
                      case rel => exact ⟨n / 2, false, I + 1, by go_num, rfl, by go_num, by omega, by omega, by omega, fun _ => .inl (HS.out ())⟩
                      case measure => simp [intOf]; omega
                  · have HS : Hid (Unit → LostAt mQ D (n / 2) true) := fun _ => by
                      obtain ⟨k, _, h2, h3⟩ := HL.out ()
                      rw [hz] at *
                      exact lost_stop (l := true) h3 h2
                    go_wp2
                    go_round
                    case rel => exact ⟨n / 2, true, F + 1, by go_num, rfl, by go_num, by omega, by omega, by omega, fun _ => .inr ⟨by omega, HS.out ()⟩⟩
                    case measure => simp [intOf]; omega
                · have hz' : ((n : Int) / 2 == 0) = false := by rw [beq_eq_false_iff_ne]; omega
                  cases l
                  · by_cases ho : n % 2 = 1
                    · have ho' : ((n : Int) % 2 == 1) = true := by simp; omega
                      have HS : Hid (Unit → ∃ k : Nat, I + 1 = eQ + k ∧ k ≤ D ∧ LostAt mQ k (n / 2) true) := fun _ => by
                        obtain ⟨k, h1, h2, h3⟩ := HL.out ()
                        rw [decide_eq_true ho] at h3
                        exact ⟨k, h1, h2, h3⟩
                      go_wp2
                      go_round
                      case rel => exact ⟨n / 2, true, I + 1, by go_num, rfl, by go_num, by omega, by omega, by omega, fun _ => .inl (HS.out ())⟩
                      case measure => simp [intOf]; omega
                    · have ho' : ((n : Int) % 2 == 1) = false := by rw [beq_eq_false_iff_ne]; omega
                      have HS : Hid (Unit → ∃ k : Nat, I + 1 = eQ + k ∧ k ≤ D ∧ LostAt mQ k (n / 2) false) := fun _ => by
                        obtain ⟨k, h1, h2, h3⟩ := HL.out ()
                        rw [decide_eq_false ho] at h3
                        exact ⟨k, h1, h2, h3⟩
                      go_wp2
                      go_round
                      case rel => exact ⟨n / 2, false, I + 1, by go_num, rfl, by go_num, by omega, by omega, by omega, fun _ => .inl (HS.out ())⟩
                      case measure => simp [intOf]; omega
                  · have HS : Hid (Unit → ∃ k : Nat, I + 1 = eQ + k ∧ k ≤ D ∧ LostAt mQ k (n / 2) true) := fun _ => HL.out ()
                    go_wp2
                    go_round
                    case rel => exact ⟨n / 2, true, I + 1, by go_num, rfl, by go_num, by omega, by omega, by omega, fun _ => .inl (HS.out ())⟩
                    case measure => simp [intOf]; omega
              · have HL : Hid (Unit → LostAt mQ D n l) := fun _ => by
                  have hD := HDD.out ()
                  rcases HI.out () with ⟨k, h1, h2, h3⟩ | ⟨_, h1⟩
                  · have : k = D := by omega
                    subst this; exact h3
                  · exact h1
                have HEnd : Hid (Unit → AddEnd R sP sQ X n F l) := fun _ => by
                  have hD := HDD.out ()
                  have hF := HFF.out ()
                  rw [← hF, (HX.out ()).1]
                  exact addEnd_of (HR.out ()) (HF1.out ()) (HF2.out ()) (by omega) (by have := HE1.out (); rw [(HX.out ()).1] at this; omega) (HL.out ())
                have HN : Hid (Unit → n < 9007199254740992) := fun _ => by rw [(HL.out ()).1]; exact Nat.lt_of_le_of_lt (Nat.div_le_self _ _) (HF2.out ()).lt
                have HXX : Hid (Unit → X < 4611686018427387904) := fun _ => (HX.out ()).2
                have hlt' : decide (I < F) = false := by simp; omega
                have hFl : -1074 ≤ F := by omega
                clear HI HL HX HDD HE1 HR HF1 HF2
                go_upto_region 37 with fail
                have hXi : (X : Int) < 4611686018427387904 := by have := HXX.out (); omega
                by_cases hs : sP = sQ
                · subst hs
                  have cR : ∀ W, Calls Try.prog 31 #[.bool sP, .int .u64 ((X : Int) + n), .int .i64 F, .bool l] W fun e w' => e = .returned (.int .u64 (R : Nat)) ∧ W = w' := fun W => by
                    have h := specRound_any sP l (X + n) F W (by omega) (by omega) (by omega)
                    rw [← (HEnd.out ()).same rfl, Int.natCast_add] at h
                    exact h
                  clear HEnd
                  go_wp2_with (go_at_call 31; refine (cR _).mono ?_; rintro e w' ⟨rfl, rfl⟩)
                  go_ret
                  exact ⟨rfl, hBc⟩
                · have hs' : (sP == sQ) = false := by simpa using hs
                  by_cases hx1 : X = n
                  · have hl := (HEnd.out ()).whole (by omega)
                    have HZ : Hid (Unit → R = 0) := fun _ => (HEnd.out ()).none hs hx1
                    subst hx1 hl
                    clear HEnd
                    go_wp2
                    go_ret
                    exact ⟨by rw [HZ.out ()]; rfl, hBc⟩
                  · have hx1' : ((X : Int) == n) = false := by rw [beq_eq_false_iff_ne]; omega
                    by_cases hx2 : X < n
                    · have cR : ∀ W, Calls Try.prog 31 #[.bool sQ, .int .u64 ((n : Int) - X), .int .i64 F, .bool false] W fun e w' => e = .returned (.int .u64 (R : Nat)) ∧ W = w' := fun W => by
                        have h := specRound_any sQ false (n - X) F W (by omega) (by omega) (by omega)
                        rw [Bool.false_and, ← (HEnd.out ()).less hs hx2, Int.natCast_sub (by omega)] at h
                        exact h
                      clear HEnd
                      go_wp2_with (go_at_call 31; refine (cR _).mono ?_; rintro e w' ⟨rfl, rfl⟩)
                      go_ret
                      exact ⟨rfl, hBc⟩
                    · have hx3 : n < X := by omega
                      obtain ⟨Y, hY⟩ : ∃ Y, X - n = Y := ⟨_, rfl⟩
                      have hw1 : IntKind.u64.wrap ((X : Int) - n) = Y := by
                        show ((X : Int) - n) % 18446744073709551616 = Y
                        omega
                      cases l
                      · have cR : ∀ W, Calls Try.prog 31 #[.bool sP, .int .u64 Y, .int .i64 F, .bool false] W fun e w' => e = .returned (.int .u64 (R : Nat)) ∧ W = w' := fun W => by
                          have h := specRound_any sP false (X - n) F W (by omega) (by omega) (by omega)
                          rw [Bool.false_and, ← (HEnd.out ()).more hs hx3 rfl, hY] at h
                          exact h
                        clear HEnd hx3 hx1 hlt HN HXX hlt' hXi hn1 hY
                        go_wp2_with (go_at_call 31; refine (cR _).mono ?_; rintro e w' ⟨rfl, rfl⟩)
                        go_ret
                        exact ⟨rfl, hBc⟩
                      · obtain ⟨Z, hZ⟩ : ∃ Z, X - n - 1 = Z := ⟨_, rfl⟩
                        have hw2 : IntKind.u64.wrap ((Y : Int) - 1) = Z := by
                          show ((Y : Int) - 1) % 18446744073709551616 = Z
                          omega
                        have cR : ∀ W, Calls Try.prog 31 #[.bool sP, .int .u64 Z, .int .i64 F, .bool true] W fun e w' => e = .returned (.int .u64 (R : Nat)) ∧ W = w' := fun W => by
                          have h := specRound_any sP true (X - n - 1) F W (by omega) (by omega) (by omega)
                          rw [← (HEnd.out ()).lost hs hx3 rfl, hZ] at h
                          exact h
                        clear HEnd hx3 hx1 hlt HN HXX hlt' hXi hn1 hY hZ
                        go_wp2_with (go_at_call 31; refine (cR _).mono ?_; rintro e w' ⟨rfl, rfl⟩)
                        go_ret
                        exact ⟨rfl, hBc⟩
          · have hX2 : (X : Int) < 2305843009213693952 := by have := ((HC.out ()).1 (by simp)).1; omega
            go_wp2
            go_round
            case rel => exact ⟨j + 1, X * 2, by go_num, by have := HFF.out (); go_num, by have := ((HC.out ()).1 (by simp)).2; have := HFF.out (); omega, fun _ => ⟨by rw [(HX.out ()).1, Nat.pow_succ, Nat.mul_assoc], by have := ((HC.out ()).1 (by simp)).1; omega⟩⟩
            case measure => have := ((HC.out ()).1 (by simp)).2; simp [intOf]; omega

end Go.Proofs.Ytdaebbejpoejcaa
