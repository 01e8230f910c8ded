/-
  The walk of the specification's Nearest.
-/
import Derived.Test.YtcdplnejejpjnaaGreatDoorQuo
import Derived.Deep.CutBlock
namespace Go.Proofs.YtcdplnejejpjnaaGreatDoor
open Go.RowKit
set_option linter.unusedVariables false

/-- what Nearest answers -/
def nearN (l : List UInt8) (e : Int) : Nat := if figsOk l = true ∧ l.length ≤ 60 ∧ -500 ≤ e ∧ e ≤ 500 ∧ zeroB l = false then quoG (digV l * 10 ^ e.toNat) (10 ^ (-e).toNat) else 0

theorem ten_le {k n : Nat} (h : k ≤ n) : 10 ^ k ≤ 10 ^ n := Nat.pow_le_pow_right (by decide) h
theorem near_one : (10 : Nat) ^ 500 < 2 ^ 2000 := by decide +kernel
theorem near_two : (10 : Nat) ^ 60 * 10 ^ 500 < 2 ^ 2000 := by decide +kernel
theorem near_small {n k : Nat} (hn : n < 10 ^ 60) (hk : k ≤ 500) : n * 10 ^ k < 2 ^ 2000 ∧ 10 ^ k < 2 ^ 2000 :=
  ⟨Nat.lt_of_le_of_lt (Nat.mul_le_mul (Nat.le_of_lt hn) (ten_le hk)) near_two, Nat.lt_of_le_of_lt (ten_le hk) near_one⟩

theorem nearN_none {l : List UInt8} {e : Int} (h : ¬(figsOk l = true ∧ l.length ≤ 60 ∧ -500 ≤ e ∧ e ≤ 500 ∧ zeroB l = false)) : nearN l e = 0 := by
  unfold nearN
  rw [if_neg h]

set_option maxHeartbeats 2000000 in
set_option maxRecDepth 100000 in
theorem specNearest_any (s : ByteArray) (x : Int) (w : World) (ls : s.size ≤ 1048576) (hx1 : -9223372036854775808 ≤ x) (hx2 : x ≤ 9223372036854775807) :
    Calls Tryz.prog 51 #[.string s, .int .i64 x] w fun e w' => e = .returned (.int .u64 (nearN s.data.toList x : Nat)) ∧ Below w.heap.size w w' := by
  have cF := fun W => specFiguresOk_any s W
  have cI := fun W => l01In_any x (-500) 500 W
  have cZ := fun W => l07Zero_any s W ls
  obtain ⟨R, hR⟩ : ∃ R, nearN s.data.toList x = R := ⟨_, rfl⟩
  have HR : Hid (Unit → nearN s.data.toList x = R) := fun _ => hR
  have HS : Hid (Unit → s.data.toList.length = s.size) := fun _ => size_list s
  have HF : Hid (Unit → figsOk s.data.toList = true → Figs s.data.toList) := fun _ h => figsOk_figs h
  rw [hR]
  clear hR
  obtain ⟨f, hf⟩ : ∃ f, figsOk s.data.toList = f := ⟨_, rfl⟩
  rw [hf] at cF
  have HF1 : Hid (Unit → figsOk s.data.toList = f) := fun _ => hf
  obtain ⟨z, hz⟩ : ∃ f, zeroB s.data.toList = f := ⟨_, rfl⟩
  rw [hz] at cZ
  have HZ1 : Hid (Unit → zeroB s.data.toList = z) := fun _ => hz
  clear hf hz
  cases f
  · have HZ : Hid (Unit → R = 0) := fun _ => by rw [← HR.out (), nearN_none (fun h => by rw [HF1.out ()] at h; exact absurd h.1 (by decide))]
    clear cI cZ
    go_enter Tryz.func51, Tryz.ntmps51
    go_wp2_with fail
    refine (cF _).mono ?_
    rintro e w' ⟨rfl, rfl⟩
    go_wp2
    go_ret
    exact ⟨by rw [HZ.out ()]; rfl, Below.refl _ _⟩
  · by_cases h60 : (60 : Int) < s.size
    · have HZ : Hid (Unit → R = 0) := fun _ => by rw [← HR.out (), nearN_none (fun h => by have := HS.out (); omega)]
      clear cI cZ
      go_enter Tryz.func51, Tryz.ntmps51
      go_wp2_with fail
      refine (cF _).mono ?_
      rintro e w' ⟨rfl, rfl⟩
      go_wp2
      go_ret
      exact ⟨by rw [HZ.out ()]; rfl, Below.refl _ _⟩
    · have d60 : decide ((60 : Int) < s.size) = false := by simp; omega
      by_cases hin : -500 ≤ x ∧ x ≤ 500
      · rw [decide_eq_true hin.1, decide_eq_true hin.2] at cI
        cases z
        · obtain ⟨hx3, hx4⟩ := hin
          have HV : Hid (Unit → R = quoG (digV s.data.toList * 10 ^ x.toNat) (10 ^ (-x).toNat) ∧ digV s.data.toList < 10 ^ 60 ∧ digV s.data.toList ≠ 0) := fun _ => by
            have hl := HS.out ()
            have hfg := HF.out () (HF1.out ())
            refine ⟨?_, ?_, ?_⟩
            · rw [← HR.out ()]
              unfold nearN
              rw [if_pos ⟨HF1.out (), by omega, hx3, hx4, HZ1.out ()⟩]
            · exact Nat.lt_of_lt_of_le (digV_lt hfg) (ten_le (by omega))
            · have := HZ1.out ()
              rw [zeroB_val hfg] at this
              simpa using this
          have cB := fun W => l07Bin_any s W (HF.out () (HF1.out ())) (by omega)
          clear HR HF HF1 HZ1
          go_enter Tryz.func51, Tryz.ntmps51
          go_wp2_with fail
          refine (cF _).mono ?_
          rintro e w' ⟨rfl, rfl⟩
          go_wp2_with fail
          refine (cI _).mono ?_
          rintro e w' ⟨rfl, rfl⟩
          go_wp2_with fail
          refine (cZ _).mono ?_
          rintro e w' ⟨rfl, rfl⟩
          go_wp2_with fail
          refine (cB _).mono ?_
          rintro e w1 ⟨v1, xs, rfl, hrow, hb1, hval, hok, hlen⟩
          obtain ⟨D, hD⟩ : ∃ D, digV s.data.toList = D := ⟨_, rfl⟩
          rw [hD] at HV hval
          have HXA : Hid (BinOk xs ∧ xs.length ≤ 60 ∧ binV xs = D) := ⟨hok, by omega, hval⟩
          have hrow1 := hrow.base (Nat.zero_le _)
          clear hD hok hlen hval hrow cF cI cZ cB
          go_upto_block 0 with fail
          have hone : RowW (w1.alloc (.cells #[.int .u64 1] 24)) 0 (.slice (some ⟨w1.heap.size, 0, none⟩) 1 1) [1] := ⟨by simp, .inr ⟨w1.heap.size, 1, #[.int .u64 1], rfl, Nat.zero_le _, heap_alloc_new w1 _, Nat.le_refl _, by unfold maxLen; omega, by simp, by rfl⟩⟩
          have hb2 : Below w1.heap.size w1 (w1.alloc (.cells #[.int .u64 1] 24)) := (Below.refl _ _).alloc (Nat.le_refl _) _
          have hbel2 := chain hb1 hb2
          have hrow2 := hrow1.below hb2
          obtain ⟨w2, hw2⟩ : ∃ w2, w1.alloc (.cells #[.int .u64 1] 24) = w2 := ⟨_, rfl⟩
          obtain ⟨vb, hvb⟩ : ∃ vb, Value.slice (some ⟨w1.heap.size, 0, none⟩) 1 1 = vb := ⟨_, rfl⟩
          simp only [hw2, hvb]
          rw [hw2] at hone hbel2 hrow2
          rw [hvb] at hone
          clear hw2 hb2 hrow1 hvb hb1
          clear w1
          go_wp2_with fail
          go_loopw [5, 7] (fun s5 x7 wr => ∃ (ys : List Nat) (k : Nat), x7 = .int .i64 k ∧ (k : Int) ≤ max x 0 ∧ RowW wr 0 s5 ys ∧ Below w2.heap.size w2 wr ∧ Hid (BinOk ys ∧ ys.length ≤ 60 + k ∧ binV ys = D * 10 ^ k)) (fun _ x7 _ => (max x 0 - intOf x7).toNat)
          case atStart => exact ⟨xs, 0, rfl, by omega, hrow2, Below.refl _ _, ⟨HXA.out.1, HXA.out.2.1, by rw [HXA.out.2.2, Nat.pow_zero, Nat.mul_one]⟩⟩
          case round =>
            obtain ⟨ys, k, rfl, hk, hrow3, hb3, HI⟩ := hrel
            by_cases hlt : (k : Int) < x
            · have cM := l07MulAdd_any _ ys 10 0 0 wr hrow3 HI.out.1 (by decide) (by decide) (by have := HI.out.2.1; omega)
              go_wp2_with fail
              refine cM.mono ?_
              rintro e w4 ⟨v4, zs, rfl, hrow4, hb4, h1, h2, h3⟩
              have HF2 : Hid (BinOk zs ∧ zs.length ≤ 60 + (k + 1) ∧ binV zs = D * 10 ^ (k + 1)) := ⟨h2, by have := HI.out.2.1; omega, by rw [h1, HI.out.2.2, Nat.pow_succ, Nat.mul_assoc, Nat.add_zero]⟩
              have hrow5 := hrow4.base (Nat.zero_le _)
              have hb5 := chain hb3 hb4
              clear h1 h2 h3 hrow4 hb4 hrow3 hb3 HI cM
              go_wp2
              go_roundw
              case rel => exact ⟨zs, k + 1, by go_num, by omega, hrow5, hb5, HF2⟩
              case measure => simp [intOf]; omega
            · have hlt' : decide ((k : Int) < x) = false := by simp; omega
              have HKX : Hid (Unit → k = x.toNat) := fun _ => by omega
              have hone3 := hone.below hb3
              have hbel3 := chain hbel2 hb3
              clear hk hb3 hbel2 hrow2 hone
              go_wp2_with fail
              go_loopw [6, 8] (fun s6 x8 wz => ∃ (zs : List Nat) (m : Nat), x8 = .int .i64 m ∧ (m : Int) ≤ max (-x) 0 ∧ RowW wz 0 s6 zs ∧ Below wr.heap.size wr wz ∧ Hid (BinOk zs ∧ zs.length ≤ 1 + m ∧ binV zs = 10 ^ m)) (fun _ x8 _ => (max (-x) 0 - intOf x8).toNat)
              case atStart => exact ⟨[1], 0, rfl, by omega, hone3, Below.refl _ _, ⟨binOk_snoc binOk_nil (by decide), by simp, by rfl⟩⟩
              case round =>
                obtain ⟨zs, m, rfl, hm, hrow6, hb6, HJ⟩ := hrel
                by_cases hlt2 : (m : Int) < -x
                · have cM := l07MulAdd_any _ zs 10 0 0 _ hrow6 HJ.out.1 (by decide) (by decide) (by have := HJ.out.2.1; omega)
                  go_wp2_with fail
                  refine cM.mono ?_
                  rintro e w7 ⟨v7, ts, rfl, hrow7, hb7, h1, h2, h3⟩
                  have HF2 : Hid (BinOk ts ∧ ts.length ≤ 1 + (m + 1) ∧ binV ts = 10 ^ (m + 1)) := ⟨h2, by have := HJ.out.2.1; omega, by rw [h1, HJ.out.2.2, Nat.pow_succ, Nat.add_zero]⟩
                  have hrow8 := hrow7.base (Nat.zero_le _)
                  have hb8 := chain hb6 hb7
                  clear h1 h2 h3 hrow7 hb7 hrow6 hb6 HJ cM
                  go_wp2
                  go_roundw
                  case rel => exact ⟨ts, m + 1, by go_num, by omega, hrow8, hb8, HF2⟩
                  case measure => simp [intOf]; omega
                · have hlt2' : decide ((m : Int) < -x) = false := by simp; omega
                  have HMX : Hid (Unit → m = (-x).toNat) := fun _ => by omega
                  have hk5 : k ≤ 500 := by have := HKX.out (); omega
                  have hm5 : m ≤ 500 := by omega
                  obtain ⟨v1, v2, v3⟩ := HV.out ()
                  have cQ := l07Quotient_any _ _ ys zs _ (hrow3.below hb6) hrow6 HI.out.1 HJ.out.1 (by rw [HI.out.2.2]; exact Nat.mul_ne_zero v3 (by have := Nat.pow_pos (n := k) (by decide : 0 < 10); omega)) (by rw [HJ.out.2.2]; have := Nat.pow_pos (n := m) (by decide : 0 < 10); omega) (by have := HI.out.2.1; omega) (by have := HJ.out.2.1; omega) (by rw [HI.out.2.2]; exact (near_small v2 hk5).1) (by rw [HJ.out.2.2]; exact (near_small v2 hm5).2)
                  rw [HI.out.2.2, HJ.out.2.2] at cQ
                  have v4 : R = quoG (D * 10 ^ k) (10 ^ m) := by rw [v1, HKX.out (), HMX.out ()]
                  rw [← v4] at cQ
                  have hbel9 := chain hbel3 hb6
                  clear v1 v2 v3 v4 HV hm
                  go_wp2_with fail
                  refine cQ.mono ?_
                  rintro e w9 ⟨rfl, hb9⟩
                  go_wp2
                  go_ret
                  exact ⟨rfl, chain hbel9 hb9⟩
        · have HZ : Hid (Unit → R = 0) := fun _ => by rw [← HR.out (), nearN_none (fun h => by rw [HZ1.out ()] at h; exact absurd h.2.2.2.2 (by decide))]
          clear hin
          go_enter Tryz.func51, Tryz.ntmps51
          go_wp2_with fail
          refine (cF _).mono ?_
          rintro e w' ⟨rfl, rfl⟩
          go_wp2_with fail
          refine (cI _).mono ?_
          rintro e w' ⟨rfl, rfl⟩
          go_wp2_with fail
          refine (cZ _).mono ?_
          rintro e w' ⟨rfl, rfl⟩
          go_wp2
          go_ret
          exact ⟨by rw [HZ.out ()]; rfl, Below.refl _ _⟩
      · have HZ : Hid (Unit → R = 0) := fun _ => by rw [← HR.out (), nearN_none (fun h => hin ⟨h.2.2.1, h.2.2.2.1⟩)]
        have hcI : (decide (-500 ≤ x) && decide (x ≤ 500)) = false := by rw [Bool.and_eq_false_iff, decide_eq_false_iff_not, decide_eq_false_iff_not]; omega
        rw [hcI] at cI
        clear hin cZ hcI
        go_enter Tryz.func51, Tryz.ntmps51
        go_wp2_with fail
        refine (cF _).mono ?_
        rintro e w' ⟨rfl, rfl⟩
        go_wp2_with fail
        refine (cI _).mono ?_
        rintro e w' ⟨rfl, rfl⟩
        go_wp2
        go_ret
        exact ⟨by rw [HZ.out ()]; rfl, Below.refl _ _⟩

end Go.Proofs.YtcdplnejejpjnaaGreatDoor
