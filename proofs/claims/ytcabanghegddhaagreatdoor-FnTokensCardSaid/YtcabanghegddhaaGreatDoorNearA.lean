/-
  Several texts in one: Quo, Near7.
-/
import Derived.Test.YtcabanghegddhaaGreatDoorBinA
import Derived.Test.YtcabanghegddhaaGreatDoorNumA
import Derived.Test.YtcabanghegddhaaGreatDoorBitsA
import Derived.Deep.DeepCutAuto
import Derived.Deep.CutBlock
namespace Go.Proofs.YtcabanghegddhaaGreatDoor
open Go.RowKit
set_option linter.unusedVariables false

set_option maxHeartbeats 4000000 in
set_option maxRecDepth 100000 in
theorem l07Quotient_any (va vb : Value) (ls ms : List Nat) (w : World) (hA : RowW w 0 va ls) (hB : RowW w 0 vb ms) (oa : BinOk ls) (ob : BinOk ms) (za : binV ls ≠ 0) (zb : binV ms ≠ 0) (la : ls.length ≤ 700) (lb : ms.length ≤ 700) (va2 : binV ls < 2 ^ 2000) (vb2 : binV ms < 2 ^ 2000) :
    Calls Tryz.prog 68 #[va, vb] w fun e w' => e = .returned (.int .u64 (quoG (binV ls) (binV ms) : Nat)) ∧ Below w.heap.size w w' := by
  have cA := l07Bits_any va ls 0 w hA oa (by omega)
  have cB := l07Bits_any vb ms 0 w hB ob (by omega)
  have hp := bits_le va2
  have hq := bits_le vb2
  obtain ⟨p, hp1⟩ : ∃ p, bitsN (binV ls) = p := ⟨_, rfl⟩
  obtain ⟨q, hq1⟩ : ∃ p, bitsN (binV ms) = p := ⟨_, rfl⟩
  rw [hp1] at cA hp
  rw [hq1] at cB hq
  have hp2 : (p : Int) ≤ 2000 := by omega
  have hq2 : (q : Int) ≤ 2000 := by omega
  obtain ⟨R, hR⟩ : ∃ R, quoG (binV ls) (binV ms) = R := ⟨_, rfl⟩
  rw [hR]
  clear hp hq va2 vb2
  go_enter Tryz.func68, Tryz.ntmps68
  go_wp2_with fail
  refine cB.mono ?_
  rintro e w' ⟨rfl, rfl⟩
  go_wp2_with fail
  refine cA.mono ?_
  rintro e w' ⟨rfl, rfl⟩
  obtain ⟨up, hup⟩ : ∃ up : Int, (q : Int) + 62 - p = up := ⟨_, rfl⟩
  have bu1 : -2000 ≤ up := by omega
  have bu2 : up ≤ 2062 := by omega
  have HP : Hid (Unit → bitsN (binV ls) = p ∧ bitsN (binV ms) = q ∧ (q : Int) + 62 - p = up ∧ binV ls ≠ 0 ∧ binV ms ≠ 0 ∧ quoG (binV ls) (binV ms) = R) := fun _ => ⟨hp1, hq1, hup, za, zb, hR⟩
  have HA : Hid (RowW w 0 va ls ∧ BinOk ls ∧ ls.length ≤ 700) := ⟨hA, oa, la⟩
  have HB : Hid (RowW w 0 vb ms ∧ BinOk ms ∧ ms.length ≤ 700) := ⟨hB, ob, lb⟩
  clear cA cB hp1 hq1 za zb hR hA hB oa ob la lb
  go_upto_if 16 with fail
  go_cut [0, 1] (fun s0 s1 wx => ∃ xa xb : List Nat, RowW wx 0 s0 xa ∧ RowW wx 0 s1 xb ∧ Below w.heap.size w wx ∧ Hid (BinOk xa ∧ BinOk xb ∧ xa.length ≤ 900 ∧ xb.length ≤ 900 ∧ QuoRel (binV ls) (binV ms) up (binV xa) (binV xb)))
  case first =>
    by_cases h0 : 0 < up
    · obtain ⟨k, hk⟩ : ∃ k : Nat, up = k := ⟨up.toNat, by omega⟩
      subst hk
      have cU := l07Up_any va ls k 0 w HA.out.1 HA.out.2.1 (HP.out ()).2.2.2.1 (by have := HA.out.2.2; omega) (by omega)
      have HQ : Hid (Unit → QuoRel (binV ls) (binV ms) (k : Int) (binV ls * 2 ^ k) (binV ms)) := fun _ => by
        obtain ⟨e1, e2, e3, e4, e5, _⟩ := HP.out ()
        exact quoRel_up e4 e5 (by omega) (by rw [upK_eq]; omega)
      go_wp2_with fail
      refine cU.mono ?_
      rintro e w2 ⟨v', xs, rfl, hrow, hb2, hval, hok, hlen⟩
      have HF : Hid (BinOk xs ∧ BinOk ms ∧ xs.length ≤ 900 ∧ ms.length ≤ 900 ∧ QuoRel (binV ls) (binV ms) (k : Int) (binV xs) (binV ms)) := ⟨hok, HB.out.2.1, by have := HA.out.2.2; omega, by have := HB.out.2.2; omega, by rw [hval]; exact HQ.out ()⟩
      have hB2 := HB.out.1.below hb2
      have hA2 := hrow.base (Nat.zero_le _)
      clear hval hok hlen hrow cU
      go_wp2
      go_meet
      case rel => exact ⟨xs, ms, hA2, hB2, hb2, HF⟩
    · have h0' : decide (0 < up) = false := by simp; omega
      obtain ⟨k, hk⟩ : ∃ k : Nat, up = -(k : Int) := ⟨(-up).toNat, by omega⟩
      have cU := l07Up_any vb ms k 0 w HB.out.1 HB.out.2.1 (HP.out ()).2.2.2.2.1 (by have := HB.out.2.2; omega) (by omega)
      have hk2 : -up = k := by omega
      have HQ : Hid (Unit → QuoRel (binV ls) (binV ms) up (binV ls) (binV ms * 2 ^ k)) := fun _ => by
        obtain ⟨e1, e2, e3, e4, e5, _⟩ := HP.out ()
        rw [hk]
        exact quoRel_down e4 e5 (by omega)
      clear hk
      go_wp2_with fail
      refine cU.mono ?_
      rintro e w2 ⟨v', xs, rfl, hrow, hb2, hval, hok, hlen⟩
      have HF : Hid (BinOk ls ∧ BinOk xs ∧ ls.length ≤ 900 ∧ xs.length ≤ 900 ∧ QuoRel (binV ls) (binV ms) up (binV ls) (binV xs)) := ⟨HA.out.2.1, hok, by have := HA.out.2.2; omega, by have := HB.out.2.2; omega, by rw [hval]; exact HQ.out ()⟩
      have hA2 := HA.out.1.below hb2
      have hB2 := hrow.base (Nat.zero_le _)
      clear hval hok hlen hrow cU
      go_wp2
      go_meet
      case rel => exact ⟨ls, xs, hA2, hB2, hb2, HF⟩
  case rest =>
    obtain ⟨xa, xb, hAs, hBs, hbel, HQ⟩ := hcut
    have HR : Hid (Unit → quoG (binV ls) (binV ms) = R) := fun _ => (HP.out ()).2.2.2.2.2
    clear HP HA HB
    have cU := l07Up_any _ xb 63 0 wc hBs HQ.out.2.1 HQ.out.2.2.2.2.y0 (by have := HQ.out.2.2.2.1; omega) (by omega)
    go_wp2_with fail
    refine cU.mono ?_
    rintro e w2 ⟨vd, ds, rfl, hrow, hb2, hval, hok, hlen⟩
    have hAs2 := hAs.below hb2
    have hbel2 := chain hbel hb2
    have hD := hrow.base (Nat.zero_le _)
    have HD : Hid (RowW w2 0 vd ds ∧ BinOk ds ∧ ds.length ≤ 902 ∧ binV ds = binV xb * 2 ^ 63) := ⟨hD, hok, by have := HQ.out.2.2.2.1; omega, hval⟩
    clear hrow hok hlen hval cU hD hAs hBs hbel hb2
    clear wc
    go_wp2_with fail
    have HX : Hid (Unit → DivAt (binV xa) (binV ds) 0 0 (binV xa) ∧ binV xa < 2 * binV ds ∧ binV ds ≠ 0) := fun _ => by
      obtain ⟨_, _, _, _, hr⟩ := HQ.out
      have h1 := hr.hi
      have h3 := hr.y0
      rw [Nat.div_lt_iff_lt_mul (by omega)] at h1
      have h2 : binV ds = binV xb * 9223372036854775808 := HD.out.2.2.2
      have h4 : binV xa < 2 * binV ds := by omega
      exact ⟨div_start h4, h4, by omega⟩
    go_loopw [0, 6, 8] (fun s0 x6 x8 wr => ∃ (ys : List Nat) (N j : Nat), x6 = .int .u64 N ∧ x8 = .int .i64 (63 - (j : Int)) ∧ (j : Int) ≤ 64 ∧ RowW wr 0 s0 ys ∧ Below w2.heap.size w2 wr ∧ Hid (BinOk ys ∧ ys.length ≤ 900 + j ∧ DivAt (binV xa) (binV ds) j N (binV ys))) (fun _ _ x8 _ => (intOf x8 + 1).toNat)
    case atStart => exact ⟨xa, 0, 0, rfl, rfl, by omega, hAs2, Below.refl _ _, ⟨HQ.out.1, by have := HQ.out.2.2.1; omega, (HX.out ()).1⟩⟩
    case round =>
      obtain ⟨ys, N, j, rfl, rfl, hj, hrow, hbl, HI⟩ := hrel
      have hDr := HD.out.1.below hbl
      by_cases hj0 : j ≤ 63
      · have HN : Hid (Unit → N < 2 ^ j) := fun _ => div_bound HI.out.2.2 (HX.out ()).2.1
        have hN : (N : Int) < 9223372036854775808 := by
          have h1 := HN.out ()
          have h2 : 2 ^ j ≤ 2 ^ 63 := Nat.pow_le_pow_right (by decide) hj0
          omega
        have cL := l07Less_any _ vd ys ds 0 0 wr hrow hDr HI.out.1 HD.out.2.1 (by have := HI.out.2.1; omega) (by have := HD.out.2.2.1; omega)
        have hj1 : (j : Int) ≤ 63 := by omega
        by_cases hlt : binV ys < binV ds
        · rw [decide_eq_true hlt] at cL
          have HM : Hid (DivAt (binV xa) (binV ds) (j + 1) (N * 2) (binV ys * 2)) := div_miss HI.out.2.2 hlt
          clear hlt hj0 HN
          go_wp2_with fail
          refine cL.mono ?_
          rintro e w3 ⟨rfl, hb3⟩
          have hrow3 := hrow.below hb3
          have hbl3 := chain hbl hb3
          clear hrow hDr cL hb3 hbl
          have cM := l07MulAdd_any _ ys 2 0 0 w3 hrow3 HI.out.1 (by decide) (by decide) (by have := HI.out.2.1; omega)
          go_wp2_with fail
          refine cM.mono ?_
          rintro e w4 ⟨v4, zs, rfl, hrow4, hb4, h1, h2, h3⟩
          have HF : Hid (BinOk zs ∧ zs.length ≤ 900 + (j + 1) ∧ DivAt (binV xa) (binV ds) (j + 1) (N * 2) (binV zs)) := ⟨h2, by have := HI.out.2.1; omega, by rw [h1]; exact HM.out⟩
          have hrow5 := hrow4.base (Nat.zero_le _)
          have hbl5 := chain hbl3 hb4
          clear hrow3 hbl3 hrow4 hb4 h1 h2 h3 cM HM HI
          go_wp2
          go_roundw
          case rel => exact ⟨zs, N * 2, j + 1, by go_num, by go_num, by omega, hrow5, hbl5, HF⟩
          case measure => simp [intOf]; omega
        · rw [decide_eq_false hlt] at cL
          have HM : Hid (DivAt (binV xa) (binV ds) (j + 1) (N * 2 + 1) ((binV ys - binV ds) * 2)) := div_hit HI.out.2.2 (by omega)
          have HLE : Hid (Unit → binV ds ≤ binV ys) := fun _ => by omega
          clear hlt hj0 HN
          go_wp2_with fail
          refine cL.mono ?_
          rintro e w3 ⟨rfl, hb3⟩
          have hrow3 := hrow.below hb3
          have hDr3 := hDr.below hb3
          have hbl3 := chain hbl hb3
          clear hrow hDr cL hb3 hbl
          have cS := l07Sub_any _ vd ys ds 0 0 w3 hrow3 hDr3 HI.out.1 HD.out.2.1 (by have := HI.out.2.1; omega) (by have := HD.out.2.2.1; omega) (HLE.out ())
          go_wp2_with fail
          refine cS.mono ?_
          rintro e w4 ⟨v4, ts, rfl, hrow4, hb4, h1, h2, h3⟩
          have HTS : Hid (BinOk ts ∧ ts.length ≤ 900 + j ∧ binV ts = binV ys - binV ds) := ⟨h2, by have := HI.out.2.1; omega, h1⟩
          have hrow5 := hrow4.base (Nat.zero_le _)
          have hbl5 := chain hbl3 hb4
          clear hrow3 hDr3 hbl3 hrow4 hb4 h1 h2 h3 cS
          have cM := l07MulAdd_any _ ts 2 0 0 w4 hrow5 HTS.out.1 (by decide) (by decide) (by have := HTS.out.2.1; omega)
          go_wp2_with fail
          refine cM.mono ?_
          rintro e w5 ⟨v5, zs, rfl, hrow6, hb6, h1, h2, h3⟩
          have HF : Hid (BinOk zs ∧ zs.length ≤ 900 + (j + 1) ∧ DivAt (binV xa) (binV ds) (j + 1) (N * 2 + 1) (binV zs)) := ⟨h2, by have := HTS.out.2.1; omega, by rw [h1, HTS.out.2.2]; exact HM.out⟩
          have hrow7 := hrow6.base (Nat.zero_le _)
          have hbl7 := chain hbl5 hb6
          clear hrow5 hbl5 hrow6 hb6 h1 h2 h3 cM HM HI
          go_wp2
          go_roundw
          case rel => exact ⟨zs, N * 2 + 1, j + 1, by go_num, by go_num, by omega, hrow7, hbl7, HF⟩
          case measure => simp [intOf]; omega
      · have hj64 : j = 64 := by omega
        subst hj64
        clear hDr hj0
        have cN := l07Len_any _ ys 0 wr hrow (by have := HI.out.2.1; omega)
        have HE : Hid (Unit → N < 9223372036854775808 ∧ 72057594037927936 ≤ N ∧ roundN N (-up) (decide (binV ys ≠ 0)) = R) := fun _ => by
          obtain ⟨_, _, _, _, hr⟩ := HQ.out
          obtain ⟨d1, d2⟩ := div_end (j := 63) HI.out.2.2 (HX.out ()).2.2
          have hd : binV ds = binV xb * 2 ^ 63 := HD.out.2.2.2
          rw [hd, Nat.mul_div_mul_right _ _ (Nat.two_pow_pos 63)] at d1
          rw [hd, Nat.mul_mod_mul_right] at d2
          have l1 := hr.lo
          have l2 := hr.hi
          have l3 := hr.eq
          rw [d1] at l1 l2 l3
          refine ⟨l2, by omega, ?_⟩
          rw [← HR.out (), ← l3]
          congr 1
          rw [Bool.eq_iff_iff, decide_eq_true_iff, decide_eq_true_iff]
          have hp : (0 : Nat) < 2 ^ 63 := Nat.two_pow_pos 63
          constructor
          · intro h
            have := d2.mp (by omega)
            intro h0
            rw [h0, Nat.zero_mul] at this
            exact this rfl
          · intro h
            have : binV xa % binV xb * 2 ^ 63 ≠ 0 := Nat.mul_ne_zero h (by omega)
            have := d2.mpr this
            omega
        go_wp2_with fail
        refine cN.mono ?_
        rintro e w3 ⟨⟨m, rfl, hm⟩, rfl⟩
        have HC : Hid (Unit → decide (binV ys ≠ 0) = decide (0 < m)) := fun _ => by
          rw [decide_eq_decide]
          have := hm.nil HI.out.1
          omega
        have cR : ∀ b : Bool, decide (0 < m) = b → ∀ W, Calls Tryz.prog 84 #[.bool false, .int .u64 N, .int .i64 (-up), .bool b] W fun e w' => e = .returned (.int .u64 (R : Nat)) ∧ W = w' := fun b hb W => by
          obtain ⟨e1, e2, e3⟩ := HE.out ()
          have h := specRound_any false b N (-up) W (by omega) (by omega) (by omega)
          rw [decide_eq_true e2, Bool.and_true, ← hb, ← HC.out (), e3] at h
          rw [HC.out (), hb] at h
          exact h
        have hbel4 := chain hbel2 hbl
        clear hm HC HE HI hrow cN
        by_cases hm0 : 0 < m
        · have cT := cR true (by simpa using hm0)
          clear cR
          go_wp2_with (go_at_call 84; refine (cT _).mono ?_; rintro e w' ⟨rfl, rfl⟩)
          go_ret
          exact ⟨rfl, hbel4⟩
        · have hm1 : m = 0 := by omega
          subst hm1
          have cT := cR false (by simp)
          clear cR
          go_wp2_with (go_at_call 84; refine (cT _).mono ?_; rintro e w' ⟨rfl, rfl⟩)
          go_ret
          exact ⟨rfl, hbel4⟩

end Go.Proofs.YtcabanghegddhaaGreatDoor

namespace Go.Proofs.YtcabanghegddhaaGreatDoor
open Go.RowKit
set_option linter.unusedVariables false

/-- what Nearest answers -/
def nearN (l : List UInt8) (e : Int) : Nat := if figsOk l = true ∧ l.length ≤ 60 ∧ -500 ≤ e ∧ e ≤ 500 ∧ zeroB l = false then quoG (digV l * 10 ^ e.toNat) (10 ^ (-e).toNat) else 0

theorem ten_le {k n : Nat} (h : k ≤ n) : 10 ^ k ≤ 10 ^ n := Nat.pow_le_pow_right (by decide) h
theorem near_one : (10 : Nat) ^ 500 < 2 ^ 2000 := by decide +kernel
theorem near_two : (10 : Nat) ^ 60 * 10 ^ 500 < 2 ^ 2000 := by decide +kernel
theorem near_small {n k : Nat} (hn : n < 10 ^ 60) (hk : k ≤ 500) : n * 10 ^ k < 2 ^ 2000 ∧ 10 ^ k < 2 ^ 2000 :=
  ⟨Nat.lt_of_le_of_lt (Nat.mul_le_mul (Nat.le_of_lt hn) (ten_le hk)) near_two, Nat.lt_of_le_of_lt (ten_le hk) near_one⟩

theorem nearN_none {l : List UInt8} {e : Int} (h : ¬(figsOk l = true ∧ l.length ≤ 60 ∧ -500 ≤ e ∧ e ≤ 500 ∧ zeroB l = false)) : nearN l e = 0 := by
  unfold nearN
  rw [if_neg h]

set_option maxHeartbeats 2000000 in
set_option maxRecDepth 100000 in
theorem specNearest_any (s : ByteArray) (x : Int) (w : World) (ls : s.size ≤ 1048576) (hx1 : -9223372036854775808 ≤ x) (hx2 : x ≤ 9223372036854775807) :
    Calls Tryz.prog 56 #[.string s, .int .i64 x] w fun e w' => e = .returned (.int .u64 (nearN s.data.toList x : Nat)) ∧ Below w.heap.size w w' := by
  have cF := fun W => specFiguresOk_any s W
  have cI := fun W => l01In_any x (-500) 500 W
  have cZ := fun W => l07Zero_any s W ls
  obtain ⟨R, hR⟩ : ∃ R, nearN s.data.toList x = R := ⟨_, rfl⟩
  have HR : Hid (Unit → nearN s.data.toList x = R) := fun _ => hR
  have HS : Hid (Unit → s.data.toList.length = s.size) := fun _ => size_list s
  have HF : Hid (Unit → figsOk s.data.toList = true → Figs s.data.toList) := fun _ h => figsOk_figs h
  rw [hR]
  clear hR
  obtain ⟨f, hf⟩ : ∃ f, figsOk s.data.toList = f := ⟨_, rfl⟩
  rw [hf] at cF
  have HF1 : Hid (Unit → figsOk s.data.toList = f) := fun _ => hf
  obtain ⟨z, hz⟩ : ∃ f, zeroB s.data.toList = f := ⟨_, rfl⟩
  rw [hz] at cZ
  have HZ1 : Hid (Unit → zeroB s.data.toList = z) := fun _ => hz
  clear hf hz
  cases f
  · have HZ : Hid (Unit → R = 0) := fun _ => by rw [← HR.out (), nearN_none (fun h => by rw [HF1.out ()] at h; exact absurd h.1 (by decide))]
    clear cI cZ
    go_enter Tryz.func56, Tryz.ntmps56
    go_wp2_with fail
    refine (cF _).mono ?_
    rintro e w' ⟨rfl, rfl⟩
    go_wp2
    go_ret
    exact ⟨by rw [HZ.out ()]; rfl, Below.refl _ _⟩
  · by_cases h60 : (60 : Int) < s.size
    · have HZ : Hid (Unit → R = 0) := fun _ => by rw [← HR.out (), nearN_none (fun h => by have := HS.out (); omega)]
      clear cI cZ
      go_enter Tryz.func56, Tryz.ntmps56
      go_wp2_with fail
      refine (cF _).mono ?_
      rintro e w' ⟨rfl, rfl⟩
      go_wp2
      go_ret
      exact ⟨by rw [HZ.out ()]; rfl, Below.refl _ _⟩
    · have d60 : decide ((60 : Int) < s.size) = false := by simp; omega
      by_cases hin : -500 ≤ x ∧ x ≤ 500
      · rw [decide_eq_true hin.1, decide_eq_true hin.2] at cI
        cases z
        · obtain ⟨hx3, hx4⟩ := hin
          have HV : Hid (Unit → R = quoG (digV s.data.toList * 10 ^ x.toNat) (10 ^ (-x).toNat) ∧ digV s.data.toList < 10 ^ 60 ∧ digV s.data.toList ≠ 0) := fun _ => by
            have hl := HS.out ()
            have hfg := HF.out () (HF1.out ())
            refine ⟨?_, ?_, ?_⟩
            · rw [← HR.out ()]
              unfold nearN
              rw [if_pos ⟨HF1.out (), by omega, hx3, hx4, HZ1.out ()⟩]
            · exact Nat.lt_of_lt_of_le (digV_lt hfg) (ten_le (by omega))
            · have := HZ1.out ()
              rw [zeroB_val hfg] at this
              simpa using this
          have cB := fun W => l07Bin_any s W (HF.out () (HF1.out ())) (by omega)
          clear HR HF HF1 HZ1
          go_enter Tryz.func56, Tryz.ntmps56
          go_wp2_with fail
          refine (cF _).mono ?_
          rintro e w' ⟨rfl, rfl⟩
          go_wp2_with fail
          refine (cI _).mono ?_
          rintro e w' ⟨rfl, rfl⟩
          go_wp2_with fail
          refine (cZ _).mono ?_
          rintro e w' ⟨rfl, rfl⟩
          go_wp2_with fail
          refine (cB _).mono ?_
          rintro e w1 ⟨v1, xs, rfl, hrow, hb1, hval, hok, hlen⟩
          obtain ⟨D, hD⟩ : ∃ D, digV s.data.toList = D := ⟨_, rfl⟩
          rw [hD] at HV hval
          have HXA : Hid (BinOk xs ∧ xs.length ≤ 60 ∧ binV xs = D) := ⟨hok, by omega, hval⟩
          have hrow1 := hrow.base (Nat.zero_le _)
          clear hD hok hlen hval hrow cF cI cZ cB
          go_upto_block 0 with fail
          have hone : RowW (w1.alloc (.cells #[.int .u64 1] 28)) 0 (.slice (some ⟨w1.heap.size, 0, none⟩) 1 1) [1] := ⟨by simp, .inr ⟨w1.heap.size, 1, #[.int .u64 1], rfl, Nat.zero_le _, heap_alloc_new w1 _, Nat.le_refl _, by unfold maxLen; omega, by simp, by rfl⟩⟩
          have hb2 : Below w1.heap.size w1 (w1.alloc (.cells #[.int .u64 1] 28)) := (Below.refl _ _).alloc (Nat.le_refl _) _
          have hbel2 := chain hb1 hb2
          have hrow2 := hrow1.below hb2
          obtain ⟨w2, hw2⟩ : ∃ w2, w1.alloc (.cells #[.int .u64 1] 28) = w2 := ⟨_, rfl⟩
          obtain ⟨vb, hvb⟩ : ∃ vb, Value.slice (some ⟨w1.heap.size, 0, none⟩) 1 1 = vb := ⟨_, rfl⟩
          simp only [hw2, hvb]
          rw [hw2] at hone hbel2 hrow2
          rw [hvb] at hone
          clear hw2 hb2 hrow1 hvb hb1
          clear w1
          go_wp2_with fail
          go_loopw [5, 7] (fun s5 x7 wr => ∃ (ys : List Nat) (k : Nat), x7 = .int .i64 k ∧ (k : Int) ≤ max x 0 ∧ RowW wr 0 s5 ys ∧ Below w2.heap.size w2 wr ∧ Hid (BinOk ys ∧ ys.length ≤ 60 + k ∧ binV ys = D * 10 ^ k)) (fun _ x7 _ => (max x 0 - intOf x7).toNat)
          case atStart => exact ⟨xs, 0, rfl, by omega, hrow2, Below.refl _ _, ⟨HXA.out.1, HXA.out.2.1, by rw [HXA.out.2.2, Nat.pow_zero, Nat.mul_one]⟩⟩
          case round =>
            obtain ⟨ys, k, rfl, hk, hrow3, hb3, HI⟩ := hrel
            by_cases hlt : (k : Int) < x
            · have cM := l07MulAdd_any _ ys 10 0 0 wr hrow3 HI.out.1 (by decide) (by decide) (by have := HI.out.2.1; omega)
              go_wp2_with fail
              refine cM.mono ?_
              rintro e w4 ⟨v4, zs, rfl, hrow4, hb4, h1, h2, h3⟩
              have HF2 : Hid (BinOk zs ∧ zs.length ≤ 60 + (k + 1) ∧ binV zs = D * 10 ^ (k + 1)) := ⟨h2, by have := HI.out.2.1; omega, by rw [h1, HI.out.2.2, Nat.pow_succ, Nat.mul_assoc, Nat.add_zero]⟩
              have hrow5 := hrow4.base (Nat.zero_le _)
              have hb5 := chain hb3 hb4
              clear h1 h2 h3 hrow4 hb4 hrow3 hb3 HI cM
              go_wp2
              go_roundw
              case rel => exact ⟨zs, k + 1, by go_num, by omega, hrow5, hb5, HF2⟩
              case measure => simp [intOf]; omega
            · have hlt' : decide ((k : Int) < x) = false := by simp; omega
              have HKX : Hid (Unit → k = x.toNat) := fun _ => by omega
              have hone3 := hone.below hb3
              have hbel3 := chain hbel2 hb3
              clear hk hb3 hbel2 hrow2 hone
              go_wp2_with fail
              go_loopw [6, 8] (fun s6 x8 wz => ∃ (zs : List Nat) (m : Nat), x8 = .int .i64 m ∧ (m : Int) ≤ max (-x) 0 ∧ RowW wz 0 s6 zs ∧ Below wr.heap.size wr wz ∧ Hid (BinOk zs ∧ zs.length ≤ 1 + m ∧ binV zs = 10 ^ m)) (fun _ x8 _ => (max (-x) 0 - intOf x8).toNat)
              case atStart => exact ⟨[1], 0, rfl, by omega, hone3, Below.refl _ _, ⟨binOk_snoc binOk_nil (by decide), by simp, by rfl⟩⟩
              case round =>
                obtain ⟨zs, m, rfl, hm, hrow6, hb6, HJ⟩ := hrel
                by_cases hlt2 : (m : Int) < -x
                · have cM := l07MulAdd_any _ zs 10 0 0 _ hrow6 HJ.out.1 (by decide) (by decide) (by have := HJ.out.2.1; omega)
                  go_wp2_with fail
                  refine cM.mono ?_
                  rintro e w7 ⟨v7, ts, rfl, hrow7, hb7, h1, h2, h3⟩
                  have HF2 : Hid (BinOk ts ∧ ts.length ≤ 1 + (m + 1) ∧ binV ts = 10 ^ (m + 1)) := ⟨h2, by have := HJ.out.2.1; omega, by rw [h1, HJ.out.2.2, Nat.pow_succ, Nat.add_zero]⟩
                  have hrow8 := hrow7.base (Nat.zero_le _)
                  have hb8 := chain hb6 hb7
                  clear h1 h2 h3 hrow7 hb7 hrow6 hb6 HJ cM
                  go_wp2
                  go_roundw
                  case rel => exact ⟨ts, m + 1, by go_num, by omega, hrow8, hb8, HF2⟩
                  case measure => simp [intOf]; omega
                · have hlt2' : decide ((m : Int) < -x) = false := by simp; omega
                  have HMX : Hid (Unit → m = (-x).toNat) := fun _ => by omega
                  have hk5 : k ≤ 500 := by have := HKX.out (); omega
                  have hm5 : m ≤ 500 := by omega
                  obtain ⟨v1, v2, v3⟩ := HV.out ()
                  have cQ := l07Quotient_any _ _ ys zs _ (hrow3.below hb6) hrow6 HI.out.1 HJ.out.1 (by rw [HI.out.2.2]; exact Nat.mul_ne_zero v3 (by have := Nat.pow_pos (n := k) (by decide : 0 < 10); omega)) (by rw [HJ.out.2.2]; have := Nat.pow_pos (n := m) (by decide : 0 < 10); omega) (by have := HI.out.2.1; omega) (by have := HJ.out.2.1; omega) (by rw [HI.out.2.2]; exact (near_small v2 hk5).1) (by rw [HJ.out.2.2]; exact (near_small v2 hm5).2)
                  rw [HI.out.2.2, HJ.out.2.2] at cQ
                  have v4 : R = quoG (D * 10 ^ k) (10 ^ m) := by rw [v1, HKX.out (), HMX.out ()]
                  rw [← v4] at cQ
                  have hbel9 := chain hbel3 hb6
                  clear v1 v2 v3 v4 HV hm
                  go_wp2_with fail
                  refine cQ.mono ?_
                  rintro e w9 ⟨rfl, hb9⟩
                  go_wp2
                  go_ret
                  exact ⟨rfl, chain hbel9 hb9⟩
        · have HZ : Hid (Unit → R = 0) := fun _ => by rw [← HR.out (), nearN_none (fun h => by rw [HZ1.out ()] at h; exact absurd h.2.2.2.2 (by decide))]
          clear hin
          go_enter Tryz.func56, Tryz.ntmps56
          go_wp2_with fail
          refine (cF _).mono ?_
          rintro e w' ⟨rfl, rfl⟩
          go_wp2_with fail
          refine (cI _).mono ?_
          rintro e w' ⟨rfl, rfl⟩
          go_wp2_with fail
          refine (cZ _).mono ?_
          rintro e w' ⟨rfl, rfl⟩
          go_wp2
          go_ret
          exact ⟨by rw [HZ.out ()]; rfl, Below.refl _ _⟩
      · have HZ : Hid (Unit → R = 0) := fun _ => by rw [← HR.out (), nearN_none (fun h => hin ⟨h.2.2.1, h.2.2.2.1⟩)]
        have hcI : (decide (-500 ≤ x) && decide (x ≤ 500)) = false := by rw [Bool.and_eq_false_iff, decide_eq_false_iff_not, decide_eq_false_iff_not]; omega
        rw [hcI] at cI
        clear hin cZ hcI
        go_enter Tryz.func56, Tryz.ntmps56
        go_wp2_with fail
        refine (cF _).mono ?_
        rintro e w' ⟨rfl, rfl⟩
        go_wp2_with fail
        refine (cI _).mono ?_
        rintro e w' ⟨rfl, rfl⟩
        go_wp2
        go_ret
        exact ⟨by rw [HZ.out ()]; rfl, Below.refl _ _⟩

end Go.Proofs.YtcabanghegddhaaGreatDoor
