/-
  The walk of the specification's nearest number to a quotient of great numbers.
-/
import Derived.Test.YtcdplnejejpjnaaGreatDoorBinA
import Derived.Test.YtcdplnejejpjnaaGreatDoorNumA
import Derived.Test.YtcdplnejejpjnaaGreatDoorBitsA
import Derived.Deep.DeepCutAuto
namespace Go.Proofs.YtcdplnejejpjnaaGreatDoor
open Go.RowKit
set_option linter.unusedVariables false

set_option maxHeartbeats 4000000 in
set_option maxRecDepth 100000 in
theorem l07Quotient_any (va vb : Value) (ls ms : List Nat) (w : World) (hA : RowW w 0 va ls) (hB : RowW w 0 vb ms) (oa : BinOk ls) (ob : BinOk ms) (za : binV ls ≠ 0) (zb : binV ms ≠ 0) (la : ls.length ≤ 700) (lb : ms.length ≤ 700) (va2 : binV ls < 2 ^ 2000) (vb2 : binV ms < 2 ^ 2000) :
    Calls Tryz.prog 95 #[va, vb] w fun e w' => e = .returned (.int .u64 (quoG (binV ls) (binV ms) : Nat)) ∧ Below w.heap.size w w' := by
  have cA := l07Bits_any va ls 0 w hA oa (by omega)
  have cB := l07Bits_any vb ms 0 w hB ob (by omega)
  have hp := bits_le va2
  have hq := bits_le vb2
  obtain ⟨p, hp1⟩ : ∃ p, bitsN (binV ls) = p := ⟨_, rfl⟩
  obtain ⟨q, hq1⟩ : ∃ p, bitsN (binV ms) = p := ⟨_, rfl⟩
  rw [hp1] at cA hp
  rw [hq1] at cB hq
  have hp2 : (p : Int) ≤ 2000 := by omega
  have hq2 : (q : Int) ≤ 2000 := by omega
  obtain ⟨R, hR⟩ : ∃ R, quoG (binV ls) (binV ms) = R := ⟨_, rfl⟩
  rw [hR]
  clear hp hq va2 vb2
  go_enter Tryz.func95, Tryz.ntmps95
  go_wp2_with fail
  refine cB.mono ?_
  rintro e w' ⟨rfl, rfl⟩
  go_wp2_with fail
  refine cA.mono ?_
  rintro e w' ⟨rfl, rfl⟩
  obtain ⟨up, hup⟩ : ∃ up : Int, (q : Int) + 62 - p = up := ⟨_, rfl⟩
  have bu1 : -2000 ≤ up := by omega
  have bu2 : up ≤ 2062 := by omega
  have HP : Hid (Unit → bitsN (binV ls) = p ∧ bitsN (binV ms) = q ∧ (q : Int) + 62 - p = up ∧ binV ls ≠ 0 ∧ binV ms ≠ 0 ∧ quoG (binV ls) (binV ms) = R) := fun _ => ⟨hp1, hq1, hup, za, zb, hR⟩
  have HA : Hid (RowW w 0 va ls ∧ BinOk ls ∧ ls.length ≤ 700) := ⟨hA, oa, la⟩
  have HB : Hid (RowW w 0 vb ms ∧ BinOk ms ∧ ms.length ≤ 700) := ⟨hB, ob, lb⟩
  clear cA cB hp1 hq1 za zb hR hA hB oa ob la lb
  go_upto_if 16 with fail
  go_cut [0, 1] (fun s0 s1 wx => ∃ xa xb : List Nat, RowW wx 0 s0 xa ∧ RowW wx 0 s1 xb ∧ Below w.heap.size w wx ∧ Hid (BinOk xa ∧ BinOk xb ∧ xa.length ≤ 900 ∧ xb.length ≤ 900 ∧ QuoRel (binV ls) (binV ms) up (binV xa) (binV xb)))
  case first =>
    by_cases h0 : 0 < up
    · obtain ⟨k, hk⟩ : ∃ k : Nat, up = k := ⟨up.toNat, by omega⟩
      subst hk
      have cU := l07Up_any va ls k 0 w HA.out.1 HA.out.2.1 (HP.out ()).2.2.2.1 (by have := HA.out.2.2; omega) (by omega)
      have HQ : Hid (Unit → QuoRel (binV ls) (binV ms) (k : Int) (binV ls * 2 ^ k) (binV ms)) := fun _ => by
        obtain ⟨e1, e2, e3, e4, e5, _⟩ := HP.out ()
        exact quoRel_up e4 e5 (by omega) (by rw [upK_eq]; omega)
      go_wp2_with fail
      refine cU.mono ?_
      rintro e w2 ⟨v', xs, rfl, hrow, hb2, hval, hok, hlen⟩
      have HF : Hid (BinOk xs ∧ BinOk ms ∧ xs.length ≤ 900 ∧ ms.length ≤ 900 ∧ QuoRel (binV ls) (binV ms) (k : Int) (binV xs) (binV ms)) := ⟨hok, HB.out.2.1, by have := HA.out.2.2; omega, by have := HB.out.2.2; omega, by rw [hval]; exact HQ.out ()⟩
      have hB2 := HB.out.1.below hb2
      have hA2 := hrow.base (Nat.zero_le _)
      clear hval hok hlen hrow cU
      go_wp2
      go_meet
      case rel => exact ⟨xs, ms, hA2, hB2, hb2, HF⟩
    · have h0' : decide (0 < up) = false := by simp; omega
      obtain ⟨k, hk⟩ : ∃ k : Nat, up = -(k : Int) := ⟨(-up).toNat, by omega⟩
      have cU := l07Up_any vb ms k 0 w HB.out.1 HB.out.2.1 (HP.out ()).2.2.2.2.1 (by have := HB.out.2.2; omega) (by omega)
      have hk2 : -up = k := by omega
      have HQ : Hid (Unit → QuoRel (binV ls) (binV ms) up (binV ls) (binV ms * 2 ^ k)) := fun _ => by
        obtain ⟨e1, e2, e3, e4, e5, _⟩ := HP.out ()
        rw [hk]
        exact quoRel_down e4 e5 (by omega)
      clear hk
      go_wp2_with fail
      refine cU.mono ?_
      rintro e w2 ⟨v', xs, rfl, hrow, hb2, hval, hok, hlen⟩
      have HF : Hid (BinOk ls ∧ BinOk xs ∧ ls.length ≤ 900 ∧ xs.length ≤ 900 ∧ QuoRel (binV ls) (binV ms) up (binV ls) (binV xs)) := ⟨HA.out.2.1, hok, by have := HA.out.2.2; omega, by have := HB.out.2.2; omega, by rw [hval]; exact HQ.out ()⟩
      have hA2 := HA.out.1.below hb2
      have hB2 := hrow.base (Nat.zero_le _)
      clear hval hok hlen hrow cU
      go_wp2
      go_meet
      case rel => exact ⟨ls, xs, hA2, hB2, hb2, HF⟩
  case rest =>
    obtain ⟨xa, xb, hAs, hBs, hbel, HQ⟩ := hcut
    have HR : Hid (Unit → quoG (binV ls) (binV ms) = R) := fun _ => (HP.out ()).2.2.2.2.2
    clear HP HA HB
    have cU := l07Up_any _ xb 63 0 wc hBs HQ.out.2.1 HQ.out.2.2.2.2.y0 (by have := HQ.out.2.2.2.1; omega) (by omega)
    go_wp2_with fail
    refine cU.mono ?_
    rintro e w2 ⟨vd, ds, rfl, hrow, hb2, hval, hok, hlen⟩
    have hAs2 := hAs.below hb2
    have hbel2 := chain hbel hb2
    have hD := hrow.base (Nat.zero_le _)
    have HD : Hid (RowW w2 0 vd ds ∧ BinOk ds ∧ ds.length ≤ 902 ∧ binV ds = binV xb * 2 ^ 63) := ⟨hD, hok, by have := HQ.out.2.2.2.1; omega, hval⟩
    clear hrow hok hlen hval cU hD hAs hBs hbel hb2
    clear wc
    go_wp2_with fail
    have HX : Hid (Unit → DivAt (binV xa) (binV ds) 0 0 (binV xa) ∧ binV xa < 2 * binV ds ∧ binV ds ≠ 0) := fun _ => by
      obtain ⟨_, _, _, _, hr⟩ := HQ.out
      have h1 := hr.hi
      have h3 := hr.y0
      rw [Nat.div_lt_iff_lt_mul (by omega)] at h1
      have h2 : binV ds = binV xb * 9223372036854775808 := HD.out.2.2.2
      have h4 : binV xa < 2 * binV ds := by omega
      exact ⟨div_start h4, h4, by omega⟩
    go_loopw [0, 6, 8] (fun s0 x6 x8 wr => ∃ (ys : List Nat) (N j : Nat), x6 = .int .u64 N ∧ x8 = .int .i64 (63 - (j : Int)) ∧ (j : Int) ≤ 64 ∧ RowW wr 0 s0 ys ∧ Below w2.heap.size w2 wr ∧ Hid (BinOk ys ∧ ys.length ≤ 900 + j ∧ DivAt (binV xa) (binV ds) j N (binV ys))) (fun _ _ x8 _ => (intOf x8 + 1).toNat)
    case atStart => exact ⟨xa, 0, 0, rfl, rfl, by omega, hAs2, Below.refl _ _, ⟨HQ.out.1, by have := HQ.out.2.2.1; omega, (HX.out ()).1⟩⟩
    case round =>
      obtain ⟨ys, N, j, rfl, rfl, hj, hrow, hbl, HI⟩ := hrel
      have hDr := HD.out.1.below hbl
      by_cases hj0 : j ≤ 63
      · have HN : Hid (Unit → N < 2 ^ j) := fun _ => div_bound HI.out.2.2 (HX.out ()).2.1
        have hN : (N : Int) < 9223372036854775808 := by
          have h1 := HN.out ()
          have h2 : 2 ^ j ≤ 2 ^ 63 := Nat.pow_le_pow_right (by decide) hj0
          omega
        have cL := l07Less_any _ vd ys ds 0 0 wr hrow hDr HI.out.1 HD.out.2.1 (by have := HI.out.2.1; omega) (by have := HD.out.2.2.1; omega)
        have hj1 : (j : Int) ≤ 63 := by omega
        by_cases hlt : binV ys < binV ds
        · rw [decide_eq_true hlt] at cL
          have HM : Hid (DivAt (binV xa) (binV ds) (j + 1) (N * 2) (binV ys * 2)) := div_miss HI.out.2.2 hlt
          clear hlt hj0 HN
          go_wp2_with fail
          refine cL.mono ?_
          rintro e w3 ⟨rfl, hb3⟩
          have hrow3 := hrow.below hb3
          have hbl3 := chain hbl hb3
          clear hrow hDr cL hb3 hbl
          have cM := l07MulAdd_any _ ys 2 0 0 w3 hrow3 HI.out.1 (by decide) (by decide) (by have := HI.out.2.1; omega)
          go_wp2_with fail
          refine cM.mono ?_
          rintro e w4 ⟨v4, zs, rfl, hrow4, hb4, h1, h2, h3⟩
          have HF : Hid (BinOk zs ∧ zs.length ≤ 900 + (j + 1) ∧ DivAt (binV xa) (binV ds) (j + 1) (N * 2) (binV zs)) := ⟨h2, by have := HI.out.2.1; omega, by rw [h1]; exact HM.out⟩
          have hrow5 := hrow4.base (Nat.zero_le _)
          have hbl5 := chain hbl3 hb4
          clear hrow3 hbl3 hrow4 hb4 h1 h2 h3 cM HM HI
          go_wp2
          go_roundw
          case rel => exact ⟨zs, N * 2, j + 1, by go_num, by go_num, by omega, hrow5, hbl5, HF⟩
          case measure => simp [intOf]; omega
        · rw [decide_eq_false hlt] at cL
          have HM : Hid (DivAt (binV xa) (binV ds) (j + 1) (N * 2 + 1) ((binV ys - binV ds) * 2)) := div_hit HI.out.2.2 (by omega)
          have HLE : Hid (Unit → binV ds ≤ binV ys) := fun _ => by omega
          clear hlt hj0 HN
          go_wp2_with fail
          refine cL.mono ?_
          rintro e w3 ⟨rfl, hb3⟩
          have hrow3 := hrow.below hb3
          have hDr3 := hDr.below hb3
          have hbl3 := chain hbl hb3
          clear hrow hDr cL hb3 hbl
          have cS := l07Sub_any _ vd ys ds 0 0 w3 hrow3 hDr3 HI.out.1 HD.out.2.1 (by have := HI.out.2.1; omega) (by have := HD.out.2.2.1; omega) (HLE.out ())
          go_wp2_with fail
          refine cS.mono ?_
          rintro e w4 ⟨v4, ts, rfl, hrow4, hb4, h1, h2, h3⟩
          have HTS : Hid (BinOk ts ∧ ts.length ≤ 900 + j ∧ binV ts = binV ys - binV ds) := ⟨h2, by have := HI.out.2.1; omega, h1⟩
          have hrow5 := hrow4.base (Nat.zero_le _)
          have hbl5 := chain hbl3 hb4
          clear hrow3 hDr3 hbl3 hrow4 hb4 h1 h2 h3 cS
          have cM := l07MulAdd_any _ ts 2 0 0 w4 hrow5 HTS.out.1 (by decide) (by decide) (by have := HTS.out.2.1; omega)
          go_wp2_with fail
          refine cM.mono ?_
          rintro e w5 ⟨v5, zs, rfl, hrow6, hb6, h1, h2, h3⟩
          have HF : Hid (BinOk zs ∧ zs.length ≤ 900 + (j + 1) ∧ DivAt (binV xa) (binV ds) (j + 1) (N * 2 + 1) (binV zs)) := ⟨h2, by have := HTS.out.2.1; omega, by rw [h1, HTS.out.2.2]; exact HM.out⟩
          have hrow7 := hrow6.base (Nat.zero_le _)
          have hbl7 := chain hbl5 hb6
          clear hrow5 hbl5 hrow6 hb6 h1 h2 h3 cM HM HI
          go_wp2
          go_roundw
          case rel => exact ⟨zs, N * 2 + 1, j + 1, by go_num, by go_num, by omega, hrow7, hbl7, HF⟩
          case measure => simp [intOf]; omega
      · have hj64 : j = 64 := by omega
        subst hj64
        clear hDr hj0
        have cN := l07Len_any _ ys 0 wr hrow (by have := HI.out.2.1; omega)
        have HE : Hid (Unit → N < 9223372036854775808 ∧ 72057594037927936 ≤ N ∧ roundN N (-up) (decide (binV ys ≠ 0)) = R) := fun _ => by
          obtain ⟨_, _, _, _, hr⟩ := HQ.out
          obtain ⟨d1, d2⟩ := div_end (j := 63) HI.out.2.2 (HX.out ()).2.2
          have hd : binV ds = binV xb * 2 ^ 63 := HD.out.2.2.2
          rw [hd, Nat.mul_div_mul_right _ _ (Nat.two_pow_pos 63)] at d1
          rw [hd, Nat.mul_mod_mul_right] at d2
          have l1 := hr.lo
          have l2 := hr.hi
          have l3 := hr.eq
          rw [d1] at l1 l2 l3
          refine ⟨l2, by omega, ?_⟩
          rw [← HR.out (), ← l3]
          congr 1
          rw [Bool.eq_iff_iff, decide_eq_true_iff, decide_eq_true_iff]
          have hp : (0 : Nat) < 2 ^ 63 := Nat.two_pow_pos 63
          constructor
          · intro h
            have := d2.mp (by omega)
            intro h0
            rw [h0, Nat.zero_mul] at this
            exact this rfl
          · intro h
            have : binV xa % binV xb * 2 ^ 63 ≠ 0 := Nat.mul_ne_zero h (by omega)
            have := d2.mpr this
            omega
        go_wp2_with fail
        refine cN.mono ?_
        rintro e w3 ⟨⟨m, rfl, hm⟩, rfl⟩
        have HC : Hid (Unit → decide (binV ys ≠ 0) = decide (0 < m)) := fun _ => by
          rw [decide_eq_decide]
          have := hm.nil HI.out.1
          omega
        have cR : ∀ b : Bool, decide (0 < m) = b → ∀ W, Calls Tryz.prog 30 #[.bool false, .int .u64 N, .int .i64 (-up), .bool b] W fun e w' => e = .returned (.int .u64 (R : Nat)) ∧ W = w' := fun b hb W => by
          obtain ⟨e1, e2, e3⟩ := HE.out ()
          have h := specRound_any false b N (-up) W (by omega) (by omega) (by omega)
          rw [decide_eq_true e2, Bool.and_true, ← hb, ← HC.out (), e3] at h
          rw [HC.out (), hb] at h
          exact h
        have hbel4 := chain hbel2 hbl
        clear hm HC HE HI hrow cN
        by_cases hm0 : 0 < m
        · have cT := cR true (by simpa using hm0)
          clear cR
          go_wp2_with (go_at_call 30; refine (cT _).mono ?_; rintro e w' ⟨rfl, rfl⟩)
          go_ret
          exact ⟨rfl, hbel4⟩
        · have hm1 : m = 0 := by omega
          subst hm1
          have cT := cR false (by simp)
          clear cR
          go_wp2_with (go_at_call 30; refine (cT _).mono ?_; rintro e w' ⟨rfl, rfl⟩)
          go_ret
          exact ⟨rfl, hbel4⟩

end Go.Proofs.YtcdplnejejpjnaaGreatDoor
