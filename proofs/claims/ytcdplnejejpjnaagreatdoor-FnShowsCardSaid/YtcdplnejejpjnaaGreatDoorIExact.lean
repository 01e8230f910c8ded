/-
  The walk of the program's Exact.
-/
import Derived.Test.YtcdplnejejpjnaaGreatDoorIPow
import Derived.Test.YtcdplnejejpjnaaGreatDoorIBits
import Derived.Test.YtcdplnejejpjnaaGreatDoorExactL
import Derived.Test.YtcdplnejejpjnaaGreatDoorTab
namespace Go.Proofs.YtcdplnejejpjnaaGreatDoor
open Go.RowKit
set_option linter.unusedVariables false

theorem trimR_nought (l : List UInt8) : Lib.trimRightB (l ++ [48]) 48 = Lib.trimRightB l 48 := by
  simp [Lib.trimRightB]
theorem trimR_stays (l : List UInt8) {c : UInt8} (h : c ≠ 48) : Lib.trimRightB (l ++ [c]) 48 = l ++ [c] := by
  have hb : (c == (48 : UInt8)) = false := by rw [beq_eq_false_iff_ne]; exact h
  simp [Lib.trimRightB, hb]

theorem trim_strip : ∀ N : Nat, N ≠ 0 → Lib.trimRightB (Lib.decDigits N) 48 = Lib.decDigits (stripN N).1 ∧ (Lib.decDigits N).length = (Lib.decDigits (stripN N).1).length + (stripN N).2 := by
  intro N
  induction N using Nat.strongRecOn with
  | ind N ih =>
    intro h0
    by_cases h : N % 10 = 0
    · obtain ⟨k1, k2⟩ := ih (N / 10) (by omega) (by omega)
      have e : N = 10 * (N / 10) + 0 := by omega
      have e2 : Lib.decDigits N = Lib.decDigits (N / 10) ++ [48] := by
        conv => lhs; rw [e]
        exact dec_more (by omega) (by omega)
      rw [strip_more h0 h, e2, trimR_nought, List.length_append, List.length_singleton]
      exact ⟨k1, by show (Lib.decDigits (N / 10)).length + 1 = (Lib.decDigits (stripN (N / 10)).1).length + ((stripN (N / 10)).2 + 1); omega⟩
    · rw [strip_done h]
      obtain ⟨l, l1, _, _⟩ := dec_last (M := N)
      rw [l1, trimR_stays l (by
        intro hc
        have := congrArg UInt8.toNat hc
        rw [UInt8.toNat_ofNat'] at this
        have h48 : (48 : UInt8).toNat = 48 := rfl
        rw [h48] at this
        omega)]
      exact ⟨rfl, rfl⟩

set_option maxHeartbeats 400000 in
set_option maxRecDepth 100000 in
theorem iDecimal (n : Nat) (w : World) (hn : n < 9007199254740992) (htab : Lib.TabIs Tryz.prog w "internal/strconv.uint64pow10" .u64 Lib.pow10Tab) :
    Calls Tryz.prog 64 #[.int .i64 n] w fun e w' => e = .returned (.string (greatS n)) ∧ Below w.heap.size w w' := by
  have c := Tryz.strconv_Itoa (n : Int) (by omega) (by omega) w htab
  have e : (⟨(Lib.itoa (n : Int)).toArray⟩ : ByteArray) = greatS n := by
    have hl : (Lib.decDigits n).length ≤ 800 := Nat.le_trans (dec_length_le n 16 (by omega) (by decide)) (by decide)
    have e : Lib.itoa (n : Int) = Lib.decDigits n := by
      unfold Lib.itoa
      rw [if_neg (by omega), Int.toNat_natCast]
    rw [(greatS_yes hl).1, e]; rfl
  rw [e] at c
  clear e htab hn
  obtain ⟨T, hT⟩ : ∃ T, greatS n = T := ⟨_, rfl⟩
  rw [hT] at c ⊢
  clear hT
  go_enter Tryz.func64, Tryz.ntmps64
  go_wp2_with (go_at_call 106; refine c.mono ?_; rintro e w' ⟨rfl, hb⟩)
  go_ret
  exact ⟨rfl, below_grown hb⟩

theorem exactN_bound {m : Nat} {e : Int} (hm : m < 9007199254740992) (h1 : -1074 ≤ e) (h2 : e ≤ 971) : exactN m e < 10 ^ 800 := by
  unfold exactN
  split
  · exact pow_up (n := 400) (m := 800) (up_bound hm (by omega)) (by decide)
  · exact down_bound hm (by omega)
theorem exactN_pos {m : Nat} {e : Int} (h0 : m ≠ 0) : exactN m e ≠ 0 := by
  unfold exactN
  split
  · exact Nat.mul_ne_zero h0 (Nat.ne_of_gt (Nat.pow_pos (by decide)))
  · exact Nat.mul_ne_zero h0 (Nat.ne_of_gt (Nat.pow_pos (by decide)))

/-- what is answered of a finite number -/
theorem exact_told {m : Nat} {e : Int} (h0 : m ≠ 0) (hm : m < 9007199254740992) (h1 : -1074 ≤ e) (h2 : e ≤ 971) :
    ∃ (A F : ByteArray), greatS (exactN m e) = A ∧ (⟨(Lib.trimRightB A.data.toList 48).toArray⟩ : ByteArray) = F ∧ txt (Lib.decDigits (exactF m e)) = F ∧ (A.size : Int) - F.size = (stripN (exactN m e)).2 ∧ A.size ≤ 800 ∧ F.size ≤ 800 := by
  have hb := exactN_bound hm h1 h2
  have hl := dec_len (k := 800) (by decide) hb
  clear hb
  obtain ⟨t1, t2⟩ := trim_strip (exactN m e) (exactN_pos h0)
  have e1 := (greatS_yes hl).1
  refine ⟨_, _, e1, ?_, rfl, ?_, ?_, ?_⟩
  · rw [txt_data, t1]; rfl
  · rw [txt_size, txt_size, t2]
    show ((((Lib.decDigits (stripN (exactN m e)).1).length + (stripN (exactN m e)).2 : Nat)) : Int) - ((Lib.decDigits (stripN (exactN m e)).1).length : Nat) = _
    omega
  · rw [txt_size]; exact hl
  · rw [txt_size]
    show (Lib.decDigits (stripN (exactN m e)).1).length ≤ 800
    omega

set_option maxHeartbeats 1000000 in
set_option maxRecDepth 100000 in
theorem iExact (x : Nat) (w : World) (hx : x < 18446744073709551616) (htab : ∀ W, Below w.heap.size w W → Lib.TabIs Tryz.prog W "internal/strconv.uint64pow10" .u64 Lib.pow10Tab) :
    Calls Tryz.prog 56 #[.int .u64 x] w fun e w' => e = .returned (.tuple #[.string (exactS x), .int .i64 (exactE x)]) ∧ Below w.heap.size w w' := by
  have HT : Hid (∀ W, Below w.heap.size w W → Lib.TabIs Tryz.prog W "internal/strconv.uint64pow10" .u64 Lib.pow10Tab) := htab
  clear htab
  have cK := fun W => iKind x W
  by_cases kx : kindN x = 4
  · have cM := fun W => iMantExp x W hx kx
    have hS : exactS x = txt (Lib.decDigits (exactF (mantN x) (expN x))) := by unfold exactS; rw [if_pos kx]
    have hE : exactE x = (if 0 ≤ expN x then 0 else expN x) + (stripN (exactN (mantN x) (expN x))).2 := by unfold exactE; rw [if_pos kx]; rfl
    rw [hS, hE]
    have hm0 := mantN_pos kx
    have hm := mantN_lt x
    have he1 := expN_ge x
    have he2 := expN_le x
    rw [kx] at cK
    obtain ⟨M, hM⟩ : ∃ q, mantN x = q := ⟨_, rfl⟩
    obtain ⟨Q, hQ⟩ : ∃ q, expN x = q := ⟨_, rfl⟩
    rw [hM] at cM hm0 hm
    rw [hQ] at cM he1 he2
    rw [hM, hQ]
    obtain ⟨A, F, a1, a2, a3, a4, a5, a6⟩ := exact_told hm0 hm he1 he2
    have cD := fun W h => iDecimal M W hm h
    have hM1 : (M : Int) < 9007199254740992 := by omega
    have cT := fun W => behindWalk A F (min Q 0) W a2 (by omega) (by omega) (by omega) (by omega)
    rw [a3]
    obtain ⟨z, hz⟩ : ∃ z, (stripN (exactN M Q)).2 = z := ⟨_, rfl⟩
    rw [hz] at a4 ⊢
    clear hS hE a2 a3 hz hM hQ hx kx
    by_cases hq : Q < 0
    · obtain ⟨j, hj⟩ : ∃ j : Nat, -Q = j := ⟨(-Q).toNat, by omega⟩
      have hmx : max Q 0 = ((0 : Nat) : Int) := by omega
      have cP : ∀ W : World, Calls Tryz.prog 97 #[.int .i64 2, .int .i64 (max Q 0)] W fun e w' => e = .returned (.tuple #[.string (greatS (2 ^ 0)), .bool (greatB (2 ^ 0))]) ∧ Below W.heap.size W w' := fun W => by rw [hmx]; exact powWalk 2 (by omega) (by omega) 0 (by omega) W
      have cR : ∀ W : World, Calls Tryz.prog 97 #[.int .i64 5, .int .i64 j] W fun e w' => e = .returned (.tuple #[.string (greatS (5 ^ j)), .bool (greatB (5 ^ j))]) ∧ Below W.heap.size W w' := fun W => powWalk 5 (by omega) (by omega) j (by omega) W
      have cA := fun W => mulGreat M (5 ^ j) (Nat.pos_of_ne_zero hm0) (Nat.pow_pos (by decide)) W
      have e : M * 5 ^ j = exactN M Q := by
        unfold exactN
        rw [if_neg (by omega), (by omega : (-Q).toNat = j)]
      rw [e, a1] at cA
      have hq' : decide (0 ≤ Q) = false := by simp; omega
      have hif : (if 0 ≤ Q then (0 : Int) else Q) = Q := if_neg (by omega)
      rw [hif]
      obtain ⟨g1, hg1⟩ : ∃ q, greatS (2 ^ 0) = q := ⟨_, rfl⟩
      obtain ⟨g2, hg2⟩ : ∃ q, greatS (5 ^ j) = q := ⟨_, rfl⟩
      obtain ⟨g3, hg3⟩ : ∃ q, greatS M = q := ⟨_, rfl⟩
      obtain ⟨k1, hk1⟩ : ∃ q, greatB (2 ^ 0) = q := ⟨_, rfl⟩
      obtain ⟨k2, hk2⟩ : ∃ q, greatB (5 ^ j) = q := ⟨_, rfl⟩
      obtain ⟨k3, hk3⟩ : ∃ q, greatB (exactN M Q) = q := ⟨_, rfl⟩
      rw [hg1, hk1] at cP
      rw [hg2, hk2] at cR
      rw [hg3] at cD cA
      rw [hg2, hk3] at cA
      clear hg1 hg2 hg3 hk1 hk2 hk3 e a1 hif hm0 hm hmx
      go_enter Tryz.func56, Tryz.ntmps56
      go_wp2_with fail
      refine (cK _).mono ?_
      rintro e w1 ⟨rfl, rfl⟩
      go_wp2_with fail
      refine (cM _).mono ?_
      rintro e w1 ⟨rfl, rfl⟩
      go_wp2_with fail
      refine (cP _).mono ?_
      rintro e w1 ⟨rfl, b1⟩
      go_wp2_with fail
      refine (cR _).mono ?_
      rintro e w2 ⟨rfl, b2⟩
      go_wp2_with fail
      refine (cD _ (HT.out _ (chain b1 b2))).mono ?_
      rintro e w3 ⟨rfl, b3⟩
      go_wp2_with fail
      refine (cA _).mono ?_
      rintro e w4 ⟨rfl, b4⟩
      go_wp2_with fail
      refine (cT _).mono ?_
      rintro e w5 ⟨rfl, rfl⟩
      go_wp2
      go_ret2
      refine ⟨?_, chain (chain (chain b1 b2) b3) b4⟩
      have hv : min Q 0 + (A.size : Int) - (F.size : Int) = Q + z := by omega
      rw [← hv]
      rfl
    · obtain ⟨j, hj⟩ : ∃ j : Nat, Q = j := ⟨Q.toNat, by omega⟩
      have hmx : max Q 0 = (j : Int) := by omega
      have cP : ∀ W : World, Calls Tryz.prog 97 #[.int .i64 2, .int .i64 (max Q 0)] W fun e w' => e = .returned (.tuple #[.string (greatS (2 ^ j)), .bool (greatB (2 ^ j))]) ∧ Below W.heap.size W w' := fun W => by rw [hmx]; exact powWalk 2 (by omega) (by omega) j (by omega) W
      have cA := fun W => mulGreat M (2 ^ j) (Nat.pos_of_ne_zero hm0) (Nat.pow_pos (by decide)) W
      have e : M * 2 ^ j = exactN M Q := by
        unfold exactN
        rw [if_pos (by omega), (by omega : Q.toNat = j)]
      rw [e, a1] at cA
      have hq' : decide (Q < 0) = false := by simp; omega
      have hif : (if 0 ≤ Q then (0 : Int) else Q) = 0 := if_pos (by omega)
      rw [hif]
      obtain ⟨g2, hg2⟩ : ∃ q, greatS (2 ^ j) = q := ⟨_, rfl⟩
      obtain ⟨g3, hg3⟩ : ∃ q, greatS M = q := ⟨_, rfl⟩
      obtain ⟨k2, hk2⟩ : ∃ q, greatB (2 ^ j) = q := ⟨_, rfl⟩
      obtain ⟨k3, hk3⟩ : ∃ q, greatB (exactN M Q) = q := ⟨_, rfl⟩
      rw [hg2, hk2] at cP
      rw [hg3] at cD cA
      rw [hg2, hk3] at cA
      clear hg2 hg3 hk2 hk3 e a1 hif hm0 hm hmx hj
      go_enter Tryz.func56, Tryz.ntmps56
      go_wp2_with fail
      refine (cK _).mono ?_
      rintro e w1 ⟨rfl, rfl⟩
      go_wp2_with fail
      refine (cM _).mono ?_
      rintro e w1 ⟨rfl, rfl⟩
      go_wp2_with fail
      refine (cP _).mono ?_
      rintro e w1 ⟨rfl, b1⟩
      go_wp2_with fail
      refine (cD _ (HT.out _ b1)).mono ?_
      rintro e w3 ⟨rfl, b3⟩
      go_wp2_with fail
      refine (cA _).mono ?_
      rintro e w4 ⟨rfl, b4⟩
      go_wp2_with fail
      refine (cT _).mono ?_
      rintro e w5 ⟨rfl, rfl⟩
      go_wp2
      go_ret2
      refine ⟨?_, chain (chain b1 b3) b4⟩
      have hv : min Q 0 + (A.size : Int) - (F.size : Int) = 0 + z := by omega
      rw [← hv]
      rfl
  · have hS : exactS x = ⟨#[]⟩ := by unfold exactS; rw [if_neg kx]
    have hE : exactE x = 0 := by unfold exactE; rw [if_neg kx]
    rw [hS, hE]
    obtain ⟨K, hK⟩ : ∃ q, kindN x = q := ⟨_, rfl⟩
    rw [hK] at cK kx
    have hK' : ((K : Int) == 4) = false := by rw [beq_eq_false_iff_ne]; omega
    clear hS hE hK hx
    go_enter Tryz.func56, Tryz.ntmps56
    go_wp2_with fail
    refine (cK _).mono ?_
    rintro e w1 ⟨rfl, rfl⟩
    go_wp2
    go_ret2
    exact ⟨rfl, Below.refl _ _⟩

end Go.Proofs.YtcdplnejejpjnaaGreatDoor
