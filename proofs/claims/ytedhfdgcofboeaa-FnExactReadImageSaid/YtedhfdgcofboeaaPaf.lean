/-
  Part 6 of what is proved of drawn right trees.
-/
import Derived.Test.YtedhfdgcofboeaaPaa
import Derived.Laws.BitsAllLaws
import Derived.Deep.QuietTactic
import Derived.BigQuiet
import Derived.Lib.QuietBelow

namespace Go.Proofs.Ytedhfdgcofboeaa
open Go.RowKit
def halfS (s : Nat) : Nat := if s % 2 = 1 then s / 2 ^^^ 3558460437 else s / 2
def halfs : Nat → Nat → Nat
  | 0, s => s
  | k + 1, s => halfs k (halfS s)
def sumByte (s : Nat) (c : UInt8) : Nat := halfs 8 (s ^^^ c.toNat)
def sumL (s : Nat) (l : List UInt8) : Nat := l.foldl sumByte s
theorem halfS_lt {s : Nat} (h : s < 4294967296) : halfS s < 4294967296 := by
  unfold halfS
  split
  · exact Nat.xor_lt_two_pow (n := 32) (by omega) (by decide)
  · omega
theorem halfs_lt (k : Nat) {s : Nat} (h : s < 4294967296) : halfs k s < 4294967296 := by
  induction k generalizing s with
  | zero => exact h
  | succ k ih => exact ih (halfS_lt h)
theorem xor_byte_lt {s : Nat} (c : UInt8) (h : s < 4294967296) : s ^^^ c.toNat < 4294967296 :=
  Nat.xor_lt_two_pow (n := 32) h (by have := c.toNat_lt; omega)
theorem sumByte_lt {s : Nat} (c : UInt8) (h : s < 4294967296) : sumByte s c < 4294967296 := halfs_lt 8 (xor_byte_lt c h)
theorem sumL_lt {s : Nat} (l : List UInt8) (h : s < 4294967296) : sumL s l < 4294967296 := by
  induction l generalizing s with
  | nil => exact h
  | cons c l ih => exact ih (sumByte_lt c h)
theorem sumL_snoc (s : Nat) (l : List UInt8) (c : UInt8) : sumL s (l ++ [c]) = sumByte (sumL s l) c := by simp [sumL]
def fourB (x : Nat) : List Int := [((x / 16777216 : Nat) : Int), ((x / 65536 % 256 : Nat) : Int), ((x / 256 % 256 : Nat) : Int), ((x % 256 : Nat) : Int)]
end Go.Proofs.Ytedhfdgcofboeaa
namespace Go.Proofs.Ytedhfdgcofboeaa
open Go.RowKit
set_option linter.unusedVariables false
theorem halfs_odd {k T : Nat} (h : T % 2 = 1) : halfs (k + 1) T = halfs k (T / 2 ^^^ 3558460437) := by
  show halfs k (halfS T) = _
  rw [halfS, if_pos h]
theorem halfs_even {k T : Nat} (h : ¬T % 2 = 1) : halfs (k + 1) T = halfs k (T / 2) := by
  show halfs k (halfS T) = _
  rw [halfS, if_neg h]
set_option maxHeartbeats 1000000 in
set_option maxRecDepth 100000 in
theorem specSumMore_any (s : Nat) (t : ByteArray) (w : World) (hs : s < 4294967296) (ht : t.size ≤ 4000000000000000000) :
    Calls Try.prog 68 #[.int .u32 s, .string t] w fun e w' => e = .returned (.int .u32 (sumL s t.data.toList : Nat)) ∧ w = w' := by
  have HT : Hid (Unit → t.size ≤ 4000000000000000000) := fun _ => ht
  have HS : Hid (Unit → s < 4294967296) := fun _ => hs
  clear ht hs
  go_enter Try.func68, Try.ntmps68
  go_wp2
  go_loop [0, 5, 6, 7] (fun x0 x5 _ _ => ∃ (k S : Nat), x0 = .int .u32 S ∧ x5 = .int .i64 k ∧ S = sumL s (t.data.toList.take k) ∧ k ≤ t.size) (fun _ x5 _ _ => t.size - (intOf x5).toNat)
  case atStart => exact ⟨0, s, rfl, rfl, rfl, Nat.zero_le _⟩
  case round =>
    obtain ⟨k, S, rfl, rfl, hS, hk⟩ := hrel
    have hS1 : S < 4294967296 := by rw [hS]; exact sumL_lt _ (HS.out ())
    have HS1 : Hid (Unit → S < 4294967296) := fun _ => hS1
    have HSS : Hid (Unit → S = sumL s (t.data.toList.take k)) := fun _ => hS
    clear hS
    have ht := HT.out ()
    have hk2 : (k : Int) < 4000000000000000001 := by omega
    by_cases hlt : k < t.size
    · have hc : (t[k]).toNat < 256 := (t[k]).toNat_lt
      have hx : bits .xor .u32 (S : Int) ((t[k]).toNat : Int) = ((S ^^^ (t[k]).toNat : Nat) : Int) := u32_xor_nat _ _ hS1 (by omega)
      obtain ⟨Y, hY⟩ : ∃ Y, S ^^^ (t[k]).toNat = Y := ⟨_, rfl⟩
      rw [hY] at hx
      have HY : Hid (Unit → S ^^^ (t[k]).toNat = Y) := fun _ => hY
      clear hY hS1 ht
      have hc' : ((t[k]).toNat : Int) < 4294967296 := by omega
      clear hc
      go_wp2
      go_loop [0, 6, 7] (fun x0 x6 _ => ∃ (j T : Nat), x0 = .int .u32 T ∧ x6 = .int .i64 j ∧ j ≤ 8 ∧ halfs (8 - j) T = halfs 8 Y ∧ T < 4294967296) (fun _ x6 _ => 8 - (intOf x6).toNat)
      case atStart => exact ⟨0, Y, rfl, rfl, by omega, rfl, by rw [← HY.out ()]; exact xor_byte_lt _ (HS1.out ())⟩
      case round =>
        obtain ⟨j, T, rfl, rfl, hj, hT, hT1⟩ := hrel
        have HTT : Hid (Unit → halfs (8 - j) T = halfs 8 Y ∧ T < 4294967296) := fun _ => ⟨hT, hT1⟩
        clear hT
        by_cases hj8 : (j : Int) < 8
        · have h8 : 8 - j = (8 - (j + 1)) + 1 := by omega
          by_cases ho : T % 2 = 1
          · have ho' : ((T : Int) % 2 == 1) = true := by simp; omega
            have hx2 : bits .xor .u32 ((T : Int) / 2) 3558460437 = ((T / 2 ^^^ 3558460437 : Nat) : Int) := u32_xor_nat (T / 2) 3558460437 (by omega) (by omega)
            obtain ⟨Z, hZ⟩ : ∃ Z, T / 2 ^^^ 3558460437 = Z := ⟨_, rfl⟩
            rw [hZ] at hx2
            have HZ : Hid (Unit → T / 2 ^^^ 3558460437 = Z) := fun _ => hZ
            have hT2 : (T : Int) < 4294967296 := by omega
            have HO : Hid (Unit → T % 2 = 1) := fun _ => ho
            clear hZ ho hT1
            go_wp2
            go_round
            case rel => exact ⟨j + 1, Z, rfl, by go_num, by omega, by rw [← HZ.out (), ← halfs_odd (HO.out ()), ← h8]; exact (HTT.out ()).1, by rw [← HZ.out ()]; exact Nat.xor_lt_two_pow (n := 32) (by have := (HTT.out ()).2; omega) (by decide)⟩
            case measure => simp [intOf]; omega
          · have ho' : ((T : Int) % 2 == 1) = false := by rw [beq_eq_false_iff_ne]; omega
            have HO : Hid (Unit → ¬T % 2 = 1) := fun _ => ho
            have hT2 : (T : Int) < 4294967296 := by omega
            clear ho hT1
            go_wp2
            go_round
            case rel => exact ⟨j + 1, T / 2, by go_num, by go_num, by omega, by rw [← halfs_even (HO.out ()), ← h8]; exact (HTT.out ()).1, by have := (HTT.out ()).2; omega⟩
            case measure => simp [intOf]; omega
        · have hj9 : j = 8 := by omega
          subst hj9
          clear hT1
          go_wp2
          go_round
          case rel => exact ⟨k + 1, T, rfl, by go_num, by rw [take_snoc t k hlt, sumL_snoc, ← HSS.out ()]; exact (HTT.out ()).1.trans (by rw [← HY.out ()]; rfl), by omega⟩
          case measure => simp [intOf]; omega
    · have hkk : k = t.size := by omega
      subst hkk
      clear hS1 ht
      go_wp2
      go_ret
      exact ⟨by rw [HSS.out (), take_all]; rfl, rfl⟩
theorem specSumOf_any (t : ByteArray) (w : World) (ht : t.size ≤ 4000000000000000000) :
    Calls Try.prog 30 #[.string t] w fun e w' => e = .returned (.int .u32 (sumL 4294967295 t.data.toList : Nat)) ∧ w = w' := by
  go_enter Try.func30, Try.ntmps30
  go_wp2_with (go_at_call 68; refine (specSumMore_any 4294967295 t _ (by decide) ht).mono ?_; rintro e w' ⟨rfl, rfl⟩)
  go_ret
  exact ⟨rfl, rfl⟩
theorem alloc_new (w : World) (o : Obj) : (w.alloc o).heap[w.heap.size]? = some o := by
  have e : (w.alloc o).heap = w.heap.push o := rfl
  rw [e]
  simp
theorem four_conv (w : World) (a b c d : Int) : (convert 78 9 (.slice (some ⟨w.heap.size, 0, none⟩) 4 4)).run Try.prog (w.alloc (.cells #[.int .u8 a, .int .u8 b, .int .u8 c, .int .u8 d] 5)) = .ok (.string (strOfNums [a, b, c, d])) (w.alloc (.cells #[.int .u8 a, .int .u8 b, .int .u8 c, .int .u8 d] 5)) := by
  refine run_convert_bytes_arg _ 78 5 Try.underlying78 Try.underlying5 w.heap.size 0 4 4 [a, b, c, d] rfl ?_ 9 Try.underlying9
  intro i hi
  have hg : (w.alloc (.cells #[.int .u8 a, .int .u8 b, .int .u8 c, .int .u8 d] 5)).heap[w.heap.size]? = some (.cells #[.int .u8 a, .int .u8 b, .int .u8 c, .int .u8 d] 5) := alloc_new _ _
  unfold World.cell?
  simp only [hg]
  rcases (by omega : i = 0 ∨ i = 1 ∨ i = 2 ∨ i = 3) with rfl | rfl | rfl | rfl <;> rfl
set_option maxHeartbeats 400000 in
set_option maxRecDepth 100000 in
theorem l02Four_any (x : Nat) (w : World) (hx : x < 4294967296) :
    Calls Try.prog 29 #[.int .u32 x] w fun e w' => e = .returned (.string (strOfNums (fourB x))) ∧ Below w.heap.size w w' := by
  have hx' : (x : Int) < 4294967296 := by omega
  have hcv := four_conv w
  clear hx
  go_enter Try.func29, Try.ntmps29
  go_wp2
  go_ret
  exact ⟨by simp only [fourB, Int.natCast_ediv, Int.natCast_emod]; rfl, (Below.refl _ _).alloc (Nat.le_refl _) _⟩
def sealedS (t : ByteArray) : ByteArray := t ++ strOfNums (fourB (sumL 4294967295 t.data.toList))
set_option maxHeartbeats 400000 in
set_option maxRecDepth 100000 in
theorem specSealed_in (t : ByteArray) (w : World) (ht : t.size ≤ 12000) :
    Calls Try.prog 38 #[.string t] w fun e w' => e = .returned (.tuple #[.string (sealedS t), .bool true]) ∧ Below w.heap.size w w' := by
  have hz : (strOfNums (fourB (sumL 4294967295 t.data.toList))).size = 4 := by rw [strOfNums_size]; rfl
  go_enter Try.func38, Try.ntmps38
  go_wp2_with (first | (go_at_call 30; refine (specSumOf_any t _ (by omega)).mono ?_; rintro e w' ⟨rfl, rfl⟩) | (go_at_call 29; refine (l02Four_any _ _ (sumL_lt _ (by decide))).mono ?_; rintro e w' ⟨rfl, hb⟩))
  go_ret2
  exact ⟨rfl, hb⟩
end Go.Proofs.Ytedhfdgcofboeaa
namespace Go.Proofs.Ytedhfdgcofboeaa
open Go.RowKit Go.Sort
set_option linter.unusedVariables false
def innerS (t : ByteArray) : ByteArray := t.extract 0 (t.size - 4)
def sealOk (t : ByteArray) : Bool := (t.extract (t.size - 4) t.size).toList == (strOfNums (fourB (sumL 4294967295 (innerS t).data.toList))).toList
def unsealedV (t : ByteArray) : Value := if sealOk t = true then .tuple #[.string (innerS t), .bool true] else .tuple #[.string ⟨#[]⟩, .bool false]
theorem unsealedV_yes {t : ByteArray} (h : sealOk t = true) : unsealedV t = .tuple #[.string (innerS t), .bool true] := if_pos h
theorem unsealedV_no {t : ByteArray} (h : sealOk t = false) : unsealedV t = .tuple #[.string ⟨#[]⟩, .bool false] := if_neg (by rw [h]; decide)
set_option maxHeartbeats 1000000 in
set_option maxRecDepth 100000 in
theorem specUnsealed_out (t : ByteArray) (w : World) (h : t.size < 4 ∨ 12004 < t.size) (hm : t.size < 4000000000000000000) :
    Calls Try.prog 9 #[.string t] w fun e w' => e = .returned (.tuple #[.string ⟨#[]⟩, .bool false]) ∧ Below w.heap.size w w' := by
  have hm' : (t.size : Int) < 4000000000000000000 := by omega
  clear hm
  rcases h with h | h
  · have h1 : (t.size : Int) - 4 < 0 := by omega
    go_enter Try.func9, Try.ntmps9
    go_wp2
    go_quiet (fail)
    go_wp2
    go_ret2
    exact ⟨rfl, below_drewN (Below.refl _ _) _⟩
  · have h1 : decide ((t.size : Int) - 4 < 0) = false := by simp; omega
    have h2 : (12000 : Int) < (t.size : Int) - 4 := by omega
    go_enter Try.func9, Try.ntmps9
    go_wp2
    go_quiet (fail)
    go_wp2
    go_ret2
    exact ⟨rfl, below_drewN (Below.refl _ _) _⟩
theorem specSumOf_b (t : ByteArray) (w : World) (ht : t.size ≤ 4000000000000000000) :
    Calls Try.prog 30 #[.string t] w fun e w' => e = .returned (.int .u32 (sumL 4294967295 t.data.toList : Nat)) ∧ Below w.heap.size w w' :=
  (specSumOf_any t w ht).mono fun _ _ h => ⟨h.1, by rw [h.2]; exact Below.refl _ _⟩
set_option maxHeartbeats 2000000 in
set_option maxRecDepth 100000 in
theorem specUnsealed_in (t : ByteArray) (w : World) (h1 : 4 ≤ t.size) (h2 : t.size ≤ 12004) :
    Calls Try.prog 9 #[.string t] w fun e w' => e = .returned (unsealedV t) ∧ Below w.heap.size w w' := by
  have d1 : decide ((t.size : Int) - 4 < 0) = false := by simp; omega
  have d2 : decide ((12000 : Int) < (t.size : Int) - 4) = false := by simp; omega
  have hin : (t.extract 0 (t.size - 4)).size ≤ 4000000000000000000 := by rw [ByteArray.size_extract]; omega
  obtain ⟨Y, hY⟩ : ∃ Y, sumL 4294967295 (t.extract 0 (t.size - 4)).data.toList = Y := ⟨_, rfl⟩
  have hY1 : Y < 4294967296 := by rw [← hY]; exact sumL_lt _ (by decide)
  have hSum := fun W => specSumOf_b (t.extract 0 (t.size - 4)) W hin
  have HOK : Hid (Unit → sealOk t = ((t.extract (t.size - 4) t.size).toList == (strOfNums (fourB Y)).toList)) := fun _ => by unfold sealOk innerS; rw [hY]
  rw [hY] at hSum
  clear hY
  obtain ⟨F, hF⟩ : ∃ F, strOfNums (fourB Y) = F := ⟨_, rfl⟩
  have hFour := fun W => l02Four_any Y W hY1
  rw [hF] at hFour HOK
  clear hF hY1
  have cQ1 := fun d os => Calls.regrown_of (w := w) (d := d) (os := os) (hSum (grow (redrawn w d) os))
  have cQ2 := fun d os => Calls.regrown_of (w := w) (d := d) (os := os) (hFour (grow (redrawn w d) os))
  clear hSum hFour
  clear hin
  go_enter Try.func9, Try.ntmps9
  go_wp2
  refine wp_region_quiet_below (by kernel_rfl) (by kernel_rfl) ?_
  iterate 13 (first | go_big_quiet_step (fail) | quiet_step (fail))
  first | go_big_quiet_step (exact cQ1 _ _) | quiet_step (exact cQ1 _ _)
  first | go_big_quiet_step (exact cQ2 _ _) | quiet_step (exact cQ2 _ _)
  repeat (first | go_big_quiet_step (fail) | quiet_step (fail))
  refine wpQuiet_nil ?_
  intro _ hw'
  obtain ⟨⟨dq, osq⟩, hw''⟩ := hw'
  subst hw''
  obtain ⟨c, hc⟩ : ∃ c, ((t.extract (t.size - 4) t.size).toList == F.toList) = c := ⟨_, rfl⟩
  simp only [hc]
  have HC : Hid (Unit → sealOk t = c) := fun _ => (HOK.out ()).trans hc
  clear HOK hc
  cases c
  · go_wp2
    go_ret2
    exact ⟨by rw [unsealedV_no (HC.out ())]; rfl, below_regrown w dq osq⟩
  · go_wp2
    go_ret2
    exact ⟨by rw [unsealedV_yes (HC.out ())]; rfl, below_regrown w dq osq⟩
end Go.Proofs.Ytedhfdgcofboeaa
namespace Go.Proofs.Ytedhfdgcofboeaa
open Go.RowKit Go.Sort
set_option linter.unusedVariables false
theorem empty_is {s : ByteArray} (h : s.size = 0) : s = ⟨#[]⟩ := by
  obtain ⟨d⟩ := s
  have : d = #[] := Array.eq_empty_of_size_eq_zero h
  rw [this]
theorem full_text {s : ByteArray} (h : ¬ s.size = 0) : s.toList.isEmpty = false := by
  rw [ByteArray.toList_eq, List.isEmpty_eq_false_iff]
  intro e
  apply h
  show s.data.size = 0
  rw [← Array.length_toList, e]
  rfl
set_option maxHeartbeats 1000000 in
set_option maxRecDepth 100000 in
theorem specConstOk_any (p : PCon) (w : World) (hp : conW p) :
    Calls Try.prog 70 #[.agg #[.int .i64 p.kind, .int .u64 (p.num : Int), .string p.text]] w fun e w' => e = .returned (.bool (conOk p)) ∧ Below w.heap.size w w' := by
  have hx := hp.2.1
  have hs := hp.2.2
  clear hp
  have HF0 : conOk p = (if p.kind = 1 then decide (p.text.size = 0) && (decide (kindN p.num ≠ 1) || decide (p.num = 9221120237041090560)) else if p.kind = 2 then decide (p.num = 0) && decide (p.text.size ≤ 40) else if p.kind = 3 ∨ p.kind = 4 ∨ p.kind = 5 then decide (p.num = 0) && decide (p.text.size = 0) else false) := rfl
  obtain ⟨F, hF⟩ : ∃ F, conOk p = F := ⟨_, rfl⟩
  obtain ⟨k, hk⟩ : ∃ k, p.kind = k := ⟨_, rfl⟩
  obtain ⟨x, hxx⟩ : ∃ x, p.num = x := ⟨_, rfl⟩
  obtain ⟨s, hss⟩ : ∃ s, p.text = s := ⟨_, rfl⟩
  rw [hF, hk, hxx, hss] at HF0
  rw [hF, hk, hxx, hss]
  rw [hxx] at hx
  rw [hss] at hs
  have HF : Hid _ := HF0
  clear hF hk hxx hss HF0 p
  unfold maxLen at hs
  have cN := fun W => l03Nan_any x W hx
  obtain ⟨bn, en⟩ : ∃ b, decide (kindN x = 1) = b := ⟨_, rfl⟩
  simp only [en] at cN
  have HE : Hid (decide (kindN x = 1) = bn) := en
  clear en hx
  have b0 : ∀ cs t, Below w.heap.size w (w.alloc (.cells cs t)) := fun cs t => (Below.refl _ _).alloc (Nat.le_refl _) _
  have hse : ¬ s.size = 0 → s.toList.isEmpty = false := full_text
  by_cases k1 : k = 1
  · subst k1
    by_cases z : s.size = 0
    · have es := empty_is z
      subst es
      cases bn with
      | false =>
        have hF : F = true := by
          rw [HF.out, if_pos rfl, decide_eq_true z]
          have := of_decide_eq_false HE.out
          simp [this]
        subst hF
        clear HF HE hse
        go_enter Try.func70, Try.ntmps70
        go_wp2_with (go_at_call 89; refine (cN _).mono ?_; rintro e w' ⟨rfl, hb⟩)
        go_ret
        exact ⟨rfl, chain (b0 _ _) hb⟩
      | true =>
        have hK : kindN x = 1 := of_decide_eq_true HE.out
        by_cases hN : x = 9221120237041090560
        · have hF : F = true := by
            rw [HF.out, if_pos rfl, decide_eq_true z, decide_eq_true hN]
            simp
          subst hF
          have HN : ((x : Int) == 9221120237041090560) = true := by rw [hN]; rfl
          clear HF HE hse hK hN
          go_enter Try.func70, Try.ntmps70
          go_wp2_with (go_at_call 89; refine (cN _).mono ?_; rintro e w' ⟨rfl, hb⟩; have q1 := new_cell hb 1 _ rfl)
          go_ret
          exact ⟨rfl, chain (b0 _ _) hb⟩
        · have hF : F = false := by
            rw [HF.out, if_pos rfl, decide_eq_true z, decide_eq_false hN]
            simp [hK]
          subst hF
          have HN : ((x : Int) == 9221120237041090560) = false := by rw [beq_eq_false_iff_ne]; omega
          clear HF HE hse hK hN
          go_enter Try.func70, Try.ntmps70
          go_wp2_with (go_at_call 89; refine (cN _).mono ?_; rintro e w' ⟨rfl, hb⟩; have q1 := new_cell hb 1 _ rfl)
          go_ret
          exact ⟨rfl, chain (b0 _ _) hb⟩
    · have hF : F = false := by rw [HF.out, if_pos rfl, decide_eq_false z]; rfl
      subst hF
      have hne := hse z
      clear HF HE hse cN
      go_enter Try.func70, Try.ntmps70
      go_wp2
      go_ret
      exact ⟨rfl, b0 _ _⟩
  by_cases k2 : k = 2
  · subst k2
    by_cases hx0 : x = 0
    · subst hx0
      by_cases z : s.size ≤ 40
      · have hF : F = true := by rw [HF.out, if_neg (by decide), if_pos rfl, decide_eq_true z]; rfl
        subst hF
        have zi : (s.size : Int) ≤ 40 := by omega
        clear HF HE hse cN
        go_enter Try.func70, Try.ntmps70
        go_wp2
        go_ret
        exact ⟨rfl, b0 _ _⟩
      · have hF : F = false := by rw [HF.out, if_neg (by decide), if_pos rfl, decide_eq_false z]; rfl
        subst hF
        have zi : ¬ (s.size : Int) ≤ 40 := by omega
        clear HF HE hse cN
        go_enter Try.func70, Try.ntmps70
        go_wp2
        go_ret
        exact ⟨rfl, b0 _ _⟩
    · have hF : F = false := by rw [HF.out, if_neg (by decide), if_pos rfl, decide_eq_false hx0]; rfl
      subst hF
      have zi : ((x : Int) == 0) = false := by rw [beq_eq_false_iff_ne]; omega
      clear HF HE hse cN
      go_enter Try.func70, Try.ntmps70
      go_wp2
      go_ret
      exact ⟨rfl, b0 _ _⟩
  by_cases k3 : k = 3 ∨ k = 4 ∨ k = 5
  · have HF1 : Hid (F = (decide (x = 0) && decide (s.size = 0))) := by
      have h := HF.out
      rw [if_neg k1, if_neg k2, if_pos k3] at h
      exact h
    clear HF HE cN k1 k2
    by_cases hx0 : x = 0
    · subst hx0
      by_cases z : s.size = 0
      · have es := empty_is z
        subst es
        have hF : F = true := by rw [HF1.out]; rfl
        subst hF
        clear HF1 hse
        rcases k3 with rfl | rfl | rfl
        all_goals
          go_enter Try.func70, Try.ntmps70
          go_wp2
          go_ret
          exact ⟨rfl, b0 _ _⟩
      · have hF : F = false := by rw [HF1.out, decide_eq_false z]; rfl
        subst hF
        have hne := hse z
        clear HF1 hse
        rcases k3 with rfl | rfl | rfl
        all_goals
          go_enter Try.func70, Try.ntmps70
          go_wp2
          go_ret
          exact ⟨rfl, b0 _ _⟩
    · have hF : F = false := by rw [HF1.out, decide_eq_false hx0]; rfl
      subst hF
      have zi : ((x : Int) == 0) = false := by rw [beq_eq_false_iff_ne]; omega
      clear HF1 hse
      rcases k3 with rfl | rfl | rfl
      all_goals
        go_enter Try.func70, Try.ntmps70
        go_wp2
        go_ret
        exact ⟨rfl, b0 _ _⟩
  have hF : F = false := by rw [HF.out, if_neg k1, if_neg k2, if_neg k3]
  subst hF
  have k3a : ¬ k = 3 := fun h => k3 (.inl h)
  have k4a : ¬ k = 4 := fun h => k3 (.inr (.inl h))
  have k5a : ¬ k = 5 := fun h => k3 (.inr (.inr h))
  clear HF HE cN hse k3
  go_enter Try.func70, Try.ntmps70
  go_wp2
  go_ret
  exact ⟨rfl, b0 _ _⟩
end Go.Proofs.Ytedhfdgcofboeaa
namespace Go.Proofs.Ytedhfdgcofboeaa
open Go.RowKit Go.Sort
set_option linter.unusedVariables false
def firstOk (l : List PFun) : Bool := match l with | [] => false | f :: _ => decide (f.params = 0) && decide (f.caps.length = 0)
set_option maxHeartbeats 1000000 in
set_option maxRecDepth 100000 in
theorem specImageOk_any (p : PImg) (fv cv : Value) (w : World) (h : ArgImg w fv cv p) (hw : imgW p) :
    Calls Try.prog 33 #[.agg #[fv, cv]] w fun e w' => e = .returned (.bool (imgOk p)) ∧ Below w.heap.size w w' := by
  obtain ⟨hF, hC⟩ := h
  obtain ⟨x1, c1, rfl, m1, o1⟩ := hF
  obtain ⟨x2, c2, rfl, m2, o2⟩ := hC.opened conC_len
  have HW : Hid (∀ x ∈ p.consts, conW x) := hw.consts
  clear hC hw
  unfold maxLen at m1 m2
  obtain ⟨n1, e1⟩ : ∃ n, p.funcs.length = n := ⟨_, rfl⟩
  obtain ⟨n2, e2⟩ : ∃ n, p.consts.length = n := ⟨_, rfl⟩
  have HF0 : imgOk p = (inB n1 1 16 && (decide (n2 ≤ 40) && (p.consts.all conOk && (p.funcs.all funOk && firstOk p.funcs)))) := by unfold imgOk; rw [e1, e2]; rfl
  obtain ⟨F, hF⟩ : ∃ F, imgOk p = F := ⟨_, rfl⟩
  rw [hF] at HF0 ⊢
  rw [e1] at m1 o1 ⊢
  rw [e2] at m2 o2 ⊢
  have H1 : Hid (0 < n1 → ∃ b o, x1 = some ⟨b, o, none⟩ ∧ b < w.heap.size ∧ ∀ j q, p.funcs[j]? = some q → ∃ cv kv hv, FunAt w b (o + j * 5) q cv kv hv) := o1
  have H2 : Hid (0 < n2 → ∃ b o, x2 = some ⟨b, o, none⟩ ∧ b < w.heap.size ∧ ∀ j q, p.consts[j]? = some q → ∀ c u, (conC q)[c]? = some u → w.cell? ⟨b, o + j * 3 + c, none⟩ = some u) := o2
  have E1 : Hid (p.funcs.length = n1) := e1
  have E2 : Hid (p.consts.length = n2) := e2
  clear o1 o2 e1 e2 hF
  have cP := fun W => l01In_b n1 1 16 W
  obtain ⟨bP, eP⟩ : ∃ b, inB n1 1 16 = b := ⟨_, rfl⟩
  have HP : Hid (inB n1 1 16 = bP) := eP
  simp only [eP] at cP HF0
  have HF : Hid (F = (bP && (decide (n2 ≤ 40) && (p.consts.all conOk && (p.funcs.all funOk && firstOk p.funcs))))) := HF0
  clear eP HF0
  cases bP with
  | false =>
    have hF : F = false := by rw [HF.out]; rfl
    subst hF
    clear HF H1 H2 E1 E2 HP
    go_enter Try.func33, Try.ntmps33
    go_wp2_with (go_at_call 69; with_reducible refine (cP _).mono ?_; rintro e w' ⟨rfl, rfl⟩)
    go_ret
    exact ⟨rfl, (Below.refl _ _).alloc (Nat.le_refl _) _⟩
  | true =>
  by_cases hn2 : n2 ≤ 40
  case neg =>
    have hF : F = false := by rw [HF.out, decide_eq_false hn2]; rfl
    subst hF
    clear HF H1 H2 E1 E2 HP
    have hx : (40 : Int) < (n2 : Int) := by omega
    go_enter Try.func33, Try.ntmps33
    go_wp2_with (go_at_call 69; with_reducible refine (cP _).mono ?_; rintro e w' ⟨rfl, rfl⟩)
    go_ret
    exact ⟨rfl, (Below.refl _ _).alloc (Nat.le_refl _) _⟩
  have hx2 : ¬ (40 : Int) < (n2 : Int) := by omega
  have hpos : 0 < n1 := by
    have h := HP.out
    unfold inB at h
    simp only [Bool.and_eq_true, decide_eq_true_eq] at h
    omega
  have HF1 : Hid (F = (p.consts.all conOk && (p.funcs.all funOk && firstOk p.funcs))) := by
    have h := HF.out
    rw [decide_eq_true hn2] at h
    exact h
  clear HF HP
  have b0 : Below w.heap.size w (w.alloc (.cells #[.slice x1 n1 c1, .slice x2 n2 c2] 25)) := (Below.refl _ _).alloc (Nat.le_refl _) _
  have k1 := fun W (h : Below _ _ W) => new_cell (w := w) (cs := #[.slice x1 n1 c1, .slice x2 n2 c2]) (t := 25) h 0 _ rfl
  have k2 := fun W (h : Below _ _ W) => new_cell (w := w) (cs := #[.slice x1 n1 c1, .slice x2 n2 c2]) (t := 25) h 1 _ rfl
  obtain ⟨W0, hW0⟩ : ∃ W, w.alloc (.cells #[.slice x1 n1 c1, .slice x2 n2 c2] 25) = W := ⟨_, rfl⟩
  rw [hW0] at b0 k1 k2
  have HW0 : Hid (w.alloc (.cells #[.slice x1 n1 c1, .slice x2 n2 c2] 25) = W0) := hW0
  clear hW0
  go_enter Try.func33, Try.ntmps33
  go_upto_region 3 with (go_at_call 69; with_reducible refine (cP _).mono ?_; rintro e w' ⟨rfl, rfl⟩)
  rw [HW0.out]
  clear HW0 cP hx2 hn2
  go_wp2
  go_loopw [3] (fun i wr => ∃ k : Nat, k ≤ n2 ∧ i = .int .i64 k ∧ Hid (∀ j q, j < k → p.consts[j]? = some q → conOk q = true) ∧ Below W0.heap.size W0 wr) (fun i _ => n2 - (intOf i).toNat)
  case atStart => exact ⟨0, Nat.zero_le _, rfl, fun j q hj => absurd hj (Nat.not_lt_zero _), Below.refl _ _⟩
  case round =>
    obtain ⟨k, hk, rfl, HA, hb⟩ := hrel
    have s2 := k2 wr hb
    by_cases hkn : k < n2
    · obtain ⟨b, o, rfl, hbz, hcell⟩ := H2.out (by omega)
      obtain ⟨q, hq⟩ : ∃ q, p.consts[k]? = some q := ⟨_, List.getElem?_eq_getElem (by have := E2.out; omega)⟩
      have g0 : wr.cell? ⟨b, o + k * 3, none⟩ = some (.int .i64 q.kind) := ((chain b0 hb).cell hbz).trans (hcell k q hq 0 _ rfl)
      have g1 : wr.cell? ⟨b, o + k * 3 + 1, none⟩ = some (.int .u64 (q.num : Int)) := ((chain b0 hb).cell hbz).trans (hcell k q hq 1 _ rfl)
      have g2 : wr.cell? ⟨b, o + k * 3 + 2, none⟩ = some (.string q.text) := ((chain b0 hb).cell hbz).trans (hcell k q hq 2 _ rfl)
      have hki : (k : Int) < (n2 : Int) := by omega
      have hk0 : (0 : Int) ≤ (k : Int) := by omega
      have cI := fun W => specConstOk_any q W (HW.out q (List.mem_iff_getElem?.2 ⟨_, hq⟩))
      obtain ⟨bI, eI⟩ : ∃ b, conOk q = b := ⟨_, rfl⟩
      simp only [eI] at cI
      have HI : Hid (conOk q = bI) := eI
      have HQ : Hid (p.consts[k]? = some q) := hq
      clear hcell eI hq
      cases bI with
      | false =>
        have hF : F = false := by rw [HF1.out, all_no HQ.out HI.out]; rfl
        subst hF
        clear H1 H2 k1 k2
        go_wp2_with (go_at_call 70; with_reducible refine (cI _).mono ?_; rintro e w' ⟨rfl, hb1⟩)
        go_ret
        exact ⟨rfl, chain (chain b0 hb) hb1⟩
      | true =>
        go_wp2_with (go_at_call 70; with_reducible refine (cI _).mono ?_; rintro e w' ⟨rfl, hb1⟩)
        go_roundw
        case rel => exact ⟨k + 1, by omega, by go_num, all_more HA.out HQ.out HI.out, chain hb hb1⟩
        case measure => simp [intOf]; omega
    · have hall : p.consts.all conOk = true := all_yes (n := k) (by have := E2.out; omega) HA.out
      have HF2 : Hid (F = (p.funcs.all funOk && firstOk p.funcs)) := by
        have h := HF1.out
        rw [hall] at h
        exact h
      clear HF1 hall HA H2 k2
      go_wp2
      go_loopw [4] (fun i wr => ∃ k : Nat, k ≤ n1 ∧ i = .int .i64 k ∧ Hid (∀ j q, j < k → p.funcs[j]? = some q → funOk q = true) ∧ Below W0.heap.size W0 wr) (fun i _ => n1 - (intOf i).toNat)
      case atStart => exact ⟨0, Nat.zero_le _, rfl, fun j q hj => absurd hj (Nat.not_lt_zero _), hb⟩
      case round =>
        clear hb hk hkn
        obtain ⟨k, hk, rfl, HA, hb⟩ := hrel
        have s2 := k1 _ hb
        by_cases hkn : k < n1
        · obtain ⟨b, o, rfl, hbz, hcell⟩ := H1.out (by omega)
          obtain ⟨q, hq⟩ : ∃ q, p.funcs[k]? = some q := ⟨_, List.getElem?_eq_getElem (by have := E1.out; omega)⟩
          obtain ⟨cv, kv, hv, hA⟩ := hcell k q hq
          have hA' := hA.below (chain b0 hb)
          have g0 := hA'.c0
          have g1 := hA'.c1
          have g2 := hA'.c2
          have g3 := hA'.c3
          have g4 := hA'.c4
          have hki : (k : Int) < (n1 : Int) := by omega
          have hk0 : (0 : Int) ≤ (k : Int) := by omega
          have cI := l13Func_any q cv kv hv wr hA'.caps hA'.code hA'.hnds
          obtain ⟨bI, eI⟩ : ∃ b, funOk q = b := ⟨_, rfl⟩
          simp only [eI] at cI
          have HI : Hid (funOk q = bI) := eI
          have HQ : Hid (p.funcs[k]? = some q) := hq
          clear hcell eI hq hA hA'
          cases bI with
          | false =>
            have hF : F = false := by rw [HF2.out, all_no HQ.out HI.out]; rfl
            subst hF
            clear H1 k1
            go_wp2_with (go_at_call 71; with_reducible refine cI.mono ?_; rintro e w' ⟨rfl, hb1⟩)
            go_ret
            exact ⟨rfl, chain (chain b0 hb) hb1⟩
          | true =>
            go_wp2_with (go_at_call 71; with_reducible refine cI.mono ?_; rintro e w' ⟨rfl, hb1⟩)
            go_roundw
            case rel => exact ⟨k + 1, by omega, by go_num, all_more HA.out HQ.out HI.out, chain hb hb1⟩
            case measure => simp [intOf]; omega
        · have hall : p.funcs.all funOk = true := all_yes (n := k) (by have := E1.out; omega) HA.out
          have HF3 : Hid (F = firstOk p.funcs) := by
            have h := HF2.out
            rw [hall] at h
            exact h
          clear HF2 hall HA
          obtain ⟨b, o, rfl, hbz, hcell⟩ := H1.out hpos
          obtain ⟨q, hq⟩ : ∃ q, p.funcs[0]? = some q := ⟨_, List.getElem?_eq_getElem (by have := E1.out; omega)⟩
          obtain ⟨cv, kv, hv, hA⟩ := hcell 0 q hq
          have hA' := hA.below (chain b0 hb)
          obtain ⟨cx, cc, rfl, _, _⟩ := hA'.caps.opened capC_len
          have g0 := hA'.c0
          have g2 := hA'.c2
          have e0 : o + 0 * 5 = o := by omega
          rw [e0] at g0 g2
          have hq1 : firstOk p.funcs = (decide (q.params = 0) && decide (q.caps.length = 0)) := by
            revert hq
            cases p.funcs with
            | nil => intro h; simp at h
            | cons f r =>
              intro h
              simp at h
              subst h
              rfl
          rw [hq1] at HF3
          have hp0 : (0 : Int) < (n1 : Int) := by omega
          obtain ⟨P, hP⟩ : ∃ x, q.params = x := ⟨_, rfl⟩
          obtain ⟨M, hM⟩ : ∃ x, q.caps.length = x := ⟨_, rfl⟩
          rw [hP, hM] at HF3
          rw [hP] at g0
          rw [hM] at g2
          clear hP hM hA hA' hcell hq hq1 H1 k1
          by_cases z1 : P = 0
          · subst z1
            by_cases z2 : M = 0
            · subst z2
              have hF : F = true := by rw [HF3.out]; rfl
              subst hF
              clear HF3
              go_wp2
              go_ret
              exact ⟨rfl, chain b0 hb⟩
            · have hF : F = false := by rw [HF3.out, decide_eq_false z2]; rfl
              subst hF
              have z3 : ((M : Int) == 0) = false := by rw [beq_eq_false_iff_ne]; omega
              clear HF3
              go_wp2
              go_ret
              exact ⟨rfl, chain b0 hb⟩
          · have hF : F = false := by rw [HF3.out, decide_eq_false z1]; rfl
            subst hF
            have z3 : (P == 0) = false := by rw [beq_eq_false_iff_ne]; omega
            clear HF3
            go_wp2
            go_ret
            exact ⟨rfl, chain b0 hb⟩
end Go.Proofs.Ytedhfdgcofboeaa
