/-
  The walks of the specification's sums of texts.
-/
import Derived.Test.YtgaphgejpnepfaaInfo
import Derived.Test.YtgaphgejpnepfaaSumB
namespace Go.Proofs.Ytgaphgejpnepfaa
open Go.RowKit
set_option linter.unusedVariables false

theorem halfs_odd {k T : Nat} (h : T % 2 = 1) : halfs (k + 1) T = halfs k (T / 2 ^^^ 3558460437) := by
  show halfs k (halfS T) = _
  rw [halfS, if_pos h]
theorem halfs_even {k T : Nat} (h : ¬T % 2 = 1) : halfs (k + 1) T = halfs k (T / 2) := by
  show halfs k (halfS T) = _
  rw [halfS, if_neg h]

set_option maxHeartbeats 1000000 in
set_option maxRecDepth 100000 in
theorem specSumMore_any (s : Nat) (t : ByteArray) (w : World) (hs : s < 4294967296) (ht : t.size ≤ 4000000000000000000) :
    Calls Try.prog 156 #[.int .u32 s, .string t] w fun e w' => e = .returned (.int .u32 (sumL s t.data.toList : Nat)) ∧ w = w' := by
  have HT : Hid (Unit → t.size ≤ 4000000000000000000) := fun _ => ht
  have HS : Hid (Unit → s < 4294967296) := fun _ => hs
  clear ht hs
  go_enter Try.func156, Try.ntmps156
  go_wp2
  go_loop [0, 5, 6, 7] (fun x0 x5 _ _ => ∃ (k S : Nat), x0 = .int .u32 S ∧ x5 = .int .i64 k ∧ S = sumL s (t.data.toList.take k) ∧ k ≤ t.size) (fun _ x5 _ _ => t.size - (intOf x5).toNat)
  case atStart => exact ⟨0, s, rfl, rfl, rfl, Nat.zero_le _⟩
  case round =>
    obtain ⟨k, S, rfl, rfl, hS, hk⟩ := hrel
    have hS1 : S < 4294967296 := by rw [hS]; exact sumL_lt _ (HS.out ())
    have HS1 : Hid (Unit → S < 4294967296) := fun _ => hS1
    have HSS : Hid (Unit → S = sumL s (t.data.toList.take k)) := fun _ => hS
    clear hS
    have ht := HT.out ()
    have hk2 : (k : Int) < 4000000000000000001 := by omega
    by_cases hlt : k < t.size
    · have hc : (t[k]).toNat < 256 := (t[k]).toNat_lt
      have hx : bits .xor .u32 (S : Int) ((t[k]).toNat : Int) = ((S ^^^ (t[k]).toNat : Nat) : Int) := u32_xor_nat _ _ hS1 (by omega)
      obtain ⟨Y, hY⟩ : ∃ Y, S ^^^ (t[k]).toNat = Y := ⟨_, rfl⟩
      rw [hY] at hx
      have HY : Hid (Unit → S ^^^ (t[k]).toNat = Y) := fun _ => hY
      clear hY hS1 ht
      have hc' : ((t[k]).toNat : Int) < 4294967296 := by omega
      clear hc
      go_wp2
      go_loop [0, 6, 7] (fun x0 x6 _ => ∃ (j T : Nat), x0 = .int .u32 T ∧ x6 = .int .i64 j ∧ j ≤ 8 ∧ halfs (8 - j) T = halfs 8 Y ∧ T < 4294967296) (fun _ x6 _ => 8 - (intOf x6).toNat)
      case atStart => exact ⟨0, Y, rfl, rfl, by omega, rfl, by rw [← HY.out ()]; exact xor_byte_lt _ (HS1.out ())⟩
      case round =>
        obtain ⟨j, T, rfl, rfl, hj, hT, hT1⟩ := hrel
        have HTT : Hid (Unit → halfs (8 - j) T = halfs 8 Y ∧ T < 4294967296) := fun _ => ⟨hT, hT1⟩
        clear hT
        by_cases hj8 : (j : Int) < 8
        · have h8 : 8 - j = (8 - (j + 1)) + 1 := by omega
          by_cases ho : T % 2 = 1
          · have ho' : ((T : Int) % 2 == 1) = true := by simp; omega
            have hx2 : bits .xor .u32 ((T : Int) / 2) 3558460437 = ((T / 2 ^^^ 3558460437 : Nat) : Int) := u32_xor_nat (T / 2) 3558460437 (by omega) (by omega)
            obtain ⟨Z, hZ⟩ : ∃ Z, T / 2 ^^^ 3558460437 = Z := ⟨_, rfl⟩
            rw [hZ] at hx2
            have HZ : Hid (Unit → T / 2 ^^^ 3558460437 = Z) := fun _ => hZ
            have hT2 : (T : Int) < 4294967296 := by omega
            have HO : Hid (Unit → T % 2 = 1) := fun _ => ho
            clear hZ ho hT1
            go_wp2
            go_round
            case rel => exact ⟨j + 1, Z, rfl, by go_num, by omega, by rw [← HZ.out (), ← halfs_odd (HO.out ()), ← h8]; exact (HTT.out ()).1, by rw [← HZ.out ()]; exact Nat.xor_lt_two_pow (n := 32) (by have := (HTT.out ()).2; omega) (by decide)⟩
            case measure => simp [intOf]; omega
          · have ho' : ((T : Int) % 2 == 1) = false := by rw [beq_eq_false_iff_ne]; omega
            have HO : Hid (Unit → ¬T % 2 = 1) := fun _ => ho
            have hT2 : (T : Int) < 4294967296 := by omega
            clear ho hT1
            go_wp2
            go_round
            case rel => exact ⟨j + 1, T / 2, by go_num, by go_num, by omega, by rw [← halfs_even (HO.out ()), ← h8]; exact (HTT.out ()).1, by have := (HTT.out ()).2; omega⟩
            case measure => simp [intOf]; omega
        · have hj9 : j = 8 := by omega
          subst hj9
          clear hT1
          go_wp2
          go_round
          case rel => exact ⟨k + 1, T, rfl, by go_num, by rw [take_snoc t k hlt, sumL_snoc, ← HSS.out ()]; exact (HTT.out ()).1.trans (by rw [← HY.out ()]; rfl), by omega⟩
          case measure => simp [intOf]; omega
    · have hkk : k = t.size := by omega
      subst hkk
      clear hS1 ht
      go_wp2
      go_ret
      exact ⟨by rw [HSS.out (), take_all]; rfl, rfl⟩

theorem specSumOf_any (t : ByteArray) (w : World) (ht : t.size ≤ 4000000000000000000) :
    Calls Try.prog 94 #[.string t] w fun e w' => e = .returned (.int .u32 (sumL 4294967295 t.data.toList : Nat)) ∧ w = w' := by
  go_enter Try.func94, Try.ntmps94
  go_wp2_with (go_at_call 156; refine (specSumMore_any 4294967295 t _ (by decide) ht).mono ?_; rintro e w' ⟨rfl, rfl⟩)
  go_ret
  exact ⟨rfl, rfl⟩

theorem alloc_new (w : World) (o : Obj) : (w.alloc o).heap[w.heap.size]? = some o := by
  have e : (w.alloc o).heap = w.heap.push o := rfl
  rw [e]
  simp

theorem four_conv (w : World) (a b c d : Int) : (convert 22 9 (.slice (some ⟨w.heap.size, 0, none⟩) 4 4)).run Try.prog (w.alloc (.cells #[.int .u8 a, .int .u8 b, .int .u8 c, .int .u8 d] 5)) = .ok (.string (strOfNums [a, b, c, d])) (w.alloc (.cells #[.int .u8 a, .int .u8 b, .int .u8 c, .int .u8 d] 5)) := by
  refine run_convert_bytes_arg _ 22 5 Try.underlying22 Try.underlying5 w.heap.size 0 4 4 [a, b, c, d] rfl ?_ 9 Try.underlying9
  intro i hi
  have hg : (w.alloc (.cells #[.int .u8 a, .int .u8 b, .int .u8 c, .int .u8 d] 5)).heap[w.heap.size]? = some (.cells #[.int .u8 a, .int .u8 b, .int .u8 c, .int .u8 d] 5) := alloc_new _ _
  unfold World.cell?
  simp only [hg]
  rcases (by omega : i = 0 ∨ i = 1 ∨ i = 2 ∨ i = 3) with rfl | rfl | rfl | rfl <;> rfl

set_option maxHeartbeats 400000 in
set_option maxRecDepth 100000 in
theorem l02Four_any (x : Nat) (w : World) (hx : x < 4294967296) :
    Calls Try.prog 93 #[.int .u32 x] w fun e w' => e = .returned (.string (strOfNums (fourB x))) ∧ Below w.heap.size w w' := by
  have hx' : (x : Int) < 4294967296 := by omega
  have hcv := four_conv w
  clear hx
  go_enter Try.func93, Try.ntmps93
  go_wp2
  go_ret
  exact ⟨by simp only [fourB, Int.natCast_ediv, Int.natCast_emod]; rfl, (Below.refl _ _).alloc (Nat.le_refl _) _⟩

/-- the text with its sum behind it -/
def sealedS (t : ByteArray) : ByteArray := t ++ strOfNums (fourB (sumL 4294967295 t.data.toList))

set_option maxHeartbeats 400000 in
set_option maxRecDepth 100000 in
theorem specSealed_in (t : ByteArray) (w : World) (ht : t.size ≤ 12000) :
    Calls Try.prog 44 #[.string t] w fun e w' => e = .returned (.tuple #[.string (sealedS t), .bool true]) ∧ Below w.heap.size w w' := by
  have hz : (strOfNums (fourB (sumL 4294967295 t.data.toList))).size = 4 := by rw [strOfNums_size]; rfl
  go_enter Try.func44, Try.ntmps44
  go_wp2_with (first | (go_at_call 94; refine (specSumOf_any t _ (by omega)).mono ?_; rintro e w' ⟨rfl, rfl⟩) | (go_at_call 93; refine (l02Four_any _ _ (sumL_lt _ (by decide))).mono ?_; rintro e w' ⟨rfl, hb⟩))
  go_ret2
  exact ⟨rfl, hb⟩

set_option maxHeartbeats 400000 in
set_option maxRecDepth 100000 in
theorem specSealed_out (t : ByteArray) (w : World) (ht : 12000 < t.size) :
    Calls Try.prog 44 #[.string t] w fun e w' => e = .returned (.tuple #[.string ⟨#[]⟩, .bool false]) ∧ w = w' := by
  go_enter Try.func44, Try.ntmps44
  go_wp2
  go_ret2
  exact ⟨rfl, rfl⟩

end Go.Proofs.Ytgaphgejpnepfaa
