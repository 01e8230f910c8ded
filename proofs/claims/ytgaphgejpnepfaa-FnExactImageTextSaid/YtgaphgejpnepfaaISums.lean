/-
  The walks of the program's own sums of texts.
-/
import Derived.Test.YtgaphgejpnepfaaSums
namespace Go.Proofs.Ytgaphgejpnepfaa
open Go.RowKit
set_option linter.unusedVariables false

theorem halfs_snoc (k s : Nat) : halfs (k + 1) s = halfS (halfs k s) := by
  induction k generalizing s with
  | zero => rfl
  | succ k ih => exact ih (halfS s)

set_option maxHeartbeats 400000 in
set_option maxRecDepth 100000 in
theorem iHalved (T : Nat) (w : World) (hT : T < 4294967296) :
    Calls Try.prog 197 #[.int .u32 T] w fun e w' => e = .returned (.int .u32 (halfS T : Nat)) ∧ w = w' := by
  have hT2 : (T : Int) < 4294967296 := by omega
  by_cases ho : T % 2 = 1
  · have ho' : ((T : Int) % 2 == 1) = true := by simp; omega
    have hx2 : bits .xor .u32 ((T : Int) / 2) 3558460437 = ((T / 2 ^^^ 3558460437 : Nat) : Int) := u32_xor_nat (T / 2) 3558460437 (by omega) (by omega)
    have HZ : Hid (Unit → halfS T = T / 2 ^^^ 3558460437) := fun _ => by rw [halfS, if_pos ho]
    obtain ⟨Z, hZ⟩ : ∃ Z, T / 2 ^^^ 3558460437 = Z := ⟨_, rfl⟩
    rw [hZ] at hx2 HZ
    clear hZ ho hT
    go_enter Try.func197, Try.ntmps197
    go_wp2
    go_ret
    exact ⟨by rw [HZ.out ()]; rfl, rfl⟩
  · have ho' : ((T : Int) % 2 == 1) = false := by rw [beq_eq_false_iff_ne]; omega
    have HZ : Hid (Unit → halfS T = T / 2) := fun _ => by rw [halfS, if_neg ho]
    clear ho hT
    go_enter Try.func197, Try.ntmps197
    go_wp2
    go_ret
    exact ⟨by rw [HZ.out ()]; rfl, rfl⟩

set_option maxHeartbeats 400000 in
set_option maxRecDepth 100000 in
theorem iHalvedTimes (T : Nat) (k : Nat) (w : World) (hT : T < 4294967296) (hk : k ≤ 8) :
    Calls Try.prog 188 #[.int .u32 T, .int .i64 k] w fun e w' => e = .returned (.int .u32 (halfs k T : Nat)) ∧ w = w' := by
  have HT : Hid (Unit → T < 4294967296) := fun _ => hT
  clear hT
  go_enter Try.func188, Try.ntmps188
  go_wp2
  go_loop [0, 6] (fun x0 x6 => ∃ (j U : Nat), x0 = .int .u32 U ∧ x6 = .int .i64 j ∧ j ≤ k ∧ U = halfs j T ∧ U < 4294967296) (fun _ x6 => k - (intOf x6).toNat)
  case atStart => exact ⟨0, T, rfl, rfl, by omega, rfl, HT.out ()⟩
  case round =>
    obtain ⟨j, U, rfl, rfl, hj, hU, hU1⟩ := hrel
    have HU : Hid (Unit → U = halfs j T) := fun _ => hU
    have HU1 : Hid (Unit → U < 4294967296) := fun _ => hU1
    clear hU hU1
    by_cases hlt : (j : Int) < k
    · go_wp2_with (go_at_call 197; refine (iHalved U _ (HU1.out ())).mono ?_; rintro e w' ⟨rfl, rfl⟩)
      go_round
      case rel => exact ⟨j + 1, halfS U, rfl, by go_num, by omega, by rw [halfs_snoc, ← HU.out ()], halfS_lt (HU1.out ())⟩
      case measure => simp [intOf]; omega
    · have hjk : j = k := by omega
      subst hjk
      go_wp2
      go_ret
      exact ⟨by rw [HU.out ()]; rfl, rfl⟩

set_option maxHeartbeats 1000000 in
set_option maxRecDepth 100000 in
theorem iWith (s : Nat) (t : ByteArray) (w : World) (hs : s < 4294967296) (ht : t.size ≤ 4000000000000000000) :
    Calls Try.prog 168 #[.int .u32 s, .string t] w fun e w' => e = .returned (.int .u32 (sumL s t.data.toList : Nat)) ∧ w = w' := by
  have HT : Hid (Unit → t.size ≤ 4000000000000000000) := fun _ => ht
  have HS : Hid (Unit → s < 4294967296) := fun _ => hs
  clear ht hs
  go_enter Try.func168, Try.ntmps168
  go_wp2
  go_loop [0, 5] (fun x0 x5 => ∃ (k S : Nat), x0 = .int .u32 S ∧ x5 = .int .i64 k ∧ S = sumL s (t.data.toList.take k) ∧ k ≤ t.size) (fun _ x5 => t.size - (intOf x5).toNat)
  case atStart => exact ⟨0, s, rfl, rfl, rfl, Nat.zero_le _⟩
  case round =>
    obtain ⟨k, S, rfl, rfl, hS, hk⟩ := hrel
    have hS1 : S < 4294967296 := by rw [hS]; exact sumL_lt _ (HS.out ())
    have HS1 : Hid (Unit → S < 4294967296) := fun _ => hS1
    have HSS : Hid (Unit → S = sumL s (t.data.toList.take k)) := fun _ => hS
    clear hS
    have ht := HT.out ()
    have hk2 : (k : Int) < 4000000000000000001 := by omega
    by_cases hlt : k < t.size
    · have hc : (t[k]).toNat < 256 := (t[k]).toNat_lt
      have hx : bits .xor .u32 (S : Int) ((t[k]).toNat : Int) = ((S ^^^ (t[k]).toNat : Nat) : Int) := u32_xor_nat _ _ hS1 (by omega)
      obtain ⟨Y, hY⟩ : ∃ Y, S ^^^ (t[k]).toNat = Y := ⟨_, rfl⟩
      rw [hY] at hx
      have HY : Hid (Unit → S ^^^ (t[k]).toNat = Y) := fun _ => hY
      clear hY hS1 ht
      have hc' : ((t[k]).toNat : Int) < 4294967296 := by omega
      clear hc
      go_wp2_with (go_at_call 188; refine (iHalvedTimes Y 8 _ (by rw [← HY.out ()]; exact xor_byte_lt _ (HS1.out ())) (by decide)).mono ?_; rintro e w' ⟨rfl, rfl⟩)
      go_round
      case rel => exact ⟨k + 1, halfs 8 Y, rfl, by go_num, by rw [take_snoc t k hlt, sumL_snoc, ← HSS.out (), ← HY.out ()]; rfl, by omega⟩
      case measure => simp [intOf]; omega
    · have hkk : k = t.size := by omega
      subst hkk
      clear hS1 ht
      go_wp2
      go_ret
      exact ⟨by rw [HSS.out (), take_all]; rfl, rfl⟩

theorem iSumOf_any (t : ByteArray) (w : World) (ht : t.size ≤ 4000000000000000000) :
    Calls Try.prog 103 #[.string t] w fun e w' => e = .returned (.int .u32 (sumL 4294967295 t.data.toList : Nat)) ∧ w = w' := by
  go_enter Try.func103, Try.ntmps103
  go_wp2_with (go_at_call 168; refine (iWith 4294967295 t _ (by decide) ht).mono ?_; rintro e w' ⟨rfl, rfl⟩)
  have HL : Hid (Unit → sumL 4294967295 t.data.toList < 4294967296) := fun _ => sumL_lt _ (by decide)
  generalize sumL 4294967295 t.data.toList = L at *
  have hL : (L : Int) < 4294967296 := by have := HL.out (); omega
  go_wp2
  go_ret
  exact ⟨rfl, rfl⟩

theorem iSumOf (t : ByteArray) (w : World) (ht : t.size ≤ 1048576) :
    Calls Try.prog 103 #[.string t] w fun e w' => e = .returned (.int .u32 (sumL 4294967295 t.data.toList : Nat)) ∧ Below w.heap.size w w' :=
  (iSumOf_any t w (by omega)).mono (by rintro e w' ⟨rfl, rfl⟩; exact ⟨rfl, Below.refl _ _⟩)

end Go.Proofs.Ytgaphgejpnepfaa
