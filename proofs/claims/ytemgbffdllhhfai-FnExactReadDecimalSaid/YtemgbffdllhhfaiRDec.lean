/-
  The walks of ReadDecimal.
-/
import Derived.Test.YtemgbffdllhhfaiDec
import Derived.Test.YtemgbffdllhhfaiRDecB
import Derived.Deep.QuietTactic
import Derived.BigQuiet
import Derived.Lib.QuietBelow
namespace Go.Proofs.Ytemgbffdllhhfai
open Go.RowKit
set_option linter.unusedVariables false

set_option maxHeartbeats 400000 in
set_option maxRecDepth 100000 in
theorem specDecimal_zero (w : World) :
    Calls Try.prog 14 #[.int .i64 0] w fun e w' => e = .returned (.string ⟨(Lib.decDigits 0).toArray⟩) ∧ Below w.heap.size w w' := by
  have E : Hid (Lib.decDigits 0 = [48]) := dec_small (by omega)
  go_enter Try.func14, Try.ntmps14
  go_wp2
  go_ret
  exact ⟨by rw [E.out]; rfl, Below.refl _ _⟩

theorem specDecimal_nat (u : Nat) (w : World) (hu : u ≤ 9223372036854775807) :
    Calls Try.prog 14 #[.int .i64 u] w fun e w' => e = .returned (.string ⟨(Lib.decDigits u).toArray⟩) ∧ Below w.heap.size w w' := by
  by_cases h : u = 0
  · subst h; exact specDecimal_zero w
  · exact specDecimal_pos u w h hu

set_option maxHeartbeats 1000000 in
set_option maxRecDepth 100000 in
theorem implReadDecimal_any (s : ByteArray) (w : World) (hs : s.size ≤ 1048576) :
    Calls Try.prog 11 #[.string s] w fun e w' => DOut s e ∧ w = w' := by
  go_enter Try.func11, Try.ntmps11
  go_wp2
  go_step3
  go_wp2
  go_step3
  go_wp2
  go_loop [4, 5] (fun x y => ∃ r n : Nat, r ≤ s.size ∧ x = .int .i64 n ∧ y = .int .i64 r ∧ ReadAt s r n) (fun _ y => s.size - (intOf y).toNat)
  case atStart => exact ⟨0, 0, Nat.zero_le _, rfl, rfl, readAt_first s⟩
  case round =>
    obtain ⟨r, n, hr, rfl, rfl, hR⟩ := hrel
    have HR : Hid (ReadAt s r n) := hR
    have hn : n ≤ 1000000000 := hR.1
    clear hR
    by_cases hlt : r < s.size
    · have h256 : (s[r]).toNat < 256 := (s[r]).toNat_lt
      by_cases hdig : 48 ≤ (s[r]).toNat ∧ (s[r]).toNat ≤ 57
      · obtain ⟨h1, h2⟩ := hdig
        have d1 : decide (((s[r]).toNat : Int) < 48) = false := by simp; omega
        have d2 : decide ((57 : Int) < ((s[r]).toNat : Int)) = false := by simp; omega
        by_cases hr0 : 0 < r
        · by_cases hn0 : n = 0
          · subst hn0
            have N' : Hid (∀ n, ¬ Tells s n) := no_nought hlt (readAt_nought HR.out hr0)
            go_wp2
            try rw [Exit.noGoto_ret]
            go_ret2
            exact ⟨.inr ⟨N'.out, rfl⟩, rfl⟩
          · have hn1 : ((n : Int) == 0) = false := by simp; omega
            by_cases hbig : (1000000000 : Int) < (n : Int) * 10 + (((s[r]).toNat : Int) - 48)
            · have N' : Hid (∀ n, ¬ Tells s n) := no_great (i := r + 1) (by rw [← readAt_val HR.out hlt]; omega)
              go_wp2
              try rw [Exit.noGoto_ret]
              go_ret2
              exact ⟨.inr ⟨N'.out, rfl⟩, rfl⟩
            · have S : Hid (ReadAt s (r + 1) (n * 10 + ((s[r]).toNat - 48))) := readAt_step HR.out hlt h1 h2 (by omega) (by omega)
              go_wp2
              go_round
              case rel => exact ⟨r + 1, n * 10 + ((s[r]).toNat - 48), by omega, by go_num, by go_num, S.out⟩
              case measure => simp [intOf]; omega
        · obtain rfl : r = 0 := by omega
          obtain rfl : n = 0 := by
            rcases HR.out.2.2 with h | h
            · exact h.2
            · omega
          by_cases hbig : (1000000000 : Int) < ((0 : Nat) : Int) * 10 + (((s[0]).toNat : Int) - 48)
          · exfalso; omega
          · have S : Hid (ReadAt s (0 + 1) (0 * 10 + ((s[0]).toNat - 48))) := readAt_step HR.out hlt h1 h2 (by omega) (by omega)
            go_wp2
            go_round
            case rel => exact ⟨0 + 1, 0 * 10 + ((s[0]).toNat - 48), by omega, by go_num, by go_num, S.out⟩
            case measure => simp [intOf]; omega
      · by_cases hl : (s[r]).toNat < 48
        · have N' : Hid (∀ n, ¬ Tells s n) := no_odd hlt (.inl hl)
          by_cases hr0 : 0 < r
          · by_cases hn0 : n = 0
            · subst hn0
              go_wp2
              try rw [Exit.noGoto_ret]
              go_ret2
              exact ⟨.inr ⟨N'.out, rfl⟩, rfl⟩
            · have hn1 : ((n : Int) == 0) = false := by simp; omega
              go_wp2
              try rw [Exit.noGoto_ret]
              go_ret2
              exact ⟨.inr ⟨N'.out, rfl⟩, rfl⟩
          · obtain rfl : r = 0 := by omega
            go_wp2
            try rw [Exit.noGoto_ret]
            go_ret2
            exact ⟨.inr ⟨N'.out, rfl⟩, rfl⟩
        · have N' : Hid (∀ n, ¬ Tells s n) := no_odd hlt (.inr (by omega))
          have d1 : decide (((s[r]).toNat : Int) < 48) = false := by simp; omega
          have hg : 57 < (s[r]).toNat := by omega
          by_cases hr0 : 0 < r
          · by_cases hn0 : n = 0
            · subst hn0
              go_wp2
              try rw [Exit.noGoto_ret]
              go_ret2
              exact ⟨.inr ⟨N'.out, rfl⟩, rfl⟩
            · have hn1 : ((n : Int) == 0) = false := by simp; omega
              go_wp2
              try rw [Exit.noGoto_ret]
              go_ret2
              exact ⟨.inr ⟨N'.out, rfl⟩, rfl⟩
          · obtain rfl : r = 0 := by omega
            go_wp2
            try rw [Exit.noGoto_ret]
            go_ret2
            exact ⟨.inr ⟨N'.out, rfl⟩, rfl⟩
    · obtain rfl : r = s.size := by omega
      by_cases h0 : s.size = 0
      · have N' : Hid (∀ n, ¬ Tells s n) := no_empty h0
        go_wp2
        try rw [Exit.noGoto_ret]
        go_ret2
        exact ⟨.inr ⟨N'.out, rfl⟩, rfl⟩
      · have T : Hid (Tells s n) := readAt_end HR.out (by omega)
        have h1 : ((s.size : Int) == 0) = false := by rw [beq_eq_false_iff_ne]; omega
        go_wp2
        try rw [Exit.noGoto_ret]
        go_ret2
        exact ⟨.inl ⟨n, T.out, rfl⟩, rfl⟩

set_option maxHeartbeats 1000000 in
set_option maxRecDepth 100000 in
theorem specReadDecimal_any (s : ByteArray) (w : World) (hs : s.size ≤ 1048576) :
    Calls Try.prog 10 #[.string s] w fun e w' => DOut s e ∧ Below w.heap.size w w' := by
  by_cases h10 : 10 < s.size
  · have N' : Hid (∀ n, ¬ Tells s n) := no_long h10
    go_enter Try.func10, Try.ntmps10
    go_wp2
    go_ret2
    exact ⟨.inr ⟨N'.out, rfl⟩, Below.refl _ _⟩
  · go_enter Try.func10, Try.ntmps10
    go_wp2
    go_loop [4, 5] (fun x y => ∃ k n : Nat, k ≤ s.size ∧ x = .int .i64 n ∧ y = .int .i64 k ∧ n = dval (s.data.toList.take k) ∧ n < 10 ^ k) (fun _ y => s.size - (intOf y).toNat)
    case atStart => exact ⟨0, 0, Nat.zero_le _, rfl, rfl, rfl, by simp⟩
    case round =>
      obtain ⟨k, n, hk, rfl, rfl, hv, hp⟩ := hrel
      have HV : Hid (n = dval (s.data.toList.take k)) := hv
      have hb : n < 10000000000 := Nat.lt_of_lt_of_le hp (Nat.pow_le_pow_right (by omega) (show k ≤ 10 by omega))
      have HP : Hid (n < 10 ^ k) := hp
      clear hv hp
      by_cases hlt : k < s.size
      · have h256 : (s[k]).toNat < 256 := (s[k]).toNat_lt
        by_cases h1 : (s[k]).toNat < 48
        · have N' : Hid (∀ n, ¬ Tells s n) := no_odd hlt (.inl h1)
          go_wp2
          go_ret2
          exact ⟨.inr ⟨N'.out, rfl⟩, Below.refl _ _⟩
        · have d1 : decide (((s[k]).toNat : Int) < 48) = false := by simp; omega
          by_cases h2 : 57 < (s[k]).toNat
          · have N' : Hid (∀ n, ¬ Tells s n) := no_odd hlt (.inr h2)
            go_wp2
            go_ret2
            exact ⟨.inr ⟨N'.out, rfl⟩, Below.refl _ _⟩
          · have d2 : decide ((57 : Int) < ((s[k]).toNat : Int)) = false := by simp; omega
            have S : Hid (10 * n + ((s[k]).toNat - 48) = dval (s.data.toList.take (k + 1)) ∧ 10 * n + ((s[k]).toNat - 48) < 10 ^ (k + 1)) := by
              refine ⟨?_, ?_⟩
              · rw [take_snoc s k hlt, dval_snoc, ← HV.out]
              · have := HP.out
                rw [Nat.pow_succ]; omega
            go_wp2
            go_round
            case rel => exact ⟨k + 1, 10 * n + ((s[k]).toNat - 48), by omega, by go_num, by go_num, S.out.1, S.out.2⟩
            case measure => simp [intOf]; omega
      · obtain rfl : k = s.size := by omega
        have HW : Hid (n = dval s.data.toList) := by rw [← take_all]; exact HV.out
        by_cases hbig : 1000000000 < n
        · have N' : Hid (∀ n, ¬ Tells s n) := no_great (i := s.size) (by rw [← HV.out]; exact hbig)
          go_wp2
          go_ret2
          exact ⟨.inr ⟨N'.out, rfl⟩, Below.refl _ _⟩
        · have d : decide ((1000000000 : Int) < (n : Int)) = false := by simp; omega
          go_wp2_with (go_at_call 14; refine (specDecimal_nat n _ (by omega)).mono ?_; rintro e w' ⟨rfl, hb1⟩)
          · have ht : (!Lib.decDigits n == s.toList) = true := by assumption
            go_ret2
            refine ⟨.inr ⟨no_other HW.out fun e => ?_, rfl⟩, by assumption⟩
            rw [ByteArray.toList_eq, e] at ht
            simp at ht
          · have ht : (!Lib.decDigits n == s.toList) = false := by assumption
            go_ret2
            refine ⟨.inl ⟨n, ⟨by omega, ?_⟩, rfl⟩, by assumption⟩
            rw [ByteArray.toList_eq] at ht
            simpa using ht

theorem implReadDecimal_yes (s : ByteArray) (w : World) (hs : s.size ≤ 1048576) {n : Nat} (hn : Tells s n) :
    Calls Try.prog 11 #[.string s] w fun e w' => e = .returned (.tuple #[.int .i64 n, .bool true]) ∧ w = w' := by
  refine (implReadDecimal_any s w hs).mono fun e w' ⟨h, hb⟩ => ⟨?_, hb⟩
  rcases h with ⟨m, hm, he⟩ | ⟨h, _⟩
  · rw [he, tells_one hm hn]
  · exact absurd hn (h n)
theorem implReadDecimal_no (s : ByteArray) (w : World) (hs : s.size ≤ 1048576) (hn : ∀ n, ¬ Tells s n) :
    Calls Try.prog 11 #[.string s] w fun e w' => e = .returned (.tuple #[.int .i64 0, .bool false]) ∧ w = w' := by
  refine (implReadDecimal_any s w hs).mono fun e w' ⟨h, hb⟩ => ⟨?_, hb⟩
  rcases h with ⟨m, hm, _⟩ | ⟨_, he⟩
  · exact absurd hm (hn m)
  · exact he
theorem specReadDecimal_yes (s : ByteArray) (w : World) (hs : s.size ≤ 1048576) {n : Nat} (hn : Tells s n) :
    Calls Try.prog 10 #[.string s] w fun e w' => e = .returned (.tuple #[.int .i64 n, .bool true]) ∧ Below w.heap.size w w' := by
  refine (specReadDecimal_any s w hs).mono fun e w' ⟨h, hb⟩ => ⟨?_, hb⟩
  rcases h with ⟨m, hm, he⟩ | ⟨h, _⟩
  · rw [he, tells_one hm hn]
  · exact absurd hn (h n)
theorem specReadDecimal_no (s : ByteArray) (w : World) (hs : s.size ≤ 1048576) (hn : ∀ n, ¬ Tells s n) :
    Calls Try.prog 10 #[.string s] w fun e w' => e = .returned (.tuple #[.int .i64 0, .bool false]) ∧ Below w.heap.size w w' := by
  refine (specReadDecimal_any s w hs).mono fun e w' ⟨h, hb⟩ => ⟨?_, hb⟩
  rcases h with ⟨m, hm, _⟩ | ⟨_, he⟩
  · exact absurd hm (hn m)
  · exact he

end Go.Proofs.Ytemgbffdllhhfai
