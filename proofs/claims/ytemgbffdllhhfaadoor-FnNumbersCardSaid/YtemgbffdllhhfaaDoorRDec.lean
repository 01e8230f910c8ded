/-
  The walks of ReadDecimal.
-/
import Derived.Test.YtemgbffdllhhfaaDoorDec
import Derived.Test.YtemgbffdllhhfaaDoorRDecB
import Derived.Deep.QuietTactic
import Derived.BigQuiet
import Derived.Lib.QuietBelow
namespace Go.Proofs.YtemgbffdllhhfaaDoor
open Go.RowKit
set_option linter.unusedVariables false

set_option maxHeartbeats 1000000 in
set_option maxRecDepth 100000 in
theorem implReadDecimal_any (s : ByteArray) (w : World) (hs : s.size ≤ 1048576) :
    Calls Tryd.prog 8 #[.string s] w fun e w' => DOut s e ∧ w = w' := by
  go_enter Tryd.func8, Tryd.ntmps8
  go_wp2
  go_step3
  go_wp2
  go_step3
  go_wp2
  go_loop [4, 5] (fun x y => ∃ r n : Nat, r ≤ s.size ∧ x = .int .i64 n ∧ y = .int .i64 r ∧ ReadAt s r n) (fun _ y => s.size - (intOf y).toNat)
  case atStart => exact ⟨0, 0, Nat.zero_le _, rfl, rfl, readAt_first s⟩
  case round =>
    obtain ⟨r, n, hr, rfl, rfl, hR⟩ := hrel
    have HR : Hid (ReadAt s r n) := hR
    have hn : n ≤ 1000000000 := hR.1
    clear hR
    by_cases hlt : r < s.size
    · have h256 : (s[r]).toNat < 256 := (s[r]).toNat_lt
      by_cases hdig : 48 ≤ (s[r]).toNat ∧ (s[r]).toNat ≤ 57
      · obtain ⟨h1, h2⟩ := hdig
        have d1 : decide (((s[r]).toNat : Int) < 48) = false := by simp; omega
        have d2 : decide ((57 : Int) < ((s[r]).toNat : Int)) = false := by simp; omega
        by_cases hr0 : 0 < r
        · by_cases hn0 : n = 0
          · subst hn0
            have N' : Hid (∀ n, ¬ Tells s n) := no_nought hlt (readAt_nought HR.out hr0)
            go_wp2
            try rw [Exit.noGoto_ret]
            go_ret2
            exact ⟨.inr ⟨N'.out, rfl⟩, rfl⟩
          · have hn1 : ((n : Int) == 0) = false := by simp; omega
            by_cases hbig : (1000000000 : Int) < (n : Int) * 10 + (((s[r]).toNat : Int) - 48)
            · have N' : Hid (∀ n, ¬ Tells s n) := no_great (i := r + 1) (by rw [← readAt_val HR.out hlt]; omega)
              go_wp2
              try rw [Exit.noGoto_ret]
              go_ret2
              exact ⟨.inr ⟨N'.out, rfl⟩, rfl⟩
            · have S : Hid (ReadAt s (r + 1) (n * 10 + ((s[r]).toNat - 48))) := readAt_step HR.out hlt h1 h2 (by omega) (by omega)
              go_wp2
              go_round
              case rel => exact ⟨r + 1, n * 10 + ((s[r]).toNat - 48), by omega, by go_num, by go_num, S.out⟩
              case measure => simp [intOf]; omega
        · obtain rfl : r = 0 := by omega
          obtain rfl : n = 0 := by
            rcases HR.out.2.2 with h | h
            · exact h.2
            · omega
          by_cases hbig : (1000000000 : Int) < ((0 : Nat) : Int) * 10 + (((s[0]).toNat : Int) - 48)
          · exfalso; omega
          · have S : Hid (ReadAt s (0 + 1) (0 * 10 + ((s[0]).toNat - 48))) := readAt_step HR.out hlt h1 h2 (by omega) (by omega)
            go_wp2
            go_round
            case rel => exact ⟨0 + 1, 0 * 10 + ((s[0]).toNat - 48), by omega, by go_num, by go_num, S.out⟩
            case measure => simp [intOf]; omega
      · by_cases hl : (s[r]).toNat < 48
        · have N' : Hid (∀ n, ¬ Tells s n) := no_odd hlt (.inl hl)
          by_cases hr0 : 0 < r
          · by_cases hn0 : n = 0
            · subst hn0
              go_wp2
              try rw [Exit.noGoto_ret]
              go_ret2
              exact ⟨.inr ⟨N'.out, rfl⟩, rfl⟩
            · have hn1 : ((n : Int) == 0) = false := by simp; omega
              go_wp2
              try rw [Exit.noGoto_ret]
              go_ret2
              exact ⟨.inr ⟨N'.out, rfl⟩, rfl⟩
          · obtain rfl : r = 0 := by omega
            go_wp2
            try rw [Exit.noGoto_ret]
            go_ret2
            exact ⟨.inr ⟨N'.out, rfl⟩, rfl⟩
        · have N' : Hid (∀ n, ¬ Tells s n) := no_odd hlt (.inr (by omega))
          have d1 : decide (((s[r]).toNat : Int) < 48) = false := by simp; omega
          have hg : 57 < (s[r]).toNat := by omega
          by_cases hr0 : 0 < r
          · by_cases hn0 : n = 0
            · subst hn0
              go_wp2
              try rw [Exit.noGoto_ret]
              go_ret2
              exact ⟨.inr ⟨N'.out, rfl⟩, rfl⟩
            · have hn1 : ((n : Int) == 0) = false := by simp; omega
              go_wp2
              try rw [Exit.noGoto_ret]
              go_ret2
              exact ⟨.inr ⟨N'.out, rfl⟩, rfl⟩
          · obtain rfl : r = 0 := by omega
            go_wp2
            try rw [Exit.noGoto_ret]
            go_ret2
            exact ⟨.inr ⟨N'.out, rfl⟩, rfl⟩
    · obtain rfl : r = s.size := by omega
      by_cases h0 : s.size = 0
      · have N' : Hid (∀ n, ¬ Tells s n) := no_empty h0
        go_wp2
        try rw [Exit.noGoto_ret]
        go_ret2
        exact ⟨.inr ⟨N'.out, rfl⟩, rfl⟩
      · have T : Hid (Tells s n) := readAt_end HR.out (by omega)
        have h1 : ((s.size : Int) == 0) = false := by rw [beq_eq_false_iff_ne]; omega
        go_wp2
        try rw [Exit.noGoto_ret]
        go_ret2
        exact ⟨.inl ⟨n, T.out, rfl⟩, rfl⟩

theorem implReadDecimal_yes (s : ByteArray) (w : World) (hs : s.size ≤ 1048576) {n : Nat} (hn : Tells s n) :
    Calls Tryd.prog 8 #[.string s] w fun e w' => e = .returned (.tuple #[.int .i64 n, .bool true]) ∧ w = w' := by
  refine (implReadDecimal_any s w hs).mono fun e w' ⟨h, hb⟩ => ⟨?_, hb⟩
  rcases h with ⟨m, hm, he⟩ | ⟨h, _⟩
  · rw [he, tells_one hm hn]
  · exact absurd hn (h n)

theorem implReadDecimal_no (s : ByteArray) (w : World) (hs : s.size ≤ 1048576) (hn : ∀ n, ¬ Tells s n) :
    Calls Tryd.prog 8 #[.string s] w fun e w' => e = .returned (.tuple #[.int .i64 0, .bool false]) ∧ w = w' := by
  refine (implReadDecimal_any s w hs).mono fun e w' ⟨h, hb⟩ => ⟨?_, hb⟩
  rcases h with ⟨m, hm, _⟩ | ⟨_, he⟩
  · exact absurd hm (hn m)
  · exact he

end Go.Proofs.YtemgbffdllhhfaaDoor
