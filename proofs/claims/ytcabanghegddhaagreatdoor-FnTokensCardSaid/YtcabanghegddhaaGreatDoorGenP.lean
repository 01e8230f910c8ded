/-
  The walk of a text that is spoilt.
-/
import Derived.Test.YtcabanghegddhaaGreatDoorGen3
namespace Go.Proofs.YtcabanghegddhaaGreatDoor
open Go.RowKit
set_option linter.unusedVariables false

theorem text_gen {ac : Option Addr} {len cap g c : Nat} {nv : Value} {N : Nat} {w : World} (G : Gen ac len cap g c nv N w) :
    Calls Tryz.prog 45 #[.pointer (some ⟨c, 0, none⟩), .int .i64 1] w fun e w' => ∃ s : ByteArray, s.size = 1 ∧ e = .returned (.string s) ∧ Gen ac len cap g c nv N w' ∧ Two g c w w' :=
  (l01Text_any ac len cap c 1 w G.cur (by omega)).mono fun e w' ⟨s, hs, he, hc, gr⟩ => ⟨s, hs, he, G.drawn hc gr, .of_grown gr⟩
theorem size_cut {s : ByteArray} (a b : Nat) : (s.extract a b).size ≤ s.size := by rw [ByteArray.size_extract]; omega

set_option maxHeartbeats 4000000 in
set_option maxRecDepth 100000 in
theorem l02Spoilt_any {ac : Option Addr} {len cap g c : Nat} {nv : Value} {N : Nat} {w : World} (s : ByteArray) (hs : s.size ≤ 1000000000) (G : Gen ac len cap g c nv N w) :
    Calls Tryz.prog 18 #[.pointer (some ⟨c, 0, none⟩), .string s] w fun e w' => ∃ t : ByteArray, t.size ≤ s.size + 1 ∧ e = .returned (.string t) ∧ Gen ac len cap g c nv N w' ∧ Two g c w w' := by
  have cT := fun (W : World) (GW : Gen ac len cap g c nv N W) => text_gen GW
  go_enter Tryz.func18, Tryz.ntmps18
  go_wp2_with fail
  refine (below_gen 12 (by omega) (by omega) G).mono ?_
  rintro e w1 ⟨x, hx, rfl, G1, K1⟩
  by_cases h0 : x = 0
  · subst h0
    go_wp2_with fail
    refine (cT _ G1).mono ?_
    rintro e w2 ⟨t, ht, rfl, G2, K2⟩
    go_wp2
    go_ret
    exact ⟨_, by simp only [ByteArray.size_append]; (try simp only [show ∀ a : Array UInt8, (⟨a⟩ : ByteArray).size = a.size from fun _ => rfl]); first | omega | (simp; omega), rfl, G2, K1.trans K2⟩
  · have h0' : ((x : Int) == 0) = false := by rw [beq_eq_false_iff_ne]; omega
    by_cases h1 : x = 1
    · subst h1
      obtain ⟨L, hL⟩ : ∃ L, s.size + 1 = L := ⟨_, rfl⟩
      have hL' : (s.size : Int) + 1 = L := by omega
      go_wp2_with fail
      refine (below_gen L (by omega) (by omega) G1).mono ?_
      rintro e w2 ⟨y, hy, rfl, G2, K2⟩
      have hy' : (y : Int) ≤ s.size := by omega
      have hc := size_cut (s := s) 0 y
      obtain ⟨t, ht⟩ : ∃ t, s.extract 0 y = t := ⟨_, rfl⟩
      rw [ht] at hc
      go_wp2
      try simp only [ht]
      go_ret
      exact ⟨t, by omega, rfl, G2, K1.trans K2⟩
    · have h1' : ((x : Int) == 1) = false := by rw [beq_eq_false_iff_ne]; omega
      by_cases h23 : x = 2 ∨ x = 3
      · by_cases hl : 0 < s.size
        · have hl' : (0 : Int) < s.size := by omega
          rcases h23 with rfl | rfl
          · go_wp2_with fail
            refine (below_gen s.size (by omega) (by omega) G1).mono ?_
            rintro e w2 ⟨y, hy, rfl, G2, K2⟩
            have hy' : (y : Int) ≤ s.size := by omega
            obtain ⟨y1, hy1⟩ : ∃ z, y + 1 = z := ⟨_, rfl⟩
            have hy1' : (y : Int) + 1 = y1 := by omega
            have hy2 : (y1 : Int) ≤ s.size := by omega
            have hyw : IntKind.i64.wrap (y1 : Int) = y1 := by rw [IntKind.wrap_i64]; omega
            have hca : (s.extract 0 y).size = y := by rw [ByteArray.size_extract]; omega
            have hcb : (s.extract y1 s.size).size = s.size - y1 := by rw [ByteArray.size_extract]; omega
            obtain ⟨ta, hta⟩ : ∃ t, s.extract 0 y = t := ⟨_, rfl⟩
            obtain ⟨tb, htb⟩ : ∃ t, s.extract y1 s.size = t := ⟨_, rfl⟩
            rw [hta] at hca
            rw [htb] at hcb
            have KK : Two g c w w2.drew := (K1.trans K2).drew
            go_upto_region 10 with fail
            go_region_with (go_at_call 45; refine (cT _ ?_).mono ?_; (first | exact G2.drew | exact G2); rintro e w3 ⟨t, ht, rfl, G3, K3⟩; have KK : Two g c w w3 := Two.trans KK K3)
            all_goals go_wp2
            all_goals try simp only [hta, htb]
            all_goals go_ret
            all_goals exact ⟨_, by simp only [ByteArray.size_append]; (try simp only [show ∀ a : Array UInt8, (⟨a⟩ : ByteArray).size = a.size from fun _ => rfl]); first | omega | (simp; omega), rfl, G3, KK⟩
          · go_wp2_with fail
            refine (below_gen s.size (by omega) (by omega) G1).mono ?_
            rintro e w2 ⟨y, hy, rfl, G2, K2⟩
            have hy' : (y : Int) ≤ s.size := by omega
            obtain ⟨y1, hy1⟩ : ∃ z, y + 1 = z := ⟨_, rfl⟩
            have hy1' : (y : Int) + 1 = y1 := by omega
            have hy2 : (y1 : Int) ≤ s.size := by omega
            have hyw : IntKind.i64.wrap (y1 : Int) = y1 := by rw [IntKind.wrap_i64]; omega
            have hca : (s.extract 0 y).size = y := by rw [ByteArray.size_extract]; omega
            have hcb : (s.extract y1 s.size).size = s.size - y1 := by rw [ByteArray.size_extract]; omega
            obtain ⟨ta, hta⟩ : ∃ t, s.extract 0 y = t := ⟨_, rfl⟩
            obtain ⟨tb, htb⟩ : ∃ t, s.extract y1 s.size = t := ⟨_, rfl⟩
            rw [hta] at hca
            rw [htb] at hcb
            have KK : Two g c w w2.drew := (K1.trans K2).drew
            go_upto_region 10 with fail
            go_region_with (go_at_call 45; refine (cT _ ?_).mono ?_; (first | exact G2.drew | exact G2); rintro e w3 ⟨t, ht, rfl, G3, K3⟩; have KK : Two g c w w3 := Two.trans KK K3)
            all_goals go_wp2
            all_goals try simp only [hta, htb]
            all_goals go_ret
            all_goals exact ⟨_, by simp only [ByteArray.size_append]; (try simp only [show ∀ a : Array UInt8, (⟨a⟩ : ByteArray).size = a.size from fun _ => rfl]); first | omega | (simp; omega), rfl, G3, KK⟩
        · have hl' : decide ((0 : Int) < s.size) = false := decide_eq_false (by omega)
          rcases h23 with rfl | rfl
          · go_wp2
            go_ret
            exact ⟨s, by omega, rfl, G1, K1⟩
          · go_wp2
            go_ret
            exact ⟨s, by omega, rfl, G1, K1⟩
      · have h2' : ((x : Int) == 2) = false := by rw [beq_eq_false_iff_ne]; omega
        have h3' : ((x : Int) == 3) = false := by rw [beq_eq_false_iff_ne]; omega
        go_wp2
        go_ret
        exact ⟨s, by omega, rfl, G1, K1⟩

end Go.Proofs.YtcabanghegddhaaGreatDoor
