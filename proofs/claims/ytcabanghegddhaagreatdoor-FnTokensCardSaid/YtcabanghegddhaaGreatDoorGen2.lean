/-
  The walk of a drawn fresh name.
-/
import Derived.Test.YtcabanghegddhaaGreatDoorGen1
import Derived.Test.YtcabanghegddhaaGreatDoorShortA
namespace Go.Proofs.YtcabanghegddhaaGreatDoor
open Go.RowKit
set_option linter.unusedVariables false

theorem str_list {w : World} {b : Nat} : ∀ {n : Nat}, StrRow w b n 30 → ∃ xs : List (List UInt8), xs.length = n ∧ ∀ j, ∀ h : j < xs.length, w.cell? ⟨b, j, none⟩ = some (.string (txt xs[j]))
  | 0, _ => ⟨[], rfl, fun j h => by simp at h⟩
  | n + 1, hr => by
    obtain ⟨xs, hl, hc⟩ := str_list (n := n) (fun j hj => hr j (by omega))
    obtain ⟨s, hs, _⟩ := hr n (by omega)
    refine ⟨xs ++ [s.data.toList], by simp [hl], fun j hj => ?_⟩
    rw [List.length_append, List.length_singleton, hl] at hj
    rcases (by omega : j < n ∨ j = n) with h | h
    · rw [List.getElem_append_left (by omega)]
      exact hc j (by omega)
    · subst h
      rw [List.getElem_append_right (by omega)]
      simp only [hl, Nat.sub_self, List.getElem_cons_zero]
      rw [txt_self]
      exact hs

set_option maxHeartbeats 400000 in
set_option maxRecDepth 100000 in
theorem l08In_none (x : ByteArray) (w : World) :
    Calls Tryz.prog 31 #[.slice none 0 0, .string x] w fun e w' => e = .returned (.bool false) ∧ w = w' := by
  go_enter Tryz.func31, Tryz.ntmps31
  go_upto_region 2 with fail
  go_loop [5] (fun y => y = .int .i64 0) (fun _ => 0)
  case atStart => rfl
  case round =>
    subst hrel
    go_wp2
    go_ret
    exact ⟨rfl, rfl⟩
theorem in_gen {ac : Option Addr} {len cap g c : Nat} {nv : Value} {N : Nat} {w : World} (x : ByteArray) (G : Gen ac len cap g c nv N w) :
    Calls Tryz.prog 31 #[nv, .string x] w fun e w' => ∃ b, e = .returned (.bool b) ∧ w = w' := by
  have hfew := G.few
  rcases G.names with ⟨rfl, rfl⟩ | ⟨bl, nc, rfl, h0, hb1, hb2, hb3, hb4⟩
  · exact (l08In_none x w).mono fun e w' h => ⟨_, h⟩
  · obtain ⟨xs, hl, hc⟩ := str_list hb4
    have h := l08In_any bl nc xs x w (by omega) hc
    rw [hl] at h
    exact h.mono fun e w' h => ⟨_, h⟩
theorem dec_gen {ac : Option Addr} {len cap g c : Nat} {nv : Value} {N : Nat} {w : World} (n : Nat) (hn : n < 1000) (G : Gen ac len cap g c nv N w) :
    Calls Tryz.prog 43 #[.int .i64 n] w fun e w' => ∃ s : ByteArray, s.size ≤ 3 ∧ e = .returned (.string s) ∧ Gen ac len cap g c nv N w' ∧ Two g c w w' :=
  (specDecimal_nat n w (by omega)).mono fun e w' ⟨he, hb⟩ => ⟨_, by
    rw [← size_list]
    show (Lib.decDigits n).length ≤ 3
    exact (dec_figs_len hn).2.2, he, G.below hb, .of_below hb⟩

set_option maxHeartbeats 1000000 in
set_option maxRecDepth 100000 in
theorem l10Fresh_any {ac : Option Addr} {len cap g c : Nat} {nv : Value} {N : Nat} {w : World} (G : Gen ac len cap g c nv N w) :
    Calls Tryz.prog 39 #[.pointer (some ⟨g, 0, none⟩)] w fun e w' => ∃ s : ByteArray, s.size ≤ 30 ∧ e = .returned (.string s) ∧ Gen ac len cap g c nv N w' ∧ Two g c w w' := by
  have hfew := G.few
  obtain ⟨c0, c1, _, _⟩ := G.cells
  obtain ⟨na, nc, HNV⟩ : ∃ na nc, Hid (nv = .slice na N nc) := by
    rcases G.names with ⟨rfl, rfl⟩ | ⟨bl, nc, rfl, _⟩
    · exact ⟨_, _, rfl⟩
    · exact ⟨_, _, rfl⟩
  go_enter Tryz.func39, Tryz.ntmps39
  go_wp2_with fail
  refine (pick_gen [.string ⟨#[97]⟩, .string ⟨#[98]⟩, .string ⟨#[99]⟩, .string ⟨#[100]⟩, .string ⟨#[101]⟩, .string ⟨#[102]⟩, .string ⟨#[103]⟩] 9 7 1 rfl (by omega) (by omega) (by repeat (first | exact str_none | refine str_more (by decide) ?_)) G).mono ?_
  rintro e w1 ⟨s, hs, rfl, G1, K1⟩
  obtain ⟨d0, d1, _, _⟩ := G1.cells
  go_wp2_with fail
  refine (in_gen s G1).mono ?_
  rintro e w2 ⟨b, rfl, rfl⟩
  cases b
  · go_wp2
    go_ret
    exact ⟨s, by omega, rfl, G1, K1⟩
  · go_wp2_with fail
    refine (once_gen 12 (by omega) (by omega) G1).mono ?_
    rintro e w3 ⟨b, rfl, G3, K3⟩
    obtain ⟨e0, e1, _, _⟩ := G3.cells
    cases b
    · rw [HNV.out] at e1
      go_wp2_with fail
      refine (dec_gen N (by omega) G3).mono ?_
      rintro e w4 ⟨z, hz, rfl, G4, K4⟩
      have hb : (s ++ z).size ≤ 30 := by rw [ByteArray.size_append]; omega
      have hb2 : s.size + z.size ≤ 9223372036854775807 := by omega
      go_wp2
      go_ret
      exact ⟨s ++ z, hb, rfl, G4, (K1.trans K3).trans K4⟩
    · go_wp2
      go_ret
      exact ⟨s, by omega, rfl, G3, K1.trans K3⟩

end Go.Proofs.YtcabanghegddhaaGreatDoor
