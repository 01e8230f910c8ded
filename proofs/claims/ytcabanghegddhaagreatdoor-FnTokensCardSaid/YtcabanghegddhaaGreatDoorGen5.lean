/-
  The walk of a drawn block.
-/
import Derived.Test.YtcabanghegddhaaGreatDoorGen3
namespace Go.Proofs.YtcabanghegddhaaGreatDoor
open Go.RowKit
set_option linter.unusedVariables false

theorem names_slice {nv : Value} {g c n : Nat} {w : World} (h : Names nv g c n w) : ∃ na nc, nv = .slice na n nc := by
  rcases h with ⟨rfl, rfl⟩ | ⟨bl, nc, rfl, _⟩
  · exact ⟨_, _, rfl⟩
  · exact ⟨_, _, rfl⟩

set_option maxHeartbeats 4000000 in
set_option maxRecDepth 100000 in
theorem block_of {d : Nat} (hd3 : d ≤ 3) (ihS : StmtOk d) (ihE : ExprOk d) : BlockOk d := by
  intro ac len cap g c nv N w G hN
  obtain ⟨na, nc, rfl⟩ : ∃ na nc, nv = .slice na N nc := names_slice G.names
  obtain ⟨A, hA⟩ : ∃ A, lenA d = A := ⟨_, rfl⟩
  have hA1 : 200 ≤ A := by rw [← hA]; exact lenA_least d
  have hA2 : A ≤ 5400000 := by rw [← hA]; exact lenA_most hd3
  rw [hA]
  have cS := fun (W : World) (nw : Value) (M : Nat) (i : Int) (GW : Gen ac len cap g c nw M W) (hM : M ≤ N + (d + 1)) => ihS i GW (by omega)
  have cE := fun (W : World) (nw : Value) (M : Nat) (GW : Gen ac len cap g c nw M W) (hM : M ≤ N + 2 * (d + 1)) => ihE GW (by omega)
  rw [hA] at cE cS
  have hdi : (d : Int) ≤ 3 := by omega
  have hfew := G.few
  have HN0 : Hid (Names (.slice na N nc) g c N w) := G.names
  obtain ⟨c0, c1, ⟨l, c2⟩, hf⟩ := G.cells
  clear ihS ihE hN
  go_enter Tryz.func42, Tryz.ntmps42
  go_upto_region 4 with fail
  go_loopw [6, 7] (fun y z wr => ∃ (s : ByteArray) (i : Nat) (nw : Value) (M : Nat), y = .string s ∧ z = .int .i64 i ∧ i ≤ 2 ∧ s.size ≤ 1 + i * (2 * A) ∧ M ≤ N + i * (d + 1) ∧ Gen ac len cap g c nw M wr ∧ Two g c w wr) (fun _ z _ => 3 - (intOf z).toNat)
  case atStart => exact ⟨_, 0, .slice na N nc, N, rfl, rfl, by omega, (show (1 : Nat) ≤ 1 + 0 * (2 * A) by omega), by omega, G, Two.refl _ _ _⟩
  case round =>
    clear c0 c1 c2 hf G
    obtain ⟨s, i, nw, M, rfl, rfl, hi, hsz, hM, G4, K4⟩ := hrel
    obtain ⟨a0, a1, _, _⟩ := G4.cells
    go_wp2_with fail
    refine (below_gen 3 (by omega) (by omega) G4).mono ?_
    rintro e w5 ⟨y, hy, rfl, G5, K5⟩
    obtain ⟨b0, b1, ⟨l5, b2⟩, b3⟩ := G5.cells
    have K45 := K4.trans K5
    clear K4 K5 G4 a0 a1
    by_cases hgo : i < y ∧ 0 < l5
    · have hiy' : (i : Int) < y := by omega
      have hl5 : (0 : Int) < l5 := hgo.2
      rcases (by omega : i = 0 ∨ i = 1) with rfl | rfl
      · go_wp2_with fail
        refine (cS _ _ _ _ G5 (by omega)).mono ?_
        rintro e w6 ⟨z, nz, M', hz, rfl, hM', G6, K6⟩
        go_wp2
        go_roundw
        case rel => exact ⟨_, 1, nz, M', rfl, by go_num, by omega, by simp only [ByteArray.size_append]; (try simp only [show ∀ a : Array UInt8, (⟨a⟩ : ByteArray).size = a.size from fun _ => rfl]); first | omega | (simp; omega), by omega, G6, K45.trans K6⟩
        case measure => simp [intOf]
      · go_wp2_with fail
        refine (cS _ _ _ _ G5 (by omega)).mono ?_
        rintro e w6 ⟨z, nz, M', hz, rfl, hM', G6, K6⟩
        go_wp2
        go_roundw
        case rel => exact ⟨_, 2, nz, M', rfl, by go_num, by omega, by simp only [ByteArray.size_append]; (try simp only [show ∀ a : Array UInt8, (⟨a⟩ : ByteArray).size = a.size from fun _ => rfl]); first | omega | (simp; omega), by omega, G6, K45.trans K6⟩
        case measure => simp [intOf]
    · have hsb : s.size ≤ 1 + 4 * A := by
        have := Nat.mul_le_mul_right (2 * A) hi
        omega
      have hMb : M ≤ N + 2 * (d + 1) := by
        have := Nat.mul_le_mul_right (d + 1) hi
        omega
      clear hsz hM
      by_cases hiy : i < y
      · have hiy' : (i : Int) < y := by omega
        have hl5 : decide ((0 : Int) < l5) = false := by simp; omega
        go_wp2_with fail
        refine (once_gen 2 (by omega) (by omega) G5).mono ?_
        rintro e w6 ⟨b, rfl, G6, K6⟩
        obtain ⟨e0, e1, _, e3⟩ := G6.cells
        cases b
        · have f1 := e3 1
          have K56 := K45.trans K6
          have HG : Hid (Gen ac len cap g c (.slice na N nc) N (w6.setCell ⟨g, 1, none⟩ (.slice na N nc)) ∧ Two g c w (w6.setCell ⟨g, 1, none⟩ (.slice na N nc))) := ⟨G6.setNames (HN0.out.two K56) hfew, K56.trans (two_set _)⟩
          clear cE cS K45 K6 K56 e3 b3
          go_wp2
          go_ret
          exact ⟨_, by simp only [ByteArray.size_append]; (try simp only [show ∀ a : Array UInt8, (⟨a⟩ : ByteArray).size = a.size from fun _ => rfl]); first | omega | (simp; omega), rfl, HG.out.1, HG.out.2⟩
        · go_wp2_with fail
          refine (cE _ _ _ G6 hMb).mono ?_
          rintro e w7 ⟨z, hz, rfl, G7, K7⟩
          obtain ⟨r0, r1, _, r3⟩ := G7.cells
          have f1 := r3 1
          have K57 := (K45.trans K6).trans K7
          have HG : Hid (Gen ac len cap g c (.slice na N nc) N (w7.setCell ⟨g, 1, none⟩ (.slice na N nc)) ∧ Two g c w (w7.setCell ⟨g, 1, none⟩ (.slice na N nc))) := ⟨G7.setNames (HN0.out.two K57) hfew, K57.trans (two_set _)⟩
          clear cE cS K45 K6 K7 K57 e3 b3 r3
          go_wp2
          go_ret
          exact ⟨_, by simp only [ByteArray.size_append]; (try simp only [show ∀ a : Array UInt8, (⟨a⟩ : ByteArray).size = a.size from fun _ => rfl]); first | omega | (simp; omega), rfl, HG.out.1, HG.out.2⟩
      · have hiy' : decide ((i : Int) < y) = false := by simp; omega
        go_wp2_with fail
        refine (once_gen 2 (by omega) (by omega) G5).mono ?_
        rintro e w6 ⟨b, rfl, G6, K6⟩
        obtain ⟨e0, e1, _, e3⟩ := G6.cells
        cases b
        · have f1 := e3 1
          have K56 := K45.trans K6
          have HG : Hid (Gen ac len cap g c (.slice na N nc) N (w6.setCell ⟨g, 1, none⟩ (.slice na N nc)) ∧ Two g c w (w6.setCell ⟨g, 1, none⟩ (.slice na N nc))) := ⟨G6.setNames (HN0.out.two K56) hfew, K56.trans (two_set _)⟩
          clear cE cS K45 K6 K56 e3 b3
          go_wp2
          go_ret
          exact ⟨_, by simp only [ByteArray.size_append]; (try simp only [show ∀ a : Array UInt8, (⟨a⟩ : ByteArray).size = a.size from fun _ => rfl]); first | omega | (simp; omega), rfl, HG.out.1, HG.out.2⟩
        · go_wp2_with fail
          refine (cE _ _ _ G6 hMb).mono ?_
          rintro e w7 ⟨z, hz, rfl, G7, K7⟩
          obtain ⟨r0, r1, _, r3⟩ := G7.cells
          have f1 := r3 1
          have K57 := (K45.trans K6).trans K7
          have HG : Hid (Gen ac len cap g c (.slice na N nc) N (w7.setCell ⟨g, 1, none⟩ (.slice na N nc)) ∧ Two g c w (w7.setCell ⟨g, 1, none⟩ (.slice na N nc))) := ⟨G7.setNames (HN0.out.two K57) hfew, K57.trans (two_set _)⟩
          clear cE cS K45 K6 K7 K57 e3 b3 r3
          go_wp2
          go_ret
          exact ⟨_, by simp only [ByteArray.size_append]; (try simp only [show ∀ a : Array UInt8, (⟨a⟩ : ByteArray).size = a.size from fun _ => rfl]); first | omega | (simp; omega), rfl, HG.out.1, HG.out.2⟩

end Go.Proofs.YtcabanghegddhaaGreatDoor
