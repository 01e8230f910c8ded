/-
  The walk of a drawn statement that is no deeper.
-/
import Derived.Test.YtcabanghegddhaaGreatDoorGen6
namespace Go.Proofs.YtcabanghegddhaaGreatDoor
open Go.RowKit
set_option linter.unusedVariables false

set_option maxHeartbeats 20000000 in
set_option maxRecDepth 100000 in
theorem stmt_zero (ihE : ExprOk 0) : StmtOk 0 := by
  intro ac len cap g c nv N w at' G hN
  have hA : lenA 0 = 200 := rfl
  have cE := fun (W : World) (nw : Value) (GW : Gen ac len cap g c nw N W) (h : N + 12 ≤ 900) => ihE GW (by omega)
  rw [hA] at cE ⊢
  clear ihE
  obtain ⟨na, nc, rfl⟩ : ∃ na nc, nv = .slice na N nc := names_slice G.names
  obtain ⟨i0, hi, hz0, hz1, hz2⟩ := info_parts strInfo
  obtain ⟨c0, c1, ⟨l, c2⟩, hf⟩ := G.cells
  have f2 := hf 2
  obtain ⟨l', hl'⟩ : ∃ l', IntKind.i64.wrap (l - 1) = l' := ⟨_, rfl⟩
  obtain ⟨W1, hW1⟩ : ∃ W, w.setCell ⟨g, 2, none⟩ (.int .i64 l') = W := ⟨_, rfl⟩
  have G1 : Gen ac len cap g c (.slice na N nc) N W1 := by rw [← hW1]; exact G.setLeft l'
  have K1 : Two g c w W1 := by rw [← hW1]; exact two_set _
  obtain ⟨d0, d1, _, _⟩ := G1.cells
  go_enter Tryz.func17, Tryz.ntmps17
  go_upto_region 2 with fail
  try simp only [hW1]
  clear hW1 hf f2 c0 c1 c2 G hl'
  go_wp2_with fail
  refine (below_gen 14 (by omega) (by omega) G1).mono ?_
  rintro e w2 ⟨x, hx, rfl, G2, K2⟩
  have KN : Two g c w w2 := K1.trans K2
  obtain ⟨d0, d1, _, _⟩ := G2.cells
  clear K1 K2 G1
  by_cases h6 : x ≤ 6
  · have h6' : decide ((6 : Int) < x) = false := by simp; omega
    by_cases hx3 : x < 3
    · go_upto_if 40 with fail
      go_cut [40] (fun y wx => y = .bool true ∧ wx = w2)
      case first =>
        rcases (by omega : x = 0 ∨ x = 1 ∨ x = 2) with rfl | rfl | rfl
        · go_wp2
          go_meet
          case rel => exact ⟨rfl, rfl⟩
        · go_wp2
          go_meet
          case rel => exact ⟨rfl, rfl⟩
        · go_wp2
          go_meet
          case rel => exact ⟨rfl, rfl⟩
      case rest =>
        obtain ⟨rfl, rfl⟩ := hcut
        go_wp2_with fail
        refine (l10Fresh_any G2).mono ?_
        rintro e w3 ⟨nm, hnm, rfl, G3, K3⟩
        go_wp2_with fail
        refine (cE _ _ G3 (by omega)).mono ?_
        rintro e w4 ⟨s, hs, rfl, G4, K4⟩
        have K24 := (KN.trans K3).trans K4
        go_upto_region 11 with fail
        go_cut [] (fun wx => ∃ nw, Gen ac len cap g c nw (N + 1) wx ∧ Two g c w wx)
        case first =>
          obtain ⟨n0, n1, _, n3⟩ := G4.cells
          have hlt := G4.lt
          have own0 := own_empty w4
          have bel0 : Below w4.heap.size w4 (w4.alloc (.cells #[] 9)) := (Below.refl _ _).alloc (Nat.le_refl _) _
          have n1a : (w4.alloc (.cells #[] 9)).cell? ⟨g, 1, none⟩ = some (.slice na N nc) := (G4.alloc _).cells.2.1
          obtain ⟨WE, hWE⟩ : ∃ W, w4.alloc (.cells #[] 9) = W := ⟨_, rfl⟩
          rw [hWE] at own0 bel0 n1a
          rcases G4.names with ⟨hN0, hnv⟩ | ⟨bl, nc', hnv, h0, hb1, hb2, hb3, hb4⟩
          · cases hnv
            go_wp2_with (first
              | (at_builtin; refine wpList_append_own_none rfl _ _ 31 rfl w4.heap.size 9 i0 1 Tryz.underlying31 hi (.slice (some ⟨w4.heap.size, 0, none⟩) 0 0) 0 [] rfl own0 rfl ?_)
              | (at_builtin; refine append_one (w0 := w4) rfl _ _ 31 rfl w4.heap.size 9 i0 (.string ⟨#[]⟩) 16 Tryz.underlying31 hi hz0 hz1 hz2 rfl _ _ _ rfl own0 (.string nm) rfl rfl (by omega) (by decide) bel0 bel0.size ?_))
            intro v2 w8 own2 bel2
            have G8 := G4.below bel2
            obtain ⟨xa, xc, rfl⟩ := own_long own2
            have HNM : Hid (Names (.slice xa (0 + 1) xc) g c (0 + 1) w8) := names_own (ls := [nm]) (by first | exact own2 | simpa using own2) (by intro s hs; simp at hs; first | (rcases hs with hs | hs; exact hls s hs; subst hs; exact hnm) | (subst hs; exact hnm)) hlt.1 hlt.2
            obtain ⟨_, q1, _, q3⟩ := G8.cells
            have f1 := q3 1
            have HG : Hid (Gen ac len cap g c (.slice xa (0 + 1) xc) (0 + 1) (w8.setCell ⟨g, 1, none⟩ (.slice xa (0 + 1) xc)) ∧ Two g c w (w8.setCell ⟨g, 1, none⟩ (.slice xa (0 + 1) xc))) := ⟨G8.setNames HNM.out (by omega), (K24.trans (.of_below bel2)).trans (two_set _)⟩
            clear HNM own2 bel2 G8 q3
            go_wp2
            go_meet
            case rel => exact ⟨_, HG.out.1, HG.out.2⟩
          · cases hnv
            obtain ⟨ls, hll, hls, hlc⟩ := str_bytes (hb4.two (Two.of_below (g := g) (c := c) bel0) hb3 hb1 hb2)
            go_wp2_with (at_builtin; refine wpList_append_own _ rfl _ _ 31 rfl w4.heap.size 9 i0 (.string ⟨#[]⟩) 1 16 Tryz.underlying31 hi hz0 hz1 hz2 rfl (by decide) (.slice (some ⟨w4.heap.size, 0, none⟩) 0 0) 0 [] rfl own0 ⟨bl, 0, none⟩ N nc (ls.map Value.string) rfl (by simp [hll]) hlc (fun x hx => by obtain ⟨y, _, rfl⟩ := List.mem_map.1 hx; rfl) (by unfold maxLen; omega) (by omega) bel0.size ?_)
            intro v1 w7 own1 gr1 _
            have bel1 : Below w4.heap.size w4 w7 := Below.grown bel0 gr1 bel0.size (fun k hk => (own0.lt k hk).1)
            try rw [List.nil_append] at own1
            try rw [Nat.zero_add] at own1
            clear own0 bel0 gr1 hlc
            go_wp2_with (at_builtin; refine append_one (w0 := w4) rfl _ _ 31 rfl w4.heap.size 9 i0 (.string ⟨#[]⟩) 16 Tryz.underlying31 hi hz0 hz1 hz2 rfl _ _ _ rfl own1 (.string nm) rfl rfl (by omega) (by decide) bel1 bel1.size ?_)
            intro v2 w8 own2 bel2
            have G8 := G4.below bel2
            obtain ⟨xa, xc, rfl⟩ := own_long own2
            have HNM : Hid (Names (.slice xa (N + 1) xc) g c (N + 1) w8) := names_own (ls := ls ++ [nm]) (by first | exact own2 | simpa using own2) (by intro s hs; simp at hs; first | (rcases hs with hs | hs; exact hls s hs; subst hs; exact hnm) | (subst hs; exact hnm)) hlt.1 hlt.2
            obtain ⟨_, q1, _, q3⟩ := G8.cells
            have f1 := q3 1
            have HG : Hid (Gen ac len cap g c (.slice xa (N + 1) xc) (N + 1) (w8.setCell ⟨g, 1, none⟩ (.slice xa (N + 1) xc)) ∧ Two g c w (w8.setCell ⟨g, 1, none⟩ (.slice xa (N + 1) xc))) := ⟨G8.setNames HNM.out (by omega), (K24.trans (.of_below bel2)).trans (two_set _)⟩
            clear HNM own2 bel2 G8 q3
            go_wp2
            go_meet
            case rel => exact ⟨_, HG.out.1, HG.out.2⟩
        case rest =>
          obtain ⟨nw, G9, K9⟩ := hcut
          go_wp2
          go_ret
          exact ⟨_, _, _, by simp only [ByteArray.size_append]; (try simp only [show ∀ a : Array UInt8, (⟨a⟩ : ByteArray).size = a.size from fun _ => rfl]); first | omega | (simp; omega), rfl, by omega, G9, K9⟩
    rcases (by omega : x = 3 ∨ x = 4 ∨ x = 5 ∨ x = 6) with rfl | rfl | rfl | rfl
    · go_wp2_with fail
      refine (cE _ _ G2 (by omega)).mono ?_
      rintro e w3 ⟨s, hs, rfl, G3, K3⟩
      go_wp2
      go_ret
      exact ⟨_, _, _, by simp only [ByteArray.size_append]; (try simp only [show ∀ a : Array UInt8, (⟨a⟩ : ByteArray).size = a.size from fun _ => rfl]); first | omega | (simp; omega), rfl, by omega, G3, KN.trans K3⟩
    · go_wp2_with fail
      refine (cE _ _ G2 (by omega)).mono ?_
      rintro e w3 ⟨s, hs, rfl, G3, K3⟩
      go_wp2
      go_ret
      exact ⟨_, _, _, by simp only [ByteArray.size_append]; (try simp only [show ∀ a : Array UInt8, (⟨a⟩ : ByteArray).size = a.size from fun _ => rfl]); first | omega | (simp; omega), rfl, by omega, G3, KN.trans K3⟩
    · go_wp2_with fail
      refine (l10Var_any G2).mono ?_
      rintro e w3 ⟨v, hv, rfl, G3, K3⟩
      go_wp2_with fail
      refine (cE _ _ G3 (by omega)).mono ?_
      rintro e w4 ⟨s, hs, rfl, G4, K4⟩
      go_wp2
      go_ret
      exact ⟨_, _, _, by simp only [ByteArray.size_append]; (try simp only [show ∀ a : Array UInt8, (⟨a⟩ : ByteArray).size = a.size from fun _ => rfl]); first | omega | (simp; omega), rfl, by omega, G4, (KN.trans K3).trans K4⟩
    · go_wp2_with fail
      refine (l10Var_any G2).mono ?_
      rintro e w3 ⟨v, hv, rfl, G3, K3⟩
      go_wp2_with fail
      refine (cE _ _ G3 (by omega)).mono ?_
      rintro e w4 ⟨s, hs, rfl, G4, K4⟩
      go_wp2
      go_ret
      exact ⟨_, _, _, by simp only [ByteArray.size_append]; (try simp only [show ∀ a : Array UInt8, (⟨a⟩ : ByteArray).size = a.size from fun _ => rfl]); first | omega | (simp; omega), rfl, by omega, G4, (KN.trans K3).trans K4⟩
  · have h6' : (6 : Int) < x := by omega
    go_wp2_with fail
    refine (below_gen 5 (by omega) (by omega) G2).mono ?_
    rintro e w2 ⟨y, hy, rfl, G2', K2⟩
    replace KN := KN.trans K2
    replace G2 := G2'
    obtain ⟨d0, d1, _, _⟩ := G2.cells
    clear K2 G2' h6 h6' hx
    by_cases hx3 : y < 3
    · go_upto_if 40 with fail
      go_cut [40] (fun y wx => y = .bool true ∧ wx = w2)
      case first =>
        rcases (by omega : y = 0 ∨ y = 1 ∨ y = 2) with rfl | rfl | rfl
        · go_wp2
          go_meet
          case rel => exact ⟨rfl, rfl⟩
        · go_wp2
          go_meet
          case rel => exact ⟨rfl, rfl⟩
        · go_wp2
          go_meet
          case rel => exact ⟨rfl, rfl⟩
      case rest =>
        obtain ⟨rfl, rfl⟩ := hcut
        go_wp2_with fail
        refine (l10Fresh_any G2).mono ?_
        rintro e w3 ⟨nm, hnm, rfl, G3, K3⟩
        go_wp2_with fail
        refine (cE _ _ G3 (by omega)).mono ?_
        rintro e w4 ⟨s, hs, rfl, G4, K4⟩
        have K24 := (KN.trans K3).trans K4
        go_upto_region 11 with fail
        go_cut [] (fun wx => ∃ nw, Gen ac len cap g c nw (N + 1) wx ∧ Two g c w wx)
        case first =>
          obtain ⟨n0, n1, _, n3⟩ := G4.cells
          have hlt := G4.lt
          have own0 := own_empty w4
          have bel0 : Below w4.heap.size w4 (w4.alloc (.cells #[] 9)) := (Below.refl _ _).alloc (Nat.le_refl _) _
          have n1a : (w4.alloc (.cells #[] 9)).cell? ⟨g, 1, none⟩ = some (.slice na N nc) := (G4.alloc _).cells.2.1
          obtain ⟨WE, hWE⟩ : ∃ W, w4.alloc (.cells #[] 9) = W := ⟨_, rfl⟩
          rw [hWE] at own0 bel0 n1a
          rcases G4.names with ⟨hN0, hnv⟩ | ⟨bl, nc', hnv, h0, hb1, hb2, hb3, hb4⟩
          · cases hnv
            go_wp2_with (first
              | (at_builtin; refine wpList_append_own_none rfl _ _ 31 rfl w4.heap.size 9 i0 1 Tryz.underlying31 hi (.slice (some ⟨w4.heap.size, 0, none⟩) 0 0) 0 [] rfl own0 rfl ?_)
              | (at_builtin; refine append_one (w0 := w4) rfl _ _ 31 rfl w4.heap.size 9 i0 (.string ⟨#[]⟩) 16 Tryz.underlying31 hi hz0 hz1 hz2 rfl _ _ _ rfl own0 (.string nm) rfl rfl (by omega) (by decide) bel0 bel0.size ?_))
            intro v2 w8 own2 bel2
            have G8 := G4.below bel2
            obtain ⟨xa, xc, rfl⟩ := own_long own2
            have HNM : Hid (Names (.slice xa (0 + 1) xc) g c (0 + 1) w8) := names_own (ls := [nm]) (by first | exact own2 | simpa using own2) (by intro s hs; simp at hs; first | (rcases hs with hs | hs; exact hls s hs; subst hs; exact hnm) | (subst hs; exact hnm)) hlt.1 hlt.2
            obtain ⟨_, q1, _, q3⟩ := G8.cells
            have f1 := q3 1
            have HG : Hid (Gen ac len cap g c (.slice xa (0 + 1) xc) (0 + 1) (w8.setCell ⟨g, 1, none⟩ (.slice xa (0 + 1) xc)) ∧ Two g c w (w8.setCell ⟨g, 1, none⟩ (.slice xa (0 + 1) xc))) := ⟨G8.setNames HNM.out (by omega), (K24.trans (.of_below bel2)).trans (two_set _)⟩
            clear HNM own2 bel2 G8 q3
            go_wp2
            go_meet
            case rel => exact ⟨_, HG.out.1, HG.out.2⟩
          · cases hnv
            obtain ⟨ls, hll, hls, hlc⟩ := str_bytes (hb4.two (Two.of_below (g := g) (c := c) bel0) hb3 hb1 hb2)
            go_wp2_with (at_builtin; refine wpList_append_own _ rfl _ _ 31 rfl w4.heap.size 9 i0 (.string ⟨#[]⟩) 1 16 Tryz.underlying31 hi hz0 hz1 hz2 rfl (by decide) (.slice (some ⟨w4.heap.size, 0, none⟩) 0 0) 0 [] rfl own0 ⟨bl, 0, none⟩ N nc (ls.map Value.string) rfl (by simp [hll]) hlc (fun x hx => by obtain ⟨y, _, rfl⟩ := List.mem_map.1 hx; rfl) (by unfold maxLen; omega) (by omega) bel0.size ?_)
            intro v1 w7 own1 gr1 _
            have bel1 : Below w4.heap.size w4 w7 := Below.grown bel0 gr1 bel0.size (fun k hk => (own0.lt k hk).1)
            try rw [List.nil_append] at own1
            try rw [Nat.zero_add] at own1
            clear own0 bel0 gr1 hlc
            go_wp2_with (at_builtin; refine append_one (w0 := w4) rfl _ _ 31 rfl w4.heap.size 9 i0 (.string ⟨#[]⟩) 16 Tryz.underlying31 hi hz0 hz1 hz2 rfl _ _ _ rfl own1 (.string nm) rfl rfl (by omega) (by decide) bel1 bel1.size ?_)
            intro v2 w8 own2 bel2
            have G8 := G4.below bel2
            obtain ⟨xa, xc, rfl⟩ := own_long own2
            have HNM : Hid (Names (.slice xa (N + 1) xc) g c (N + 1) w8) := names_own (ls := ls ++ [nm]) (by first | exact own2 | simpa using own2) (by intro s hs; simp at hs; first | (rcases hs with hs | hs; exact hls s hs; subst hs; exact hnm) | (subst hs; exact hnm)) hlt.1 hlt.2
            obtain ⟨_, q1, _, q3⟩ := G8.cells
            have f1 := q3 1
            have HG : Hid (Gen ac len cap g c (.slice xa (N + 1) xc) (N + 1) (w8.setCell ⟨g, 1, none⟩ (.slice xa (N + 1) xc)) ∧ Two g c w (w8.setCell ⟨g, 1, none⟩ (.slice xa (N + 1) xc))) := ⟨G8.setNames HNM.out (by omega), (K24.trans (.of_below bel2)).trans (two_set _)⟩
            clear HNM own2 bel2 G8 q3
            go_wp2
            go_meet
            case rel => exact ⟨_, HG.out.1, HG.out.2⟩
        case rest =>
          obtain ⟨nw, G9, K9⟩ := hcut
          go_wp2
          go_ret
          exact ⟨_, _, _, by simp only [ByteArray.size_append]; (try simp only [show ∀ a : Array UInt8, (⟨a⟩ : ByteArray).size = a.size from fun _ => rfl]); first | omega | (simp; omega), rfl, by omega, G9, K9⟩
    rcases (by omega : y = 3 ∨ y = 4) with rfl | rfl
    · go_wp2_with fail
      refine (cE _ _ G2 (by omega)).mono ?_
      rintro e w3 ⟨s, hs, rfl, G3, K3⟩
      go_wp2
      go_ret
      exact ⟨_, _, _, by simp only [ByteArray.size_append]; (try simp only [show ∀ a : Array UInt8, (⟨a⟩ : ByteArray).size = a.size from fun _ => rfl]); first | omega | (simp; omega), rfl, by omega, G3, KN.trans K3⟩
    · go_wp2_with fail
      refine (cE _ _ G2 (by omega)).mono ?_
      rintro e w3 ⟨s, hs, rfl, G3, K3⟩
      go_wp2
      go_ret
      exact ⟨_, _, _, by simp only [ByteArray.size_append]; (try simp only [show ∀ a : Array UInt8, (⟨a⟩ : ByteArray).size = a.size from fun _ => rfl]); first | omega | (simp; omega), rfl, by omega, G3, KN.trans K3⟩

end Go.Proofs.YtcabanghegddhaaGreatDoor
