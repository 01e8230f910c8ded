/-
  The walk of a drawn source.
-/
import Derived.Test.YtcabanghegddhaaGreatDoorGen3
import Derived.Test.YtcabanghegddhaaGreatDoorGenP
namespace Go.Proofs.YtcabanghegddhaaGreatDoor
open Go.RowKit
set_option linter.unusedVariables false

/-- what begins to draw -/
theorem gen_new {ac : Option Addr} {len cap c : Nat} {w : World} (hC : Cur ac len cap w c) (l : Int) : Gen ac len cap w.heap.size c (.slice none 0 0) 0 (w.alloc (.cells #[.pointer (some ⟨c, 0, none⟩), .slice none 0 0, .int .i64 l] 45)) := by
  have hlt := hC.2.1
  refine ⟨cur_alloc hC _, ⟨hC.1.1, fun hp => ?_⟩, by omega, ⟨l, heap_alloc_new w _⟩, .inl ⟨rfl, rfl⟩, by omega⟩
  obtain ⟨b, off, e, hb, hbl, hc⟩ := hC.1.2 hp
  have bel : Below w.heap.size w (w.alloc (.cells #[.pointer (some ⟨c, 0, none⟩), .slice none 0 0, .int .i64 l] 45)) := (Below.refl _ _).alloc (Nat.le_refl _) _
  refine ⟨b, off, e, by omega, by have := bel.size; omega, fun j hj => ?_⟩
  obtain ⟨z, hz, hcz⟩ := hc j hj
  exact ⟨z, hz, by rw [bel.cell hbl]; exact hcz⟩
theorem grown_of_two {g c : Nat} {w W0 w' : World} (hb : Below w.heap.size w W0) (k : Two g c W0 w') (hg : w.heap.size ≤ g) : w.grownBy w' (some c) :=
  ⟨k.os.trans hb.os, k.tape.trans hb.tape, k.output.trans hb.output, Nat.le_trans hb.size k.size, fun i hi hne => by
    rw [k.block i (Nat.lt_of_lt_of_le hi hb.size) (by omega) (fun e => hne (by rw [e])), hb.block i hi]⟩

set_option maxHeartbeats 4000000 in
set_option maxRecDepth 100000 in
theorem l10Source_any {ac : Option Addr} {len cap c : Nat} {w : World} (ihS : StmtOk 3) (hC : Cur ac len cap w c) :
    Calls Tryz.prog 9 #[.pointer (some ⟨c, 0, none⟩), .slice ac len cap] w fun e w' => ∃ s : ByteArray, s.size ≤ 1000000000 ∧ e = .returned (.string s) ∧ w.grownBy w' (some c) := by
  have hlen : len ≤ 1048576 := hC.1.1
  have hlen' : (len : Int) ≤ 1048576 := by omega
  obtain ⟨q, hq⟩ : ∃ q : Int, (12 : Int) + (len : Int) / 4 = q := ⟨_, rfl⟩
  have hq1 : 12 ≤ q ∧ q ≤ 300000 := by
    rw [← hq]
    omega
  obtain ⟨g, hg⟩ : ∃ g, w.heap.size = g := ⟨_, rfl⟩
  have cS := fun (W : World) (nw : Value) (M : Nat) (i : Int) (GW : Gen ac len cap g c nw M W) (hM : M ≤ 100) => ihS i GW (by omega)
  have hA : lenA 3 = 5400000 := by decide
  rw [hA] at cS
  by_cases hq50 : 50 < q
  · obtain ⟨W1, hW1⟩ : ∃ W, w.alloc (.cells #[.pointer (some ⟨c, 0, none⟩), .slice none 0 0, .int .i64 50] 45) = W := ⟨_, rfl⟩
    have G1 : Gen ac len cap g c (.slice none 0 0) 0 W1 := by rw [← hW1, ← hg]; exact gen_new hC 50
    have bel1 : Below w.heap.size w W1 := by rw [← hW1]; exact (Below.refl _ _).alloc (Nat.le_refl _) _
    have n2 : W1.cell? ⟨g, 2, none⟩ = some (.int .i64 50) := (cur_cells (by rw [← hW1, ← hg]; exact heap_alloc_new w _)).2.2.1
    go_enter Tryz.func9, Tryz.ntmps9
    obtain ⟨n0, n1, _, _⟩ := G1.cells
    go_upto_region 6 with fail
    try simp only [hW1]
    clear hW1
    go_loopw [6, 7] (fun y z wr => ∃ (s : ByteArray) (i : Nat) (nw : Value) (M : Nat), y = .string s ∧ z = .int .i64 i ∧ i ≤ 7 ∧ M ≤ 4 * i ∧ s.size ≤ 10800000 * i ∧ Gen ac len cap g c nw M wr ∧ Two g c W1 wr) (fun _ z _ => 8 - (intOf z).toNat)
    case atStart => exact ⟨_, 0, _, 0, rfl, rfl, by omega, by omega, (show (0 : Nat) ≤ 10800000 * 0 by omega), G1, Two.refl _ _ _⟩
    case round =>
      clear n0 n1 n2 G1
      obtain ⟨s, i, nw, M, rfl, rfl, hi7, hM, hsz, G4, K4⟩ := hrel
      obtain ⟨a0, a1, _, _⟩ := G4.cells
      go_wp2_with fail
      refine (below_gen 6 (by omega) (by omega) G4).mono ?_
      rintro e w5 ⟨y, hy, rfl, G5, K5⟩
      replace K5 := K4.trans K5
      obtain ⟨b0, b1, ⟨l5, b2⟩, b3⟩ := G5.cells
      obtain ⟨y2, hy2⟩ : ∃ z, 2 + y = z := ⟨_, rfl⟩
      have hy2' : (2 : Int) + y = y2 := by omega
      clear K4 G4 a0 a1
      by_cases c1 : i < y2
      · have c1' : (i : Int) < y2 := by omega
        by_cases c2 : 0 < l5
        · have c2' : (0 : Int) < l5 := c2
          by_cases c3 : s.size < 400
          · have c3' : (s.size : Int) < 400 := by omega
            go_wp2_with fail
            refine (cS _ _ _ _ G5 (by omega)).mono ?_
            rintro e w6 ⟨t, nz, M', ht, rfl, hM', G6, K6⟩
            go_wp2
            go_roundw
            case rel => exact ⟨_, i + 1, nz, M', rfl, by go_num, by omega, by omega, by simp only [ByteArray.size_append]; (try simp only [show ∀ a : Array UInt8, (⟨a⟩ : ByteArray).size = a.size from fun _ => rfl]); first | omega | (simp; omega), G6, K5.trans K6⟩
            case measure => simp [intOf]; omega
          · have c3' : decide ((s.size : Int) < 400) = false := decide_eq_false (by omega)
            go_wp2_with fail
            refine (below_gen 16 (by omega) (by omega) G5).mono ?_
            rintro e w6 ⟨x, hx, rfl, G6, K6⟩
            replace K6 := K5.trans K6
            by_cases h0 : x = 0
            · subst h0
              go_wp2_with fail
              refine (l02Spoilt_any s (by omega) G6).mono ?_
              rintro e w7 ⟨t, ht, rfl, G7, K7⟩
              go_wp2
              go_ret
              exact ⟨t, by omega, rfl, grown_of_two bel1 (K6.trans K7) (by omega)⟩
            · have h0' : ((x : Int) == 0) = false := by rw [beq_eq_false_iff_ne]; omega
              by_cases h1 : x = 1
              · subst h1
                obtain ⟨L, hL⟩ : ∃ L, s.size + 1 = L := ⟨_, rfl⟩
                have hL' : (s.size : Int) + 1 = L := by omega
                go_wp2_with fail
                refine (below_gen L (by omega) (by omega) G6).mono ?_
                rintro e w7 ⟨y, hy, rfl, G7, K7⟩
                have KK : Two g c W1 w7.drew := (K6.trans K7).drew
                have hy' : (y : Int) ≤ s.size := by omega
                have hca : (s.extract 0 y).size = y := by rw [ByteArray.size_extract]; omega
                have hcb : (s.extract y s.size).size = s.size - y := by rw [ByteArray.size_extract]; omega
                obtain ⟨ta, hta⟩ : ∃ t, s.extract 0 y = t := ⟨_, rfl⟩
                obtain ⟨tb, htb⟩ : ∃ t, s.extract y s.size = t := ⟨_, rfl⟩
                rw [hta] at hca
                rw [htb] at hcb
                have cP : ∀ (xs : List Value) (t : TypeId) (n : Nat), xs.length = n → 0 < n → n ≤ 1000 → (∀ v ∈ xs, ∃ s : ByteArray, v = .string s ∧ s.size ≤ 30) → Calls Tryz.prog 19 #[.pointer (some ⟨c, 0, none⟩), .slice (some ⟨w7.heap.size, 0, none⟩) n n] ((w7.alloc (.cells xs.toArray t)).drew) (fun e w' => ∃ s : ByteArray, s.size ≤ 30 ∧ e = .returned (.string s) ∧ Gen ac len cap g c nw M w' ∧ Two g c w7.drew w') := fun xs t n hn h0 hle h => pick_arr xs t n 30 G7.drew hn h0 hle h
                go_upto_region 14 with fail
                go_region_with (go_at_call 19; refine (cP _ _ _ ?_ ?_ ?_ ?_).mono ?_; rfl; decide; decide; (repeat (first | exact str_none | refine str_more (by first | decide | assumption | omega) ?_)); rintro e w8 ⟨p, hp, rfl, G8, K8⟩; have KK : Two g c W1 w8 := Two.trans KK K8)
                all_goals go_wp2
                all_goals try simp only [hta, htb]
                all_goals go_ret
                all_goals exact ⟨_, by simp only [ByteArray.size_append]; (try simp only [show ∀ a : Array UInt8, (⟨a⟩ : ByteArray).size = a.size from fun _ => rfl]); first | omega | (simp; omega), rfl, grown_of_two bel1 (KK) (by omega)⟩
              · have h1' : ((x : Int) == 1) = false := by rw [beq_eq_false_iff_ne]; omega
                by_cases h2 : x = 2
                · subst h2
                  go_wp2_with fail
                  refine (once_gen 4 (by omega) (by omega) G6).mono ?_
                  rintro e w7 ⟨b, rfl, G7, K7⟩
                  cases b
                  · go_wp2
                    go_ret
                    exact ⟨s, by omega, rfl, grown_of_two bel1 (K6.trans K7) (by omega)⟩
                  · go_wp2_with fail
                    refine (l01Long_any 30 40 _ (by omega)).mono ?_
                    rintro e w8 ⟨t, ht, rfl, b8⟩
                    go_wp2_with fail
                    refine (l01Long_any 30 41 _ (by omega)).mono ?_
                    rintro e w9 ⟨u, hu, rfl, b9⟩
                    go_wp2
                    go_ret
                    exact ⟨_, by simp only [ByteArray.size_append]; (try simp only [show ∀ a : Array UInt8, (⟨a⟩ : ByteArray).size = a.size from fun _ => rfl]); first | omega | (simp; omega), rfl, grown_of_two bel1 (((K6.trans K7).trans (.of_below b8)).trans (.of_below b9)) (by omega)⟩
                · have h2' : ((x : Int) == 2) = false := by rw [beq_eq_false_iff_ne]; omega
                  go_wp2
                  go_ret
                  exact ⟨s, by omega, rfl, grown_of_two bel1 (K6) (by omega)⟩
        · have c2' : decide ((0 : Int) < l5) = false := decide_eq_false (by omega)
          go_wp2_with fail
          refine (below_gen 16 (by omega) (by omega) G5).mono ?_
          rintro e w6 ⟨x, hx, rfl, G6, K6⟩
          replace K6 := K5.trans K6
          by_cases h0 : x = 0
          · subst h0
            go_wp2_with fail
            refine (l02Spoilt_any s (by omega) G6).mono ?_
            rintro e w7 ⟨t, ht, rfl, G7, K7⟩
            go_wp2
            go_ret
            exact ⟨t, by omega, rfl, grown_of_two bel1 (K6.trans K7) (by omega)⟩
          · have h0' : ((x : Int) == 0) = false := by rw [beq_eq_false_iff_ne]; omega
            by_cases h1 : x = 1
            · subst h1
              obtain ⟨L, hL⟩ : ∃ L, s.size + 1 = L := ⟨_, rfl⟩
              have hL' : (s.size : Int) + 1 = L := by omega
              go_wp2_with fail
              refine (below_gen L (by omega) (by omega) G6).mono ?_
              rintro e w7 ⟨y, hy, rfl, G7, K7⟩
              have KK : Two g c W1 w7.drew := (K6.trans K7).drew
              have hy' : (y : Int) ≤ s.size := by omega
              have hca : (s.extract 0 y).size = y := by rw [ByteArray.size_extract]; omega
              have hcb : (s.extract y s.size).size = s.size - y := by rw [ByteArray.size_extract]; omega
              obtain ⟨ta, hta⟩ : ∃ t, s.extract 0 y = t := ⟨_, rfl⟩
              obtain ⟨tb, htb⟩ : ∃ t, s.extract y s.size = t := ⟨_, rfl⟩
              rw [hta] at hca
              rw [htb] at hcb
              have cP : ∀ (xs : List Value) (t : TypeId) (n : Nat), xs.length = n → 0 < n → n ≤ 1000 → (∀ v ∈ xs, ∃ s : ByteArray, v = .string s ∧ s.size ≤ 30) → Calls Tryz.prog 19 #[.pointer (some ⟨c, 0, none⟩), .slice (some ⟨w7.heap.size, 0, none⟩) n n] ((w7.alloc (.cells xs.toArray t)).drew) (fun e w' => ∃ s : ByteArray, s.size ≤ 30 ∧ e = .returned (.string s) ∧ Gen ac len cap g c nw M w' ∧ Two g c w7.drew w') := fun xs t n hn h0 hle h => pick_arr xs t n 30 G7.drew hn h0 hle h
              go_upto_region 14 with fail
              go_region_with (go_at_call 19; refine (cP _ _ _ ?_ ?_ ?_ ?_).mono ?_; rfl; decide; decide; (repeat (first | exact str_none | refine str_more (by first | decide | assumption | omega) ?_)); rintro e w8 ⟨p, hp, rfl, G8, K8⟩; have KK : Two g c W1 w8 := Two.trans KK K8)
              all_goals go_wp2
              all_goals try simp only [hta, htb]
              all_goals go_ret
              all_goals exact ⟨_, by simp only [ByteArray.size_append]; (try simp only [show ∀ a : Array UInt8, (⟨a⟩ : ByteArray).size = a.size from fun _ => rfl]); first | omega | (simp; omega), rfl, grown_of_two bel1 (KK) (by omega)⟩
            · have h1' : ((x : Int) == 1) = false := by rw [beq_eq_false_iff_ne]; omega
              by_cases h2 : x = 2
              · subst h2
                go_wp2_with fail
                refine (once_gen 4 (by omega) (by omega) G6).mono ?_
                rintro e w7 ⟨b, rfl, G7, K7⟩
                cases b
                · go_wp2
                  go_ret
                  exact ⟨s, by omega, rfl, grown_of_two bel1 (K6.trans K7) (by omega)⟩
                · go_wp2_with fail
                  refine (l01Long_any 30 40 _ (by omega)).mono ?_
                  rintro e w8 ⟨t, ht, rfl, b8⟩
                  go_wp2_with fail
                  refine (l01Long_any 30 41 _ (by omega)).mono ?_
                  rintro e w9 ⟨u, hu, rfl, b9⟩
                  go_wp2
                  go_ret
                  exact ⟨_, by simp only [ByteArray.size_append]; (try simp only [show ∀ a : Array UInt8, (⟨a⟩ : ByteArray).size = a.size from fun _ => rfl]); first | omega | (simp; omega), rfl, grown_of_two bel1 (((K6.trans K7).trans (.of_below b8)).trans (.of_below b9)) (by omega)⟩
              · have h2' : ((x : Int) == 2) = false := by rw [beq_eq_false_iff_ne]; omega
                go_wp2
                go_ret
                exact ⟨s, by omega, rfl, grown_of_two bel1 (K6) (by omega)⟩
      · have c1' : decide ((i : Int) < y2) = false := decide_eq_false (by omega)
        go_wp2_with fail
        refine (below_gen 16 (by omega) (by omega) G5).mono ?_
        rintro e w6 ⟨x, hx, rfl, G6, K6⟩
        replace K6 := K5.trans K6
        by_cases h0 : x = 0
        · subst h0
          go_wp2_with fail
          refine (l02Spoilt_any s (by omega) G6).mono ?_
          rintro e w7 ⟨t, ht, rfl, G7, K7⟩
          go_wp2
          go_ret
          exact ⟨t, by omega, rfl, grown_of_two bel1 (K6.trans K7) (by omega)⟩
        · have h0' : ((x : Int) == 0) = false := by rw [beq_eq_false_iff_ne]; omega
          by_cases h1 : x = 1
          · subst h1
            obtain ⟨L, hL⟩ : ∃ L, s.size + 1 = L := ⟨_, rfl⟩
            have hL' : (s.size : Int) + 1 = L := by omega
            go_wp2_with fail
            refine (below_gen L (by omega) (by omega) G6).mono ?_
            rintro e w7 ⟨y, hy, rfl, G7, K7⟩
            have KK : Two g c W1 w7.drew := (K6.trans K7).drew
            have hy' : (y : Int) ≤ s.size := by omega
            have hca : (s.extract 0 y).size = y := by rw [ByteArray.size_extract]; omega
            have hcb : (s.extract y s.size).size = s.size - y := by rw [ByteArray.size_extract]; omega
            obtain ⟨ta, hta⟩ : ∃ t, s.extract 0 y = t := ⟨_, rfl⟩
            obtain ⟨tb, htb⟩ : ∃ t, s.extract y s.size = t := ⟨_, rfl⟩
            rw [hta] at hca
            rw [htb] at hcb
            have cP : ∀ (xs : List Value) (t : TypeId) (n : Nat), xs.length = n → 0 < n → n ≤ 1000 → (∀ v ∈ xs, ∃ s : ByteArray, v = .string s ∧ s.size ≤ 30) → Calls Tryz.prog 19 #[.pointer (some ⟨c, 0, none⟩), .slice (some ⟨w7.heap.size, 0, none⟩) n n] ((w7.alloc (.cells xs.toArray t)).drew) (fun e w' => ∃ s : ByteArray, s.size ≤ 30 ∧ e = .returned (.string s) ∧ Gen ac len cap g c nw M w' ∧ Two g c w7.drew w') := fun xs t n hn h0 hle h => pick_arr xs t n 30 G7.drew hn h0 hle h
            go_upto_region 14 with fail
            go_region_with (go_at_call 19; refine (cP _ _ _ ?_ ?_ ?_ ?_).mono ?_; rfl; decide; decide; (repeat (first | exact str_none | refine str_more (by first | decide | assumption | omega) ?_)); rintro e w8 ⟨p, hp, rfl, G8, K8⟩; have KK : Two g c W1 w8 := Two.trans KK K8)
            all_goals go_wp2
            all_goals try simp only [hta, htb]
            all_goals go_ret
            all_goals exact ⟨_, by simp only [ByteArray.size_append]; (try simp only [show ∀ a : Array UInt8, (⟨a⟩ : ByteArray).size = a.size from fun _ => rfl]); first | omega | (simp; omega), rfl, grown_of_two bel1 (KK) (by omega)⟩
          · have h1' : ((x : Int) == 1) = false := by rw [beq_eq_false_iff_ne]; omega
            by_cases h2 : x = 2
            · subst h2
              go_wp2_with fail
              refine (once_gen 4 (by omega) (by omega) G6).mono ?_
              rintro e w7 ⟨b, rfl, G7, K7⟩
              cases b
              · go_wp2
                go_ret
                exact ⟨s, by omega, rfl, grown_of_two bel1 (K6.trans K7) (by omega)⟩
              · go_wp2_with fail
                refine (l01Long_any 30 40 _ (by omega)).mono ?_
                rintro e w8 ⟨t, ht, rfl, b8⟩
                go_wp2_with fail
                refine (l01Long_any 30 41 _ (by omega)).mono ?_
                rintro e w9 ⟨u, hu, rfl, b9⟩
                go_wp2
                go_ret
                exact ⟨_, by simp only [ByteArray.size_append]; (try simp only [show ∀ a : Array UInt8, (⟨a⟩ : ByteArray).size = a.size from fun _ => rfl]); first | omega | (simp; omega), rfl, grown_of_two bel1 (((K6.trans K7).trans (.of_below b8)).trans (.of_below b9)) (by omega)⟩
            · have h2' : ((x : Int) == 2) = false := by rw [beq_eq_false_iff_ne]; omega
              go_wp2
              go_ret
              exact ⟨s, by omega, rfl, grown_of_two bel1 (K6) (by omega)⟩
  · have hq51 : q ≤ 50 := by omega
    have hq50' : decide (50 < q) = false := decide_eq_false hq50
    obtain ⟨W1, hW1⟩ : ∃ W, w.alloc (.cells #[.pointer (some ⟨c, 0, none⟩), .slice none 0 0, .int .i64 q] 45) = W := ⟨_, rfl⟩
    have G1 : Gen ac len cap g c (.slice none 0 0) 0 W1 := by rw [← hW1, ← hg]; exact gen_new hC q
    have bel1 : Below w.heap.size w W1 := by rw [← hW1]; exact (Below.refl _ _).alloc (Nat.le_refl _) _
    have n2 : W1.cell? ⟨g, 2, none⟩ = some (.int .i64 q) := (cur_cells (by rw [← hW1, ← hg]; exact heap_alloc_new w _)).2.2.1
    go_enter Tryz.func9, Tryz.ntmps9
    obtain ⟨n0, n1, _, _⟩ := G1.cells
    go_upto_region 6 with fail
    try simp only [hW1]
    clear hW1
    go_loopw [6, 7] (fun y z wr => ∃ (s : ByteArray) (i : Nat) (nw : Value) (M : Nat), y = .string s ∧ z = .int .i64 i ∧ i ≤ 7 ∧ M ≤ 4 * i ∧ s.size ≤ 10800000 * i ∧ Gen ac len cap g c nw M wr ∧ Two g c W1 wr) (fun _ z _ => 8 - (intOf z).toNat)
    case atStart => exact ⟨_, 0, _, 0, rfl, rfl, by omega, by omega, (show (0 : Nat) ≤ 10800000 * 0 by omega), G1, Two.refl _ _ _⟩
    case round =>
      clear n0 n1 n2 G1
      obtain ⟨s, i, nw, M, rfl, rfl, hi7, hM, hsz, G4, K4⟩ := hrel
      obtain ⟨a0, a1, _, _⟩ := G4.cells
      go_wp2_with fail
      refine (below_gen 6 (by omega) (by omega) G4).mono ?_
      rintro e w5 ⟨y, hy, rfl, G5, K5⟩
      replace K5 := K4.trans K5
      obtain ⟨b0, b1, ⟨l5, b2⟩, b3⟩ := G5.cells
      obtain ⟨y2, hy2⟩ : ∃ z, 2 + y = z := ⟨_, rfl⟩
      have hy2' : (2 : Int) + y = y2 := by omega
      clear K4 G4 a0 a1
      by_cases c1 : i < y2
      · have c1' : (i : Int) < y2 := by omega
        by_cases c2 : 0 < l5
        · have c2' : (0 : Int) < l5 := c2
          by_cases c3 : s.size < 400
          · have c3' : (s.size : Int) < 400 := by omega
            go_wp2_with fail
            refine (cS _ _ _ _ G5 (by omega)).mono ?_
            rintro e w6 ⟨t, nz, M', ht, rfl, hM', G6, K6⟩
            go_wp2
            go_roundw
            case rel => exact ⟨_, i + 1, nz, M', rfl, by go_num, by omega, by omega, by simp only [ByteArray.size_append]; (try simp only [show ∀ a : Array UInt8, (⟨a⟩ : ByteArray).size = a.size from fun _ => rfl]); first | omega | (simp; omega), G6, K5.trans K6⟩
            case measure => simp [intOf]; omega
          · have c3' : decide ((s.size : Int) < 400) = false := decide_eq_false (by omega)
            go_wp2_with fail
            refine (below_gen 16 (by omega) (by omega) G5).mono ?_
            rintro e w6 ⟨x, hx, rfl, G6, K6⟩
            replace K6 := K5.trans K6
            by_cases h0 : x = 0
            · subst h0
              go_wp2_with fail
              refine (l02Spoilt_any s (by omega) G6).mono ?_
              rintro e w7 ⟨t, ht, rfl, G7, K7⟩
              go_wp2
              go_ret
              exact ⟨t, by omega, rfl, grown_of_two bel1 (K6.trans K7) (by omega)⟩
            · have h0' : ((x : Int) == 0) = false := by rw [beq_eq_false_iff_ne]; omega
              by_cases h1 : x = 1
              · subst h1
                obtain ⟨L, hL⟩ : ∃ L, s.size + 1 = L := ⟨_, rfl⟩
                have hL' : (s.size : Int) + 1 = L := by omega
                go_wp2_with fail
                refine (below_gen L (by omega) (by omega) G6).mono ?_
                rintro e w7 ⟨y, hy, rfl, G7, K7⟩
                have KK : Two g c W1 w7.drew := (K6.trans K7).drew
                have hy' : (y : Int) ≤ s.size := by omega
                have hca : (s.extract 0 y).size = y := by rw [ByteArray.size_extract]; omega
                have hcb : (s.extract y s.size).size = s.size - y := by rw [ByteArray.size_extract]; omega
                obtain ⟨ta, hta⟩ : ∃ t, s.extract 0 y = t := ⟨_, rfl⟩
                obtain ⟨tb, htb⟩ : ∃ t, s.extract y s.size = t := ⟨_, rfl⟩
                rw [hta] at hca
                rw [htb] at hcb
                have cP : ∀ (xs : List Value) (t : TypeId) (n : Nat), xs.length = n → 0 < n → n ≤ 1000 → (∀ v ∈ xs, ∃ s : ByteArray, v = .string s ∧ s.size ≤ 30) → Calls Tryz.prog 19 #[.pointer (some ⟨c, 0, none⟩), .slice (some ⟨w7.heap.size, 0, none⟩) n n] ((w7.alloc (.cells xs.toArray t)).drew) (fun e w' => ∃ s : ByteArray, s.size ≤ 30 ∧ e = .returned (.string s) ∧ Gen ac len cap g c nw M w' ∧ Two g c w7.drew w') := fun xs t n hn h0 hle h => pick_arr xs t n 30 G7.drew hn h0 hle h
                go_upto_region 14 with fail
                go_region_with (go_at_call 19; refine (cP _ _ _ ?_ ?_ ?_ ?_).mono ?_; rfl; decide; decide; (repeat (first | exact str_none | refine str_more (by first | decide | assumption | omega) ?_)); rintro e w8 ⟨p, hp, rfl, G8, K8⟩; have KK : Two g c W1 w8 := Two.trans KK K8)
                all_goals go_wp2
                all_goals try simp only [hta, htb]
                all_goals go_ret
                all_goals exact ⟨_, by simp only [ByteArray.size_append]; (try simp only [show ∀ a : Array UInt8, (⟨a⟩ : ByteArray).size = a.size from fun _ => rfl]); first | omega | (simp; omega), rfl, grown_of_two bel1 (KK) (by omega)⟩
              · have h1' : ((x : Int) == 1) = false := by rw [beq_eq_false_iff_ne]; omega
                by_cases h2 : x = 2
                · subst h2
                  go_wp2_with fail
                  refine (once_gen 4 (by omega) (by omega) G6).mono ?_
                  rintro e w7 ⟨b, rfl, G7, K7⟩
                  cases b
                  · go_wp2
                    go_ret
                    exact ⟨s, by omega, rfl, grown_of_two bel1 (K6.trans K7) (by omega)⟩
                  · go_wp2_with fail
                    refine (l01Long_any 30 40 _ (by omega)).mono ?_
                    rintro e w8 ⟨t, ht, rfl, b8⟩
                    go_wp2_with fail
                    refine (l01Long_any 30 41 _ (by omega)).mono ?_
                    rintro e w9 ⟨u, hu, rfl, b9⟩
                    go_wp2
                    go_ret
                    exact ⟨_, by simp only [ByteArray.size_append]; (try simp only [show ∀ a : Array UInt8, (⟨a⟩ : ByteArray).size = a.size from fun _ => rfl]); first | omega | (simp; omega), rfl, grown_of_two bel1 (((K6.trans K7).trans (.of_below b8)).trans (.of_below b9)) (by omega)⟩
                · have h2' : ((x : Int) == 2) = false := by rw [beq_eq_false_iff_ne]; omega
                  go_wp2
                  go_ret
                  exact ⟨s, by omega, rfl, grown_of_two bel1 (K6) (by omega)⟩
        · have c2' : decide ((0 : Int) < l5) = false := decide_eq_false (by omega)
          go_wp2_with fail
          refine (below_gen 16 (by omega) (by omega) G5).mono ?_
          rintro e w6 ⟨x, hx, rfl, G6, K6⟩
          replace K6 := K5.trans K6
          by_cases h0 : x = 0
          · subst h0
            go_wp2_with fail
            refine (l02Spoilt_any s (by omega) G6).mono ?_
            rintro e w7 ⟨t, ht, rfl, G7, K7⟩
            go_wp2
            go_ret
            exact ⟨t, by omega, rfl, grown_of_two bel1 (K6.trans K7) (by omega)⟩
          · have h0' : ((x : Int) == 0) = false := by rw [beq_eq_false_iff_ne]; omega
            by_cases h1 : x = 1
            · subst h1
              obtain ⟨L, hL⟩ : ∃ L, s.size + 1 = L := ⟨_, rfl⟩
              have hL' : (s.size : Int) + 1 = L := by omega
              go_wp2_with fail
              refine (below_gen L (by omega) (by omega) G6).mono ?_
              rintro e w7 ⟨y, hy, rfl, G7, K7⟩
              have KK : Two g c W1 w7.drew := (K6.trans K7).drew
              have hy' : (y : Int) ≤ s.size := by omega
              have hca : (s.extract 0 y).size = y := by rw [ByteArray.size_extract]; omega
              have hcb : (s.extract y s.size).size = s.size - y := by rw [ByteArray.size_extract]; omega
              obtain ⟨ta, hta⟩ : ∃ t, s.extract 0 y = t := ⟨_, rfl⟩
              obtain ⟨tb, htb⟩ : ∃ t, s.extract y s.size = t := ⟨_, rfl⟩
              rw [hta] at hca
              rw [htb] at hcb
              have cP : ∀ (xs : List Value) (t : TypeId) (n : Nat), xs.length = n → 0 < n → n ≤ 1000 → (∀ v ∈ xs, ∃ s : ByteArray, v = .string s ∧ s.size ≤ 30) → Calls Tryz.prog 19 #[.pointer (some ⟨c, 0, none⟩), .slice (some ⟨w7.heap.size, 0, none⟩) n n] ((w7.alloc (.cells xs.toArray t)).drew) (fun e w' => ∃ s : ByteArray, s.size ≤ 30 ∧ e = .returned (.string s) ∧ Gen ac len cap g c nw M w' ∧ Two g c w7.drew w') := fun xs t n hn h0 hle h => pick_arr xs t n 30 G7.drew hn h0 hle h
              go_upto_region 14 with fail
              go_region_with (go_at_call 19; refine (cP _ _ _ ?_ ?_ ?_ ?_).mono ?_; rfl; decide; decide; (repeat (first | exact str_none | refine str_more (by first | decide | assumption | omega) ?_)); rintro e w8 ⟨p, hp, rfl, G8, K8⟩; have KK : Two g c W1 w8 := Two.trans KK K8)
              all_goals go_wp2
              all_goals try simp only [hta, htb]
              all_goals go_ret
              all_goals exact ⟨_, by simp only [ByteArray.size_append]; (try simp only [show ∀ a : Array UInt8, (⟨a⟩ : ByteArray).size = a.size from fun _ => rfl]); first | omega | (simp; omega), rfl, grown_of_two bel1 (KK) (by omega)⟩
            · have h1' : ((x : Int) == 1) = false := by rw [beq_eq_false_iff_ne]; omega
              by_cases h2 : x = 2
              · subst h2
                go_wp2_with fail
                refine (once_gen 4 (by omega) (by omega) G6).mono ?_
                rintro e w7 ⟨b, rfl, G7, K7⟩
                cases b
                · go_wp2
                  go_ret
                  exact ⟨s, by omega, rfl, grown_of_two bel1 (K6.trans K7) (by omega)⟩
                · go_wp2_with fail
                  refine (l01Long_any 30 40 _ (by omega)).mono ?_
                  rintro e w8 ⟨t, ht, rfl, b8⟩
                  go_wp2_with fail
                  refine (l01Long_any 30 41 _ (by omega)).mono ?_
                  rintro e w9 ⟨u, hu, rfl, b9⟩
                  go_wp2
                  go_ret
                  exact ⟨_, by simp only [ByteArray.size_append]; (try simp only [show ∀ a : Array UInt8, (⟨a⟩ : ByteArray).size = a.size from fun _ => rfl]); first | omega | (simp; omega), rfl, grown_of_two bel1 (((K6.trans K7).trans (.of_below b8)).trans (.of_below b9)) (by omega)⟩
              · have h2' : ((x : Int) == 2) = false := by rw [beq_eq_false_iff_ne]; omega
                go_wp2
                go_ret
                exact ⟨s, by omega, rfl, grown_of_two bel1 (K6) (by omega)⟩
      · have c1' : decide ((i : Int) < y2) = false := decide_eq_false (by omega)
        go_wp2_with fail
        refine (below_gen 16 (by omega) (by omega) G5).mono ?_
        rintro e w6 ⟨x, hx, rfl, G6, K6⟩
        replace K6 := K5.trans K6
        by_cases h0 : x = 0
        · subst h0
          go_wp2_with fail
          refine (l02Spoilt_any s (by omega) G6).mono ?_
          rintro e w7 ⟨t, ht, rfl, G7, K7⟩
          go_wp2
          go_ret
          exact ⟨t, by omega, rfl, grown_of_two bel1 (K6.trans K7) (by omega)⟩
        · have h0' : ((x : Int) == 0) = false := by rw [beq_eq_false_iff_ne]; omega
          by_cases h1 : x = 1
          · subst h1
            obtain ⟨L, hL⟩ : ∃ L, s.size + 1 = L := ⟨_, rfl⟩
            have hL' : (s.size : Int) + 1 = L := by omega
            go_wp2_with fail
            refine (below_gen L (by omega) (by omega) G6).mono ?_
            rintro e w7 ⟨y, hy, rfl, G7, K7⟩
            have KK : Two g c W1 w7.drew := (K6.trans K7).drew
            have hy' : (y : Int) ≤ s.size := by omega
            have hca : (s.extract 0 y).size = y := by rw [ByteArray.size_extract]; omega
            have hcb : (s.extract y s.size).size = s.size - y := by rw [ByteArray.size_extract]; omega
            obtain ⟨ta, hta⟩ : ∃ t, s.extract 0 y = t := ⟨_, rfl⟩
            obtain ⟨tb, htb⟩ : ∃ t, s.extract y s.size = t := ⟨_, rfl⟩
            rw [hta] at hca
            rw [htb] at hcb
            have cP : ∀ (xs : List Value) (t : TypeId) (n : Nat), xs.length = n → 0 < n → n ≤ 1000 → (∀ v ∈ xs, ∃ s : ByteArray, v = .string s ∧ s.size ≤ 30) → Calls Tryz.prog 19 #[.pointer (some ⟨c, 0, none⟩), .slice (some ⟨w7.heap.size, 0, none⟩) n n] ((w7.alloc (.cells xs.toArray t)).drew) (fun e w' => ∃ s : ByteArray, s.size ≤ 30 ∧ e = .returned (.string s) ∧ Gen ac len cap g c nw M w' ∧ Two g c w7.drew w') := fun xs t n hn h0 hle h => pick_arr xs t n 30 G7.drew hn h0 hle h
            go_upto_region 14 with fail
            go_region_with (go_at_call 19; refine (cP _ _ _ ?_ ?_ ?_ ?_).mono ?_; rfl; decide; decide; (repeat (first | exact str_none | refine str_more (by first | decide | assumption | omega) ?_)); rintro e w8 ⟨p, hp, rfl, G8, K8⟩; have KK : Two g c W1 w8 := Two.trans KK K8)
            all_goals go_wp2
            all_goals try simp only [hta, htb]
            all_goals go_ret
            all_goals exact ⟨_, by simp only [ByteArray.size_append]; (try simp only [show ∀ a : Array UInt8, (⟨a⟩ : ByteArray).size = a.size from fun _ => rfl]); first | omega | (simp; omega), rfl, grown_of_two bel1 (KK) (by omega)⟩
          · have h1' : ((x : Int) == 1) = false := by rw [beq_eq_false_iff_ne]; omega
            by_cases h2 : x = 2
            · subst h2
              go_wp2_with fail
              refine (once_gen 4 (by omega) (by omega) G6).mono ?_
              rintro e w7 ⟨b, rfl, G7, K7⟩
              cases b
              · go_wp2
                go_ret
                exact ⟨s, by omega, rfl, grown_of_two bel1 (K6.trans K7) (by omega)⟩
              · go_wp2_with fail
                refine (l01Long_any 30 40 _ (by omega)).mono ?_
                rintro e w8 ⟨t, ht, rfl, b8⟩
                go_wp2_with fail
                refine (l01Long_any 30 41 _ (by omega)).mono ?_
                rintro e w9 ⟨u, hu, rfl, b9⟩
                go_wp2
                go_ret
                exact ⟨_, by simp only [ByteArray.size_append]; (try simp only [show ∀ a : Array UInt8, (⟨a⟩ : ByteArray).size = a.size from fun _ => rfl]); first | omega | (simp; omega), rfl, grown_of_two bel1 (((K6.trans K7).trans (.of_below b8)).trans (.of_below b9)) (by omega)⟩
            · have h2' : ((x : Int) == 2) = false := by rw [beq_eq_false_iff_ne]; omega
              go_wp2
              go_ret
              exact ⟨s, by omega, rfl, grown_of_two bel1 (K6) (by omega)⟩

end Go.Proofs.YtcabanghegddhaaGreatDoor
