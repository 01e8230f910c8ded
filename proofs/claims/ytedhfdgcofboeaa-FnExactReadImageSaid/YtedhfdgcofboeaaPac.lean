/-
  Part 3 of what is proved of drawn right trees.
-/
import Derived.Test.YtedhfdgcofboeaaPab
import Derived.Deep.QuietTactic
import Derived.BigQuiet
import Derived.Lib.QuietBelow
import Derived.Deep.RegionHeld3
import Derived.Deep.OwnRows

namespace Go.Proofs.Ytedhfdgcofboeaa
open Go.RowKit Go.Sort
set_option linter.unusedVariables false
set_option maxHeartbeats 1000000 in
set_option maxRecDepth 100000 in
theorem implReadVar_in (s : ByteArray) (b0 : Nat) (w : World) (hs : s.size ≤ 1048576) (hb : b0 ≤ s.size) :
    Calls Try.prog 77 #[.string s, .int .i64 b0] w fun e w' => e = .returned (rdOut (rdV s b0 5 b0 0 1)) ∧ w = w' := by
  go_enter Try.func77, Try.ntmps77
  go_wp2
  go_loop [7, 8, 9] (fun x y z => ∃ f i n u : Nat, b0 ≤ i ∧ i ≤ s.size ∧ n < u ∧ Unit128 f u ∧ x = .int .i64 n ∧ y = .int .i64 u ∧ z = .int .i64 i ∧ rdV s b0 f i n u = rdV s b0 5 b0 0 1) (fun _ _ z => s.size - (intOf z).toNat)
  case atStart => exact ⟨5, b0, 0, 1, by omega, hb, by omega, unit_first, rfl, rfl, rfl, rfl⟩
  case round =>
    obtain ⟨f, i, n, u, hi0, hi1, hnu, hu, rfl, rfl, rfl, hR⟩ := hrel
    have HR : Hid (rdV s b0 f i n u = rdV s b0 5 b0 0 1) := hR
    clear hR
    by_cases hlt : i < s.size
    · cases f with
      | zero =>
        obtain rfl := unit_zero hu
        go_wp2
        go_ret3
        exact ⟨rdOut_none HR.out.symm, rfl⟩
      | succ f =>
        obtain ⟨hu1, hu2, hu3, hf⟩ := unit_step hu
        have hmb : (n : Int) + ((s[i]).toNat : Int) % 128 * (u : Int) < (u : Int) * 128 := by exact_mod_cast mul_bd (b := (s[i]).toNat) hnu
        have hm0 : (0 : Int) ≤ ((s[i]).toNat : Int) % 128 * (u : Int) := Int.mul_nonneg (by omega) (by omega)
        have h255 : (s[i]).toNat < 256 := (s[i]).toNat_lt
        have HU : Hid (Unit128 f (u * 128)) := hu1
        clear hu hu1
        by_cases hb128 : (s[i]).toNat < 128
        · by_cases hz : (s[i]).toNat = 0
          · by_cases hi2 : b0 < i
            · have E : Hid (rdV s b0 (f + 1) i n u = none) := rdV_bad hlt hb128 (.inl ⟨hz, hi2⟩)
              clear hmb hm0
              go_wp2
              go_ret3
              exact ⟨rdOut_none (HR.out.symm.trans E.out), rfl⟩
            · have E : Hid (rdV s b0 (f + 1) i n u = some (n, i + 1)) := by
                show rdV s b0 (f + 1) i n u = some (n, i + 1)
                rw [rdV_ok hlt hb128 (by rw [hz]; omega), hz]; simp
              clear hmb hm0
              go_wp2
              go_ret3
              exact ⟨rdOut_some (HR.out.symm.trans E.out) rfl (by omega), rfl⟩
          · by_cases hbig : (1000000000 : Int) < (n : Int) + ((s[i]).toNat : Int) % 128 * (u : Int)
            · have E : Hid (rdV s b0 (f + 1) i n u = none) := rdV_bad hlt hb128 (.inr ((big_iff _ _ _).1 hbig))
              go_wp2
              go_ret3
              exact ⟨rdOut_none (HR.out.symm.trans E.out), rfl⟩
            · have E : Hid (rdV s b0 (f + 1) i n u = some (n + (s[i]).toNat % 128 * u, i + 1)) := rdV_ok hlt hb128 (by
                rintro (h | h)
                · exact hz h.1
                · exact hbig ((big_iff _ _ _).2 h))
              go_wp2
              go_ret3
              exact ⟨rdOut_some (HR.out.symm.trans E.out) (by simp) (by omega), rfl⟩
        · have E : Hid (rdV s b0 (f + 1) i n u = rdV s b0 f (i + 1) (n + (s[i]).toNat % 128 * u) (u * 128)) := rdV_more hlt hb128
          have hmN := mul_bd (b := (s[i]).toNat) hnu
          go_wp2
          go_round
          case rel => exact ⟨f, i + 1, n + (s[i]).toNat % 128 * u, u * 128, by omega, by omega, hmN, HU.out, by simp, by go_num, by go_num, E.out.symm.trans HR.out⟩
          case measure => simp [intOf]; omega
    · have E : Hid (rdV s b0 f i n u = none) := rdV_end hlt
      go_wp2
      go_ret3
      exact ⟨rdOut_none (HR.out.symm.trans E.out), rfl⟩
theorem l01Var_eq {x : Int} (N : Nat) (hx : x = N) (w : World) (hN : N ≤ 1000000000) :
    Calls Try.prog 34 #[.int .i64 x] w fun e w' => e = .returned (.string (strOfNums (varB N))) ∧ Below w.heap.size w w' := by
  subst hx; exact l01Var_any N w hN
set_option maxHeartbeats 1000000 in
set_option maxRecDepth 100000 in
theorem specReadVar_in (s : ByteArray) (b0 : Nat) (w : World) (hs : s.size ≤ 1048576) (hb : b0 ≤ s.size) :
    Calls Try.prog 31 #[.string s, .int .i64 b0] w fun e w' => e = .returned (rdOut (rdV s b0 5 b0 0 1)) ∧ Below w.heap.size w w' := by
  have h0 : (0 : Int) ≤ (b0 : Int) := by omega
  have h1 : (b0 : Int) ≤ (s.size : Int) := by omega
  go_enter Try.func31, Try.ntmps31
  go_wp2_with (go_at_call 69; refine (l01In_yes _ _ _ _ h0 h1).mono ?_; rintro e w' ⟨rfl, rfl⟩)
  go_loop [7, 8, 9] (fun x y z => ∃ i n u : Nat, b0 ≤ i ∧ i ≤ s.size ∧ i ≤ b0 + 5 ∧ n < u ∧ Unit128 (b0 + 5 - i) u ∧ Opens (ints (sl s b0 i)) n u ∧ (i = b0 → n = 0) ∧ x = .int .i64 n ∧ y = .int .i64 u ∧ z = .int .i64 i ∧ rdV s b0 (b0 + 5 - i) i n u = rdV s b0 5 b0 0 1) (fun _ _ z => s.size - (intOf z).toNat)
  case atStart =>
    have e5 : b0 + 5 - b0 = 5 := by omega
    exact ⟨b0, 0, 1, by omega, hb, by omega, by omega, by rw [e5]; exact unit_first, by rw [sl_self]; exact opens_first, fun _ => rfl, rfl, rfl, rfl, by rw [e5]⟩
  case round =>
    obtain ⟨i, n, u, hi0, hi1, hi5, hnu, hu, hop, hn0, rfl, rfl, rfl, hR⟩ := hrel
    obtain ⟨f', hf'⟩ : ∃ f', f' = b0 + 5 - i := ⟨_, rfl⟩
    rw [← hf'] at hu hR
    have HR : Hid (rdV s b0 f' i n u = rdV s b0 5 b0 0 1) := hR
    have HO : Hid (Opens (ints (sl s b0 i)) n u) := hop
    have HN : Hid (i = b0 → n = 0) := hn0
    have HF : Hid (f' = b0 + 5 - i) := hf'
    clear hR hop hn0
    by_cases hlt : i < s.size
    · by_cases h5 : i < b0 + 5
      · obtain ⟨f, rfl⟩ : ∃ f, f' = f + 1 := ⟨f' - 1, by omega⟩
        obtain ⟨hu1, hu2, hu3, hf⟩ := unit_step hu
        have hmb : (n : Int) + ((s[i]).toNat : Int) % 128 * (u : Int) < (u : Int) * 128 := by exact_mod_cast mul_bd (b := (s[i]).toNat) hnu
        have hm0 : (0 : Int) ≤ ((s[i]).toNat : Int) % 128 * (u : Int) := Int.mul_nonneg (by omega) (by omega)
        have h255 : (s[i]).toNat < 256 := (s[i]).toNat_lt
        have HU : Hid (Unit128 f (u * 128)) := hu1
        clear hu hu1 hf'
        by_cases hb128 : (s[i]).toNat < 128
        · by_cases hbig : (1000000000 : Int) < (n : Int) + ((s[i]).toNat : Int) % 128 * (u : Int)
          · have E : Hid (rdV s b0 (f + 1) i n u = none) := rdV_bad hlt hb128 (.inr ((big_iff _ _ _).1 hbig))
            go_wp2
            go_quiet (fail)
            go_wp2
            go_ret3
            exact ⟨rdOut_none (HR.out.symm.trans E.out), below_drewN (Below.refl _ _) _⟩
          · have hN : n + (s[i]).toNat % 128 * u ≤ 1000000000 := by have := (not_congr (big_iff _ _ _)).1 hbig; omega
            have hd : decide ((1000000000 : Int) < (n : Int) + ((s[i]).toNat : Int) % 128 * (u : Int)) = false := by simp only [decide_eq_false_iff_not]; exact hbig
            have cQ := fun d os => Calls.regrown_of (w := w) (d := d) (os := os) (l01Var_eq (n + (s[i]).toNat % 128 * u) (cast_mul _ _ _).symm (grow (redrawn w d) os) hN)
            by_cases hx : (s[i]).toNat = 0 ∧ b0 < i
            · have E : Hid (rdV s b0 (f + 1) i n u = none) := rdV_bad hlt hb128 (.inl hx)
              have HV : Hid (((strOfNums (varB (n + (s[i]).toNat % 128 * u))).toList == (s.extract b0 (i + 1)).toList) = false) := var_other hi0 hlt hx
              clear hx
              go_wp2
              refine wp_region_quiet_below (by kernel_rfl) (by kernel_rfl) ?_
              repeat (first | go_big_quiet_step (exact cQ _ _) | quiet_step (exact cQ _ _))
              refine wpQuiet_nil ?_
              intro _ hw'
              obtain ⟨⟨dq, osq⟩, hw''⟩ := hw'
              subst hw''
              have hv : (!((strOfNums (varB (n + (s[i]).toNat % 128 * u))).toList == (s.extract b0 (i + 1)).toList)) = true := by rw [HV.out]; rfl
              go_wp2
              · go_ret3
                exact ⟨rdOut_none (HR.out.symm.trans E.out), below_regrown w dq osq⟩
              · exact absurd (show true = false from hv.symm.trans (by assumption)) (by decide)
            · have E : Hid (rdV s b0 (f + 1) i n u = some (n + (s[i]).toNat % 128 * u, i + 1)) := rdV_ok hlt hb128 (by
                rintro (h | h)
                · exact hx h
                · omega)
              have HV : Hid (((strOfNums (varB (n + (s[i]).toNat % 128 * u))).toList == (s.extract b0 (i + 1)).toList) = true) := var_same HO.out hi0 hlt hb128 HN.out hx
              clear hx
              go_wp2
              refine wp_region_quiet_below (by kernel_rfl) (by kernel_rfl) ?_
              repeat (first | go_big_quiet_step (exact cQ _ _) | quiet_step (exact cQ _ _))
              refine wpQuiet_nil ?_
              intro _ hw'
              obtain ⟨⟨dq, osq⟩, hw''⟩ := hw'
              subst hw''
              have hv : (!((strOfNums (varB (n + (s[i]).toNat % 128 * u))).toList == (s.extract b0 (i + 1)).toList)) = false := by rw [HV.out]; rfl
              go_wp2
              · exact absurd (show true = false from Eq.trans (Eq.symm (by assumption)) hv) (by decide)
              · go_ret3
                exact ⟨rdOut_some (HR.out.symm.trans E.out) (cast_mul _ _ _).symm (by omega), below_regrown w dq osq⟩
        · have E : Hid (rdV s b0 (f + 1) i n u = rdV s b0 f (i + 1) (n + (s[i]).toNat % 128 * u) (u * 128)) := rdV_more hlt hb128
          have hmN := mul_bd (b := (s[i]).toNat) hnu
          go_wp2
          go_round
          case rel =>
            have ef : b0 + 5 - (i + 1) = f := by have := HF.out; omega
            exact ⟨i + 1, n + (s[i]).toNat % 128 * u, u * 128, by omega, by omega, by omega, hmN, by rw [ef]; exact HU.out, by rw [sl_snoc hi0 hlt, ints_append]; exact opens_more HO.out (by omega) h255, by omega, by simp, by go_num, by go_num, by rw [ef]; exact E.out.symm.trans HR.out⟩
          case measure => simp [intOf]; omega
      · have E : Hid (rdV s b0 f' i n u = none) := by rw [show f' = 0 by omega]; rfl
        clear hf'
        go_wp2
        go_ret3
        exact ⟨rdOut_none (HR.out.symm.trans E.out), Below.refl _ _⟩
    · have E : Hid (rdV s b0 f' i n u = none) := rdV_end hlt
      clear hf'
      go_wp2
      go_ret3
      exact ⟨rdOut_none (HR.out.symm.trans E.out), Below.refl _ _⟩
theorem implReadVar_none (s : ByteArray) (b0 : Nat) (w : World) (hs : s.size ≤ 1048576) (hb : b0 ≤ s.size) (hR : rdV s b0 5 b0 0 1 = none) :
    Calls Try.prog 77 #[.string s, .int .i64 b0] w fun e w' => e = .returned (.tuple #[.int .i64 0, .int .i64 0, .bool false]) ∧ w = w' := by
  have h := implReadVar_in s b0 w hs hb
  rw [hR] at h
  exact h
theorem implReadVar_some (s : ByteArray) (b0 : Nat) (w : World) (hs : s.size ≤ 1048576) (hb : b0 ≤ s.size) {n j : Nat} (hR : rdV s b0 5 b0 0 1 = some (n, j)) :
    Calls Try.prog 77 #[.string s, .int .i64 b0] w fun e w' => e = .returned (.tuple #[.int .i64 n, .int .i64 j, .bool true]) ∧ w = w' := by
  have h := implReadVar_in s b0 w hs hb
  rw [hR] at h
  exact h
end Go.Proofs.Ytedhfdgcofboeaa
namespace Go.Proofs.Ytedhfdgcofboeaa
open Go.RowKit Go.Sort
set_option linter.unusedVariables false
def CurAt (w : World) (C : Nat) (s : ByteArray) (r : RS) : Prop := w.heap[C]? = some (.cells #[.string s, .int .i64 r.pos, .bool r.bad] 35 (0, 0))
theorem CurAt.lt {w : World} {C : Nat} {s : ByteArray} {r : RS} (h : CurAt w C s r) : C < w.heap.size := by
  rcases Nat.lt_or_ge C w.heap.size with x | x
  · exact x
  · unfold CurAt at h
    rw [Array.getElem?_eq_none x] at h
    cases h
theorem CurAt.c0 {w : World} {C : Nat} {s : ByteArray} {r : RS} (h : CurAt w C s r) : w.cell? ⟨C, 0, none⟩ = some (.string s) := by rw [cell_of_row _ _ 0 _ _ _ h]; rfl
theorem CurAt.c1 {w : World} {C : Nat} {s : ByteArray} {r : RS} (h : CurAt w C s r) : w.cell? ⟨C, 1, none⟩ = some (.int .i64 r.pos) := by rw [cell_of_row _ _ 1 _ _ _ h]; rfl
theorem CurAt.c2 {w : World} {C : Nat} {s : ByteArray} {r : RS} (h : CurAt w C s r) : w.cell? ⟨C, 2, none⟩ = some (.bool r.bad) := by rw [cell_of_row _ _ 2 _ _ _ h]; rfl
theorem CurAt.free {w : World} {C : Nat} {s : ByteArray} {r : RS} (h : CurAt w C s r) (j : Nat) : w.frozen? ⟨C, j, none⟩ = false := frozen_of_row _ _ _ _ _ h
theorem CurAt.below {w w' : World} {C : Nat} {s : ByteArray} {r : RS} (h : CurAt w C s r) (hb : Below w.heap.size w w') : CurAt w' C s r := (hb.block C h.lt).trans h
theorem CurAt.setPos {w : World} {C : Nat} {s : ByteArray} {r : RS} (h : CurAt w C s r) (n : Nat) : CurAt (w.setCell ⟨C, 1, none⟩ (.int .i64 n)) C s ⟨n, r.bad⟩ := heap_setCell_same _ _ _ _ _ _ h
theorem CurAt.setBad {w : World} {C : Nat} {s : ByteArray} {r : RS} (h : CurAt w C s r) : CurAt (w.setCell ⟨C, 2, none⟩ (.bool true)) C s ⟨r.pos, true⟩ := heap_setCell_same _ _ _ _ _ _ h
theorem grown_lo {w w' : World} {C : Option Nat} (hb : Below w.heap.size w w') : w.grownBy w' C := ⟨hb.os, hb.tape, hb.output, hb.size, fun i hi _ => hb.block i hi⟩
theorem grown_set {w w' : World} {C o : Nat} {v : Value} (h : w.grownBy w' (some C)) : w.grownBy (w'.setCell ⟨C, o, none⟩ v) (some C) :=
  ⟨h.os, h.tape, h.output, Nat.le_trans h.size (by simp [World.setCell]), fun i hi hne => (heap_setCell_other w' ⟨C, o, none⟩ i v (fun e => hne (by show some i = some C; rw [show i = C from e]))).trans (h.block i hi hne)⟩
theorem rVar_bad (s : ByteArray) (q : Nat) : rVar s ⟨q, true⟩ = (0, ⟨q, true⟩) := rfl
theorem rVar_none {s : ByteArray} {q : Nat} {b : Bool} (h : rdV s q 5 q 0 1 = none) : rVar s ⟨q, b⟩ = (0, ⟨q, true⟩) := by
  cases b
  · unfold rVar rVarO
    simp only [Bool.false_eq_true, if_false]
    rw [h]
  · rfl
theorem rVar_some {s : ByteArray} {q n j : Nat} (h : rdV s q 5 q 0 1 = some (n, j)) : rVar s ⟨q, false⟩ = (n, ⟨j, false⟩) := by
  unfold rVar rVarO
  simp only [Bool.false_eq_true, if_false]
  rw [h]
set_option maxHeartbeats 1000000 in
set_option maxRecDepth 100000 in
theorem l15Var_any (s : ByteArray) (r : RS) (C : Nat) (w : World) (hC : CurAt w C s r) (hs : s.size ≤ 1048576) (hp : r.pos ≤ s.size) :
    Calls Try.prog 11 #[.pointer (some ⟨C, 0, none⟩)] w fun e w' => e = .returned (.int .i64 (rVar s r).1) ∧ CurAt w' C s (rVar s r).2 ∧ w.grownBy w' (some C) := by
  obtain ⟨q, b⟩ := r
  have cR := fun W => specReadVar_in s q W hs hp
  obtain ⟨o, ho⟩ : ∃ o, rdV s q 5 q 0 1 = o := ⟨_, rfl⟩
  simp only [ho] at cR
  have HK : Hid (∀ W, Below w.heap.size w W → W.cell? ⟨C, 0, none⟩ = some (.string s) ∧ W.cell? ⟨C, 1, none⟩ = some (.int .i64 q)) := fun W hW => ⟨(hC.below hW).c0, (hC.below hW).c1⟩
  have HCB : Hid (∀ W, Below w.heap.size w W → CurAt W C s ⟨q, b⟩) := fun W hW => hC.below hW
  have hq : q ≤ 1048576 := by
    have : q ≤ s.size := hp
    omega
  clear hC hp
  cases o with
  | none =>
    have HV : Hid (rVar s ⟨q, b⟩ = (0, ⟨q, true⟩)) := rVar_none ho
    clear ho
    simp only [rdOut] at cR
    cases b
    all_goals
      go_enter Try.func11, Try.ntmps11
      go_upto_region 1 with fail
      go_region_held3 (fun W => W.cell? ⟨C, 0, none⟩ = some (.string s) ∧ W.cell? ⟨C, 1, none⟩ = some (.int .i64 q)) (first | exact HK.out _ (Below.refl _ _).drew | exact HK.out _ HM.out | go_keep) (first
        | (go_at_call 31; (with_reducible refine (cR _).mono ?_); rintro e w1 ⟨rfl, h1⟩; have HM : Hid (Below w.heap.size w w1) := chain (Below.refl _ _).drew h1))
      all_goals
        have hc := HCB.out _ HM.out
        have c2 := hc.c2
        have f1 := hc.free 1
        have f2 := hc.free 2
        have c1 := hc.c1
        have hg := grown_lo (C := some C) HM.out
        have hz := hc.lt
        have HC2 : Hid (CurAt _ C s ⟨q, true⟩) := hc.setBad
        have HG2 : Hid (w.grownBy _ (some C)) := grown_set (o := 2) (v := .bool true) hg
        clear hc hg
        go_wp2
        go_ret
        exact ⟨by rw [HV.out]; rfl, by rw [HV.out]; exact HC2.out, HG2.out⟩
  | some x =>
    obtain ⟨n, j⟩ := x
    have hj := rdV_pos s _ _ _ _ _ _ _ ho
    simp only [rdOut] at cR
    cases b with
    | true =>
      have HV : Hid (rVar s ⟨q, true⟩ = (0, ⟨q, true⟩)) := rVar_bad s q
      clear ho
      go_enter Try.func11, Try.ntmps11
      go_upto_region 1 with fail
      go_region_held3 (fun W => W.cell? ⟨C, 0, none⟩ = some (.string s) ∧ W.cell? ⟨C, 1, none⟩ = some (.int .i64 q)) (first | exact HK.out _ (Below.refl _ _).drew | exact HK.out _ HM.out | go_keep) (first
        | (go_at_call 31; (with_reducible refine (cR _).mono ?_); rintro e w1 ⟨rfl, h1⟩; have HM : Hid (Below w.heap.size w w1) := chain (Below.refl _ _).drew h1))
      all_goals
        have hc := HCB.out _ HM.out
        have c2 := hc.c2
        have f1 := hc.free 1
        have f2 := hc.free 2
        have c1 := hc.c1
        have hg := grown_lo (C := some C) HM.out
        have hz := hc.lt
        have HC2 : Hid (CurAt _ C s ⟨q, true⟩) := hc.setBad
        have HG2 : Hid (w.grownBy _ (some C)) := grown_set (o := 2) (v := .bool true) hg
        clear hc hg
        go_wp2
        go_ret
        exact ⟨by rw [HV.out]; rfl, by rw [HV.out]; exact HC2.out, HG2.out⟩
    | false =>
      have HV : Hid (rVar s ⟨q, false⟩ = (n, ⟨j, false⟩)) := rVar_some ho
      clear ho
      go_enter Try.func11, Try.ntmps11
      go_upto_region 1 with fail
      go_region_held3 (fun W => W.cell? ⟨C, 0, none⟩ = some (.string s) ∧ W.cell? ⟨C, 1, none⟩ = some (.int .i64 q)) (first | exact HK.out _ (Below.refl _ _).drew | exact HK.out _ HM.out | go_keep) (first
        | (go_at_call 31; (with_reducible refine (cR _).mono ?_); rintro e w1 ⟨rfl, h1⟩; have HM : Hid (Below w.heap.size w w1) := chain (Below.refl _ _).drew h1))
      all_goals
        have hc := HCB.out _ HM.out
        have c2 := hc.c2
        have f1 := hc.free 1
        have f2 := hc.free 2
        have c1 := hc.c1
        have hg := grown_lo (C := some C) HM.out
        have hz := hc.lt
        have HC2 : Hid (CurAt _ C s ⟨j, false⟩) := hc.setPos j
        have HG2 : Hid (w.grownBy _ (some C)) := grown_set (o := 1) (v := .int .i64 j) hg
        clear hc hg
        go_wp2
        go_ret
        exact ⟨by rw [HV.out]; rfl, by rw [HV.out]; exact HC2.out, HG2.out⟩
end Go.Proofs.Ytedhfdgcofboeaa
namespace Go.Proofs.Ytedhfdgcofboeaa
open Go.RowKit Go.Sort
set_option linter.unusedVariables false
theorem rTake_bad {s : ByteArray} {r : RS} {n : Nat} (h : rTakeB s r n = true) : rTake s r n = (⟨#[]⟩, ⟨r.pos, true⟩) := by unfold rTake; rw [if_pos h]
theorem rTake_good {s : ByteArray} {r : RS} {n : Nat} (h : rTakeB s r n = false) : rTake s r n = (s.extract r.pos (r.pos + n), ⟨r.pos + n, false⟩) := by unfold rTake; rw [if_neg (by rw [h]; decide)]
set_option maxHeartbeats 1000000 in
set_option maxRecDepth 100000 in
theorem l15Take_any (s : ByteArray) (r : RS) (n C : Nat) (w : World) (hC : CurAt w C s r) (hs : s.size ≤ 1048576) (hp : r.pos ≤ s.size) (hn : n ≤ 1000000000) :
    Calls Try.prog 10 #[.pointer (some ⟨C, 0, none⟩), .int .i64 n] w fun e w' => e = .returned (.string (rTake s r n).1) ∧ CurAt w' C s (rTake s r n).2 ∧ w.grownBy w' (some C) := by
  obtain ⟨q, b⟩ := r
  have hq : q ≤ s.size := hp
  have hq2 : q ≤ 1048576 := by omega
  have c0 := hC.c0
  have c1 := hC.c1
  have c2 := hC.c2
  have f1 := hC.free 1
  have f2 := hC.free 2
  have hz := hC.lt
  have hg : ∀ (W : World), W.heap = w.heap → W.os = w.os → W.tape = w.tape → W.output = w.output → w.grownBy W (some C) := fun W h1 h2 h3 h4 => ⟨h2, h3, h4, Nat.le_of_eq (by rw [h1]), fun i _ _ => by rw [h1]⟩
  cases b with
  | true =>
    have HV : Hid (rTake s ⟨q, true⟩ n = (⟨#[]⟩, ⟨q, true⟩)) := rTake_bad rfl
    have HC2 : ∀ W : World, W.heap = w.heap → CurAt (W.setCell ⟨C, 2, none⟩ (.bool true)) C s ⟨q, true⟩ := fun W hW => CurAt.setBad (r := ⟨q, true⟩) (by unfold CurAt; rw [hW]; exact hC)
    clear hC hp
    go_enter Try.func10, Try.ntmps10
    go_upto_region 1 with fail
    go_quiet (fail)
    go_wp2
    go_ret
    exact ⟨by rw [HV.out]; rfl, by rw [HV.out]; exact HC2 _ rfl, grown_set (hg _ rfl rfl rfl rfl)⟩
  | false =>
    by_cases hlt : s.size < q + n
    · have HV : Hid (rTake s ⟨q, false⟩ n = (⟨#[]⟩, ⟨q, true⟩)) := rTake_bad (by unfold rTakeB; simp; exact hlt)
      have HC2 : ∀ W : World, W.heap = w.heap → CurAt (W.setCell ⟨C, 2, none⟩ (.bool true)) C s ⟨q, true⟩ := fun W hW => CurAt.setBad (r := ⟨q, false⟩) (by unfold CurAt; rw [hW]; exact hC)
      have hx : (s.size : Int) - (q : Int) < (n : Int) := by omega
      clear hC hp
      go_enter Try.func10, Try.ntmps10
      go_upto_region 1 with fail
      go_quiet (fail)
      go_wp2
      go_ret
      exact ⟨by rw [HV.out]; rfl, by rw [HV.out]; exact HC2 _ rfl, grown_set (hg _ rfl rfl rfl rfl)⟩
    · have HV : Hid (rTake s ⟨q, false⟩ n = (s.extract q (q + n), ⟨q + n, false⟩)) := rTake_good (by unfold rTakeB; simp; omega)
      have HC2 : ∀ W : World, W.heap = w.heap → CurAt (W.setCell ⟨C, 1, none⟩ (.int .i64 ((q + n : Nat) : Int))) C s ⟨q + n, false⟩ := fun W hW => CurAt.setPos (r := ⟨q, false⟩) (by unfold CurAt; rw [hW]; exact hC) (q + n)
      have hx : decide ((s.size : Int) - (q : Int) < (n : Int)) = false := decide_eq_false (by omega)
      clear hC hp
      go_enter Try.func10, Try.ntmps10
      go_upto_region 1 with fail
      go_quiet (fail)
      go_wp2
      go_quiet (fail)
      go_wp2
      go_ret
      refine ⟨by rw [HV.out]; rfl, by rw [HV.out]; exact HC2 _ rfl, ?_⟩
      have h3 := grown_set (o := 1) (v := .int .i64 ((q + n : Nat) : Int)) (hg (w.drewN 0) rfl rfl rfl rfl)
      exact ⟨h3.os, h3.tape, h3.output, h3.size, h3.block⟩
theorem byte_at (s : ByteArray) (q : Nat) (h : q < s.size) : (s.extract q (q + 1))[0]'(by rw [ByteArray.size_extract]; omega) = s.data.toList.getD q 0 := by
  have e : (s.extract q (q + 1))[0]'(by rw [ByteArray.size_extract]; omega) = s[q] := by
    simp [ByteArray.getElem_extract]
  rw [e]
  have h2 : q < s.data.toList.length := h
  rw [List.getD, List.getElem?_eq_getElem h2]
  rfl
set_option maxHeartbeats 1000000 in
set_option maxRecDepth 100000 in
theorem l15Byte_any (s : ByteArray) (r : RS) (C : Nat) (w : World) (hC : CurAt w C s r) (hs : s.size ≤ 1048576) (hp : r.pos ≤ s.size) :
    Calls Try.prog 32 #[.pointer (some ⟨C, 0, none⟩)] w fun e w' => e = .returned (.int .i64 (rByte s r).1) ∧ CurAt w' C s (rByte s r).2 ∧ w.grownBy w' (some C) := by
  have cT := l15Take_any s r 1 C w hC hs hp (by omega)
  obtain ⟨q, b⟩ := r
  cases hb : rTakeB s ⟨q, b⟩ 1 with
  | true =>
    have HV : Hid (rByte s ⟨q, b⟩ = (0, ⟨q, true⟩)) := by
      show _ = _
      unfold rByte
      rw [if_pos hb]
    rw [rTake_bad hb] at cT
    clear hC hp hb
    go_enter Try.func32, Try.ntmps32
    go_wp2_with fail
    refine cT.mono ?_
    rintro e w1 ⟨rfl, hc, hg⟩
    have c2 := hc.c2
    go_wp2
    go_ret
    exact ⟨by rw [HV.out]; rfl, by rw [HV.out]; exact hc, hg⟩
  | false =>
    have hlt : ¬ s.size < q + 1 := by
      unfold rTakeB at hb
      simp only [Bool.or_eq_false_iff, decide_eq_false_iff_not] at hb
      exact hb.2
    have HV : Hid (rByte s ⟨q, b⟩ = (((s.data.toList.getD q 0).toNat : Int), ⟨q + 1, false⟩)) := by
      show _ = _
      unfold rByte
      rw [if_neg (by rw [hb]; decide)]
    rw [rTake_good hb] at cT
    have hsz : (s.extract q (q + 1)).size = 1 := by rw [ByteArray.size_extract]; omega
    clear hC hp hb
    go_enter Try.func32, Try.ntmps32
    go_wp2_with fail
    refine cT.mono ?_
    rintro e w1 ⟨rfl, hc, hg⟩
    have c2 := hc.c2
    go_wp2
    go_ret
    refine ⟨?_, by rw [HV.out]; exact hc, hg⟩
    rw [HV.out]
    refine ret_int (k := .i64) ?_
    have e1 : (s.extract q (q + 1))[0]'(by omega) = s.data.toList.getD q 0 := byte_at s q (by omega)
    show wrap64 ((((s.extract q (q + 1))[0]'(by omega)).toNat : Nat) : Int) = _
    rw [e1]
    have h256 := (s.data.toList.getD q 0).toNat_lt
    obtain ⟨y, hy⟩ : ∃ y, (s.data.toList.getD q 0).toNat = y := ⟨_, rfl⟩
    rw [hy] at h256 ⊢
    unfold wrap64
    omega
end Go.Proofs.Ytedhfdgcofboeaa
namespace Go.Proofs.Ytedhfdgcofboeaa
open Go.RowKit Go.Sort
set_option linter.unusedVariables false
def dv : Nat → Nat → Nat
  | 0, x => x
  | k + 1, x => dv k x / 256
theorem dv_lt (k x : Nat) (h : x < 18446744073709551616) : dv k x < 18446744073709551616 := by
  induction k with
  | zero => exact h
  | succ k ih => unfold dv; omega
theorem eight_dv (x : Nat) : eightK 8 x = [((dv 7 x % 256 : Nat) : Int), ((dv 6 x % 256 : Nat) : Int), ((dv 5 x % 256 : Nat) : Int), ((dv 4 x % 256 : Nat) : Int), ((dv 3 x % 256 : Nat) : Int), ((dv 2 x % 256 : Nat) : Int), ((dv 1 x % 256 : Nat) : Int), ((dv 0 x % 256 : Nat) : Int)] := rfl
structure BytesAt (w : World) (g : Nat) (n : Nat) (m : Nat → Int) : Prop where
  all : ∃ cs, w.heap[g]? = some (.cells cs 5 (0, 0)) ∧ cs.size = n ∧ ∀ j, j < n → cs[j]? = some (.int .u8 (m j))
theorem BytesAt.cell {w : World} {g n : Nat} {m : Nat → Int} (h : BytesAt w g n m) (j : Nat) (hj : j < n) : w.cell? ⟨g, j, none⟩ = some (.int .u8 (m j)) := by
  obtain ⟨cs, h1, h2, h3⟩ := h.all
  rw [cell_of_row _ _ _ _ _ _ h1]
  exact h3 j hj
theorem BytesAt.free {w : World} {g n : Nat} {m : Nat → Int} (h : BytesAt w g n m) (j : Nat) : w.frozen? ⟨g, j, none⟩ = false := by
  obtain ⟨cs, h1, h2, h3⟩ := h.all
  exact frozen_of_row _ _ _ _ _ h1
theorem BytesAt.set {w : World} {g n : Nat} {m : Nat → Int} (h : BytesAt w g n m) (k : Nat) (v : Int) (m' : Nat → Int) (hm : ∀ j, j < n → m' j = if j = k then v else m j) : BytesAt (w.setCell ⟨g, k, none⟩ (.int .u8 v)) g n m' := by
  obtain ⟨cs, h1, h2, h3⟩ := h.all
  refine ⟨_, heap_setCell_same _ _ _ _ _ _ h1, by simp [h2], fun j hj => ?_⟩
  rw [hm j hj, Array.getElem?_setIfInBounds]
  by_cases e : k = j
  · subst e
    rw [if_pos rfl, if_pos (by omega), if_pos rfl]
  · rw [if_neg e, if_neg (fun x => e x.symm)]
    exact h3 j hj
set_option maxHeartbeats 1000000 in
set_option maxRecDepth 100000 in
theorem l15Eight_any (x : Nat) (w : World) (hx : x < 18446744073709551616) :
    Calls Try.prog 35 #[.int .u64 x] w fun e w' => e = .returned (.string (strOfNums (eightK 8 x))) ∧ Below w.heap.size w w' := by
  have hmk : ∀ W : World, (Instr.makeSlice 78 (.int .i64 8) (.int .i64 8)).run Try.prog W = .ok (.slice (some ⟨W.heap.size, 0, none⟩) 8 8) (W.alloc (.cells #[.int .u8 0, .int .u8 0, .int .u8 0, .int .u8 0, .int .u8 0, .int .u8 0, .int .u8 0, .int .u8 0] 5)) := fun W => by
    have h := run_make_row' (P := Try.prog) 78 5 (.int .u8 0) 1 Try.underlying78 Try.infoByte rfl .i64 .i64 8 (by omega) (by omega) W
    have e : madeCells #[.int .u8 0] 8 = #[.int .u8 0, .int .u8 0, .int .u8 0, .int .u8 0, .int .u8 0, .int .u8 0, .int .u8 0, .int .u8 0] := by kernel_rfl
    rw [e] at h
    exact h
  have f0 : BytesAt (w.alloc (.cells #[.int .u8 0, .int .u8 0, .int .u8 0, .int .u8 0, .int .u8 0, .int .u8 0, .int .u8 0, .int .u8 0] 5)) w.heap.size 8 (fun j => if 8 ≤ j then ((dv (7 - j) x % 256 : Nat) : Int) else 0) := by
    refine ⟨_, heap_alloc_new w _, rfl, fun j hj => ?_⟩
    match j, hj with
    | 0, _ => rfl
    | 1, _ => rfl
    | 2, _ => rfl
    | 3, _ => rfl
    | 4, _ => rfl
    | 5, _ => rfl
    | 6, _ => rfl
    | 7, _ => rfl
  have b0 : Below w.heap.size w (w.alloc (.cells #[.int .u8 0, .int .u8 0, .int .u8 0, .int .u8 0, .int .u8 0, .int .u8 0, .int .u8 0, .int .u8 0] 5)) := (Below.refl _ _).alloc (Nat.le_refl _) _
  have hcv : ∀ W : World, BytesAt W w.heap.size 8 (fun j => ((dv (7 - j) x % 256 : Nat) : Int)) → (convert 78 9 (.slice (some ⟨w.heap.size, 0, none⟩) 8 8)).run Try.prog W = .ok (.string (strOfNums (eightK 8 x))) W := fun W h => by
    refine run_convert_bytes_arg W 78 5 Try.underlying78 Try.underlying5 w.heap.size 0 8 8 (eightK 8 x) rfl (fun i hi => ?_) 9 Try.underlying9
    rw [Nat.zero_add, h.cell i hi, eight_dv]
    match i, hi with
    | 0, _ => rfl
    | 1, _ => rfl
    | 2, _ => rfl
    | 3, _ => rfl
    | 4, _ => rfl
    | 5, _ => rfl
    | 6, _ => rfl
    | 7, _ => rfl
  obtain ⟨W0, hW0⟩ : ∃ W, w.alloc (.cells #[.int .u8 0, .int .u8 0, .int .u8 0, .int .u8 0, .int .u8 0, .int .u8 0, .int .u8 0, .int .u8 0] 5) = W := ⟨_, rfl⟩
  rw [hW0] at f0 b0
  have HW0 : Hid (_ = W0) := hW0
  have HC : Hid _ := hcv
  clear hcv hW0
  go_enter Try.func35, Try.ntmps35
  go_upto_region 2 with fail
  rw [HW0.out]
  clear HW0 hmk
  go_wp2
  go_loopw [0, 4] (fun y i wr => ∃ k : Nat, k ≤ 8 ∧ y = .int .u64 (dv k x : Nat) ∧ i = .int .i64 (7 - (k : Int)) ∧ BytesAt wr w.heap.size 8 (fun j => if 8 ≤ j + k then ((dv (7 - j) x % 256 : Nat) : Int) else 0) ∧ Below w.heap.size w wr) (fun _ i _ => (intOf i + 1).toNat)
  case atStart => exact ⟨0, Nat.zero_le _, rfl, rfl, f0, b0⟩
  case round =>
    clear f0 b0
    obtain ⟨k, hk, rfl, rfl, f0, hb⟩ := hrel
    have hd := dv_lt k x hx
    by_cases hk8 : k < 8
    · have g1 := f0.cell (7 - k) (by omega)
      have g2 := f0.free (7 - k)
      have HF : Hid (BytesAt _ _ _ _) := f0
      have hkn : (7 - (k : Int)) = ((7 - k : Nat) : Int) := by omega
      rw [hkn]
      obtain ⟨q, hq⟩ : ∃ q, 7 - k = q := ⟨_, rfl⟩
      rw [hq] at g1 g2 ⊢
      have HQ : Hid (7 - k = q) := hq
      have hq8 : (q : Int) < 8 := by omega
      have hq0 : (0 : Int) ≤ (q : Int) := by omega
      have HN : Hid (dv (k + 1) x = dv k x / 256) := rfl
      obtain ⟨y, hy⟩ : ∃ y, dv k x = y := ⟨_, rfl⟩
      have HY : Hid (dv k x = y) := hy
      rw [hy] at hd ⊢
      clear f0 hkn hq hy
      go_wp2
      go_roundw
      case rel =>
        refine ⟨k + 1, by omega, ?_, ?_, ?_, ?_⟩
        · rw [HN.out, HY.out]
          rfl
        · have := HQ.out
          congr 1
          omega
        · refine HF.out.set q _ _ fun j hj => ?_
          have hq := HQ.out
          by_cases e : j = q
          · subst e
            rw [if_pos (by omega), if_pos rfl]
            have e2 : 7 - j = k := by omega
            rw [e2, HY.out]
            rfl
          · rw [if_neg e]
            by_cases e2 : 8 ≤ j + k
            · rw [if_pos (by omega), if_pos e2]
            · rw [if_neg (by omega), if_neg e2]
        · exact hb.setCell (by show w.heap.size ≤ w.heap.size; omega) _
      case measure => simp [intOf]
    · have e8 : k = 8 := by omega
      subst e8
      have f1 : BytesAt wr w.heap.size 8 (fun j => ((dv (7 - j) x % 256 : Nat) : Int)) := by
        obtain ⟨cs, h1, h2, h3⟩ := f0.all
        refine ⟨cs, h1, h2, fun j hj => ?_⟩
        rw [h3 j hj, if_pos (by omega)]
      have hc := HC.out wr f1
      clear f0 f1
      go_wp2
      go_ret
      exact ⟨rfl, hb⟩
set_option maxHeartbeats 1000000 in
set_option maxRecDepth 100000 in
theorem l15Short_any (s : ByteArray) (w : World) (hs : s.size ≤ 1000000000) :
    Calls Try.prog 36 #[.string s] w fun e w' => e = .returned (.string (strOfNums (varB s.size) ++ s)) ∧ Below w.heap.size w w' := by
  have cV := fun W => l01Var_any s.size W hs
  have hz : (strOfNums (varB s.size)).size ≤ 5 := by rw [strOfNums_size]; exact varB_len5 hs
  go_enter Try.func36, Try.ntmps36
  go_wp2_with (go_at_call 34; refine (cV _).mono ?_; rintro e w' ⟨rfl, hb⟩)
  go_ret
  exact ⟨rfl, hb⟩
set_option maxHeartbeats 1000000 in
set_option maxRecDepth 100000 in
theorem l15Flag_any (b : Bool) (w : World) :
    Calls Try.prog 37 #[.bool b] w fun e w' => e = .returned (.string ⟨#[if b then 1 else 0]⟩) ∧ w = w' := by
  cases b
  all_goals
    go_enter Try.func37, Try.ntmps37
    go_wp2
    go_ret
    exact ⟨rfl, rfl⟩
end Go.Proofs.Ytedhfdgcofboeaa
