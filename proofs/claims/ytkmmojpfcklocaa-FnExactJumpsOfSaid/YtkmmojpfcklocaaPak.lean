/-
  Part 11 of what is proved of drawn right trees.
-/
import Derived.Test.YtkmmojpfcklocaaPah
import Derived.Test.YtkmmojpfcklocaaPaa
import Derived.Lib.ConvBytes
import Derived.Lib.SmallJoins
import Derived.Maps.AppendAt
import Derived.Lib.Strings
import Derived.Test.YtkmmojpfcklocaaRows
import Derived.Deep.QuietTactic
import Derived.BigQuiet
import Derived.Lib.QuietBelow
import Derived.Deep.RegionHeld3
import Derived.Deep.OwnRows
import Derived.Deep.RegionLaw
import Derived.Lib.ItoaNum

namespace Go.Proofs.Ytkmmojpfcklocaa
open Go.RowKit
set_option linter.unusedVariables false
def mkv (s : Nat) (g : Nat → Nat → Value) (k m : Nat) : List Value := (List.range m).map (fun q => g (q % s) (k + q))
theorem mkv_len (s : Nat) (g : Nat → Nat → Value) (k m : Nat) : (mkv s g k m).length = m := by simp [mkv]
theorem mkv_at {s : Nat} {g : Nat → Nat → Value} {k m q : Nat} (h : q < m) : (mkv s g k m)[q]? = some (g (q % s) (k + q)) := by simp [mkv, h]
theorem mkv_is {s : Nat} {g : Nat → Nat → Value} {k m : Nat} {xs : List Value} (hl : xs.length = m) (h : ∀ q, q < m → xs[q]? = some (g (q % s) (k + q))) : xs = mkv s g k m := by
  apply List.ext_getElem?
  intro q
  rcases Nat.lt_or_ge q m with h1 | h1
  · rw [h q h1, mkv_at h1]
  · rw [List.getElem?_eq_none (by omega), List.getElem?_eq_none (by rw [mkv_len]; exact h1)]
theorem grown_is (w : World) (r : Option Nat) : w.grownBy w r := ⟨rfl, rfl, rfl, Nat.le_refl _, fun _ _ _ => rfl⟩
def numG (c u : Nat) : Value := .int .i64 (u : Int)
def capG (c u : Nat) : Value := if c = 0 then .bool ((u : Int) % 3 == 0) else .int .i64 (u : Int)
set_option maxHeartbeats 1000000 in
set_option maxRecDepth 100000 in
theorem markInsS_f (B : Nat) (v : Value) (n k : Nat) (ys : List Value) (w : World) (hv : w.ownsRow B 49 3 v n ys) (hl : n ≤ 8000000) (hk : k ≤ 1000000000) :
    Calls Try.prog 40 #[v, .int .i64 k] w fun e w' => e = .returned (.int .i64 ((k + n * 3 : Nat) : Int)) ∧ w'.ownsRow B 49 3 v n (mkv 3 numG k (n * 3)) ∧ w.grownBy w' v.ownBlock := by
  obtain ⟨x, c, rfl⟩ := row_slice hv
  have hm : n ≤ 9223372036854775807 := by omega
  by_cases h0 : n = 0
  · subst h0
    have hE : ys = mkv 3 numG k (0 * 3) := mkv_is (by have := hv.1; omega) (fun q hq => by omega)
    rw [hE] at hv
    clear hE
    go_enter Try.func40, Try.ntmps40
    go_wp2
    go_loop [1, 5] (fun y i => y = .int .i64 k ∧ i = .int .i64 0) (fun _ _ => 0)
    case atStart => exact ⟨rfl, rfl⟩
    case round =>
      obtain ⟨rfl, rfl⟩ := hrel
      go_wp2
      go_ret
      exact ⟨by simp, hv, grown_is _ _⟩
  obtain ⟨g, rfl⟩ : ∃ g, x = some ⟨g, 0, none⟩ := by
    rcases hv.2 with ⟨e1, e2⟩ | ⟨g, cap, cur, e1, _⟩
    · exact absurd e2 h0
    · simp only [Value.slice.injEq] at e1
      exact ⟨g, e1.1⟩
  have HV : Hid _ := hv
  clear hv
  go_enter Try.func40, Try.ntmps40
  go_wp2
  go_loopw [1, 5] (fun y j wr => ∃ (i U : Nat) (xs : List Value), i ≤ n ∧ y = .int .i64 (U : Int) ∧ j = .int .i64 i ∧ Hid (U = k + i * 3) ∧ U ≤ 1100000000 ∧ Hid (∀ q, q < i * 3 → xs[q]? = some (numG (q % 3) (k + q))) ∧ Hid (wr.ownsRow B 49 3 (.slice (some ⟨g, 0, none⟩) n c) n xs) ∧ w.grownBy wr (some g)) (fun _ j _ => n - (intOf j).toNat)
  case atStart => exact ⟨0, k, ys, Nat.zero_le _, rfl, rfl, by show k = _; omega, by omega, fun q hq => by omega, HV, grown_is _ _⟩
  case round =>
    obtain ⟨i, U, xs, hi, rfl, rfl, HU, hU, HY, HO, hgr⟩ := hrel
    by_cases hin : i < n
    · have hii : (i : Int) < (n : Int) := by omega
      have hi0 : (0 : Int) ≤ (i : Int) := by omega
      have hxl : xs.length = n * 3 := HO.out.1
      obtain ⟨⟨u0, hu0⟩, hf0⟩ := row_cell HO.out (i * 3) (by have : i * 3 + 3 ≤ n * 3 := (by have := Nat.mul_le_mul_right 3 (show i + 1 ≤ n by omega); omega); omega)
      obtain ⟨⟨u1, hu1⟩, hf1⟩ := row_cell HO.out (i * 3 + 1) (by have : i * 3 + 3 ≤ n * 3 := (by have := Nat.mul_le_mul_right 3 (show i + 1 ≤ n by omega); omega); omega)
      obtain ⟨⟨u2, hu2⟩, hf2⟩ := row_cell HO.out (i * 3 + 2) (by have : i * 3 + 3 ≤ n * 3 := (by have := Nat.mul_le_mul_right 3 (show i + 1 ≤ n by omega); omega); omega)
      have s0 := World.ownsRow.stored HO.out (i * 3) (.int .i64 (U : Int))
      have s1 := World.ownsRow.stored s0.1 (i * 3 + 1) (.int .i64 ((U : Int) + 1))
      have s2 := World.ownsRow.stored s1.1 (i * 3 + 2) (.int .i64 ((U : Int) + 1 + 1))
      have HS : Hid ((((wr.setCell ⟨g, i * 3, none⟩ (.int .i64 (U : Int))).setCell ⟨g, i * 3 + 1, none⟩ (.int .i64 ((U : Int) + 1))).setCell ⟨g, i * 3 + 2, none⟩ (.int .i64 ((U : Int) + 1 + 1))).ownsRow B 49 3 (.slice (some ⟨g, 0, none⟩) n c) n (((xs.set (i * 3) (.int .i64 (U : Int))).set (i * 3 + 1) (.int .i64 ((U : Int) + 1))).set (i * 3 + 2) (.int .i64 ((U : Int) + 1 + 1))) ∧ w.grownBy (((wr.setCell ⟨g, i * 3, none⟩ (.int .i64 (U : Int))).setCell ⟨g, i * 3 + 1, none⟩ (.int .i64 ((U : Int) + 1))).setCell ⟨g, i * 3 + 2, none⟩ (.int .i64 ((U : Int) + 1 + 1))) (some g)) := ⟨s2.1, (((hgr).trans s0.2).trans s1.2).trans s2.2⟩
      have HY2 : Hid (∀ q, q < (i + 1) * 3 → (((xs.set (i * 3) (.int .i64 (U : Int))).set (i * 3 + 1) (.int .i64 ((U : Int) + 1))).set (i * 3 + 2) (.int .i64 ((U : Int) + 1 + 1)))[q]? = some (numG (q % 3) (k + q))) := fun q hq => by
        have hUU := HU.out
        have hb : i * 3 + 3 ≤ n * 3 := by have := Nat.mul_le_mul_right 3 (show i + 1 ≤ n by omega); omega
        rcases Nat.lt_or_ge q (i * 3) with h1 | h1
        · rw [List.getElem?_set_ne (by omega)]; rw [List.getElem?_set_ne (by omega)]; rw [List.getElem?_set_ne (by omega)]; exact HY.out q h1
        · have hq3 : q = i * 3 ∨ q = i * 3 + 1 ∨ q = i * 3 + 2 := by omega
          rcases hq3 with rfl | rfl | rfl
          · rw [List.getElem?_set_ne (by omega), List.getElem?_set_ne (by omega), List.getElem?_set_self (by (try simp only [List.length_set]); omega)]
            congr 1
            show Value.int .i64 _ = Value.int .i64 _; congr 1; omega
          · rw [List.getElem?_set_ne (by omega), List.getElem?_set_self (by (try simp only [List.length_set]); omega)]
            congr 1
            show Value.int .i64 _ = Value.int .i64 _; congr 1; omega
          · rw [List.getElem?_set_self (by (try simp only [List.length_set]); omega)]
            congr 1
            show Value.int .i64 _ = Value.int .i64 _; congr 1; omega
      have hU2 : U + 3 ≤ 1100000000 := by
        have := HU.out
        have : i * 3 + 3 ≤ n * 3 := by have := Nat.mul_le_mul_right 3 (show i + 1 ≤ n by omega); omega
        omega
      have HU2 : Hid (U + 3 = k + (i + 1) * 3) := by
        have := HU.out
        show _ = _
        omega
      clear s0 s1 s2 hxl
      go_wp2
      go_roundw
      case rel => exact ⟨i + 1, U + 3, _, by omega, by go_num, by go_num, HU2, hU2, HY2, HS.out.1, HS.out.2⟩
      case measure => simp [intOf]; omega
    · have e : i = n := by omega
      subst e
      have hE : xs = mkv 3 numG k (i * 3) := mkv_is HO.out.1 HY.out
      have hO := HO.out
      rw [hE] at hO
      have hUU := HU.out
      subst hUU
      clear HY HO HV hE
      go_wp2
      go_ret
      exact ⟨rfl, hO, hgr⟩
set_option maxHeartbeats 1000000 in
set_option maxRecDepth 100000 in
theorem markHandlerS_f (B : Nat) (v : Value) (n k : Nat) (ys : List Value) (w : World) (hv : w.ownsRow B 92 3 v n ys) (hl : n ≤ 8000000) (hk : k ≤ 1000000000) :
    Calls Try.prog 41 #[v, .int .i64 k] w fun e w' => e = .returned (.int .i64 ((k + n * 3 : Nat) : Int)) ∧ w'.ownsRow B 92 3 v n (mkv 3 numG k (n * 3)) ∧ w.grownBy w' v.ownBlock := by
  obtain ⟨x, c, rfl⟩ := row_slice hv
  have hm : n ≤ 9223372036854775807 := by omega
  by_cases h0 : n = 0
  · subst h0
    have hE : ys = mkv 3 numG k (0 * 3) := mkv_is (by have := hv.1; omega) (fun q hq => by omega)
    rw [hE] at hv
    clear hE
    go_enter Try.func41, Try.ntmps41
    go_wp2
    go_loop [1, 5] (fun y i => y = .int .i64 k ∧ i = .int .i64 0) (fun _ _ => 0)
    case atStart => exact ⟨rfl, rfl⟩
    case round =>
      obtain ⟨rfl, rfl⟩ := hrel
      go_wp2
      go_ret
      exact ⟨by simp, hv, grown_is _ _⟩
  obtain ⟨g, rfl⟩ : ∃ g, x = some ⟨g, 0, none⟩ := by
    rcases hv.2 with ⟨e1, e2⟩ | ⟨g, cap, cur, e1, _⟩
    · exact absurd e2 h0
    · simp only [Value.slice.injEq] at e1
      exact ⟨g, e1.1⟩
  have HV : Hid _ := hv
  clear hv
  go_enter Try.func41, Try.ntmps41
  go_wp2
  go_loopw [1, 5] (fun y j wr => ∃ (i U : Nat) (xs : List Value), i ≤ n ∧ y = .int .i64 (U : Int) ∧ j = .int .i64 i ∧ Hid (U = k + i * 3) ∧ U ≤ 1100000000 ∧ Hid (∀ q, q < i * 3 → xs[q]? = some (numG (q % 3) (k + q))) ∧ Hid (wr.ownsRow B 92 3 (.slice (some ⟨g, 0, none⟩) n c) n xs) ∧ w.grownBy wr (some g)) (fun _ j _ => n - (intOf j).toNat)
  case atStart => exact ⟨0, k, ys, Nat.zero_le _, rfl, rfl, by show k = _; omega, by omega, fun q hq => by omega, HV, grown_is _ _⟩
  case round =>
    obtain ⟨i, U, xs, hi, rfl, rfl, HU, hU, HY, HO, hgr⟩ := hrel
    by_cases hin : i < n
    · have hii : (i : Int) < (n : Int) := by omega
      have hi0 : (0 : Int) ≤ (i : Int) := by omega
      have hxl : xs.length = n * 3 := HO.out.1
      obtain ⟨⟨u0, hu0⟩, hf0⟩ := row_cell HO.out (i * 3) (by have : i * 3 + 3 ≤ n * 3 := (by have := Nat.mul_le_mul_right 3 (show i + 1 ≤ n by omega); omega); omega)
      obtain ⟨⟨u1, hu1⟩, hf1⟩ := row_cell HO.out (i * 3 + 1) (by have : i * 3 + 3 ≤ n * 3 := (by have := Nat.mul_le_mul_right 3 (show i + 1 ≤ n by omega); omega); omega)
      obtain ⟨⟨u2, hu2⟩, hf2⟩ := row_cell HO.out (i * 3 + 2) (by have : i * 3 + 3 ≤ n * 3 := (by have := Nat.mul_le_mul_right 3 (show i + 1 ≤ n by omega); omega); omega)
      have s0 := World.ownsRow.stored HO.out (i * 3) (.int .i64 (U : Int))
      have s1 := World.ownsRow.stored s0.1 (i * 3 + 1) (.int .i64 ((U : Int) + 1))
      have s2 := World.ownsRow.stored s1.1 (i * 3 + 2) (.int .i64 ((U : Int) + 1 + 1))
      have HS : Hid ((((wr.setCell ⟨g, i * 3, none⟩ (.int .i64 (U : Int))).setCell ⟨g, i * 3 + 1, none⟩ (.int .i64 ((U : Int) + 1))).setCell ⟨g, i * 3 + 2, none⟩ (.int .i64 ((U : Int) + 1 + 1))).ownsRow B 92 3 (.slice (some ⟨g, 0, none⟩) n c) n (((xs.set (i * 3) (.int .i64 (U : Int))).set (i * 3 + 1) (.int .i64 ((U : Int) + 1))).set (i * 3 + 2) (.int .i64 ((U : Int) + 1 + 1))) ∧ w.grownBy (((wr.setCell ⟨g, i * 3, none⟩ (.int .i64 (U : Int))).setCell ⟨g, i * 3 + 1, none⟩ (.int .i64 ((U : Int) + 1))).setCell ⟨g, i * 3 + 2, none⟩ (.int .i64 ((U : Int) + 1 + 1))) (some g)) := ⟨s2.1, (((hgr).trans s0.2).trans s1.2).trans s2.2⟩
      have HY2 : Hid (∀ q, q < (i + 1) * 3 → (((xs.set (i * 3) (.int .i64 (U : Int))).set (i * 3 + 1) (.int .i64 ((U : Int) + 1))).set (i * 3 + 2) (.int .i64 ((U : Int) + 1 + 1)))[q]? = some (numG (q % 3) (k + q))) := fun q hq => by
        have hUU := HU.out
        have hb : i * 3 + 3 ≤ n * 3 := by have := Nat.mul_le_mul_right 3 (show i + 1 ≤ n by omega); omega
        rcases Nat.lt_or_ge q (i * 3) with h1 | h1
        · rw [List.getElem?_set_ne (by omega)]; rw [List.getElem?_set_ne (by omega)]; rw [List.getElem?_set_ne (by omega)]; exact HY.out q h1
        · have hq3 : q = i * 3 ∨ q = i * 3 + 1 ∨ q = i * 3 + 2 := by omega
          rcases hq3 with rfl | rfl | rfl
          · rw [List.getElem?_set_ne (by omega), List.getElem?_set_ne (by omega), List.getElem?_set_self (by (try simp only [List.length_set]); omega)]
            congr 1
            show Value.int .i64 _ = Value.int .i64 _; congr 1; omega
          · rw [List.getElem?_set_ne (by omega), List.getElem?_set_self (by (try simp only [List.length_set]); omega)]
            congr 1
            show Value.int .i64 _ = Value.int .i64 _; congr 1; omega
          · rw [List.getElem?_set_self (by (try simp only [List.length_set]); omega)]
            congr 1
            show Value.int .i64 _ = Value.int .i64 _; congr 1; omega
      have hU2 : U + 3 ≤ 1100000000 := by
        have := HU.out
        have : i * 3 + 3 ≤ n * 3 := by have := Nat.mul_le_mul_right 3 (show i + 1 ≤ n by omega); omega
        omega
      have HU2 : Hid (U + 3 = k + (i + 1) * 3) := by
        have := HU.out
        show _ = _
        omega
      clear s0 s1 s2 hxl
      go_wp2
      go_roundw
      case rel => exact ⟨i + 1, U + 3, _, by omega, by go_num, by go_num, HU2, hU2, HY2, HS.out.1, HS.out.2⟩
      case measure => simp [intOf]; omega
    · have e : i = n := by omega
      subst e
      have hE : xs = mkv 3 numG k (i * 3) := mkv_is HO.out.1 HY.out
      have hO := HO.out
      rw [hE] at hO
      have hUU := HU.out
      subst hUU
      clear HY HO HV hE
      go_wp2
      go_ret
      exact ⟨rfl, hO, hgr⟩
set_option maxHeartbeats 1000000 in
set_option maxRecDepth 100000 in
theorem markCapS_f (B : Nat) (v : Value) (n k : Nat) (ys : List Value) (w : World) (hv : w.ownsRow B 90 2 v n ys) (hl : n ≤ 8000000) (hk : k ≤ 1000000000) :
    Calls Try.prog 39 #[v, .int .i64 k] w fun e w' => e = .returned (.int .i64 ((k + n * 2 : Nat) : Int)) ∧ w'.ownsRow B 90 2 v n (mkv 2 capG k (n * 2)) ∧ w.grownBy w' v.ownBlock := by
  obtain ⟨x, c, rfl⟩ := row_slice hv
  have hm : n ≤ 9223372036854775807 := by omega
  by_cases h0 : n = 0
  · subst h0
    have hE : ys = mkv 2 capG k (0 * 2) := mkv_is (by have := hv.1; omega) (fun q hq => by omega)
    rw [hE] at hv
    clear hE
    go_enter Try.func39, Try.ntmps39
    go_wp2
    go_loop [1, 5] (fun y i => y = .int .i64 k ∧ i = .int .i64 0) (fun _ _ => 0)
    case atStart => exact ⟨rfl, rfl⟩
    case round =>
      obtain ⟨rfl, rfl⟩ := hrel
      go_wp2
      go_ret
      exact ⟨by simp, hv, grown_is _ _⟩
  obtain ⟨g, rfl⟩ : ∃ g, x = some ⟨g, 0, none⟩ := by
    rcases hv.2 with ⟨e1, e2⟩ | ⟨g, cap, cur, e1, _⟩
    · exact absurd e2 h0
    · simp only [Value.slice.injEq] at e1
      exact ⟨g, e1.1⟩
  have HV : Hid _ := hv
  clear hv
  go_enter Try.func39, Try.ntmps39
  go_wp2
  go_loopw [1, 5] (fun y j wr => ∃ (i U : Nat) (xs : List Value), i ≤ n ∧ y = .int .i64 (U : Int) ∧ j = .int .i64 i ∧ Hid (U = k + i * 2) ∧ U ≤ 1100000000 ∧ Hid (∀ q, q < i * 2 → xs[q]? = some (capG (q % 2) (k + q))) ∧ Hid (wr.ownsRow B 90 2 (.slice (some ⟨g, 0, none⟩) n c) n xs) ∧ w.grownBy wr (some g)) (fun _ j _ => n - (intOf j).toNat)
  case atStart => exact ⟨0, k, ys, Nat.zero_le _, rfl, rfl, by show k = _; omega, by omega, fun q hq => by omega, HV, grown_is _ _⟩
  case round =>
    obtain ⟨i, U, xs, hi, rfl, rfl, HU, hU, HY, HO, hgr⟩ := hrel
    by_cases hin : i < n
    · have hii : (i : Int) < (n : Int) := by omega
      have hi0 : (0 : Int) ≤ (i : Int) := by omega
      have hxl : xs.length = n * 2 := HO.out.1
      obtain ⟨⟨u0, hu0⟩, hf0⟩ := row_cell HO.out (i * 2) (by have : i * 2 + 2 ≤ n * 2 := (by have := Nat.mul_le_mul_right 2 (show i + 1 ≤ n by omega); omega); omega)
      obtain ⟨⟨u1, hu1⟩, hf1⟩ := row_cell HO.out (i * 2 + 1) (by have : i * 2 + 2 ≤ n * 2 := (by have := Nat.mul_le_mul_right 2 (show i + 1 ≤ n by omega); omega); omega)
      have s0 := World.ownsRow.stored HO.out (i * 2) (.bool ((U : Int) % 3 == 0))
      have s1 := World.ownsRow.stored s0.1 (i * 2 + 1) (.int .i64 ((U : Int) + 1))
      have HS : Hid (((wr.setCell ⟨g, i * 2, none⟩ (.bool ((U : Int) % 3 == 0))).setCell ⟨g, i * 2 + 1, none⟩ (.int .i64 ((U : Int) + 1))).ownsRow B 90 2 (.slice (some ⟨g, 0, none⟩) n c) n ((xs.set (i * 2) (.bool ((U : Int) % 3 == 0))).set (i * 2 + 1) (.int .i64 ((U : Int) + 1))) ∧ w.grownBy ((wr.setCell ⟨g, i * 2, none⟩ (.bool ((U : Int) % 3 == 0))).setCell ⟨g, i * 2 + 1, none⟩ (.int .i64 ((U : Int) + 1))) (some g)) := ⟨s1.1, ((hgr).trans s0.2).trans s1.2⟩
      have HY2 : Hid (∀ q, q < (i + 1) * 2 → ((xs.set (i * 2) (.bool ((U : Int) % 3 == 0))).set (i * 2 + 1) (.int .i64 ((U : Int) + 1)))[q]? = some (capG (q % 2) (k + q))) := fun q hq => by
        have hUU := HU.out
        have hb : i * 2 + 2 ≤ n * 2 := by have := Nat.mul_le_mul_right 2 (show i + 1 ≤ n by omega); omega
        rcases Nat.lt_or_ge q (i * 2) with h1 | h1
        · rw [List.getElem?_set_ne (by omega)]; rw [List.getElem?_set_ne (by omega)]; exact HY.out q h1
        · have hq3 : q = i * 2 ∨ q = i * 2 + 1 := by omega
          rcases hq3 with rfl | rfl
          · rw [List.getElem?_set_ne (by omega), List.getElem?_set_self (by (try simp only [List.length_set]); omega)]
            congr 1
            unfold capG; rw [if_pos (by omega)]; congr 2; omega
          · rw [List.getElem?_set_self (by (try simp only [List.length_set]); omega)]
            congr 1
            unfold capG; rw [if_neg (by omega)]; congr 1; omega
      have hU2 : U + 2 ≤ 1100000000 := by
        have := HU.out
        have : i * 2 + 2 ≤ n * 2 := by have := Nat.mul_le_mul_right 2 (show i + 1 ≤ n by omega); omega
        omega
      have HU2 : Hid (U + 2 = k + (i + 1) * 2) := by
        have := HU.out
        show _ = _
        omega
      clear s0 s1 hxl
      go_wp2
      go_roundw
      case rel => exact ⟨i + 1, U + 2, _, by omega, by go_num, by go_num, HU2, hU2, HY2, HS.out.1, HS.out.2⟩
      case measure => simp [intOf]; omega
    · have e : i = n := by omega
      subst e
      have hE : xs = mkv 2 capG k (i * 2) := mkv_is HO.out.1 HY.out
      have hO := HO.out
      rw [hE] at hO
      have hUU := HU.out
      subst hUU
      clear HY HO HV hE
      go_wp2
      go_ret
      exact ⟨rfl, hO, hgr⟩
end Go.Proofs.Ytkmmojpfcklocaa
namespace Go.Proofs.Ytkmmojpfcklocaa
open Go.RowKit Go.Sort
set_option linter.unusedVariables false
theorem box_at {w : World} {X : Nat} {cs : Array Value} {t : TypeId} (h : w.heap[X]? = some (.cells cs t (0, 0))) (j : Nat) (u : Value) (hj : cs[j]? = some u) : w.cell? ⟨X, j, none⟩ = some u := by
  rw [cell_of_row _ _ j _ _ _ h]
  exact hj
theorem box_lt {w : World} {X : Nat} {o : Obj} (h : w.heap[X]? = some o) : X < w.heap.size := by
  rcases Nat.lt_or_ge X w.heap.size with x | x
  · exact x
  · rw [Array.getElem?_eq_none x] at h
    cases h
end Go.Proofs.Ytkmmojpfcklocaa
namespace Go.Proofs.Ytkmmojpfcklocaa
open Go.RowKit Go.Sort
set_option linter.unusedVariables false
theorem row_apart {w : World} {B k n X : Nat} {e T : TypeId} {v : Value} {xs : List Value} {cs : Array Value} {fr : Nat × Nat} (h : w.ownsRow B e k v n xs) (hX : w.heap[X]? = some (.cells cs T fr)) (hT : T ≠ e) : v.ownBlock ≠ some X := by
  rcases h.2 with ⟨rfl, _⟩ | ⟨g, cap, cur, rfl, _, hg, _⟩
  · simp [Value.ownBlock]
  · intro e1
    simp [Value.ownBlock] at e1
    subst e1
    rw [hg] at hX
    injection hX with hX
    injection hX with _ h2 _
    exact hT h2.symm
theorem row_put15 {w : World} {B k n X o : Nat} {e : TypeId} {v u : Value} {xs : List Value} (h : w.ownsRow B e k v n xs) (hX : v.ownBlock ≠ some X) : (w.setCell ⟨X, o, none⟩ u).ownsRow B e k v n xs :=
  h.kept (row := some X) ⟨rfl, rfl, rfl, by simp [World.setCell], fun i _ hne => heap_setCell_other w ⟨X, o, none⟩ i u (fun e => hne (by show some i = some X; rw [show i = X from e]))⟩ (.inr hX)
theorem own_type {w : World} {B k n : Nat} {e : TypeId} {v : Value} {xs : List Value} (h : w.ownsRow B e k v n xs) {G : Nat} (hG : v.ownBlock = some G) : B ≤ G ∧ ∃ cs fr, w.heap[G]? = some (.cells cs e fr) := by
  rcases h.2 with ⟨rfl, _⟩ | ⟨g, cap, cur, rfl, hb, hg, _⟩
  · simp [Value.ownBlock] at hG
  · simp [Value.ownBlock] at hG
    subst hG
    exact ⟨hb, _, _, hg⟩
end Go.Proofs.Ytkmmojpfcklocaa
namespace Go.Proofs.Ytkmmojpfcklocaa
open Go.RowKit
set_option linter.unusedVariables false
structure FSh where
  cv : Value
  kv : Value
  hv : Value
  nc : Nat
  nk : Nat
  nh : Nat
def FSh.wid (f : FSh) : Nat := 2 + f.nc * 2 + f.nk * 3 + f.nh * 3
def offK (fs : List FSh) (k q : Nat) : Nat := k + ((fs.take q).map FSh.wid).sum
theorem offK_0 (fs : List FSh) (k : Nat) : offK fs k 0 = k := by simp [offK]
theorem offK_more {fs : List FSh} {k q : Nat} {f : FSh} (h : fs[q]? = some f) : offK fs k (q + 1) = offK fs k q + f.wid := by
  unfold offK
  rw [List.take_add_one, h]
  simp
  omega
theorem offK_le (fs : List FSh) (k q : Nat) : offK fs k q ≤ offK fs k fs.length := by
  unfold offK
  rw [List.take_length]
  have h := List.take_append_drop q fs
  have e : (fs.map FSh.wid).sum = ((fs.take q).map FSh.wid).sum + ((fs.drop q).map FSh.wid).sum := by
    rw [← List.sum_append, ← List.map_append, h]
  omega
structure MkAt (w : World) (b o K : Nat) (f : FSh) : Prop where
  c0 : w.cell? ⟨b, o, none⟩ = some (.int .i64 (K : Int))
  c1 : w.cell? ⟨b, o + 1, none⟩ = some (.int .i64 ((K : Int) + 1))
  c2 : w.cell? ⟨b, o + 2, none⟩ = some f.cv
  c3 : w.cell? ⟨b, o + 3, none⟩ = some f.kv
  c4 : w.cell? ⟨b, o + 4, none⟩ = some f.hv
  rc : ArgFlat w f.cv 2 f.nc (mkv 2 capG (K + 2) (f.nc * 2))
  rk : ArgFlat w f.kv 3 f.nk (mkv 3 numG (K + 2 + f.nc * 2) (f.nk * 3))
  rh : ArgFlat w f.hv 3 f.nh (mkv 3 numG (K + 2 + f.nc * 2 + f.nk * 3) (f.nh * 3))
def Few (fs : List FSh) (k : Nat) : Prop := fs.length ≤ 2000000 ∧ offK fs k fs.length ≤ 8000000
end Go.Proofs.Ytkmmojpfcklocaa
namespace Go.Proofs.Ytkmmojpfcklocaa
open Go.RowKit
set_option linter.unusedVariables false
def FApart (fs : List FSh) : Prop := ∀ (q1 q2 : Nat) (f1 f2 : FSh), fs[q1]? = some f1 → fs[q2]? = some f2 → q1 ≠ q2 → (f1.cv.ownBlock = none ∨ f1.cv.ownBlock ≠ f2.cv.ownBlock) ∧ (f1.kv.ownBlock = none ∨ f1.kv.ownBlock ≠ f2.kv.ownBlock) ∧ (f1.hv.ownBlock = none ∨ f1.hv.ownBlock ≠ f2.hv.ownBlock)
def FRow (w : World) (B g c : Nat) (fs : List FSh) (k j : Nat) : Prop := ∃ xs, w.ownsRow B 47 5 (.slice (some ⟨g, 0, none⟩) fs.length c) fs.length xs ∧ ∀ q f, fs[q]? = some f → xs[q * 5 + 2]? = some f.cv ∧ xs[q * 5 + 3]? = some f.kv ∧ xs[q * 5 + 4]? = some f.hv ∧ (q < j → xs[q * 5]? = some (.int .i64 (offK fs k q : Nat)) ∧ xs[q * 5 + 1]? = some (.int .i64 ((offK fs k q : Nat) + 1)))
def PRow (w : World) (B : Nat) (fs : List FSh) (k j s : Nat) : Prop := ∀ q f, fs[q]? = some f → ∃ y1 y2 y3, w.ownsRow B 90 2 f.cv f.nc y1 ∧ w.ownsRow B 49 3 f.kv f.nk y2 ∧ w.ownsRow B 92 3 f.hv f.nh y3 ∧ ((q < j ∨ q = j ∧ 0 < s) → y1 = mkv 2 capG (offK fs k q + 2) (f.nc * 2)) ∧ ((q < j ∨ q = j ∧ 1 < s) → y2 = mkv 3 numG (offK fs k q + 2 + f.nc * 2) (f.nk * 3)) ∧ ((q < j ∨ q = j ∧ 2 < s) → y3 = mkv 3 numG (offK fs k q + 2 + f.nc * 2 + f.nk * 3) (f.nh * 3))
theorem row_other {w w' : World} {B B2 e e2 k k2 n n2 : Nat} {v v2 : Value} {xs xs2 : List Value} (h : w.ownsRow B e k v n xs) (h2 : w.ownsRow B2 e2 k2 v2 n2 xs2) (hne : e2 ≠ e) (hg : w.grownBy w' v.ownBlock) : w'.ownsRow B2 e2 k2 v2 n2 xs2 := h2.kept hg (by
  cases hb : v2.ownBlock with
  | none => exact .inl rfl
  | some G =>
    refine .inr fun e1 => ?_
    obtain ⟨_, cs, fr, hG⟩ := own_type h2 hb
    exact row_apart h hG hne e1.symm)
theorem PRow.next {w : World} {B : Nat} {fs : List FSh} {k j : Nat} (h : PRow w B fs k j 3) : PRow w B fs k (j + 1) 0 := fun q f hq => by
  obtain ⟨y1, y2, y3, a1, a2, a3, b1, b2, b3⟩ := h q f hq
  exact ⟨y1, y2, y3, a1, a2, a3, fun hh => b1 (by omega), fun hh => b2 (by omega), fun hh => b3 (by omega)⟩
theorem PRow.put {w : World} {B g o : Nat} {fs : List FSh} {k j s : Nat} {u : Value} {cs : Array Value} {fr : Nat × Nat} (h : PRow w B fs k j s) (hG : w.heap[g]? = some (.cells cs 47 fr)) : PRow (w.setCell ⟨g, o, none⟩ u) B fs k j s := fun q f hq => by
  obtain ⟨y1, y2, y3, a1, a2, a3, b⟩ := h q f hq
  exact ⟨y1, y2, y3, row_put15 a1 (row_apart a1 hG (by decide)), row_put15 a2 (row_apart a2 hG (by decide)), row_put15 a3 (row_apart a3 hG (by decide)), b⟩
theorem PRow.markC {w w' : World} {B : Nat} {fs : List FSh} {k j : Nat} {f : FSh} (h : PRow w B fs k j 0) (hA : FApart fs) (hf : fs[j]? = some f) (hg : w.grownBy w' f.cv.ownBlock) (ho : w'.ownsRow B 90 2 f.cv f.nc (mkv 2 capG (offK fs k j + 2) (f.nc * 2))) : PRow w' B fs k j 1 := fun q f2 hq => by
  obtain ⟨z1, z2, z3, m1, m2, m3, _⟩ := h j f hf
  obtain ⟨y1, y2, y3, a1, a2, a3, b1, b2, b3⟩ := h q f2 hq
  by_cases hj : q = j
  · subst hj
    rw [hf] at hq
    injection hq with hq
    subst hq
    exact ⟨_, y2, y3, ho, row_other m1 a2 (by decide) hg, row_other m1 a3 (by decide) hg, fun _ => rfl, fun hh => b2 (by omega), fun hh => b3 (by omega)⟩
  · exact ⟨y1, y2, y3, a1.kept hg (((hA q j f2 f hq hf hj).1).imp id id), row_other m1 a2 (by decide) hg, row_other m1 a3 (by decide) hg, fun hh => b1 (by omega), fun hh => b2 (by omega), fun hh => b3 (by omega)⟩
theorem PRow.markK {w w' : World} {B : Nat} {fs : List FSh} {k j : Nat} {f : FSh} (h : PRow w B fs k j 1) (hA : FApart fs) (hf : fs[j]? = some f) (hg : w.grownBy w' f.kv.ownBlock) (ho : w'.ownsRow B 49 3 f.kv f.nk (mkv 3 numG (offK fs k j + 2 + f.nc * 2) (f.nk * 3))) : PRow w' B fs k j 2 := fun q f2 hq => by
  obtain ⟨z1, z2, z3, m1, m2, m3, _⟩ := h j f hf
  obtain ⟨y1, y2, y3, a1, a2, a3, b1, b2, b3⟩ := h q f2 hq
  by_cases hj : q = j
  · subst hj
    rw [hf] at hq
    injection hq with hq
    subst hq
    exact ⟨y1, _, y3, row_other m2 a1 (by decide) hg, ho, row_other m2 a3 (by decide) hg, fun hh => b1 (by omega), fun _ => rfl, fun hh => b3 (by omega)⟩
  · exact ⟨y1, y2, y3, row_other m2 a1 (by decide) hg, a2.kept hg (((hA q j f2 f hq hf hj).2.1).imp id id), row_other m2 a3 (by decide) hg, fun hh => b1 (by omega), fun hh => b2 (by omega), fun hh => b3 (by omega)⟩
theorem PRow.markH {w w' : World} {B : Nat} {fs : List FSh} {k j : Nat} {f : FSh} (h : PRow w B fs k j 2) (hA : FApart fs) (hf : fs[j]? = some f) (hg : w.grownBy w' f.hv.ownBlock) (ho : w'.ownsRow B 92 3 f.hv f.nh (mkv 3 numG (offK fs k j + 2 + f.nc * 2 + f.nk * 3) (f.nh * 3))) : PRow w' B fs k j 3 := fun q f2 hq => by
  obtain ⟨z1, z2, z3, m1, m2, m3, _⟩ := h j f hf
  obtain ⟨y1, y2, y3, a1, a2, a3, b1, b2, b3⟩ := h q f2 hq
  by_cases hj : q = j
  · subst hj
    rw [hf] at hq
    injection hq with hq
    subst hq
    exact ⟨y1, y2, _, row_other m3 a1 (by decide) hg, row_other m3 a2 (by decide) hg, ho, fun hh => b1 (by omega), fun hh => b2 (by omega), fun _ => rfl⟩
  · exact ⟨y1, y2, y3, row_other m3 a1 (by decide) hg, row_other m3 a2 (by decide) hg, a3.kept hg (((hA q j f2 f hq hf hj).2.2).imp id id), fun hh => b1 (by omega), fun hh => b2 (by omega), fun hh => b3 (by omega)⟩
def OthersKept (w w' : World) : Prop := ∀ (X : Nat) (cs : Array Value) (T : TypeId) (fr : Nat × Nat), T ≠ 47 → T ≠ 90 → T ≠ 49 → T ≠ 92 → w.heap[X]? = some (.cells cs T fr) → w'.heap[X]? = some (.cells cs T fr)
def Spared (Q : Nat → Prop) (w w' : World) : Prop := ∀ (X : Nat) (o : Obj), Q X → w.heap[X]? = some o → w'.heap[X]? = some o
theorem Spared.refl (Q : Nat → Prop) (w : World) : Spared Q w w := fun X o _ h => h
theorem Spared.row {Q : Nat → Prop} {w0 w w' : World} {r : Option Nat} (h : Spared Q w0 w) (hr : ∀ X, r = some X → ¬ Q X) (hg : w.grownBy w' r) : Spared Q w0 w' := fun X o hq hX => by
  have hX2 := h X o hq hX
  exact (hg.block X (box_lt hX2) (fun e1 => hr X e1.symm hq)).trans hX2
def NoneOf (Q : Nat → Prop) (fs : List FSh) : Prop := ∀ (q : Nat) (f : FSh), fs[q]? = some f → (∀ X, f.cv.ownBlock = some X → ¬ Q X) ∧ (∀ X, f.kv.ownBlock = some X → ¬ Q X) ∧ (∀ X, f.hv.ownBlock = some X → ¬ Q X)
theorem OthersKept.refl (w : World) : OthersKept w w := fun X cs T fr _ _ _ _ h => h
theorem OthersKept.row {w0 w w' : World} {B e k n : Nat} {v : Value} {xs : List Value} (h : OthersKept w0 w) (hr : w.ownsRow B e k v n xs) (he : e = 47 ∨ e = 90 ∨ e = 49 ∨ e = 92) (hg : w.grownBy w' v.ownBlock) : OthersKept w0 w' := fun X cs T fr t1 t2 t3 t4 hX => by
  have hX2 := h X cs T fr t1 t2 t3 t4 hX
  have hT : T ≠ e := by rcases he with rfl | rfl | rfl | rfl <;> assumption
  exact (hg.block X (box_lt hX2) (fun e1 => row_apart hr hX2 hT e1.symm)).trans hX2
theorem FRow.mark {w : World} {B g c : Nat} {fs : List FSh} {k j : Nat} {U : Nat} (h : FRow w B g c fs k j) (hj : j < fs.length) (hU : U = offK fs k j) : FRow ((w.setCell ⟨g, j * 5, none⟩ (.int .i64 (U : Int))).setCell ⟨g, j * 5 + 1, none⟩ (.int .i64 ((U : Int) + 1))) B g c fs k (j + 1) := by
  obtain ⟨xs, h1, h2⟩ := h
  have s0 := World.ownsRow.stored h1 (j * 5) (.int .i64 (U : Int))
  have s1 := World.ownsRow.stored s0.1 (j * 5 + 1) (.int .i64 ((U : Int) + 1))
  have hl := h1.1
  refine ⟨_, s1.1, fun q f hq => ?_⟩
  obtain ⟨a1, a2, a3, a4⟩ := h2 q f hq
  refine ⟨?_, ?_, ?_, fun hlt => ?_⟩
  · rw [List.getElem?_set_ne (by omega), List.getElem?_set_ne (by omega)]; exact a1
  · rw [List.getElem?_set_ne (by omega), List.getElem?_set_ne (by omega)]; exact a2
  · rw [List.getElem?_set_ne (by omega), List.getElem?_set_ne (by omega)]; exact a3
  · by_cases e : q = j
    · subst e
      rw [← hU]
      refine ⟨?_, ?_⟩
      · rw [List.getElem?_set_ne (by omega), List.getElem?_set_self (by omega)]
      · rw [List.getElem?_set_self (by simp only [List.length_set]; omega)]
    · obtain ⟨b1, b2⟩ := a4 (by omega)
      refine ⟨?_, ?_⟩
      · rw [List.getElem?_set_ne (by omega), List.getElem?_set_ne (by omega)]; exact b1
      · rw [List.getElem?_set_ne (by omega), List.getElem?_set_ne (by omega)]; exact b2
theorem FRow.other {w w' : World} {B B2 e k2 n g c : Nat} {fs : List FSh} {k j : Nat} {v : Value} {ys : List Value} (h : FRow w B g c fs k j) (hr : w.ownsRow B2 e k2 v n ys) (he : 47 ≠ e) (hg : w.grownBy w' v.ownBlock) : FRow w' B g c fs k j := by
  obtain ⟨xs, h1, h2⟩ := h
  exact ⟨xs, row_other hr h1 he hg, h2⟩
theorem FRow.heap {w : World} {B g c : Nat} {fs : List FSh} {k j : Nat} (h : FRow w B g c fs k j) : ∃ cs, w.heap[g]? = some (.cells cs 47 (0, 0)) := by
  obtain ⟨xs, h1, _⟩ := h
  rcases h1.2 with ⟨e1, _⟩ | ⟨g', cap, cur, e1, _, hg, _⟩
  · simp at e1
  · simp only [Value.slice.injEq, Option.some.injEq, Addr.mk.injEq] at e1
    obtain ⟨⟨rfl, _⟩, _⟩ := e1
    exact ⟨cur, hg⟩
theorem FRow.cells {w : World} {B g c : Nat} {fs : List FSh} {k j q : Nat} {f : FSh} (h : FRow w B g c fs k j) (hq : fs[q]? = some f) : w.cell? ⟨g, q * 5 + 2, none⟩ = some f.cv ∧ w.cell? ⟨g, q * 5 + 3, none⟩ = some f.kv ∧ w.cell? ⟨g, q * 5 + 4, none⟩ = some f.hv := by
  obtain ⟨xs, h1, h2⟩ := h
  obtain ⟨a1, a2, a3, _⟩ := h2 q f hq
  have hc := h1.cells (g := g) rfl
  have hadd : ∀ j, (⟨g, 0, none⟩ : Addr).add j = ⟨g, j, none⟩ := fun j => by unfold Addr.add; split <;> simp_all
  refine ⟨?_, ?_, ?_⟩
  · rw [← hadd]; exact hc _ _ a1
  · rw [← hadd]; exact hc _ _ a2
  · rw [← hadd]; exact hc _ _ a3
set_option maxHeartbeats 8000000 in
set_option maxRecDepth 100000 in
theorem markFuncS_s (Q : Nat → Prop) (B g c : Nat) (fs : List FSh) (k : Nat) (w : World) (hq1 : ¬ Q g) (hq2 : NoneOf Q fs) (hf : Few fs k) (hA : FApart fs) (hn0 : 0 < fs.length) (hR : FRow w B g c fs k 0) (hP : PRow w B fs k 0 0) :
    Calls Try.prog 25 #[.slice (some ⟨g, 0, none⟩) fs.length c, .int .i64 k] w fun e w' => e = .returned (.int .i64 (offK fs k fs.length : Nat)) ∧ FRow w' B g c fs k fs.length ∧ PRow w' B fs k fs.length 0 ∧ Below B w w' ∧ OthersKept w w' ∧ Spared Q w w' := by
  obtain ⟨hn, hK⟩ := hf
  obtain ⟨n, en⟩ : ∃ n, fs.length = n := ⟨_, rfl⟩
  have EN : Hid (fs.length = n) := en
  rw [en] at hn hK hn0 ⊢
  have HK : Hid (∀ q, offK fs k q ≤ 8000000) := fun q => by
    have := offK_le fs k q
    rw [en] at this
    omega
  obtain ⟨Z, hZ⟩ : ∃ z, offK fs k n = z := ⟨_, rfl⟩
  have HZ : Hid (offK fs k n = Z) := hZ
  rw [hZ]
  have HA : Hid (FApart fs) := hA
  have HR : Hid (FRow w B g c fs k 0) := hR
  have HP : Hid (PRow w B fs k 0 0) := hP
  have HQ1 : Hid (∀ X, (some g : Option Nat) = some X → ¬ Q X) := fun X e => by injection e with e; subst e; exact hq1
  have HQ2 : Hid (NoneOf Q fs) := hq2
  clear hq1 hq2
  clear en hZ hK hA hR hP
  go_enter Try.func25, Try.ntmps25
  go_wp2
  go_loopw [1, 5] (fun y j wr => ∃ (i U : Nat), i ≤ n ∧ y = .int .i64 (U : Int) ∧ j = .int .i64 i ∧ Hid (U = offK fs k i) ∧ Hid (FRow wr B g c fs k i) ∧ Hid (PRow wr B fs k i 0) ∧ Hid (Below B w wr) ∧ Hid (OthersKept w wr) ∧ Hid (Spared Q w wr)) (fun _ j _ => n - (intOf j).toNat)
  case atStart => exact ⟨0, k, Nat.zero_le _, rfl, rfl, (offK_0 fs k).symm, HR, HP, Below.refl _ _, OthersKept.refl _, Spared.refl _ _⟩
  case round =>
    clear HR HP
    obtain ⟨i, U, hi, rfl, rfl, HU, HR, HP, HB, HT, HS⟩ := hrel
    have hU : U ≤ 8000000 := by rw [HU.out]; exact HK.out i
    by_cases hin : i < n
    · obtain ⟨f, hfq⟩ : ∃ f, fs[i]? = some f := ⟨_, List.getElem?_eq_getElem (by have := EN.out; omega)⟩
      have HFQ : Hid (fs[i]? = some f) := hfq
      have hmore := offK_more (k := k) hfq
      have hle := HK.out (i + 1)
      rw [hmore, ← HU.out] at hle
      unfold FSh.wid at hle
      have HU2 : Hid (U + 2 + f.nc * 2 + f.nk * 3 + f.nh * 3 = offK fs k (i + 1)) := by
        show _ = _
        rw [hmore, ← HU.out]
        unfold FSh.wid
        omega
      obtain ⟨xs, hrow, hxs⟩ := HR.out
      have hrow' := hrow
      rw [EN.out] at hrow'
      obtain ⟨⟨u0, hu0⟩, hf0⟩ := row_cell hrow' (i * 5) (by omega)
      obtain ⟨⟨u1, hu1⟩, hf1⟩ := row_cell hrow' (i * 5 + 1) (by omega)
      obtain ⟨a1, a2, a3, _⟩ := hxs i f hfq
      obtain ⟨cs, hgh⟩ := HR.out.heap
      have hBg : B ≤ g := (own_type hrow rfl).1
      have HR2 : Hid (FRow _ B g c fs k (i + 1)) := HR.out.mark (U := U) (by rw [EN.out]; exact hin) HU.out
      have s0 := World.ownsRow.stored hrow (i * 5) (.int .i64 (U : Int))
      have s1 := World.ownsRow.stored s0.1 (i * 5 + 1) (.int .i64 ((U : Int) + 1))
      have hgh2 := heap_setCell_same wr g (i * 5) cs 47 (.int .i64 (U : Int)) hgh
      have HP2 : Hid (PRow _ B fs k i 0) := (HP.out.put (o := i * 5) (u := .int .i64 (U : Int)) hgh).put (o := i * 5 + 1) (u := .int .i64 ((U : Int) + 1)) hgh2
      have HB2 : Hid (Below B w _) := (HB.out.setCell (p := ⟨g, i * 5, none⟩) hBg (.int .i64 (U : Int))).setCell (p := ⟨g, i * 5 + 1, none⟩) hBg (.int .i64 ((U : Int) + 1))
      have HT2 : Hid (OthersKept w _) := (HT.out.row hrow (.inl rfl) s0.2).row s0.1 (.inl rfl) s1.2
      have HS2 : Hid (Spared Q w _) := (HS.out.row HQ1.out s0.2).row HQ1.out s1.2
      have HQ3 : Hid ((∀ X, f.cv.ownBlock = some X → ¬ Q X) ∧ (∀ X, f.kv.ownBlock = some X → ¬ Q X) ∧ (∀ X, f.hv.ownBlock = some X → ¬ Q X)) := HQ2.out i f hfq
      have hii : (i : Int) < (n : Int) := by omega
      have hi0 : (0 : Int) ≤ (i : Int) := by omega
      obtain ⟨W2, hW2⟩ : ∃ W, (wr.setCell ⟨g, i * 5, none⟩ (.int .i64 (U : Int))).setCell ⟨g, i * 5 + 1, none⟩ (.int .i64 ((U : Int) + 1)) = W := ⟨_, rfl⟩
      rw [hW2] at HR2 HP2 HB2 HT2 HS2
      have HW2 : Hid (_ = W2) := hW2
      clear hW2 s0 s1 hgh2 hgh hmore HR HP HB HT HS hrow hrow' hxs a1 a2 a3 hfq
      go_upto_region 8 with fail
      rw [HW2.out]
      clear HW2 hu0 hu1 hf0 hf1
      obtain ⟨f1, f2, f3, nc, nk, nh⟩ := f
      simp only at hle HU2
      have HQ4 : Hid ((∀ X, f1.ownBlock = some X → ¬ Q X) ∧ (∀ X, f2.ownBlock = some X → ¬ Q X) ∧ (∀ X, f3.ownBlock = some X → ¬ Q X)) := HQ3.out
      clear HQ3
      obtain ⟨y1, y2, y3, m1, m2, m3, _⟩ := HP2.out i _ HFQ.out
      have m1' : W2.ownsRow B 90 2 f1 nc y1 := m1
      have m2' : W2.ownsRow B 49 3 f2 nk y2 := m2
      have m3' : W2.ownsRow B 92 3 f3 nh y3 := m3
      clear m1 m2 m3
      obtain ⟨x1, d1, rfl⟩ := row_slice m1'
      obtain ⟨x2, d2, rfl⟩ := row_slice m2'
      obtain ⟨x3, d3, rfl⟩ := row_slice m3'
      obtain ⟨cs2, hg2⟩ := HR2.out.heap
      have hsz2 : B ≤ W2.heap.size := Nat.le_of_lt (Nat.lt_of_le_of_lt hBg (box_lt hg2))
      obtain ⟨c2, _, _⟩ := HR2.out.cells HFQ.out
      have c2' : W2.cell? ⟨g, i * 5 + 2, none⟩ = some (.slice x1 nc d1) := c2
      have q1 := markCapS_f B _ nc (U + 2) y1 W2 m1' (by omega) (by omega)
      rw [show (((U + 2 : Nat) : Nat) : Int) = (U : Int) + 1 + 1 by omega] at q1
      clear c2 hg2
      go_wp2_with fail
      refine q1.mono ?_
      rintro e w3 ⟨rfl, o3, g3⟩
      have HR3 : Hid (FRow w3 B g c fs k (i + 1)) := HR2.out.other m1' (by decide) g3
      have HP3 : Hid (PRow w3 B fs k i 1) := HP2.out.markC HA.out HFQ.out g3 (by rw [← HU.out]; exact o3)
      have HB3 : Hid (Below B w w3) := HB2.out.grown g3 hsz2 (fun Y hY => (own_type m1' hY).1)
      have HT3 : Hid (OthersKept w w3) := HT2.out.row m1' (.inr (.inl rfl)) g3
      have HS3 : Hid (Spared Q w w3) := HS2.out.row HQ4.out.1 g3
      have hsz3 : B ≤ w3.heap.size := Nat.le_trans hsz2 g3.size
      have n2' := row_other m1' m2' (by decide) g3
      have n3' := row_other m1' m3' (by decide) g3
      obtain ⟨_, c3, _⟩ := HR3.out.cells HFQ.out
      have c3' : w3.cell? ⟨g, i * 5 + 3, none⟩ = some (.slice x2 nk d2) := c3
      have q2 := markInsS_f B _ nk (U + 2 + nc * 2) y2 w3 n2' (by omega) (by omega)
      obtain ⟨V1, hV1⟩ : ∃ V, U + 2 + nc * 2 = V := ⟨_, rfl⟩
      rw [hV1] at q2
      have HV1 : Hid (U + 2 + nc * 2 = V1) := hV1
      rw [hV1]
      clear c3 c2' q1 o3 g3 m1' m2' m3' HR2 HP2 HB2 HT2 HS2 hsz2
      go_wp2_with fail
      refine q2.mono ?_
      rintro e w4 ⟨rfl, o4, g4⟩
      have HR4 : Hid (FRow w4 B g c fs k (i + 1)) := HR3.out.other n2' (by decide) g4
      have HP4 : Hid (PRow w4 B fs k i 2) := HP3.out.markK HA.out HFQ.out g4 (by rw [← HU.out, HV1.out]; exact o4)
      have HB4 : Hid (Below B w w4) := HB3.out.grown g4 hsz3 (fun Y hY => (own_type n2' hY).1)
      have HT4 : Hid (OthersKept w w4) := HT3.out.row n2' (.inr (.inr (.inl rfl))) g4
      have HS4 : Hid (Spared Q w w4) := HS3.out.row HQ4.out.2.1 g4
      have hsz4 : B ≤ w4.heap.size := Nat.le_trans hsz3 g4.size
      have k3' := row_other n2' n3' (by decide) g4
      obtain ⟨_, _, c4⟩ := HR4.out.cells HFQ.out
      have c4' : w4.cell? ⟨g, i * 5 + 4, none⟩ = some (.slice x3 nh d3) := c4
      have q3 := markHandlerS_f B _ nh (V1 + nk * 3) y3 w4 k3' (by omega) (by omega)
      obtain ⟨V2, hV2⟩ : ∃ V, V1 + nk * 3 = V := ⟨_, rfl⟩
      rw [hV2] at q3
      have HV2 : Hid (V1 + nk * 3 = V2) := hV2
      rw [hV2]
      clear c4 c3' q2 o4 g4 n2' n3' HR3 HP3 HB3 HT3 HS3 hsz3
      go_wp2_with fail
      refine q3.mono ?_
      rintro e w5 ⟨rfl, o5, g5⟩
      have HR5 : Hid (FRow w5 B g c fs k (i + 1)) := HR4.out.other k3' (by decide) g5
      have HP5 : Hid (PRow w5 B fs k (i + 1) 0) := (HP4.out.markH HA.out HFQ.out g5 (by rw [← HU.out, HV1.out, HV2.out]; exact o5)).next
      have HB5 : Hid (Below B w w5) := HB4.out.grown g5 hsz4 (fun Y hY => (own_type k3' hY).1)
      have HT5 : Hid (OthersKept w w5) := HT4.out.row k3' (.inr (.inr (.inr rfl))) g5
      have HS5 : Hid (Spared Q w w5) := HS4.out.row HQ4.out.2.2 g5
      have HU3 : Hid (V2 + nh * 3 = offK fs k (i + 1)) := by
        show _ = _
        rw [← HU2.out, ← HV2.out, ← HV1.out]
      obtain ⟨V3, hV3⟩ : ∃ V, V2 + nh * 3 = V := ⟨_, rfl⟩
      rw [hV3] at HU3 ⊢
      clear c4' q3 o5 g5 k3' HR4 HP4 HB4 HT4 HS4 HQ4 hsz4 hV3 hV2 hV1
      go_wp2
      go_roundw
      case rel => exact ⟨i + 1, V3, by omega, rfl, by go_num, HU3, HR5.out, HP5.out, HB5.out, HT5.out, HS5.out⟩
      case measure => simp [intOf]; omega
    · have e : i = n := by omega
      subst e
      have hUZ : U = Z := by rw [HU.out, HZ.out]
      subst hUZ
      go_wp2
      go_ret
      exact ⟨rfl, HR.out, HP.out, HB.out, HT.out, HS.out⟩
end Go.Proofs.Ytkmmojpfcklocaa
namespace Go.Proofs.Ytkmmojpfcklocaa
open Go.RowKit
theorem cells_new (w : World) (ys : List Value) (t : TypeId) : ∀ j u, ys[j]? = some u → (w.alloc (.cells ys.toArray t)).cell? ((⟨w.heap.size, 0, none⟩ : Addr).add j) = some u := by
  intro j u hj
  have hp : (⟨w.heap.size, 0, none⟩ : Addr).add j = ⟨w.heap.size, j, none⟩ := by unfold Addr.add; split <;> simp_all
  rw [hp]
  have h := heap_alloc_new w (.cells ys.toArray t)
  unfold World.cell?
  simp only [h]
  simpa using hj
end Go.Proofs.Ytkmmojpfcklocaa
namespace Go.Proofs.Ytkmmojpfcklocaa
open Go.RowKit
def decMore (m : Nat) : List UInt8 := if m = 0 then [] else Lib.decDigits m
theorem decMore_zero : decMore 0 = [] := rfl
theorem decMore_step {m : Nat} (h : m ≠ 0) : decMore m = decMore (m / 10) ++ [UInt8.ofNat (48 + m % 10)] := by
  unfold decMore
  rw [if_neg h]
  by_cases h10 : m < 10
  · rw [Lib.decDigits, dif_pos h10, if_pos (by omega), show m % 10 = m by omega]; rfl
  · rw [Lib.decDigits, dif_neg h10, if_neg (by omega)]
theorem decMore_pos {m : Nat} (h : m ≠ 0) : decMore m = Lib.decDigits m := if_neg h
def DecAt (u m : Nat) (l : List UInt8) : Prop := decMore m ++ l = Lib.decDigits u ∧ m ≤ u ∧ (1 ≤ m → 2 * l.length + m ≤ u) ∧ (m = 0 → 2 * l.length ≤ u + 1)
theorem decAt_first {u : Nat} (h : u ≠ 0) : DecAt u u [] := ⟨by rw [decMore_pos h, List.append_nil], Nat.le_refl _, fun _ => by simp, fun e => absurd e h⟩
theorem decAt_step {u m : Nat} {l : List UInt8} (hm : m ≠ 0) (h : DecAt u m l) : DecAt u (m / 10) (UInt8.ofNat (48 + m % 10) :: l) := by
  obtain ⟨h1, h2, h3, h4⟩ := h
  refine ⟨?_, by omega, fun _ => ?_, fun _ => ?_⟩
  · rw [← h1, decMore_step hm, List.append_assoc]; rfl
  · have := h3 (by omega)
    rw [List.length_cons]; omega
  · have := h3 (by omega)
    rw [List.length_cons]; omega
theorem decAt_len {u m : Nat} {l : List UInt8} (h : DecAt u m l) : 2 * l.length ≤ u + 1 := by
  obtain ⟨_, _, h3, h4⟩ := h
  by_cases e : m = 0
  · exact h4 e
  · have := h3 (by omega); omega
theorem decAt_last {u : Nat} {l : List UInt8} (h : DecAt u 0 l) : l = Lib.decDigits u := by
  have := h.1
  rwa [decMore_zero, List.nil_append] at this
end Go.Proofs.Ytkmmojpfcklocaa
namespace Go.Proofs.Ytkmmojpfcklocaa
open Go.RowKit
set_option linter.unusedVariables false
theorem conv_new {P : Program} (w : World) {e src dst : TypeId} (y : Int) (hs : P.underlying src = some (.slice e)) (he : P.underlying e = some (.int .u8)) (hd : P.underlying dst = some .string) :
    (convert src dst (.slice (some ⟨w.heap.size, 0, none⟩) 1 1)).run P (w.alloc (.cells #[.int .u8 y] e)) = .ok (.string (strOfNums [y])) (w.alloc (.cells #[.int .u8 y] e)) := by
  refine run_convert_bytes_arg _ src e hs he w.heap.size 0 1 1 [y] rfl (fun i hi => ?_) dst hd
  obtain rfl : i = 0 := by omega
  exact cells_new w [.int .u8 y] e 0 _ rfl
end Go.Proofs.Ytkmmojpfcklocaa
namespace Go.Proofs.Ytkmmojpfcklocaa
open Go.RowKit Go.Sort
set_option linter.unusedVariables false
def markOf (k : Nat) : ByteArray := ⟨(109 :: Lib.decDigits k).toArray⟩
theorem str_byte (a : Nat) (h : a < 256) (l : List UInt8) : strOfNums [(a : Int)] ++ (⟨l.toArray⟩ : ByteArray) = ⟨(UInt8.ofNat a :: l).toArray⟩ := by
  apply ByteArray.ext
  rw [ByteArray.data_append]
  simp [strOfNums]
set_option maxHeartbeats 1000000 in
set_option maxRecDepth 100000 in
theorem markText_any (u : Nat) (w : World) (h0 : 1 ≤ u) (hu : u ≤ 1000000000) :
    Calls Try.prog 42 #[.int .i64 u] w fun e w' => e = .returned (.string (markOf u)) ∧ Below w.heap.size w w' := by
  go_enter Try.func42, Try.ntmps42
  go_wp2
  go_loopw [0, 3] (fun x v wr => ∃ (m : Nat) (l : List UInt8), x = .int .i64 m ∧ v = .string ⟨l.toArray⟩ ∧ DecAt u m l ∧ Below w.heap.size w wr) (fun x _ _ => (intOf x).toNat)
  case atStart => exact ⟨u, [], rfl, rfl, decAt_first (by omega), Below.refl _ _⟩
  case round =>
    obtain ⟨m, l, rfl, rfl, hD, hbel⟩ := hrel
    have hsz := hbel.size
    have hlen := decAt_len hD
    have hmu : m ≤ u := hD.2.1
    have HD : Hid (DecAt u m l) := hD
    clear hD
    by_cases hm : m = 0
    · subst hm
      have E : Hid (l = Lib.decDigits u) := decAt_last HD.out
      go_wp2
      go_ret
      exact ⟨by rw [markOf, ← E.out]; rfl, hbel⟩
    · have hcv := fun y => conv_new (P := Try.prog) wr y Try.underlying116 Try.underlying5 Try.underlying9
      have hz : (strOfNums [48 + (m : Int) % 10]).size = 1 := by rw [strOfNums_size]; rfl
      go_wp2
      go_roundw
      case rel =>
        refine ⟨m / 10, UInt8.ofNat (48 + m % 10) :: l, by go_num, ?_, decAt_step hm HD.out, hbel.alloc hsz _⟩
        have := str_byte (48 + m % 10) (by omega) l
        rw [← this]
        congr 3
      case measure => simp [intOf]; omega
theorem markText_at {x : Int} (N : Nat) (hx : x = N) (w : World) (h0 : 1 ≤ N) (hu : N ≤ 1000000000) :
    Calls Try.prog 42 #[.int .i64 x] w fun e w' => e = .returned (.string (markOf N)) ∧ Below w.heap.size w w' := by
  subst hx; exact markText_any N w h0 hu
end Go.Proofs.Ytkmmojpfcklocaa
