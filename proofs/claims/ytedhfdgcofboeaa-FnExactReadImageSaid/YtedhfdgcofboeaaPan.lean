/-
  Part 14 of what is proved of drawn right trees.
-/
import Derived.Test.YtedhfdgcofboeaaPah
import Derived.Test.YtedhfdgcofboeaaPad

namespace Go.Proofs.Ytedhfdgcofboeaa
open Go.RowKit
set_option linter.unusedVariables false
def mkv (s : Nat) (g : Nat → Nat → Value) (k m : Nat) : List Value := (List.range m).map (fun q => g (q % s) (k + q))
theorem mkv_len (s : Nat) (g : Nat → Nat → Value) (k m : Nat) : (mkv s g k m).length = m := by simp [mkv]
theorem mkv_at {s : Nat} {g : Nat → Nat → Value} {k m q : Nat} (h : q < m) : (mkv s g k m)[q]? = some (g (q % s) (k + q)) := by simp [mkv, h]
theorem mkv_is {s : Nat} {g : Nat → Nat → Value} {k m : Nat} {xs : List Value} (hl : xs.length = m) (h : ∀ q, q < m → xs[q]? = some (g (q % s) (k + q))) : xs = mkv s g k m := by
  apply List.ext_getElem?
  intro q
  rcases Nat.lt_or_ge q m with h1 | h1
  · rw [h q h1, mkv_at h1]
  · rw [List.getElem?_eq_none (by omega), List.getElem?_eq_none (by rw [mkv_len]; exact h1)]
theorem grown_is (w : World) (r : Option Nat) : w.grownBy w r := ⟨rfl, rfl, rfl, Nat.le_refl _, fun _ _ _ => rfl⟩
def numG (c u : Nat) : Value := .int .i64 (u : Int)
def capG (c u : Nat) : Value := if c = 0 then .bool ((u : Int) % 3 == 0) else .int .i64 (u : Int)
set_option maxHeartbeats 1000000 in
set_option maxRecDepth 100000 in
theorem markInsS_f (B : Nat) (v : Value) (n k : Nat) (ys : List Value) (w : World) (hv : w.ownsRow B 75 3 v n ys) (hl : n ≤ 8000000) (hk : k ≤ 1000000000) :
    Calls Try.prog 62 #[v, .int .i64 k] w fun e w' => e = .returned (.int .i64 ((k + n * 3 : Nat) : Int)) ∧ w'.ownsRow B 75 3 v n (mkv 3 numG k (n * 3)) ∧ w.grownBy w' v.ownBlock := by
  obtain ⟨x, c, rfl⟩ := row_slice hv
  have hm : n ≤ 9223372036854775807 := by omega
  by_cases h0 : n = 0
  · subst h0
    have hE : ys = mkv 3 numG k (0 * 3) := mkv_is (by have := hv.1; omega) (fun q hq => by omega)
    rw [hE] at hv
    clear hE
    go_enter Try.func62, Try.ntmps62
    go_wp2
    go_loop [1, 5] (fun y i => y = .int .i64 k ∧ i = .int .i64 0) (fun _ _ => 0)
    case atStart => exact ⟨rfl, rfl⟩
    case round =>
      obtain ⟨rfl, rfl⟩ := hrel
      go_wp2
      go_ret
      exact ⟨by simp, hv, grown_is _ _⟩
  obtain ⟨g, rfl⟩ : ∃ g, x = some ⟨g, 0, none⟩ := by
    rcases hv.2 with ⟨e1, e2⟩ | ⟨g, cap, cur, e1, _⟩
    · exact absurd e2 h0
    · simp only [Value.slice.injEq] at e1
      exact ⟨g, e1.1⟩
  have HV : Hid _ := hv
  clear hv
  go_enter Try.func62, Try.ntmps62
  go_wp2
  go_loopw [1, 5] (fun y j wr => ∃ (i U : Nat) (xs : List Value), i ≤ n ∧ y = .int .i64 (U : Int) ∧ j = .int .i64 i ∧ Hid (U = k + i * 3) ∧ U ≤ 1100000000 ∧ Hid (∀ q, q < i * 3 → xs[q]? = some (numG (q % 3) (k + q))) ∧ Hid (wr.ownsRow B 75 3 (.slice (some ⟨g, 0, none⟩) n c) n xs) ∧ w.grownBy wr (some g)) (fun _ j _ => n - (intOf j).toNat)
  case atStart => exact ⟨0, k, ys, Nat.zero_le _, rfl, rfl, by show k = _; omega, by omega, fun q hq => by omega, HV, grown_is _ _⟩
  case round =>
    obtain ⟨i, U, xs, hi, rfl, rfl, HU, hU, HY, HO, hgr⟩ := hrel
    by_cases hin : i < n
    · have hii : (i : Int) < (n : Int) := by omega
      have hi0 : (0 : Int) ≤ (i : Int) := by omega
      have hxl : xs.length = n * 3 := HO.out.1
      obtain ⟨⟨u0, hu0⟩, hf0⟩ := row_cell HO.out (i * 3) (by have : i * 3 + 3 ≤ n * 3 := (by have := Nat.mul_le_mul_right 3 (show i + 1 ≤ n by omega); omega); omega)
      obtain ⟨⟨u1, hu1⟩, hf1⟩ := row_cell HO.out (i * 3 + 1) (by have : i * 3 + 3 ≤ n * 3 := (by have := Nat.mul_le_mul_right 3 (show i + 1 ≤ n by omega); omega); omega)
      obtain ⟨⟨u2, hu2⟩, hf2⟩ := row_cell HO.out (i * 3 + 2) (by have : i * 3 + 3 ≤ n * 3 := (by have := Nat.mul_le_mul_right 3 (show i + 1 ≤ n by omega); omega); omega)
      have s0 := World.ownsRow.stored HO.out (i * 3) (.int .i64 (U : Int))
      have s1 := World.ownsRow.stored s0.1 (i * 3 + 1) (.int .i64 ((U : Int) + 1))
      have s2 := World.ownsRow.stored s1.1 (i * 3 + 2) (.int .i64 ((U : Int) + 1 + 1))
      have HS : Hid ((((wr.setCell ⟨g, i * 3, none⟩ (.int .i64 (U : Int))).setCell ⟨g, i * 3 + 1, none⟩ (.int .i64 ((U : Int) + 1))).setCell ⟨g, i * 3 + 2, none⟩ (.int .i64 ((U : Int) + 1 + 1))).ownsRow B 75 3 (.slice (some ⟨g, 0, none⟩) n c) n (((xs.set (i * 3) (.int .i64 (U : Int))).set (i * 3 + 1) (.int .i64 ((U : Int) + 1))).set (i * 3 + 2) (.int .i64 ((U : Int) + 1 + 1))) ∧ w.grownBy (((wr.setCell ⟨g, i * 3, none⟩ (.int .i64 (U : Int))).setCell ⟨g, i * 3 + 1, none⟩ (.int .i64 ((U : Int) + 1))).setCell ⟨g, i * 3 + 2, none⟩ (.int .i64 ((U : Int) + 1 + 1))) (some g)) := ⟨s2.1, (((hgr).trans s0.2).trans s1.2).trans s2.2⟩
      have HY2 : Hid (∀ q, q < (i + 1) * 3 → (((xs.set (i * 3) (.int .i64 (U : Int))).set (i * 3 + 1) (.int .i64 ((U : Int) + 1))).set (i * 3 + 2) (.int .i64 ((U : Int) + 1 + 1)))[q]? = some (numG (q % 3) (k + q))) := fun q hq => by
        have hUU := HU.out
        have hb : i * 3 + 3 ≤ n * 3 := by have := Nat.mul_le_mul_right 3 (show i + 1 ≤ n by omega); omega
        rcases Nat.lt_or_ge q (i * 3) with h1 | h1
        · rw [List.getElem?_set_ne (by omega)]; rw [List.getElem?_set_ne (by omega)]; rw [List.getElem?_set_ne (by omega)]; exact HY.out q h1
        · have hq3 : q = i * 3 ∨ q = i * 3 + 1 ∨ q = i * 3 + 2 := by omega
          rcases hq3 with rfl | rfl | rfl
          · rw [List.getElem?_set_ne (by omega), List.getElem?_set_ne (by omega), List.getElem?_set_self (by (try simp only [List.length_set]); omega)]
            congr 1
            show Value.int .i64 _ = Value.int .i64 _; congr 1; omega
          · rw [List.getElem?_set_ne (by omega), List.getElem?_set_self (by (try simp only [List.length_set]); omega)]
            congr 1
            show Value.int .i64 _ = Value.int .i64 _; congr 1; omega
          · rw [List.getElem?_set_self (by (try simp only [List.length_set]); omega)]
            congr 1
            show Value.int .i64 _ = Value.int .i64 _; congr 1; omega
      have hU2 : U + 3 ≤ 1100000000 := by
        have := HU.out
        have : i * 3 + 3 ≤ n * 3 := by have := Nat.mul_le_mul_right 3 (show i + 1 ≤ n by omega); omega
        omega
      have HU2 : Hid (U + 3 = k + (i + 1) * 3) := by
        have := HU.out
        show _ = _
        omega
      clear s0 s1 s2 hxl
      go_wp2
      go_roundw
      case rel => exact ⟨i + 1, U + 3, _, by omega, by go_num, by go_num, HU2, hU2, HY2, HS.out.1, HS.out.2⟩
      case measure => simp [intOf]; omega
    · have e : i = n := by omega
      subst e
      have hE : xs = mkv 3 numG k (i * 3) := mkv_is HO.out.1 HY.out
      have hO := HO.out
      rw [hE] at hO
      have hUU := HU.out
      subst hUU
      clear HY HO HV hE
      go_wp2
      go_ret
      exact ⟨rfl, hO, hgr⟩
set_option maxHeartbeats 1000000 in
set_option maxRecDepth 100000 in
theorem markHandlerS_f (B : Nat) (v : Value) (n k : Nat) (ys : List Value) (w : World) (hv : w.ownsRow B 77 3 v n ys) (hl : n ≤ 8000000) (hk : k ≤ 1000000000) :
    Calls Try.prog 63 #[v, .int .i64 k] w fun e w' => e = .returned (.int .i64 ((k + n * 3 : Nat) : Int)) ∧ w'.ownsRow B 77 3 v n (mkv 3 numG k (n * 3)) ∧ w.grownBy w' v.ownBlock := by
  obtain ⟨x, c, rfl⟩ := row_slice hv
  have hm : n ≤ 9223372036854775807 := by omega
  by_cases h0 : n = 0
  · subst h0
    have hE : ys = mkv 3 numG k (0 * 3) := mkv_is (by have := hv.1; omega) (fun q hq => by omega)
    rw [hE] at hv
    clear hE
    go_enter Try.func63, Try.ntmps63
    go_wp2
    go_loop [1, 5] (fun y i => y = .int .i64 k ∧ i = .int .i64 0) (fun _ _ => 0)
    case atStart => exact ⟨rfl, rfl⟩
    case round =>
      obtain ⟨rfl, rfl⟩ := hrel
      go_wp2
      go_ret
      exact ⟨by simp, hv, grown_is _ _⟩
  obtain ⟨g, rfl⟩ : ∃ g, x = some ⟨g, 0, none⟩ := by
    rcases hv.2 with ⟨e1, e2⟩ | ⟨g, cap, cur, e1, _⟩
    · exact absurd e2 h0
    · simp only [Value.slice.injEq] at e1
      exact ⟨g, e1.1⟩
  have HV : Hid _ := hv
  clear hv
  go_enter Try.func63, Try.ntmps63
  go_wp2
  go_loopw [1, 5] (fun y j wr => ∃ (i U : Nat) (xs : List Value), i ≤ n ∧ y = .int .i64 (U : Int) ∧ j = .int .i64 i ∧ Hid (U = k + i * 3) ∧ U ≤ 1100000000 ∧ Hid (∀ q, q < i * 3 → xs[q]? = some (numG (q % 3) (k + q))) ∧ Hid (wr.ownsRow B 77 3 (.slice (some ⟨g, 0, none⟩) n c) n xs) ∧ w.grownBy wr (some g)) (fun _ j _ => n - (intOf j).toNat)
  case atStart => exact ⟨0, k, ys, Nat.zero_le _, rfl, rfl, by show k = _; omega, by omega, fun q hq => by omega, HV, grown_is _ _⟩
  case round =>
    obtain ⟨i, U, xs, hi, rfl, rfl, HU, hU, HY, HO, hgr⟩ := hrel
    by_cases hin : i < n
    · have hii : (i : Int) < (n : Int) := by omega
      have hi0 : (0 : Int) ≤ (i : Int) := by omega
      have hxl : xs.length = n * 3 := HO.out.1
      obtain ⟨⟨u0, hu0⟩, hf0⟩ := row_cell HO.out (i * 3) (by have : i * 3 + 3 ≤ n * 3 := (by have := Nat.mul_le_mul_right 3 (show i + 1 ≤ n by omega); omega); omega)
      obtain ⟨⟨u1, hu1⟩, hf1⟩ := row_cell HO.out (i * 3 + 1) (by have : i * 3 + 3 ≤ n * 3 := (by have := Nat.mul_le_mul_right 3 (show i + 1 ≤ n by omega); omega); omega)
      obtain ⟨⟨u2, hu2⟩, hf2⟩ := row_cell HO.out (i * 3 + 2) (by have : i * 3 + 3 ≤ n * 3 := (by have := Nat.mul_le_mul_right 3 (show i + 1 ≤ n by omega); omega); omega)
      have s0 := World.ownsRow.stored HO.out (i * 3) (.int .i64 (U : Int))
      have s1 := World.ownsRow.stored s0.1 (i * 3 + 1) (.int .i64 ((U : Int) + 1))
      have s2 := World.ownsRow.stored s1.1 (i * 3 + 2) (.int .i64 ((U : Int) + 1 + 1))
      have HS : Hid ((((wr.setCell ⟨g, i * 3, none⟩ (.int .i64 (U : Int))).setCell ⟨g, i * 3 + 1, none⟩ (.int .i64 ((U : Int) + 1))).setCell ⟨g, i * 3 + 2, none⟩ (.int .i64 ((U : Int) + 1 + 1))).ownsRow B 77 3 (.slice (some ⟨g, 0, none⟩) n c) n (((xs.set (i * 3) (.int .i64 (U : Int))).set (i * 3 + 1) (.int .i64 ((U : Int) + 1))).set (i * 3 + 2) (.int .i64 ((U : Int) + 1 + 1))) ∧ w.grownBy (((wr.setCell ⟨g, i * 3, none⟩ (.int .i64 (U : Int))).setCell ⟨g, i * 3 + 1, none⟩ (.int .i64 ((U : Int) + 1))).setCell ⟨g, i * 3 + 2, none⟩ (.int .i64 ((U : Int) + 1 + 1))) (some g)) := ⟨s2.1, (((hgr).trans s0.2).trans s1.2).trans s2.2⟩
      have HY2 : Hid (∀ q, q < (i + 1) * 3 → (((xs.set (i * 3) (.int .i64 (U : Int))).set (i * 3 + 1) (.int .i64 ((U : Int) + 1))).set (i * 3 + 2) (.int .i64 ((U : Int) + 1 + 1)))[q]? = some (numG (q % 3) (k + q))) := fun q hq => by
        have hUU := HU.out
        have hb : i * 3 + 3 ≤ n * 3 := by have := Nat.mul_le_mul_right 3 (show i + 1 ≤ n by omega); omega
        rcases Nat.lt_or_ge q (i * 3) with h1 | h1
        · rw [List.getElem?_set_ne (by omega)]; rw [List.getElem?_set_ne (by omega)]; rw [List.getElem?_set_ne (by omega)]; exact HY.out q h1
        · have hq3 : q = i * 3 ∨ q = i * 3 + 1 ∨ q = i * 3 + 2 := by omega
          rcases hq3 with rfl | rfl | rfl
          · rw [List.getElem?_set_ne (by omega), List.getElem?_set_ne (by omega), List.getElem?_set_self (by (try simp only [List.length_set]); omega)]
            congr 1
            show Value.int .i64 _ = Value.int .i64 _; congr 1; omega
          · rw [List.getElem?_set_ne (by omega), List.getElem?_set_self (by (try simp only [List.length_set]); omega)]
            congr 1
            show Value.int .i64 _ = Value.int .i64 _; congr 1; omega
          · rw [List.getElem?_set_self (by (try simp only [List.length_set]); omega)]
            congr 1
            show Value.int .i64 _ = Value.int .i64 _; congr 1; omega
      have hU2 : U + 3 ≤ 1100000000 := by
        have := HU.out
        have : i * 3 + 3 ≤ n * 3 := by have := Nat.mul_le_mul_right 3 (show i + 1 ≤ n by omega); omega
        omega
      have HU2 : Hid (U + 3 = k + (i + 1) * 3) := by
        have := HU.out
        show _ = _
        omega
      clear s0 s1 s2 hxl
      go_wp2
      go_roundw
      case rel => exact ⟨i + 1, U + 3, _, by omega, by go_num, by go_num, HU2, hU2, HY2, HS.out.1, HS.out.2⟩
      case measure => simp [intOf]; omega
    · have e : i = n := by omega
      subst e
      have hE : xs = mkv 3 numG k (i * 3) := mkv_is HO.out.1 HY.out
      have hO := HO.out
      rw [hE] at hO
      have hUU := HU.out
      subst hUU
      clear HY HO HV hE
      go_wp2
      go_ret
      exact ⟨rfl, hO, hgr⟩
set_option maxHeartbeats 1000000 in
set_option maxRecDepth 100000 in
theorem markCapS_f (B : Nat) (v : Value) (n k : Nat) (ys : List Value) (w : World) (hv : w.ownsRow B 73 2 v n ys) (hl : n ≤ 8000000) (hk : k ≤ 1000000000) :
    Calls Try.prog 61 #[v, .int .i64 k] w fun e w' => e = .returned (.int .i64 ((k + n * 2 : Nat) : Int)) ∧ w'.ownsRow B 73 2 v n (mkv 2 capG k (n * 2)) ∧ w.grownBy w' v.ownBlock := by
  obtain ⟨x, c, rfl⟩ := row_slice hv
  have hm : n ≤ 9223372036854775807 := by omega
  by_cases h0 : n = 0
  · subst h0
    have hE : ys = mkv 2 capG k (0 * 2) := mkv_is (by have := hv.1; omega) (fun q hq => by omega)
    rw [hE] at hv
    clear hE
    go_enter Try.func61, Try.ntmps61
    go_wp2
    go_loop [1, 5] (fun y i => y = .int .i64 k ∧ i = .int .i64 0) (fun _ _ => 0)
    case atStart => exact ⟨rfl, rfl⟩
    case round =>
      obtain ⟨rfl, rfl⟩ := hrel
      go_wp2
      go_ret
      exact ⟨by simp, hv, grown_is _ _⟩
  obtain ⟨g, rfl⟩ : ∃ g, x = some ⟨g, 0, none⟩ := by
    rcases hv.2 with ⟨e1, e2⟩ | ⟨g, cap, cur, e1, _⟩
    · exact absurd e2 h0
    · simp only [Value.slice.injEq] at e1
      exact ⟨g, e1.1⟩
  have HV : Hid _ := hv
  clear hv
  go_enter Try.func61, Try.ntmps61
  go_wp2
  go_loopw [1, 5] (fun y j wr => ∃ (i U : Nat) (xs : List Value), i ≤ n ∧ y = .int .i64 (U : Int) ∧ j = .int .i64 i ∧ Hid (U = k + i * 2) ∧ U ≤ 1100000000 ∧ Hid (∀ q, q < i * 2 → xs[q]? = some (capG (q % 2) (k + q))) ∧ Hid (wr.ownsRow B 73 2 (.slice (some ⟨g, 0, none⟩) n c) n xs) ∧ w.grownBy wr (some g)) (fun _ j _ => n - (intOf j).toNat)
  case atStart => exact ⟨0, k, ys, Nat.zero_le _, rfl, rfl, by show k = _; omega, by omega, fun q hq => by omega, HV, grown_is _ _⟩
  case round =>
    obtain ⟨i, U, xs, hi, rfl, rfl, HU, hU, HY, HO, hgr⟩ := hrel
    by_cases hin : i < n
    · have hii : (i : Int) < (n : Int) := by omega
      have hi0 : (0 : Int) ≤ (i : Int) := by omega
      have hxl : xs.length = n * 2 := HO.out.1
      obtain ⟨⟨u0, hu0⟩, hf0⟩ := row_cell HO.out (i * 2) (by have : i * 2 + 2 ≤ n * 2 := (by have := Nat.mul_le_mul_right 2 (show i + 1 ≤ n by omega); omega); omega)
      obtain ⟨⟨u1, hu1⟩, hf1⟩ := row_cell HO.out (i * 2 + 1) (by have : i * 2 + 2 ≤ n * 2 := (by have := Nat.mul_le_mul_right 2 (show i + 1 ≤ n by omega); omega); omega)
      have s0 := World.ownsRow.stored HO.out (i * 2) (.bool ((U : Int) % 3 == 0))
      have s1 := World.ownsRow.stored s0.1 (i * 2 + 1) (.int .i64 ((U : Int) + 1))
      have HS : Hid (((wr.setCell ⟨g, i * 2, none⟩ (.bool ((U : Int) % 3 == 0))).setCell ⟨g, i * 2 + 1, none⟩ (.int .i64 ((U : Int) + 1))).ownsRow B 73 2 (.slice (some ⟨g, 0, none⟩) n c) n ((xs.set (i * 2) (.bool ((U : Int) % 3 == 0))).set (i * 2 + 1) (.int .i64 ((U : Int) + 1))) ∧ w.grownBy ((wr.setCell ⟨g, i * 2, none⟩ (.bool ((U : Int) % 3 == 0))).setCell ⟨g, i * 2 + 1, none⟩ (.int .i64 ((U : Int) + 1))) (some g)) := ⟨s1.1, ((hgr).trans s0.2).trans s1.2⟩
      have HY2 : Hid (∀ q, q < (i + 1) * 2 → ((xs.set (i * 2) (.bool ((U : Int) % 3 == 0))).set (i * 2 + 1) (.int .i64 ((U : Int) + 1)))[q]? = some (capG (q % 2) (k + q))) := fun q hq => by
        have hUU := HU.out
        have hb : i * 2 + 2 ≤ n * 2 := by have := Nat.mul_le_mul_right 2 (show i + 1 ≤ n by omega); omega
        rcases Nat.lt_or_ge q (i * 2) with h1 | h1
        · rw [List.getElem?_set_ne (by omega)]; rw [List.getElem?_set_ne (by omega)]; exact HY.out q h1
        · have hq3 : q = i * 2 ∨ q = i * 2 + 1 := by omega
          rcases hq3 with rfl | rfl
          · rw [List.getElem?_set_ne (by omega), List.getElem?_set_self (by (try simp only [List.length_set]); omega)]
            congr 1
            unfold capG; rw [if_pos (by omega)]; congr 2; omega
          · rw [List.getElem?_set_self (by (try simp only [List.length_set]); omega)]
            congr 1
            unfold capG; rw [if_neg (by omega)]; congr 1; omega
      have hU2 : U + 2 ≤ 1100000000 := by
        have := HU.out
        have : i * 2 + 2 ≤ n * 2 := by have := Nat.mul_le_mul_right 2 (show i + 1 ≤ n by omega); omega
        omega
      have HU2 : Hid (U + 2 = k + (i + 1) * 2) := by
        have := HU.out
        show _ = _
        omega
      clear s0 s1 hxl
      go_wp2
      go_roundw
      case rel => exact ⟨i + 1, U + 2, _, by omega, by go_num, by go_num, HU2, hU2, HY2, HS.out.1, HS.out.2⟩
      case measure => simp [intOf]; omega
    · have e : i = n := by omega
      subst e
      have hE : xs = mkv 2 capG k (i * 2) := mkv_is HO.out.1 HY.out
      have hO := HO.out
      rw [hE] at hO
      have hUU := HU.out
      subst hUU
      clear HY HO HV hE
      go_wp2
      go_ret
      exact ⟨rfl, hO, hgr⟩
set_option maxHeartbeats 1000000 in
set_option maxRecDepth 100000 in
theorem heldInsS_f (v : Value) (n k : Nat) (w : World) (hv : ArgFlat w v 3 n (mkv 3 numG k (n * 3))) (hl : n ≤ 8000000) (hk : k ≤ 1000000000) :
    Calls Try.prog 66 #[v, .int .i64 k] w fun e w' => e = .returned (.int .i64 ((k + n * 3 : Nat) : Int)) ∧ w = w' := by
  obtain ⟨x, c, rfl, hm, hl2, hc⟩ := hv
  unfold maxLen at hm
  have HC : Hid (0 < n → ∃ b o, x = some ⟨b, o, none⟩ ∧ b < w.heap.size ∧ ∀ q, q < n * 3 → w.cell? ⟨b, o + q, none⟩ = some (numG (q % 3) (k + q))) := fun h0 => by
    obtain ⟨b, o, e, hb, h⟩ := hc h0
    exact ⟨b, o, e, hb, fun q hq => h q _ (mkv_at hq)⟩
  clear hc hl2
  go_enter Try.func66, Try.ntmps66
  go_wp2
  go_loop [1, 5] (fun y j => ∃ (i U : Nat), i ≤ n ∧ y = .int .i64 (U : Int) ∧ j = .int .i64 i ∧ Hid (U = k + i * 3) ∧ U ≤ 1100000000) (fun _ j => n - (intOf j).toNat)
  case atStart => exact ⟨0, k, Nat.zero_le _, rfl, rfl, by show k = _; omega, by omega⟩
  case round =>
    obtain ⟨i, U, hi, rfl, rfl, HU, hU⟩ := hrel
    by_cases hin : i < n
    · obtain ⟨b, o, rfl, hb, hcell⟩ := HC.out (by omega)
      have h0 : w.cell? ⟨b, o + i * 3, none⟩ = some (.int .i64 (U : Int)) := by
        have hh := hcell (i * 3) (by have := Nat.mul_le_mul_right 3 (show i + 1 ≤ n by omega); omega)
        first | rw [hh] | (rw [← Nat.add_assoc] at hh; rw [hh])
        have hUU := HU.out
        congr 1
        show Value.int .i64 _ = Value.int .i64 _; congr 1; omega
      have h1 : w.cell? ⟨b, o + i * 3 + 1, none⟩ = some (.int .i64 ((U : Int) + 1)) := by
        have hh := hcell (i * 3 + 1) (by have := Nat.mul_le_mul_right 3 (show i + 1 ≤ n by omega); omega)
        first | rw [hh] | (rw [← Nat.add_assoc] at hh; rw [hh])
        have hUU := HU.out
        congr 1
        show Value.int .i64 _ = Value.int .i64 _; congr 1; omega
      have h2 : w.cell? ⟨b, o + i * 3 + 2, none⟩ = some (.int .i64 ((U : Int) + 1 + 1)) := by
        have hh := hcell (i * 3 + 2) (by have := Nat.mul_le_mul_right 3 (show i + 1 ≤ n by omega); omega)
        first | rw [hh] | (rw [← Nat.add_assoc] at hh; rw [hh])
        have hUU := HU.out
        congr 1
        show Value.int .i64 _ = Value.int .i64 _; congr 1; omega
      have hii : (i : Int) < (n : Int) := by omega
      have hi0 : (0 : Int) ≤ (i : Int) := by omega
      have hU2 : U + 3 ≤ 1100000000 := by
        have := HU.out
        have : i * 3 + 3 ≤ n * 3 := by have := Nat.mul_le_mul_right 3 (show i + 1 ≤ n by omega); omega
        omega
      have HU2 : Hid (U + 3 = k + (i + 1) * 3) := by
        have := HU.out
        show _ = _
        omega
      clear hcell HC
      go_wp2
      go_round
      case rel => exact ⟨i + 1, U + 3, by omega, by go_num, by go_num, HU2, hU2⟩
      case measure => simp [intOf]; omega
    · have e : i = n := by omega
      subst e
      have hUU := HU.out
      subst hUU
      go_wp2
      go_ret
      exact ⟨rfl, rfl⟩
set_option maxHeartbeats 1000000 in
set_option maxRecDepth 100000 in
theorem heldHandlerS_f (v : Value) (n k : Nat) (w : World) (hv : ArgFlat w v 3 n (mkv 3 numG k (n * 3))) (hl : n ≤ 8000000) (hk : k ≤ 1000000000) :
    Calls Try.prog 67 #[v, .int .i64 k] w fun e w' => e = .returned (.int .i64 ((k + n * 3 : Nat) : Int)) ∧ w = w' := by
  obtain ⟨x, c, rfl, hm, hl2, hc⟩ := hv
  unfold maxLen at hm
  have HC : Hid (0 < n → ∃ b o, x = some ⟨b, o, none⟩ ∧ b < w.heap.size ∧ ∀ q, q < n * 3 → w.cell? ⟨b, o + q, none⟩ = some (numG (q % 3) (k + q))) := fun h0 => by
    obtain ⟨b, o, e, hb, h⟩ := hc h0
    exact ⟨b, o, e, hb, fun q hq => h q _ (mkv_at hq)⟩
  clear hc hl2
  go_enter Try.func67, Try.ntmps67
  go_wp2
  go_loop [1, 5] (fun y j => ∃ (i U : Nat), i ≤ n ∧ y = .int .i64 (U : Int) ∧ j = .int .i64 i ∧ Hid (U = k + i * 3) ∧ U ≤ 1100000000) (fun _ j => n - (intOf j).toNat)
  case atStart => exact ⟨0, k, Nat.zero_le _, rfl, rfl, by show k = _; omega, by omega⟩
  case round =>
    obtain ⟨i, U, hi, rfl, rfl, HU, hU⟩ := hrel
    by_cases hin : i < n
    · obtain ⟨b, o, rfl, hb, hcell⟩ := HC.out (by omega)
      have h0 : w.cell? ⟨b, o + i * 3, none⟩ = some (.int .i64 (U : Int)) := by
        have hh := hcell (i * 3) (by have := Nat.mul_le_mul_right 3 (show i + 1 ≤ n by omega); omega)
        first | rw [hh] | (rw [← Nat.add_assoc] at hh; rw [hh])
        have hUU := HU.out
        congr 1
        show Value.int .i64 _ = Value.int .i64 _; congr 1; omega
      have h1 : w.cell? ⟨b, o + i * 3 + 1, none⟩ = some (.int .i64 ((U : Int) + 1)) := by
        have hh := hcell (i * 3 + 1) (by have := Nat.mul_le_mul_right 3 (show i + 1 ≤ n by omega); omega)
        first | rw [hh] | (rw [← Nat.add_assoc] at hh; rw [hh])
        have hUU := HU.out
        congr 1
        show Value.int .i64 _ = Value.int .i64 _; congr 1; omega
      have h2 : w.cell? ⟨b, o + i * 3 + 2, none⟩ = some (.int .i64 ((U : Int) + 1 + 1)) := by
        have hh := hcell (i * 3 + 2) (by have := Nat.mul_le_mul_right 3 (show i + 1 ≤ n by omega); omega)
        first | rw [hh] | (rw [← Nat.add_assoc] at hh; rw [hh])
        have hUU := HU.out
        congr 1
        show Value.int .i64 _ = Value.int .i64 _; congr 1; omega
      have hii : (i : Int) < (n : Int) := by omega
      have hi0 : (0 : Int) ≤ (i : Int) := by omega
      have hU2 : U + 3 ≤ 1100000000 := by
        have := HU.out
        have : i * 3 + 3 ≤ n * 3 := by have := Nat.mul_le_mul_right 3 (show i + 1 ≤ n by omega); omega
        omega
      have HU2 : Hid (U + 3 = k + (i + 1) * 3) := by
        have := HU.out
        show _ = _
        omega
      clear hcell HC
      go_wp2
      go_round
      case rel => exact ⟨i + 1, U + 3, by omega, by go_num, by go_num, HU2, hU2⟩
      case measure => simp [intOf]; omega
    · have e : i = n := by omega
      subst e
      have hUU := HU.out
      subst hUU
      go_wp2
      go_ret
      exact ⟨rfl, rfl⟩
set_option maxHeartbeats 1000000 in
set_option maxRecDepth 100000 in
theorem heldCapS_f (v : Value) (n k : Nat) (w : World) (hv : ArgFlat w v 2 n (mkv 2 capG k (n * 2))) (hl : n ≤ 8000000) (hk : k ≤ 1000000000) :
    Calls Try.prog 65 #[v, .int .i64 k] w fun e w' => e = .returned (.int .i64 ((k + n * 2 : Nat) : Int)) ∧ w = w' := by
  obtain ⟨x, c, rfl, hm, hl2, hc⟩ := hv
  unfold maxLen at hm
  have HC : Hid (0 < n → ∃ b o, x = some ⟨b, o, none⟩ ∧ b < w.heap.size ∧ ∀ q, q < n * 2 → w.cell? ⟨b, o + q, none⟩ = some (capG (q % 2) (k + q))) := fun h0 => by
    obtain ⟨b, o, e, hb, h⟩ := hc h0
    exact ⟨b, o, e, hb, fun q hq => h q _ (mkv_at hq)⟩
  clear hc hl2
  go_enter Try.func65, Try.ntmps65
  go_wp2
  go_loop [1, 5] (fun y j => ∃ (i U : Nat), i ≤ n ∧ y = .int .i64 (U : Int) ∧ j = .int .i64 i ∧ Hid (U = k + i * 2) ∧ U ≤ 1100000000) (fun _ j => n - (intOf j).toNat)
  case atStart => exact ⟨0, k, Nat.zero_le _, rfl, rfl, by show k = _; omega, by omega⟩
  case round =>
    obtain ⟨i, U, hi, rfl, rfl, HU, hU⟩ := hrel
    by_cases hin : i < n
    · obtain ⟨b, o, rfl, hb, hcell⟩ := HC.out (by omega)
      have h0 : w.cell? ⟨b, o + i * 2, none⟩ = some (.bool ((U : Int) % 3 == 0)) := by
        have hh := hcell (i * 2) (by have := Nat.mul_le_mul_right 2 (show i + 1 ≤ n by omega); omega)
        first | rw [hh] | (rw [← Nat.add_assoc] at hh; rw [hh])
        have hUU := HU.out
        congr 1
        unfold capG; rw [if_pos (by omega)]; congr 2; omega
      have h1 : w.cell? ⟨b, o + i * 2 + 1, none⟩ = some (.int .i64 ((U : Int) + 1)) := by
        have hh := hcell (i * 2 + 1) (by have := Nat.mul_le_mul_right 2 (show i + 1 ≤ n by omega); omega)
        first | rw [hh] | (rw [← Nat.add_assoc] at hh; rw [hh])
        have hUU := HU.out
        congr 1
        unfold capG; rw [if_neg (by omega)]; congr 1; omega
      have hii : (i : Int) < (n : Int) := by omega
      have hi0 : (0 : Int) ≤ (i : Int) := by omega
      have hU2 : U + 2 ≤ 1100000000 := by
        have := HU.out
        have : i * 2 + 2 ≤ n * 2 := by have := Nat.mul_le_mul_right 2 (show i + 1 ≤ n by omega); omega
        omega
      have HU2 : Hid (U + 2 = k + (i + 1) * 2) := by
        have := HU.out
        show _ = _
        omega
      clear hcell HC
      go_wp2
      go_round
      case rel => exact ⟨i + 1, U + 2, by omega, by go_num, by go_num, HU2, hU2⟩
      case measure => simp [intOf]; omega
    · have e : i = n := by omega
      subst e
      have hUU := HU.out
      subst hUU
      go_wp2
      go_ret
      exact ⟨rfl, rfl⟩
end Go.Proofs.Ytedhfdgcofboeaa
namespace Go.Proofs.Ytedhfdgcofboeaa
open Go.RowKit
set_option linter.unusedVariables false
structure FSh where
  cv : Value
  kv : Value
  hv : Value
  nc : Nat
  nk : Nat
  nh : Nat
def FSh.wid (f : FSh) : Nat := 2 + f.nc * 2 + f.nk * 3 + f.nh * 3
def offK (fs : List FSh) (k q : Nat) : Nat := k + ((fs.take q).map FSh.wid).sum
theorem offK_0 (fs : List FSh) (k : Nat) : offK fs k 0 = k := by simp [offK]
theorem offK_more {fs : List FSh} {k q : Nat} {f : FSh} (h : fs[q]? = some f) : offK fs k (q + 1) = offK fs k q + f.wid := by
  unfold offK
  rw [List.take_add_one, h]
  simp
  omega
theorem offK_le (fs : List FSh) (k q : Nat) : offK fs k q ≤ offK fs k fs.length := by
  unfold offK
  rw [List.take_length]
  have h := List.take_append_drop q fs
  have e : (fs.map FSh.wid).sum = ((fs.take q).map FSh.wid).sum + ((fs.drop q).map FSh.wid).sum := by
    rw [← List.sum_append, ← List.map_append, h]
  omega
structure MkAt (w : World) (b o K : Nat) (f : FSh) : Prop where
  c0 : w.cell? ⟨b, o, none⟩ = some (.int .i64 (K : Int))
  c1 : w.cell? ⟨b, o + 1, none⟩ = some (.int .i64 ((K : Int) + 1))
  c2 : w.cell? ⟨b, o + 2, none⟩ = some f.cv
  c3 : w.cell? ⟨b, o + 3, none⟩ = some f.kv
  c4 : w.cell? ⟨b, o + 4, none⟩ = some f.hv
  rc : ArgFlat w f.cv 2 f.nc (mkv 2 capG (K + 2) (f.nc * 2))
  rk : ArgFlat w f.kv 3 f.nk (mkv 3 numG (K + 2 + f.nc * 2) (f.nk * 3))
  rh : ArgFlat w f.hv 3 f.nh (mkv 3 numG (K + 2 + f.nc * 2 + f.nk * 3) (f.nh * 3))
def Few (fs : List FSh) (k : Nat) : Prop := fs.length ≤ 2000000 ∧ offK fs k fs.length ≤ 8000000
set_option maxHeartbeats 1000000 in
set_option maxRecDepth 100000 in
theorem heldFuncS_f (x : Option Addr) (c : Nat) (fs : List FSh) (k : Nat) (w : World) (hf : Few fs k) (hv : 0 < fs.length → ∃ b o, x = some ⟨b, o, none⟩ ∧ ∀ q f, fs[q]? = some f → MkAt w b (o + q * 5) (offK fs k q) f) :
    Calls Try.prog 27 #[.slice x fs.length c, .int .i64 k] w fun e w' => e = .returned (.int .i64 (offK fs k fs.length : Nat)) ∧ w = w' := by
  obtain ⟨hn, hK⟩ := hf
  obtain ⟨n, en⟩ : ∃ n, fs.length = n := ⟨_, rfl⟩
  rw [en] at hn hK hv ⊢
  have EN : Hid (fs.length = n) := en
  have HV : Hid (0 < n → ∃ b o, x = some ⟨b, o, none⟩ ∧ ∀ q f, fs[q]? = some f → MkAt w b (o + q * 5) (offK fs k q) f) := hv
  have HK : Hid (∀ q, offK fs k q ≤ 8000000) := fun q => by
    have := offK_le fs k q
    rw [en] at this
    omega
  obtain ⟨Z, hZ⟩ : ∃ z, offK fs k n = z := ⟨_, rfl⟩
  have HZ : Hid (offK fs k n = Z) := hZ
  rw [hZ]
  clear hv en hZ hK
  go_enter Try.func27, Try.ntmps27
  go_wp2
  go_loop [1, 5] (fun y j => ∃ (i U : Nat), i ≤ n ∧ y = .int .i64 (U : Int) ∧ j = .int .i64 i ∧ Hid (U = offK fs k i)) (fun _ j => n - (intOf j).toNat)
  case atStart => exact ⟨0, k, Nat.zero_le _, rfl, rfl, (offK_0 fs k).symm⟩
  case round =>
    obtain ⟨i, U, hi, rfl, rfl, HU⟩ := hrel
    have hU : U ≤ 8000000 := by rw [HU.out]; exact HK.out i
    by_cases hin : i < n
    · obtain ⟨b, o, rfl, hcell⟩ := HV.out (by omega)
      obtain ⟨f, hfq⟩ : ∃ f, fs[i]? = some f := ⟨_, List.getElem?_eq_getElem (by have := EN.out; omega)⟩
      have M := hcell i f hfq
      rw [← HU.out] at M
      have hmore := offK_more (k := k) hfq
      have hle := HK.out (i + 1)
      rw [hmore, ← HU.out] at hle
      unfold FSh.wid at hle
      have HU2 : Hid (U + 2 + f.nc * 2 + f.nk * 3 + f.nh * 3 = offK fs k (i + 1)) := by
        show _ = _
        rw [hmore, ← HU.out]
        unfold FSh.wid
        omega
      obtain ⟨f1, f2, f3, nc, nk, nh⟩ := f
      simp only at hle HU2
      have h0 := M.c0
      have h1 := M.c1
      have h2 : w.cell? ⟨b, o + i * 5 + 2, none⟩ = some f1 := M.c2
      have h3 : w.cell? ⟨b, o + i * 5 + 3, none⟩ = some f2 := M.c3
      have h4 : w.cell? ⟨b, o + i * 5 + 4, none⟩ = some f3 := M.c4
      have m1 : ArgFlat w f1 2 nc (mkv 2 capG (U + 2) (nc * 2)) := M.rc
      have m2 : ArgFlat w f2 3 nk (mkv 3 numG (U + 2 + nc * 2) (nk * 3)) := M.rk
      have m3 : ArgFlat w f3 3 nh (mkv 3 numG (U + 2 + nc * 2 + nk * 3) (nh * 3)) := M.rh
      clear M hmore hfq hcell
      have q1 := heldCapS_f f1 nc (U + 2) w m1 (by omega) (by omega)
      have q2 := heldInsS_f f2 nk (U + 2 + nc * 2) w m2 (by omega) (by omega)
      have q3 := heldHandlerS_f f3 nh (U + 2 + nc * 2 + nk * 3) w m3 (by omega) (by omega)
      obtain ⟨x1, d1, rfl, _, _, _⟩ := m1
      obtain ⟨x2, d2, rfl, _, _, _⟩ := m2
      obtain ⟨x3, d3, rfl, _, _, _⟩ := m3
      rw [show (((U + 2 : Nat) : Nat) : Int) = (U : Int) + 1 + 1 by omega] at q1
      obtain ⟨V1, hV1⟩ : ∃ V, U + 2 + nc * 2 = V := ⟨_, rfl⟩
      rw [hV1] at q1 q2 q3
      obtain ⟨V2, hV2⟩ : ∃ V, V1 + nk * 3 = V := ⟨_, rfl⟩
      rw [hV2] at q2 q3
      obtain ⟨V3, hV3⟩ : ∃ V, V2 + nh * 3 = V := ⟨_, rfl⟩
      rw [hV3] at q3
      have HU3 : Hid (V3 = offK fs k (i + 1)) := by
        show _ = _
        rw [← HU2.out, ← hV3, ← hV2, ← hV1]
      have n1 : ¬ (V1 : Int) < 0 := by omega
      have n2 : ¬ (V2 : Int) < 0 := by omega
      have n3 : ¬ (V3 : Int) < 0 := by omega
      have hii : (i : Int) < (n : Int) := by omega
      have hi0 : (0 : Int) ≤ (i : Int) := by omega
      clear HV hle hV1 hV2 hV3
      go_wp2_with (first
        | (go_at_call 65; (with_reducible refine q1.mono ?_); rintro e w' ⟨rfl, rfl⟩)
        | (go_at_call 66; (with_reducible refine q2.mono ?_); rintro e w' ⟨rfl, rfl⟩)
        | (go_at_call 67; (with_reducible refine q3.mono ?_); rintro e w' ⟨rfl, rfl⟩))
      go_round
      case rel => exact ⟨i + 1, V3, by omega, rfl, by go_num, HU3⟩
      case measure => simp [intOf]; omega
    · have e : i = n := by omega
      subst e
      have hUZ : U = Z := by rw [HU.out, HZ.out]
      subst hUZ
      go_wp2
      go_ret
      exact ⟨rfl, rfl⟩
end Go.Proofs.Ytedhfdgcofboeaa
