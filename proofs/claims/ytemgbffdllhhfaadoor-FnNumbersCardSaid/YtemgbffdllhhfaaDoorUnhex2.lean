/-
  The walk of impl.Unhex.
-/
import Derived.Test.YtemgbffdllhhfaaDoorUnhex
namespace Go.Proofs.YtemgbffdllhhfaaDoor
open Go.RowKit
set_option linter.unusedVariables false

/-- figure number i of s -/
def gv (s : ByteArray) (i : Nat) : Int := if h : i < s.size then hv (s[i]).toNat else 0
theorem gv_at {s : ByteArray} {i : Nat} (h : i < s.size) : gv s i = hv (s[i]).toNat := dif_pos h
/-- what cell j holds when r figures are read -/
def cu (s : ByteArray) (r j : Nat) : Int := if 2 * j + 1 < r then 16 * gv s (2 * j) + gv s (2 * j + 1) else if 2 * j < r then gv s (2 * j) else 0
theorem cu_old {s : ByteArray} {r j : Nat} (h : j ≠ r / 2) : cu s (r + 1) j = cu s r j := by
  unfold cu
  by_cases h1 : 2 * j + 1 < r
  · rw [if_pos h1, if_pos (by omega)]
  · rw [if_neg h1, if_neg (by omega)]
    by_cases h2 : 2 * j < r
    · rw [if_pos h2, if_pos (by omega)]
    · rw [if_neg h2, if_neg (by omega)]
theorem cu_new {s : ByteArray} {r : Nat} : cu s (r + 1) (r / 2) = 16 * cu s r (r / 2) + gv s r := by
  unfold cu
  by_cases h : r % 2 = 0
  · rw [if_neg (by omega), if_pos (by omega), if_neg (by omega), if_neg (by omega), show 2 * (r / 2) = r by omega]; omega
  · rw [if_pos (by omega), if_neg (by omega), if_pos (by omega), show 2 * (r / 2) + 1 = r by omega]

theorem or_fin : ∀ c d : Fin 16, bits .or .u8 ((c.val : Int) * 16) (d.val : Int) = 16 * (c.val : Int) + (d.val : Int) := by decide +kernel
theorem or_eq {c d : Int} (c1 : 0 ≤ c) (c2 : c ≤ 15) (d1 : 0 ≤ d) (d2 : d ≤ 15) : bits .or .u8 (c * 16) d = 16 * c + d := by
  obtain ⟨m, rfl⟩ : ∃ m : Nat, c = m := ⟨c.toNat, by omega⟩
  obtain ⟨n, rfl⟩ : ∃ n : Nat, d = n := ⟨d.toNat, by omega⟩
  exact or_fin ⟨m, by omega⟩ ⟨n, by omega⟩

theorem gv_ok {s : ByteArray} {r i : Nat} (ha : (s.data.toList.take r).all okH = true) (hi : i < r) (hr : r ≤ s.size) : 0 ≤ gv s i := by
  have hl : i < s.data.toList.length := by rw [← Lib.size_eq]; omega
  have hm : (s.data.toList[i]'hl) ∈ s.data.toList.take r := by
    rw [List.mem_take_iff_getElem]
    exact ⟨i, by omega, rfl⟩
  have h := List.all_eq_true.1 ha _ hm
  simp only [okH, decide_eq_true_eq] at h
  rw [gv_at (by omega)]
  exact h
theorem gv_le (s : ByteArray) (i : Nat) : gv s i ≤ 15 := by
  unfold gv
  split
  · exact (hv_bd _).2
  · omega
theorem cu_bd {s : ByteArray} {r : Nat} (ha : (s.data.toList.take r).all okH = true) (hr : r ≤ s.size) : 0 ≤ cu s r (r / 2) ∧ cu s r (r / 2) ≤ 15 := by
  unfold cu
  by_cases h : r % 2 = 0
  · rw [if_neg (by omega), if_neg (by omega)]; omega
  · rw [if_neg (by omega), if_pos (by omega)]
    exact ⟨gv_ok ha (by omega) hr, gv_le _ _⟩

def CellsU (s : ByteArray) (B r : Nat) (w : World) : Prop := ∀ j, j < s.size / 2 → w.cell? ⟨B, j, none⟩ = some (.int .u8 (cu s r j)) ∧ w.frozen? ⟨B, j, none⟩ = false

theorem cellsU_step {s : ByteArray} {B r : Nat} {w : World} (h : CellsU s B r w) {x : Int} (hx : x = cu s (r + 1) (r / 2)) (hr : r / 2 < s.size / 2) : CellsU s B (r + 1) (w.setCell ⟨B, r / 2, none⟩ (.int .u8 x)) := by
  intro j hj
  refine ⟨?_, ?_⟩
  · by_cases e : j = r / 2
    · subst e
      rw [World.cell?_setCell_same _ _ _ (h _ hr).1, hx]
    · rw [World.cell?_setCell_other _ _ _ _ (by intro hh; injection hh with _ h2 _; omega), (h j hj).1, cu_old e]
  · rw [World.frozen?_setCell]; exact (h j hj).2

theorem cellsU_first (s : ByteArray) (w : World) (t : TypeId) : CellsU s w.heap.size 0 (w.alloc (.cells (madeCells #[Value.int .u8 0] (s.size / 2)) t)) := by
  intro j hj
  refine ⟨?_, ?_⟩
  · have h := heap_alloc_new w (.cells (madeCells #[Value.int .u8 0] (s.size / 2)) t)
    have hc : cu s 0 j = 0 := by unfold cu; rw [if_neg (by omega), if_neg (by omega)]
    have hl : j < (List.replicate (s.size / 2) (Value.int .u8 0)).length := by rw [List.length_replicate]; exact hj
    have e : (madeCells #[Value.int .u8 0] (s.size / 2))[j]? = some (.int .u8 0) := by
      rw [← Array.getElem?_toList, toList_madeCells_one, List.getElem?_eq_getElem hl, List.getElem_replicate]
    unfold World.cell?
    simp only [h, hc]
    exact e
  · have h := heap_alloc_new w (.cells (madeCells #[Value.int .u8 0] (s.size / 2)) t)
    unfold World.frozen?
    simp only [h]
    simp

theorem pairsH_range : ∀ l : List UInt8, l.length % 2 = 0 → pairsH l = (List.range (l.length / 2)).map (fun j => 16 * hv (l.getD (2 * j) 0).toNat + hv (l.getD (2 * j + 1) 0).toNat)
  | [], _ => rfl
  | [x], h => by simp at h
  | x :: y :: r, h => by
    have ih := pairsH_range r (by simp only [List.length_cons] at h; omega)
    have e : (x :: y :: r).length / 2 = r.length / 2 + 1 := by simp only [List.length_cons]; omega
    rw [e, List.range_succ_eq_map, pairsH, ih, List.map_cons, List.map_map]
    rfl

theorem pairsH_cells {s : ByteArray} (hev : s.size % 2 = 0) : pairsH s.data.toList = (List.range (s.size / 2)).map (cu s s.size) := by
  have hl : s.size = s.data.toList.length := Lib.size_eq s
  rw [pairsH_range _ (by omega), ← hl]
  apply List.map_congr_left
  intro j hj
  rw [List.mem_range] at hj
  unfold cu
  rw [if_pos (by omega), gv_at (show 2 * j < s.size by omega), gv_at (show 2 * j + 1 < s.size by omega)]
  rw [List.getD_eq_getElem?_getD, List.getD_eq_getElem?_getD, List.getElem?_eq_getElem (show 2 * j < s.data.toList.length by omega), List.getElem?_eq_getElem (show 2 * j + 1 < s.data.toList.length by omega)]
  rfl

set_option maxHeartbeats 1000000 in
set_option maxRecDepth 100000 in
theorem implUnhex_in (s : ByteArray) (w : World) (hs : s.size ≤ 24000) (hev : s.size % 2 = 0) :
    Calls Tryd.prog 14 #[.string s] w fun e w' => e = .returned (unOut s) ∧ Below w.heap.size w w' := by
  obtain ⟨i0, hi, hz0, hz1, hz2⟩ := info_parts Tryd.infoByte
  have hev2 : ((s.size : Int) % 2 != 0) = false := by simp; omega
  have hmk := fun W : World => run_make (P := Tryd.prog) W 22 5 i0 (.int .u8 0) Tryd.underlying22 hi hz0 .i64 .i64 ((s.size : Int) / 2) ((s.size : Int) / 2) (by omega) (by omega) (by rw [hz2]; omega) (by omega)
  go_enter Tryd.func14, Tryd.ntmps14
  go_wp2
  go_step3
  go_wp2
  go_step3
  go_wp2
  clear hmk
  go_loopw [5] (fun x wr => ∃ r : Nat, r ≤ s.size ∧ x = .int .i64 r ∧ (s.data.toList.take r).all okH = true ∧ CellsU s w.heap.size r wr ∧ Below w.heap.size w wr) (fun x _ => s.size - (intOf x).toNat)
  case atStart => exact ⟨0, Nat.zero_le _, rfl, rfl, cellsU_first s w _, (Below.refl _ _).alloc (Nat.le_refl _) _⟩
  case round =>
    obtain ⟨r, hr, rfl, hall, hcell, hbel⟩ := hrel
    have HA : Hid ((s.data.toList.take r).all okH = true) := hall
    have HC : Hid (CellsU s w.heap.size r wr) := hcell
    have HB := cu_bd hall hr
    clear hall hcell
    by_cases hlt : r < s.size
    · obtain ⟨hc1, hc2⟩ := HC.out (r / 2) (by omega)
      obtain ⟨c, hc⟩ : ∃ c, c = cu s r (r / 2) := ⟨_, rfl⟩
      rw [← hc] at hc1 HB
      obtain ⟨c1, c2⟩ := HB
      have HE : Hid (c = cu s r (r / 2)) := hc
      clear hc
      have h256 : (s[r]).toNat < 256 := (s[r]).toNat_lt
      have fin : ∀ d : Int, hv (s[r]).toNat = d → 0 ≤ d → d ≤ 15 → (s.data.toList.take (r + 1)).all okH = true ∧ CellsU s w.heap.size (r + 1) (wr.setCell ⟨w.heap.size, r / 2, none⟩ (.int .u8 (bits .or .u8 (c * 16) d))) := fun d h1 h2 h3 =>
        ⟨all_snoc s r hlt HA.out (by omega), cellsU_step HC.out (by rw [or_eq c1 c2 h2 h3, cu_new, gv_at hlt, h1, HE.out]) (by omega)⟩
      have FIN : Hid _ := fin
      clear fin
      by_cases h1 : 48 ≤ (s[r]).toNat
      · by_cases h2 : (s[r]).toNat ≤ 57
        · go_wp2
          go_roundw
          case rel =>
            obtain ⟨q1, q2⟩ := FIN.out _ (hv_dig h1 h2) (by omega) (by omega)
            exact ⟨r + 1, by omega, by go_num, q1, q2, hbel.setCell (Nat.le_refl _) _⟩
          case measure => simp [intOf]; omega
        · have d2 : decide (((s[r]).toNat : Int) ≤ 57) = false := by simp; omega
          by_cases h3 : 97 ≤ (s[r]).toNat
          · by_cases h4 : (s[r]).toNat ≤ 102
            · go_wp2
              go_roundw
              case rel =>
                obtain ⟨q1, q2⟩ := FIN.out _ (hv_low h3 h4) (by omega) (by omega)
                exact ⟨r + 1, by omega, by go_num, q1, q2, hbel.setCell (Nat.le_refl _) _⟩
              case measure => simp [intOf]; omega
            · have d4 : decide (((s[r]).toNat : Int) ≤ 102) = false := by simp; omega
              have E : Hid (unOut s = _) := unOut_bad hlt (by rw [hv_none (by omega) (by omega)]; omega)
              go_wp2
              try rw [Exit.noGoto_ret]
              go_ret2
              exact ⟨by rw [E.out]; rfl, hbel⟩
          · have d3 : decide ((97 : Int) ≤ ((s[r]).toNat : Int)) = false := by simp; omega
            have E : Hid (unOut s = _) := unOut_bad hlt (by rw [hv_none (by omega) (by omega)]; omega)
            go_wp2
            try rw [Exit.noGoto_ret]
            go_ret2
            exact ⟨by rw [E.out]; rfl, hbel⟩
      · have d1 : decide ((48 : Int) ≤ ((s[r]).toNat : Int)) = false := by simp; omega
        have d3 : decide ((97 : Int) ≤ ((s[r]).toNat : Int)) = false := by simp; omega
        have E : Hid (unOut s = _) := unOut_bad hlt (by rw [hv_none (by omega) (by omega)]; omega)
        go_wp2
        try rw [Exit.noGoto_ret]
        go_ret2
        exact ⟨by rw [E.out]; rfl, hbel⟩
    · have hkk : r = s.size := by omega
      subst hkk
      have E : Hid (unOut s = _) := unOut_yes (by rw [← take_all]; exact HA.out)
      have EP : Hid (pairsH s.data.toList = (List.range (s.size / 2)).map (cu s s.size)) := pairsH_cells hev
      have hcv := fun cap => run_convert_bytes_arg (P := Tryd.prog) wr 22 5 Tryd.underlying22 Tryd.underlying5 w.heap.size 0 (s.size / 2) cap ((List.range (s.size / 2)).map (cu s s.size)) (by simp) (fun i hi => by
        rw [Nat.zero_add, (HC.out i hi).1, List.getD_eq_getElem?_getD, List.getElem?_map, List.getElem?_range hi]; rfl) 9 Tryd.underlying9
      clear HB
      go_wp2
      try rw [Exit.noGoto_ret]
      go_ret2
      exact ⟨by rw [E.out, EP.out]; rfl, hbel⟩

set_option maxHeartbeats 400000 in
set_option maxRecDepth 100000 in
theorem implUnhex_out (s : ByteArray) (w : World) (hm : s.size ≤ 1048576) (hs : 24000 < s.size ∨ s.size % 2 = 1) :
    Calls Tryd.prog 14 #[.string s] w fun e w' => e = .returned (.tuple #[.string ⟨#[]⟩, .bool false]) ∧ w = w' := by
  by_cases h : s.size % 2 = 1
  · have hev2 : ((s.size : Int) % 2 != 0) = true := by simp; omega
    clear hs
    go_enter Tryd.func14, Tryd.ntmps14
    go_wp2
    go_step3
    go_wp2
    try rw [Exit.noGoto_ret]
    go_ret2
    exact ⟨rfl, rfl⟩
  · have hev2 : ((s.size : Int) % 2 != 0) = false := by simp; omega
    have d : 24000 < s.size := by omega
    clear hs
    go_enter Tryd.func14, Tryd.ntmps14
    go_wp2
    go_step3
    go_wp2
    try rw [Exit.noGoto_ret]
    go_ret2
    exact ⟨rfl, rfl⟩

theorem unOut_cases (s : ByteArray) : unOut s = .tuple #[.string ⟨#[]⟩, .bool false] ∨ ∃ t : ByteArray, unOut s = .tuple #[.string t, .bool true] := by
  by_cases h : s.data.toList.all okH = true
  · exact .inr ⟨_, unOut_yes h⟩
  · exact .inl (unOut_no h)

end Go.Proofs.YtemgbffdllhhfaaDoor
