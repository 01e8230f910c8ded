/-
  The specification's l15Eight, l15Short, l15Flag.
-/
import Derived.Test.YtgaphgejpnepfaaTxt15B
import Derived.Test.YtgaphgejpnepfaaVar
import Derived.Deep.OwnRows
namespace Go.Proofs.Ytgaphgejpnepfaa
open Go.RowKit Go.Sort
set_option linter.unusedVariables false

/-- a number without its last k bytes -/
def dv : Nat → Nat → Nat
  | 0, x => x
  | k + 1, x => dv k x / 256
theorem dv_lt (k x : Nat) (h : x < 18446744073709551616) : dv k x < 18446744073709551616 := by
  induction k with
  | zero => exact h
  | succ k ih => unfold dv; omega
theorem eight_dv (x : Nat) : eightK 8 x = [((dv 7 x % 256 : Nat) : Int), ((dv 6 x % 256 : Nat) : Int), ((dv 5 x % 256 : Nat) : Int), ((dv 4 x % 256 : Nat) : Int), ((dv 3 x % 256 : Nat) : Int), ((dv 2 x % 256 : Nat) : Int), ((dv 1 x % 256 : Nat) : Int), ((dv 0 x % 256 : Nat) : Int)] := rfl
/-- a block of n bytes -/
structure BytesAt (w : World) (g : Nat) (n : Nat) (m : Nat → Int) : Prop where
  all : ∃ cs, w.heap[g]? = some (.cells cs 5 (0, 0)) ∧ cs.size = n ∧ ∀ j, j < n → cs[j]? = some (.int .u8 (m j))
theorem BytesAt.cell {w : World} {g n : Nat} {m : Nat → Int} (h : BytesAt w g n m) (j : Nat) (hj : j < n) : w.cell? ⟨g, j, none⟩ = some (.int .u8 (m j)) := by
  obtain ⟨cs, h1, h2, h3⟩ := h.all
  rw [cell_of_row _ _ _ _ _ _ h1]
  exact h3 j hj
theorem BytesAt.free {w : World} {g n : Nat} {m : Nat → Int} (h : BytesAt w g n m) (j : Nat) : w.frozen? ⟨g, j, none⟩ = false := by
  obtain ⟨cs, h1, h2, h3⟩ := h.all
  exact frozen_of_row _ _ _ _ _ h1
theorem BytesAt.set {w : World} {g n : Nat} {m : Nat → Int} (h : BytesAt w g n m) (k : Nat) (v : Int) (m' : Nat → Int) (hm : ∀ j, j < n → m' j = if j = k then v else m j) : BytesAt (w.setCell ⟨g, k, none⟩ (.int .u8 v)) g n m' := by
  obtain ⟨cs, h1, h2, h3⟩ := h.all
  refine ⟨_, heap_setCell_same _ _ _ _ _ _ h1, by simp [h2], fun j hj => ?_⟩
  rw [hm j hj, Array.getElem?_setIfInBounds]
  by_cases e : k = j
  · subst e
    rw [if_pos rfl, if_pos (by omega), if_pos rfl]
  · rw [if_neg e, if_neg (fun x => e x.symm)]
    exact h3 j hj

set_option maxHeartbeats 1000000 in
set_option maxRecDepth 100000 in
theorem l15Eight_any (x : Nat) (w : World) (hx : x < 18446744073709551616) :
    Calls Try.prog 41 #[.int .u64 x] w fun e w' => e = .returned (.string (strOfNums (eightK 8 x))) ∧ Below w.heap.size w w' := by
  have hmk : ∀ W : World, (Instr.makeSlice 22 (.int .i64 8) (.int .i64 8)).run Try.prog W = .ok (.slice (some ⟨W.heap.size, 0, none⟩) 8 8) (W.alloc (.cells #[.int .u8 0, .int .u8 0, .int .u8 0, .int .u8 0, .int .u8 0, .int .u8 0, .int .u8 0, .int .u8 0] 5)) := fun W => by
    have h := run_make_row' (P := Try.prog) 22 5 (.int .u8 0) 1 Try.underlying22 Try.infoByte rfl .i64 .i64 8 (by omega) (by omega) W
    have e : madeCells #[.int .u8 0] 8 = #[.int .u8 0, .int .u8 0, .int .u8 0, .int .u8 0, .int .u8 0, .int .u8 0, .int .u8 0, .int .u8 0] := by kernel_rfl
    rw [e] at h
    exact h
  have f0 : BytesAt (w.alloc (.cells #[.int .u8 0, .int .u8 0, .int .u8 0, .int .u8 0, .int .u8 0, .int .u8 0, .int .u8 0, .int .u8 0] 5)) w.heap.size 8 (fun j => if 8 ≤ j then ((dv (7 - j) x % 256 : Nat) : Int) else 0) := by
    refine ⟨_, heap_alloc_new w _, rfl, fun j hj => ?_⟩
    match j, hj with
    | 0, _ => rfl
    | 1, _ => rfl
    | 2, _ => rfl
    | 3, _ => rfl
    | 4, _ => rfl
    | 5, _ => rfl
    | 6, _ => rfl
    | 7, _ => rfl
  have b0 : Below w.heap.size w (w.alloc (.cells #[.int .u8 0, .int .u8 0, .int .u8 0, .int .u8 0, .int .u8 0, .int .u8 0, .int .u8 0, .int .u8 0] 5)) := (Below.refl _ _).alloc (Nat.le_refl _) _
  have hcv : ∀ W : World, BytesAt W w.heap.size 8 (fun j => ((dv (7 - j) x % 256 : Nat) : Int)) → (convert 22 9 (.slice (some ⟨w.heap.size, 0, none⟩) 8 8)).run Try.prog W = .ok (.string (strOfNums (eightK 8 x))) W := fun W h => by
    refine run_convert_bytes_arg W 22 5 Try.underlying22 Try.underlying5 w.heap.size 0 8 8 (eightK 8 x) rfl (fun i hi => ?_) 9 Try.underlying9
    rw [Nat.zero_add, h.cell i hi, eight_dv]
    match i, hi with
    | 0, _ => rfl
    | 1, _ => rfl
    | 2, _ => rfl
    | 3, _ => rfl
    | 4, _ => rfl
    | 5, _ => rfl
    | 6, _ => rfl
    | 7, _ => rfl
  obtain ⟨W0, hW0⟩ : ∃ W, w.alloc (.cells #[.int .u8 0, .int .u8 0, .int .u8 0, .int .u8 0, .int .u8 0, .int .u8 0, .int .u8 0, .int .u8 0] 5) = W := ⟨_, rfl⟩
  rw [hW0] at f0 b0
  have HW0 : Hid (_ = W0) := hW0
  have HC : Hid _ := hcv
  clear hcv hW0
  go_enter Try.func41, Try.ntmps41
  go_upto_region 2 with fail
  rw [HW0.out]
  clear HW0 hmk
  go_wp2
  go_loopw [0, 4] (fun y i wr => ∃ k : Nat, k ≤ 8 ∧ y = .int .u64 (dv k x : Nat) ∧ i = .int .i64 (7 - (k : Int)) ∧ BytesAt wr w.heap.size 8 (fun j => if 8 ≤ j + k then ((dv (7 - j) x % 256 : Nat) : Int) else 0) ∧ Below w.heap.size w wr) (fun _ i _ => (intOf i + 1).toNat)
  case atStart => exact ⟨0, Nat.zero_le _, rfl, rfl, f0, b0⟩
  case round =>
    clear f0 b0
    obtain ⟨k, hk, rfl, rfl, f0, hb⟩ := hrel
    have hd := dv_lt k x hx
    by_cases hk8 : k < 8
    · have g1 := f0.cell (7 - k) (by omega)
      have g2 := f0.free (7 - k)
      have HF : Hid (BytesAt _ _ _ _) := f0
      have hkn : (7 - (k : Int)) = ((7 - k : Nat) : Int) := by omega
      rw [hkn]
      obtain ⟨q, hq⟩ : ∃ q, 7 - k = q := ⟨_, rfl⟩
      rw [hq] at g1 g2 ⊢
      have HQ : Hid (7 - k = q) := hq
      have hq8 : (q : Int) < 8 := by omega
      have hq0 : (0 : Int) ≤ (q : Int) := by omega
      have HN : Hid (dv (k + 1) x = dv k x / 256) := rfl
      obtain ⟨y, hy⟩ : ∃ y, dv k x = y := ⟨_, rfl⟩
      have HY : Hid (dv k x = y) := hy
      rw [hy] at hd ⊢
      clear f0 hkn hq hy
      go_wp2
      go_roundw
      case rel =>
        refine ⟨k + 1, by omega, ?_, ?_, ?_, ?_⟩
        · rw [HN.out, HY.out]
          rfl
        · have := HQ.out
          congr 1
          omega
        · refine HF.out.set q _ _ fun j hj => ?_
          have hq := HQ.out
          by_cases e : j = q
          · subst e
            rw [if_pos (by omega), if_pos rfl]
            have e2 : 7 - j = k := by omega
            rw [e2, HY.out]
            rfl
          · rw [if_neg e]
            by_cases e2 : 8 ≤ j + k
            · rw [if_pos (by omega), if_pos e2]
            · rw [if_neg (by omega), if_neg e2]
        · exact hb.setCell (by show w.heap.size ≤ w.heap.size; omega) _
      case measure => simp [intOf]
    · have e8 : k = 8 := by omega
      subst e8
      have f1 : BytesAt wr w.heap.size 8 (fun j => ((dv (7 - j) x % 256 : Nat) : Int)) := by
        obtain ⟨cs, h1, h2, h3⟩ := f0.all
        refine ⟨cs, h1, h2, fun j hj => ?_⟩
        rw [h3 j hj, if_pos (by omega)]
      have hc := HC.out wr f1
      clear f0 f1
      go_wp2
      go_ret
      exact ⟨rfl, hb⟩

set_option maxHeartbeats 1000000 in
set_option maxRecDepth 100000 in
theorem l15Short_any (s : ByteArray) (w : World) (hs : s.size ≤ 1000000000) :
    Calls Try.prog 42 #[.string s] w fun e w' => e = .returned (.string (strOfNums (varB s.size) ++ s)) ∧ Below w.heap.size w w' := by
  have cV := fun W => l01Var_any s.size W hs
  have hz : (strOfNums (varB s.size)).size ≤ 5 := by rw [strOfNums_size]; exact varB_len5 hs
  go_enter Try.func42, Try.ntmps42
  go_wp2_with (go_at_call 40; refine (cV _).mono ?_; rintro e w' ⟨rfl, hb⟩)
  go_ret
  exact ⟨rfl, hb⟩

set_option maxHeartbeats 1000000 in
set_option maxRecDepth 100000 in
theorem l15Flag_any (b : Bool) (w : World) :
    Calls Try.prog 43 #[.bool b] w fun e w' => e = .returned (.string ⟨#[if b then 1 else 0]⟩) ∧ w = w' := by
  cases b
  all_goals
    go_enter Try.func43, Try.ntmps43
    go_wp2
    go_ret
    exact ⟨rfl, rfl⟩

end Go.Proofs.Ytgaphgejpnepfaa
