/-
  The law's own helpers that copy what came in: numbers, texts, nodes, each into memory of its own.
-/
import Derived.Test.YtbgdapdenbldmaaRows
import Derived.Test.YtbgdapdenbldmaaNode9B
import Derived.Test.YtbgdapdenbldmaaInfo
import Derived.Laws.OwnMore
namespace Go.Proofs.Ytbgdapdenbldmaa
open Go.RowKit
set_option linter.unusedVariables false

theorem info_three {P : Program} {t : TypeId} {z : Value} {n b : Nat} (h : (P.info? t).map (fun i => (i.zero, i.size, i.bytes)) = some (some z, n, b)) : ∃ i, P.info? t = some i ∧ i.zero = some z ∧ i.size = n ∧ i.bytes = b := by
  cases hi : P.info? t with
  | none => rw [hi] at h; cases h
  | some i =>
    rw [hi] at h
    simp only [Option.map_some, Option.some.injEq, Prod.mk.injEq] at h
    exact ⟨i, rfl, h.1, h.2.1, h.2.2⟩

theorem made_ints (w : World) (n : Nat) (hn : n ≤ 1048576) : ∃ W1 : World, (Instr.makeSlice 35 (.int .i64 (n : Int)) (.int .i64 (n : Int))).run Try.prog w = .ok (.slice (some ⟨w.heap.size, 0, none⟩) n n) W1 ∧
    (∃ xs, W1.ownsRow w.heap.size 3 1 (.slice (some ⟨w.heap.size, 0, none⟩) n n) n xs) ∧ Below w.heap.size w W1 := by
  obtain ⟨i0, hi, hz0, hz1, hz2⟩ := info_three Try.infoInt
  obtain ⟨W, h1, h2, h3⟩ := run_make_full (P := Try.prog) w w.heap.size 35 3 i0 _ 1 Try.underlying35 hi hz0 hz1 .i64 .i64 n (by rw [hz2]; omega) (by unfold maxLen; omega) (Nat.le_refl _)
  exact ⟨W, h1, ⟨_, h2⟩, ⟨h3.os, h3.tape, h3.output, h3.size, fun k hk => h3.block k hk (by simp)⟩⟩

theorem made_strs (w : World) (n : Nat) (hn : n ≤ 1048576) : ∃ W1 : World, (Instr.makeSlice 39 (.int .i64 (n : Int)) (.int .i64 (n : Int))).run Try.prog w = .ok (.slice (some ⟨w.heap.size, 0, none⟩) n n) W1 ∧
    (∃ xs, W1.ownsRow w.heap.size 9 1 (.slice (some ⟨w.heap.size, 0, none⟩) n n) n xs) ∧ Below w.heap.size w W1 := by
  obtain ⟨i0, hi, hz0, hz1, hz2⟩ := info_three Try.infoText
  obtain ⟨W, h1, h2, h3⟩ := run_make_full (P := Try.prog) w w.heap.size 39 9 i0 _ 1 Try.underlying39 hi hz0 hz1 .i64 .i64 n (by rw [hz2]; omega) (by unfold maxLen; omega) (Nat.le_refl _)
  exact ⟨W, h1, ⟨_, h2⟩, ⟨h3.os, h3.tape, h3.output, h3.size, fun k hk => h3.block k hk (by simp)⟩⟩

/-- a store into a row of one's own -/
theorem own_put {w w0 : World} {H : Nat} {e : TypeId} {size g n c : Nat} {xs : List Value} (h : w.ownsRow H e size (.slice (some ⟨g, 0, none⟩) n c) n xs) (hb : Below w0.heap.size w0 w) (hg : w0.heap.size ≤ g) (j : Nat) (u : Value) :
    (w.setCell ⟨g, j, none⟩ u).ownsRow H e size (.slice (some ⟨g, 0, none⟩) n c) n (xs.set j u) ∧ Below w0.heap.size w0 (w.setCell ⟨g, j, none⟩ u) := ⟨(h.stored j u).1, hb.setCell (p := ⟨g, j, none⟩) hg u⟩
theorem own_cell {w : World} {H : Nat} {e : TypeId} {size g n c : Nat} {xs : List Value} (h : w.ownsRow H e size (.slice (some ⟨g, 0, none⟩) n c) n xs) (j : Nat) (hj : j < n * size) : (∃ u, w.cell? ⟨g, j, none⟩ = some u) ∧ w.frozen? ⟨g, j, none⟩ = false := by
  refine ⟨⟨_, (h.cellAt j hj).trans (List.getElem?_eq_getElem (by rw [h.1]; exact hj))⟩, h.frozenAt j⟩
theorem own_lt {w : World} {H : Nat} {e : TypeId} {size g n c : Nat} {xs : List Value} (h : w.ownsRow H e size (.slice (some ⟨g, 0, none⟩) n c) n xs) : H ≤ g ∧ g < w.heap.size := h.lt g rfl

theorem row_ext {n : Nat} {f : Nat → Value} {xs : List Value} (hl : xs.length = n) (h : ∀ q, q < n → xs[q]? = some (f q)) : xs = (List.range n).map f := by
  apply List.ext_getElem?
  intro q
  by_cases hq : q < n
  · rw [h q hq, List.getElem?_map, List.getElem?_range hq]; rfl
  · rw [List.getElem?_eq_none (by omega), List.getElem?_eq_none (by simp; omega)]
theorem map_range {α : Type} (l : List α) (d : α) (f : α → Value) : (List.range l.length).map (fun q => f (l.getD q d)) = l.map f := by
  apply List.ext_getElem?
  intro q
  by_cases hq : q < l.length
  · simp [hq, List.getD]
  · rw [List.getElem?_eq_none (by simp; omega), List.getElem?_eq_none (by simp; omega)]

set_option maxHeartbeats 1000000 in
set_option maxRecDepth 100000 in
theorem toStringS_any (v : Value) (l : List ByteArray) (w : World) (hv : ArgStrs w v l) (hfew : l.length ≤ 1048576) :
    Calls Try.prog 42 #[v] w fun e w' => ∃ v', e = .returned v' ∧ w'.ownsRow w.heap.size 9 1 v' l.length (l.map Value.string) ∧ Below w.heap.size w w' := by
  obtain ⟨x, c, rfl, hm, _, hc⟩ := hv
  obtain ⟨n, hn⟩ : ∃ n, l.length = n := ⟨_, rfl⟩
  have HE : Hid (∀ xs : List Value, xs.length = n * 1 → (∀ q, q < n → xs[q]? = some (.string (l.getD q ByteArray.empty))) → xs = l.map Value.string) := fun xs h1 h2 => by
    rw [← map_range l ByteArray.empty, hn]
    exact row_ext (by omega) h2
  rw [hn] at hm hc hfew ⊢
  clear hn
  unfold maxLen at hm
  obtain ⟨W1, hmk, ⟨xs0, hrow⟩, hbel⟩ := made_strs w n hfew
  obtain ⟨g, hg⟩ : ∃ g, w.heap.size = g := ⟨_, rfl⟩
  have hge : w.heap.size ≤ g := by omega
  rw [hg] at hmk
  have HR : Hid (W1.ownsRow w.heap.size 9 1 (.slice (some ⟨g, 0, none⟩) n n) n xs0) := by rw [hg]; rw [hg] at hrow; exact hrow
  have HC : Hid (0 < n → ∃ b o, x = some ⟨b, o, none⟩ ∧ b < w.heap.size ∧ ∀ j, j < n → w.cell? ⟨b, o + j, none⟩ = some (.string (l.getD j ByteArray.empty))) := hc
  clear hrow hg hc
  go_enter Try.func42, Try.ntmps42
  go_wp2
  clear hmk
  go_loopw [4] (fun i wr => ∃ (k : Nat) (xs : List Value), i = .int .i64 k ∧ k ≤ n ∧ Hid (wr.ownsRow w.heap.size 9 1 (.slice (some ⟨g, 0, none⟩) n n) n xs) ∧ Below w.heap.size w wr ∧ Hid (∀ q, q < k → xs[q]? = some (.string (l.getD q ByteArray.empty)))) (fun i _ => n - (intOf i).toNat)
  case atStart => exact ⟨0, xs0, rfl, Nat.zero_le _, HR, hbel, fun q hq => absurd hq (Nat.not_lt_zero _)⟩
  case round =>
    clear HR hbel
    obtain ⟨k, xs, rfl, hk, HO, hbw, HQ⟩ := hrel
    by_cases hkn : k < n
    · obtain ⟨b, o, rfl, hb, hcell⟩ := HC.out (by omega)
      have hcl : wr.cell? ⟨b, o + k, none⟩ = some (.string (l.getD k ByteArray.empty)) := (hbw.cell (p := ⟨b, o + k, none⟩) hb).trans (hcell k hkn)
      obtain ⟨z, hz⟩ : ∃ z, l.getD k ByteArray.empty = z := ⟨_, rfl⟩
      rw [hz] at hcl
      obtain ⟨⟨u, hu⟩, hfz⟩ := own_cell HO.out k (by omega)
      have HP : Hid _ := own_put HO.out hbw hge k (.string z)
      have hlen : xs.length = n := by have := HO.out.1; omega
      have HQ2 : Hid (∀ q, q < k + 1 → (xs.set k (.string z))[q]? = some (.string (l.getD q ByteArray.empty))) := fun q hq => by
        by_cases e : q = k
        · subst e; rw [List.getElem?_set_self (by omega), hz]
        · rw [List.getElem?_set_ne (by omega)]; exact HQ.out q (by omega)
      have hki : (k : Int) < (n : Int) := by omega
      have hk0 : (0 : Int) ≤ (k : Int) := by omega
      clear hcell HC HE HQ HO hz
      go_wp2
      go_roundw
      case rel => exact ⟨k + 1, _, by go_num, by omega, HP.out.1, HP.out.2, HQ2⟩
      case measure => simp [intOf]; omega
    · have hkn' : k = n := by omega
      subst hkn'
      have hx := HE.out xs HO.out.1 HQ.out
      subst hx
      go_wp2
      go_ret
      exact ⟨_, rfl, HO.out, hbw⟩

end Go.Proofs.Ytbgdapdenbldmaa
