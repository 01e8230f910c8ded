/-
  The law's own helpers that hold lists of nodes against each other: of two that are the same they say so.
-/
import Derived.Test.YtbgdapdenbldmaaNode9V
import Derived.Deep.QuietTactic
import Derived.BigQuiet
import Derived.Lib.QuietBelow
namespace Go.Proofs.Ytbgdapdenbldmaa
open Go.RowKit Go.Sort
set_option linter.unusedVariables false

/-- a row of one's own, opened -/
theorem own_rows {w : World} {B : Nat} {e : TypeId} {size : Nat} {v : Value} {n : Nat} {xs : List Value} (h : w.ownsRow B e size v n xs) :
    ∃ x c, v = .slice x n c ∧ n ≤ maxLen ∧ xs.length = n * size ∧ (0 < n → ∃ g, x = some ⟨g, 0, none⟩ ∧ g < w.heap.size ∧ ∀ j u, xs[j]? = some u → w.cell? ⟨g, j, none⟩ = some u) := by
  have hcs := fun g hg => h.cells (g := g) hg
  have hlt := h.lt
  obtain ⟨hlen, ⟨rfl, rfl⟩ | ⟨g, cap, cur, rfl, hb, hg, hnc, hc, hsz, htk⟩⟩ := h
  · exact ⟨none, 0, rfl, Nat.zero_le _, hlen, fun h => by omega⟩
  · refine ⟨_, _, rfl, Nat.le_trans hnc hc, hlen, fun _ => ⟨g, rfl, (hlt g rfl).2, fun j u hj => ?_⟩⟩
    have hp : (⟨g, 0, none⟩ : Addr).add j = ⟨g, j, none⟩ := by unfold Addr.add; split <;> simp_all
    rw [← hp]; exact hcs g rfl j u hj

set_option maxHeartbeats 400000 in
set_option maxRecDepth 100000 in
theorem eqInts_same (B B' : Nat) (a b : Value) (n : Nat) (ls : List Int) (w : World) (ha : w.ownsRow B 3 1 a n (ls.map (Value.int .i64))) (hb : w.ownsRow B' 3 1 b n (ls.map (Value.int .i64))) :
    Calls Try.prog 13 #[a, b] w fun e w' => e = .returned (.bool true) ∧ Below w.heap.size w w' := by
  obtain ⟨xa, ca, rfl, hm, hl, oa⟩ := own_rows ha
  obtain ⟨xb, cb, rfl, _, _, ob⟩ := own_rows hb
  clear ha hb
  unfold maxLen at hm
  have hln : ls.length = n := by simpa using hl
  clear hl
  go_enter Try.func13, Try.ntmps13
  go_wp2
  go_loopw [5] (fun i wr => ∃ k : Nat, k ≤ n ∧ i = .int .i64 k ∧ Below w.heap.size w wr) (fun i _ => n - (intOf i).toNat)
  case atStart => exact ⟨0, Nat.zero_le _, rfl, Below.refl _ _⟩
  case round =>
    obtain ⟨k, hk, rfl, hbel⟩ := hrel
    by_cases hlt : k < n
    · obtain ⟨ga, rfl, hga, hca⟩ := oa (by omega)
      obtain ⟨gb, rfl, hgb, hcb⟩ := ob (by omega)
      obtain ⟨s, hs⟩ : ∃ s, ls[k]? = some s := ⟨_, List.getElem?_eq_getElem (by omega)⟩
      have h1 : wr.cell? ⟨ga, k, none⟩ = some (.int .i64 s) := (hbel.cell hga).trans (hca k _ (by rw [List.getElem?_map, hs]; rfl))
      have h2 : wr.cell? ⟨gb, k, none⟩ = some (.int .i64 s) := (hbel.cell hgb).trans (hcb k _ (by rw [List.getElem?_map, hs]; rfl))
      have hki : (k : Int) < (n : Int) := by omega
      have hk0 : (0 : Int) ≤ (k : Int) := by omega
      clear oa ob hca hcb hs
      go_wp2
      go_quiet (fail)
      go_wp2
      go_roundw
      case rel => exact ⟨k + 1, by omega, by go_num, below_drewN hbel _⟩
      case measure => simp [intOf]; omega
    · go_wp2
      go_ret
      exact ⟨rfl, hbel⟩

set_option maxHeartbeats 400000 in
set_option maxRecDepth 100000 in
theorem eqStrs_same (B B' : Nat) (a b : Value) (n : Nat) (ls : List ByteArray) (w : World) (ha : w.ownsRow B 9 1 a n (ls.map Value.string)) (hb : w.ownsRow B' 9 1 b n (ls.map Value.string)) :
    Calls Try.prog 44 #[a, b] w fun e w' => e = .returned (.bool true) ∧ Below w.heap.size w w' := by
  obtain ⟨xa, ca, rfl, hm, hl, oa⟩ := own_rows ha
  obtain ⟨xb, cb, rfl, _, _, ob⟩ := own_rows hb
  clear ha hb
  unfold maxLen at hm
  have hln : ls.length = n := by simpa using hl
  clear hl
  go_enter Try.func44, Try.ntmps44
  go_wp2
  go_loopw [5] (fun i wr => ∃ k : Nat, k ≤ n ∧ i = .int .i64 k ∧ Below w.heap.size w wr) (fun i _ => n - (intOf i).toNat)
  case atStart => exact ⟨0, Nat.zero_le _, rfl, Below.refl _ _⟩
  case round =>
    obtain ⟨k, hk, rfl, hbel⟩ := hrel
    by_cases hlt : k < n
    · obtain ⟨ga, rfl, hga, hca⟩ := oa (by omega)
      obtain ⟨gb, rfl, hgb, hcb⟩ := ob (by omega)
      obtain ⟨s, hs⟩ : ∃ s, ls[k]? = some s := ⟨_, List.getElem?_eq_getElem (by omega)⟩
      have h1 : wr.cell? ⟨ga, k, none⟩ = some (.string s) := (hbel.cell hga).trans (hca k _ (by rw [List.getElem?_map, hs]; rfl))
      have h2 : wr.cell? ⟨gb, k, none⟩ = some (.string s) := (hbel.cell hgb).trans (hcb k _ (by rw [List.getElem?_map, hs]; rfl))
      have hki : (k : Int) < (n : Int) := by omega
      have hk0 : (0 : Int) ≤ (k : Int) := by omega
      clear oa ob hca hcb hs
      go_wp2
      go_quiet (fail)
      go_wp2
      go_roundw
      case rel => exact ⟨k + 1, by omega, by go_num, below_drewN hbel _⟩
      case measure => simp [intOf]; omega
    · go_wp2
      go_ret
      exact ⟨rfl, hbel⟩

theorem two_new (w : World) (o1 o2 : Obj) : ((w.alloc o1).alloc o2).heap[w.heap.size]? = some o1 ∧ ((w.alloc o1).alloc o2).heap[w.heap.size + 1]? = some o2 ∧ ((w.alloc o1).alloc o2).heap.size = w.heap.size + 2 ∧ Below w.heap.size w ((w.alloc o1).alloc o2) := by
  have z1 : (w.alloc o1).heap.size = w.heap.size + 1 := by simp
  refine ⟨?_, ?_, by simp, ((Below.refl _ _).alloc (Nat.le_refl _) _).alloc (by simp) _⟩
  · rw [heap_alloc_old (r := w.heap.size) _ _ (by omega)]
    exact heap_alloc_new _ _
  · rw [← z1]
    exact heap_alloc_new _ _

end Go.Proofs.Ytbgdapdenbldmaa
