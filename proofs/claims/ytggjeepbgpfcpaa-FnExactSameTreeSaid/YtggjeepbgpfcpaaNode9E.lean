/-
  The law's own helpers that hold lists of nodes against each other: of two that are the same they say so.
-/
import Derived.Test.YtggjeepbgpfcpaaNode9V
import Derived.Deep.QuietTactic
import Derived.BigQuiet
import Derived.Lib.QuietBelow
namespace Go.Proofs.Ytggjeepbgpfcpaa
open Go.RowKit Go.Sort
set_option linter.unusedVariables false

/-- a row of one's own, opened -/
theorem own_rows {w : World} {B : Nat} {e : TypeId} {size : Nat} {v : Value} {n : Nat} {xs : List Value} (h : w.ownsRow B e size v n xs) :
    ∃ x c, v = .slice x n c ∧ n ≤ maxLen ∧ xs.length = n * size ∧ (0 < n → ∃ g, x = some ⟨g, 0, none⟩ ∧ g < w.heap.size ∧ ∀ j u, xs[j]? = some u → w.cell? ⟨g, j, none⟩ = some u) := by
  have hcs := fun g hg => h.cells (g := g) hg
  have hlt := h.lt
  obtain ⟨hlen, ⟨rfl, rfl⟩ | ⟨g, cap, cur, rfl, hb, hg, hnc, hc, hsz, htk⟩⟩ := h
  · exact ⟨none, 0, rfl, Nat.zero_le _, hlen, fun h => by omega⟩
  · refine ⟨_, _, rfl, Nat.le_trans hnc hc, hlen, fun _ => ⟨g, rfl, (hlt g rfl).2, fun j u hj => ?_⟩⟩
    have hp : (⟨g, 0, none⟩ : Addr).add j = ⟨g, j, none⟩ := by unfold Addr.add; split <;> simp_all
    rw [← hp]; exact hcs g rfl j u hj

set_option maxHeartbeats 400000 in
set_option maxRecDepth 100000 in
theorem eqInts_same (B B' : Nat) (a b : Value) (n : Nat) (ls : List Int) (w : World) (ha : w.ownsRow B 3 1 a n (ls.map (Value.int .i64))) (hb : w.ownsRow B' 3 1 b n (ls.map (Value.int .i64))) :
    Calls Try.prog 39 #[a, b] w fun e w' => e = .returned (.bool true) ∧ Below w.heap.size w w' := by
  obtain ⟨xa, ca, rfl, hm, hl, oa⟩ := own_rows ha
  obtain ⟨xb, cb, rfl, _, _, ob⟩ := own_rows hb
  clear ha hb
  unfold maxLen at hm
  have hln : ls.length = n := by simpa using hl
  clear hl
  go_enter Try.func39, Try.ntmps39
  go_wp2
  go_loopw [5] (fun i wr => ∃ k : Nat, k ≤ n ∧ i = .int .i64 k ∧ Below w.heap.size w wr) (fun i _ => n - (intOf i).toNat)
  case atStart => exact ⟨0, Nat.zero_le _, rfl, Below.refl _ _⟩
  case round =>
    obtain ⟨k, hk, rfl, hbel⟩ := hrel
    by_cases hlt : k < n
    · obtain ⟨ga, rfl, hga, hca⟩ := oa (by omega)
      obtain ⟨gb, rfl, hgb, hcb⟩ := ob (by omega)
      obtain ⟨s, hs⟩ : ∃ s, ls[k]? = some s := ⟨_, List.getElem?_eq_getElem (by omega)⟩
      have h1 : wr.cell? ⟨ga, k, none⟩ = some (.int .i64 s) := (hbel.cell hga).trans (hca k _ (by rw [List.getElem?_map, hs]; rfl))
      have h2 : wr.cell? ⟨gb, k, none⟩ = some (.int .i64 s) := (hbel.cell hgb).trans (hcb k _ (by rw [List.getElem?_map, hs]; rfl))
      have hki : (k : Int) < (n : Int) := by omega
      have hk0 : (0 : Int) ≤ (k : Int) := by omega
      clear oa ob hca hcb hs
      go_wp2
      go_quiet (fail)
      go_wp2
      go_roundw
      case rel => exact ⟨k + 1, by omega, by go_num, below_drewN hbel _⟩
      case measure => simp [intOf]; omega
    · go_wp2
      go_ret
      exact ⟨rfl, hbel⟩

set_option maxHeartbeats 400000 in
set_option maxRecDepth 100000 in
theorem eqStrs_same (B B' : Nat) (a b : Value) (n : Nat) (ls : List ByteArray) (w : World) (ha : w.ownsRow B 9 1 a n (ls.map Value.string)) (hb : w.ownsRow B' 9 1 b n (ls.map Value.string)) :
    Calls Try.prog 40 #[a, b] w fun e w' => e = .returned (.bool true) ∧ Below w.heap.size w w' := by
  obtain ⟨xa, ca, rfl, hm, hl, oa⟩ := own_rows ha
  obtain ⟨xb, cb, rfl, _, _, ob⟩ := own_rows hb
  clear ha hb
  unfold maxLen at hm
  have hln : ls.length = n := by simpa using hl
  clear hl
  go_enter Try.func40, Try.ntmps40
  go_wp2
  go_loopw [5] (fun i wr => ∃ k : Nat, k ≤ n ∧ i = .int .i64 k ∧ Below w.heap.size w wr) (fun i _ => n - (intOf i).toNat)
  case atStart => exact ⟨0, Nat.zero_le _, rfl, Below.refl _ _⟩
  case round =>
    obtain ⟨k, hk, rfl, hbel⟩ := hrel
    by_cases hlt : k < n
    · obtain ⟨ga, rfl, hga, hca⟩ := oa (by omega)
      obtain ⟨gb, rfl, hgb, hcb⟩ := ob (by omega)
      obtain ⟨s, hs⟩ : ∃ s, ls[k]? = some s := ⟨_, List.getElem?_eq_getElem (by omega)⟩
      have h1 : wr.cell? ⟨ga, k, none⟩ = some (.string s) := (hbel.cell hga).trans (hca k _ (by rw [List.getElem?_map, hs]; rfl))
      have h2 : wr.cell? ⟨gb, k, none⟩ = some (.string s) := (hbel.cell hgb).trans (hcb k _ (by rw [List.getElem?_map, hs]; rfl))
      have hki : (k : Int) < (n : Int) := by omega
      have hk0 : (0 : Int) ≤ (k : Int) := by omega
      clear oa ob hca hcb hs
      go_wp2
      go_quiet (fail)
      go_wp2
      go_roundw
      case rel => exact ⟨k + 1, by omega, by go_num, below_drewN hbel _⟩
      case measure => simp [intOf]; omega
    · go_wp2
      go_ret
      exact ⟨rfl, hbel⟩

theorem two_new (w : World) (o1 o2 : Obj) : ((w.alloc o1).alloc o2).heap[w.heap.size]? = some o1 ∧ ((w.alloc o1).alloc o2).heap[w.heap.size + 1]? = some o2 ∧ ((w.alloc o1).alloc o2).heap.size = w.heap.size + 2 ∧ Below w.heap.size w ((w.alloc o1).alloc o2) := by
  have z1 : (w.alloc o1).heap.size = w.heap.size + 1 := by simp
  refine ⟨?_, ?_, by simp, ((Below.refl _ _).alloc (Nat.le_refl _) _).alloc (by simp) _⟩
  · rw [heap_alloc_old (r := w.heap.size) _ _ (by omega)]
    exact heap_alloc_new _ _
  · rw [← z1]
    exact heap_alloc_new _ _

set_option maxHeartbeats 1000000 in
set_option maxRecDepth 100000 in
theorem eqNode_same (B B' : Nat) (p : PNode) (l1 n1 l2 n2 : Value) (w : World) (a1 : w.ownsRow B 3 1 l1 p.list.length (p.list.map (Value.int .i64))) (a2 : w.ownsRow B 9 1 n1 p.names.length (p.names.map Value.string))
    (b1 : w.ownsRow B' 3 1 l2 p.list.length (p.list.map (Value.int .i64))) (b2 : w.ownsRow B' 9 1 n2 p.names.length (p.names.map Value.string)) :
    Calls Try.prog 21 #[.agg #[.int .i64 p.kind, .int .i64 p.a, .int .i64 p.b, .int .i64 p.c, l1, n1, .int .u64 (p.num : Int), .int .i64 p.pos], .agg #[.int .i64 p.kind, .int .i64 p.a, .int .i64 p.b, .int .i64 p.c, l2, n2, .int .u64 (p.num : Int), .int .i64 p.pos]] w fun e w' => e = .returned (.bool true) ∧ Below w.heap.size w w' := by
  have T := two_new w (.cells #[.int .i64 p.kind, .int .i64 p.a, .int .i64 p.b, .int .i64 p.c, l1, n1, .int .u64 (p.num : Int), .int .i64 p.pos] 38) (.cells #[.int .i64 p.kind, .int .i64 p.a, .int .i64 p.b, .int .i64 p.c, l2, n2, .int .u64 (p.num : Int), .int .i64 p.pos] 38)
  obtain ⟨W2, hW2⟩ : ∃ W, ((w.alloc (.cells #[.int .i64 p.kind, .int .i64 p.a, .int .i64 p.b, .int .i64 p.c, l1, n1, .int .u64 (p.num : Int), .int .i64 p.pos] 38)).alloc (.cells #[.int .i64 p.kind, .int .i64 p.a, .int .i64 p.b, .int .i64 p.c, l2, n2, .int .u64 (p.num : Int), .int .i64 p.pos] 38)) = W := ⟨_, rfl⟩
  rw [hW2] at T
  obtain ⟨t0, t1, tz, tb⟩ := T
  have cI := fun W (hb : Below w.heap.size w W) => eqInts_same B B' l1 l2 p.list.length p.list W (own_keep a1 hb) (own_keep b1 hb)
  have cS := fun W (hb : Below w.heap.size w W) => eqStrs_same B B' n1 n2 p.names.length p.names W (own_keep a2 hb) (own_keep b2 hb)
  clear a1 a2 b1 b2
  obtain ⟨G, hG⟩ : ∃ G, w.heap.size = G := ⟨_, rfl⟩
  rw [hG] at t0 t1 tz
  obtain ⟨e0, e1, e2, e3, e4, e5, e6, e7⟩ := cells_eight t0
  obtain ⟨f0, f1, f2, f3, f4, f5, f6, f7⟩ := cells_eight t1
  go_enter Try.func21, Try.ntmps21
  go_upto_region 1 with fail
  try simp only [hW2, hG]
  clear hW2
  go_wp2_with fail
  refine (cI W2 tb).mono ?_
  rintro e w3 ⟨rfl, b3⟩
  have x0 := (b3.block G (by omega)).trans t0
  have x1 := (b3.block (G + 1) (by omega)).trans t1
  obtain ⟨g0, g1, g2, g3, g4, g5, g6, g7⟩ := cells_eight x0
  obtain ⟨h0, h1, h2, h3, h4, h5, h6, h7⟩ := cells_eight x1
  have tb3 := tb.trans (b3.mono (by omega))
  have s3 := b3.size
  clear e0 e1 e2 e3 e4 e5 e6 e7 f0 f1 f2 f3 f4 f5 f6 f7 t0 t1 cI b3
  go_wp2_with fail
  refine (cS w3 tb3).mono ?_
  rintro e w4 ⟨rfl, b4⟩
  have y0 := (b4.block G (by omega)).trans x0
  have y1 := (b4.block (G + 1) (by omega)).trans x1
  obtain ⟨i0, i1, i2, i3, i4, i5, i6, i7⟩ := cells_eight y0
  obtain ⟨j0, j1, j2, j3, j4, j5, j6, j7⟩ := cells_eight y1
  have tb4 := tb3.trans (b4.mono (by omega))
  clear g0 g1 g2 g3 g4 g5 g6 g7 h0 h1 h2 h3 h4 h5 h6 h7 x0 x1 y0 y1 cS b4
  go_wp2
  go_ret
  exact ⟨rfl, tb4⟩

end Go.Proofs.Ytggjeepbgpfcpaa
