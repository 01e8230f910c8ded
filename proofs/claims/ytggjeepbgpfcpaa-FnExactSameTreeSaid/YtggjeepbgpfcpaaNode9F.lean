/-
  The law's own helper that holds two lists of nodes against each other.
-/
import Derived.Test.YtggjeepbgpfcpaaNode9E
namespace Go.Proofs.Ytggjeepbgpfcpaa
open Go.RowKit Go.Sort
set_option linter.unusedVariables false

/-- a node of a tree in memory, its cells as the walk reads them -/
structure NodeAt (w : World) (B g o : Nat) (p : PNode) (lv nv : Value) : Prop where
  list : w.ownsRow B 3 1 lv p.list.length (p.list.map (Value.int .i64))
  names : w.ownsRow B 9 1 nv p.names.length (p.names.map Value.string)
  c0 : w.cell? ⟨g, o, none⟩ = some (.int .i64 p.kind)
  c1 : w.cell? ⟨g, o + 1, none⟩ = some (.int .i64 p.a)
  c2 : w.cell? ⟨g, o + 2, none⟩ = some (.int .i64 p.b)
  c3 : w.cell? ⟨g, o + 3, none⟩ = some (.int .i64 p.c)
  c4 : w.cell? ⟨g, o + 4, none⟩ = some lv
  c5 : w.cell? ⟨g, o + 5, none⟩ = some nv
  c6 : w.cell? ⟨g, o + 6, none⟩ = some (.int .u64 (p.num : Int))
  c7 : w.cell? ⟨g, o + 7, none⟩ = some (.int .i64 p.pos)
theorem NodeAt.below {w w' : World} {B g o : Nat} {p : PNode} {lv nv : Value} (h : NodeAt w B g o p lv nv) (hb : Below w.heap.size w w') : NodeAt w' B g o p lv nv := by
  have hlt : g < w.heap.size := World.block_lt_of_cell? w _ h.c0
  have k : ∀ j u, w.cell? ⟨g, j, none⟩ = some u → w'.cell? ⟨g, j, none⟩ = some u := fun j u hu => (hb.cell (p := ⟨g, j, none⟩) hlt).trans hu
  exact ⟨own_keep h.list hb, own_keep h.names hb, k _ _ h.c0, k _ _ h.c1, k _ _ h.c2, k _ _ h.c3, k _ _ h.c4, k _ _ h.c5, k _ _ h.c6, k _ _ h.c7⟩
theorem TreeIn.opened {w : World} {B : Nat} {v : Value} {ns : List PNode} (h : TreeIn w B v ns) : ∃ x c, v = .slice x ns.length c ∧ ns.length ≤ maxLen ∧ (0 < ns.length → ∃ g, x = some ⟨g, 0, none⟩ ∧ ∀ q p, ns[q]? = some p → ∃ lv nv, NodeAt w B g (q * 8) p lv nv) := by
  obtain ⟨xs, h1, h2⟩ := h
  obtain ⟨x, c, e, hm, hl, hc⟩ := own_rows h1
  refine ⟨x, c, e, hm, fun h0 => ?_⟩
  obtain ⟨g, e1, _, hcell⟩ := hc h0
  refine ⟨g, e1, fun q p hq => ?_⟩
  obtain ⟨lv, nv, k1, k2, k3⟩ := h2 q p hq
  have k : ∀ c u, (nodeC p lv nv)[c]? = some u → w.cell? ⟨g, q * 8 + c, none⟩ = some u := fun c u hu => hcell _ _ (k1 c u hu)
  exact ⟨lv, nv, k2, k3, k 0 _ rfl, k 1 _ rfl, k 2 _ rfl, k 3 _ rfl, k 4 _ rfl, k 5 _ rfl, k 6 _ rfl, k 7 _ rfl⟩

set_option maxHeartbeats 4000000 in
set_option maxRecDepth 100000 in
theorem eqNodeS_same (B B' : Nat) (a b : Value) (ns : List PNode) (w : World) (ha : TreeIn w B a ns) (hb : TreeIn w B' b ns) :
    Calls Try.prog 10 #[a, b] w fun e w' => e = .returned (.bool true) ∧ Below w.heap.size w w' := by
  obtain ⟨xa, ca, rfl, hm, oa⟩ := ha.opened
  obtain ⟨xb, cb, rfl, _, ob⟩ := hb.opened
  clear ha hb
  unfold maxLen at hm
  obtain ⟨n, hn⟩ : ∃ n, ns.length = n := ⟨_, rfl⟩
  have HN : Hid (ns.length = n) := hn
  rw [hn] at hm oa ob ⊢
  clear hn
  have HA : Hid (0 < n → ∃ g, xa = some ⟨g, 0, none⟩ ∧ ∀ q p, ns[q]? = some p → ∃ lv nv, NodeAt w B g (q * 8) p lv nv) := oa
  have HB : Hid (0 < n → ∃ g, xb = some ⟨g, 0, none⟩ ∧ ∀ q p, ns[q]? = some p → ∃ lv nv, NodeAt w B' g (q * 8) p lv nv) := ob
  clear oa ob
  go_enter Try.func10, Try.ntmps10
  go_wp2
  go_loopw [5] (fun i wr => ∃ k : Nat, k ≤ n ∧ i = .int .i64 k ∧ Below w.heap.size w wr) (fun i _ => n - (intOf i).toNat)
  case atStart => exact ⟨0, Nat.zero_le _, rfl, Below.refl _ _⟩
  case round =>
    obtain ⟨k, hk, rfl, hbel⟩ := hrel
    by_cases hlt : k < n
    · obtain ⟨ga, rfl, hca⟩ := HA.out (by omega)
      obtain ⟨gb, rfl, hcb⟩ := HB.out (by omega)
      obtain ⟨p, hp⟩ : ∃ p, ns[k]? = some p := ⟨_, List.getElem?_eq_getElem (by have := HN.out; omega)⟩
      obtain ⟨l1, n1, hA⟩ := hca k p hp
      obtain ⟨l2, n2, hB⟩ := hcb k p hp
      have hA' := hA.below hbel
      have hB' := hB.below hbel
      have cQ := fun d os => Calls.regrown_of (w := wr) (d := d) (os := os) (eqNode_same B B' p l1 n1 l2 n2 (grow (redrawn wr d) os) (hA'.below (below_regrown wr d os)).list (hA'.below (below_regrown wr d os)).names (hB'.below (below_regrown wr d os)).list (hB'.below (below_regrown wr d os)).names)
      have c0 := cell_regrown hA'.c0
      have c1 := cell_regrown hA'.c1
      have c2 := cell_regrown hA'.c2
      have c3 := cell_regrown hA'.c3
      have c4 := cell_regrown hA'.c4
      have c5 := cell_regrown hA'.c5
      have c6 := cell_regrown hA'.c6
      have c7 := cell_regrown hA'.c7
      have d0 := cell_regrown hB'.c0
      have d1 := cell_regrown hB'.c1
      have d2 := cell_regrown hB'.c2
      have d3 := cell_regrown hB'.c3
      have d4 := cell_regrown hB'.c4
      have d5 := cell_regrown hB'.c5
      have d6 := cell_regrown hB'.c6
      have d7 := cell_regrown hB'.c7
      have hki : (k : Int) < (n : Int) := by omega
      have hk0 : (0 : Int) ≤ (k : Int) := by omega
      clear hca hcb hp hA hB hA' hB' HA HB
      go_wp2
      refine wp_region_quiet_below (by kernel_rfl) (by kernel_rfl) ?_
      repeat (first | go_big_quiet_step (exact cQ _ _) | quiet_step (exact cQ _ _))
      refine wpQuiet_nil ?_
      intro _ hw'
      obtain ⟨⟨dq, osq⟩, hw''⟩ := hw'
      subst hw''
      go_wp2
      go_roundw
      case rel => exact ⟨k + 1, by omega, by go_num, chain hbel (below_regrown wr dq osq)⟩
      case measure => simp [intOf]; omega
    · go_wp2
      go_ret
      exact ⟨rfl, hbel⟩

end Go.Proofs.Ytggjeepbgpfcpaa
