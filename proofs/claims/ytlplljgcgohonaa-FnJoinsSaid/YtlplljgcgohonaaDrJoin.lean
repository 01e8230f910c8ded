/-
  Two states are drawn.
-/
import Derived.Test.YtlplljgcgohonaaDraw1
import Derived.Test.YtlplljgcgohonaaReg9
import Derived.Test.YtlplljgcgohonaaVer16W
import Derived.Test.YtlplljgcgohonaaIVer16Q
namespace Go.Proofs.Ytlplljgcgohonaa
open Go Go.RowKit Go.Sort
set_option linter.unusedVariables false
set_option linter.unusedSimpArgs false

/-- what stands while a state is drawn -/
structure StD (ac : Option Addr) (len cap g C R : Nat) (A : Int) (v : Value) (l : List Int) (w wr : World) : Prop where
  row : OwnI wr w.heap.size v l
  box : wr.heap[C]? = some (.cells #[.int .i64 A, v] 26 (0, 0))
  res : wr.heap[R]? = some (.cells #[.int .i64 0, .slice none 0 0] 26 (0, 0))
  cur0 : Cur ac len cap w g
  cur : Cur ac len cap wr g
  gr : w.grownBy wr (some g)
  lo : w.heap.size ≤ C ∧ w.heap.size ≤ R ∧ R ≠ C ∧ g < w.heap.size

theorem own_lo {w : World} {B g : Nat} {v : Value} {l : List Int} (h : OwnI w B v l) (hg : v.ownBlock = some g) : B ≤ g ∧ g < w.heap.size := by
  obtain ⟨_, ⟨h2, _⟩ | ⟨g2, cap, cur, h2, h3, h4, _⟩⟩ := h
  · rw [h2] at hg; cases hg
  · rw [h2] at hg
    have e : g2 = g := Option.some.inj hg
    rw [← e]
    exact ⟨h3, lt16 h4⟩

theorem StD.grown {ac : Option Addr} {len cap g C R : Nat} {A : Int} {v : Value} {l : List Int} {w wr wr' : World} (h : StD ac len cap g C R A v l w wr) (hc : Cur ac len cap wr' g) (hg : wr.grownBy wr' (some g)) : StD ac len cap g C R A v l w wr' := by
  obtain ⟨l1, l2, l3, l4⟩ := h.lo
  refine ⟨own_step h.row hg.size (fun k hk => hg.block k (own_lo h.row hk).2 (fun e => ?_)), (hg.block C (lt16 h.box) (fun e => ?_)).trans h.box, (hg.block R (lt16 h.res) (fun e => ?_)).trans h.res, h.cur0, hc, h.gr.trans hg, h.lo⟩
  · have := (own_lo h.row hk).1
    have := Option.some.inj e
    omega
  · have := Option.some.inj e
    omega
  · have := Option.some.inj e
    omega
theorem StD.below {ac : Option Addr} {len cap g C R : Nat} {A : Int} {v : Value} {l : List Int} {w wr wr' : World} (h : StD ac len cap g C R A v l w wr) (hb : Below wr.heap.size wr wr') : StD ac len cap g C R A v l w wr' :=
  h.grown (cur_below h.cur h.cur hb) ⟨hb.os, hb.tape, hb.output, hb.size, fun k hk _ => hb.block k hk⟩
/-- one more is behind the row, and the row is put into the box -/
theorem StD.more {ac : Option Addr} {len cap g C R : Nat} {A z : Int} {v v' : Value} {l : List Int} {w wr wr' : World} (h : StD ac len cap g C R A v l w wr) (ho : OwnI wr' w.heap.size v' (l ++ [z])) (hg : wr.grownBy wr' v.ownBlock) : StD ac len cap g C R A v' (l ++ [z]) w (wr'.setCell ⟨C, 1, none⟩ v') := by
  obtain ⟨l1, l2, l3, l4⟩ := h.lo
  have nC := apart16 h.row h.box (by decide)
  have nR := apart16 h.row h.res (by decide)
  have bC := (hg.block C (lt16 h.box) (fun e => nC e.symm)).trans h.box
  have bR := (hg.block R (lt16 h.res) (fun e => nR e.symm)).trans h.res
  have nC' := apart16 ho bC (by decide)
  have b1 : Below w.heap.size wr wr' := ⟨hg.os, hg.tape, hg.output, hg.size, fun k hk => hg.block k (by have := h.gr.size; omega) (fun e => by have := (own_lo h.row e.symm).1; omega)⟩
  have b2 : Below w.heap.size wr (wr'.setCell ⟨C, 1, none⟩ v') := b1.setCell (p := ⟨C, 1, none⟩) l1 v'
  refine ⟨far16 ho nC', heap_setCell_same _ C 1 _ _ v' bC, (heap_setCell_other _ ⟨C, 1, none⟩ R _ l3).trans bR, h.cur0, cur_below h.cur0 h.cur b2, gr_below h.gr b2, h.lo⟩

theorem two_made16 (w : World) (o1 o2 : Obj) : ((w.alloc o1).alloc o2).heap[w.heap.size]? = some o1 ∧ ((w.alloc o1).alloc o2).heap[w.heap.size + 1]? = some o2 ∧ ((w.alloc o1).alloc o2).heap.size = w.heap.size + 2 ∧ Below w.heap.size w ((w.alloc o1).alloc o2) := by
  have z1 : (w.alloc o1).heap.size = w.heap.size + 1 := by simp
  refine ⟨?_, ?_, by simp, ((Below.refl _ _).alloc (Nat.le_refl _) _).alloc (by simp) _⟩
  · rw [heap_alloc_old (r := w.heap.size) _ _ (by omega)]
    exact heap_alloc_new _ _
  · rw [← z1]
    exact heap_alloc_new _ _
theorem StD.boxAt {ac : Option Addr} {len cap g C R : Nat} {A : Int} {v : Value} {l : List Int} {w wr wr' : World} (h : StD ac len cap g C R A v l w wr) (hg : wr.grownBy wr' v.ownBlock) : wr'.heap[C]? = some (.cells #[.int .i64 A, v] 26 (0, 0)) :=
  (hg.block C (lt16 h.box) (fun e => apart16 h.row h.box (by decide) e.symm)).trans h.box

set_option maxHeartbeats 2000000 in
set_option maxRecDepth 100000 in
theorem l16State_any (ac : Option Addr) (len cap g n : Nat) (w : World) (hC : Cur ac len cap w g) (hn : n ≤ 1000) :
    Calls Try.prog 29 #[.pointer (some ⟨g, 0, none⟩), .int .i64 (n : Int)] w fun e w' => ∃ (s : PSta) (v : Value), e = .returned (.agg #[.int .i64 s.acc, v]) ∧ s.regs.length = n ∧ OwnI w' w.heap.size v s.regs ∧ Cur ac len cap w' g ∧ w.grownBy w' (some g) := by
  obtain ⟨i1, hi, hz0, hz1, hz2⟩ := info_in Try.infoInt
  have hl := hC.2.1
  have hC0 : Hid (Cur ac len cap w g) := hC
  have cB := l01Below_nat ac len cap g 2 _ (cur_alloc hC (.cells #[.int .i64 0, .slice none 0 0] 26)) (by omega) (by omega)
  have hbS : ∀ (a : Int) W, (Instr.build 26 #[(0, .int .i64 a)]).run Try.prog W = .ok (.agg #[.int .i64 a, .slice none 0 0]) W := fun a W => run_build W 26 _ _ (by kernel_rfl)
  have r0 := heap_alloc_new w (.cells #[.int .i64 0, .slice none 0 0] 26)
  have b0 : Below w.heap.size w (w.alloc (.cells #[.int .i64 0, .slice none 0 0] 26)) := (Below.refl _ _).alloc (Nat.le_refl _) _
  have hs0 : (w.alloc (.cells #[.int .i64 0, .slice none 0 0] 26)).heap.size = w.heap.size + 1 := by simp
  obtain ⟨W0, hW0⟩ : ∃ W, w.alloc (.cells #[.int .i64 0, .slice none 0 0] 26) = W := ⟨_, rfl⟩
  rw [hW0] at cB r0 b0 hs0
  rw [show ((2 : Nat) : Int) = 2 from rfl] at cB
  obtain ⟨R, hR⟩ : ∃ R, w.heap.size = R := ⟨_, rfl⟩
  rw [hR] at r0
  have HR : Hid (w.heap.size = R ∧ W0.heap.size = R + 1 ∧ W0.heap[R]? = some (.cells #[.int .i64 0, .slice none 0 0] 26 (0, 0)) ∧ Below w.heap.size w W0) := ⟨hR, by omega, r0, b0⟩
  have HW0 : Hid (_ = W0) := hW0
  clear hW0 r0 b0 hs0 hC
  go_enter Try.func29, Try.ntmps29
  go_upto_region 1 with fail
  rw [HW0.out]
  clear HW0
  try simp only [hR]
  go_upto_region 2 with (go_at_call 28; (with_reducible refine cB.mono ?_); rintro e w1 ⟨a, ha, rfl, hc1, g1⟩)
  obtain ⟨C, hCe⟩ : ∃ C, w1.heap.size = C := ⟨_, rfl⟩
  have hb1 : Below w1.heap.size w1 (w1.alloc (.cells #[.int .i64 (a : Int), .slice none 0 0] 26)) := (Below.refl _ _).alloc (Nat.le_refl _) _
  have hcC := heap_alloc_new w1 (.cells #[.int .i64 (a : Int), .slice none 0 0] 26)
  obtain ⟨W2, hW2⟩ : ∃ W, w1.alloc (.cells #[.int .i64 (a : Int), .slice none 0 0] 26) = W := ⟨_, rfl⟩
  have HW2 : Hid (_ = W2) := hW2
  rw [hW2] at hb1 hcC
  rw [hCe] at hcC
  have HS0 : Hid (StD ac len cap g C R (a : Int) (.slice none 0 0) [] w W2) := by
    obtain ⟨e1, e2, e3, e4⟩ := HR.out
    have s1 := g1.size
    have gw : w.grownBy w1 (some g) := ⟨g1.os.trans e4.os, g1.tape.trans e4.tape, g1.output.trans e4.output, Nat.le_trans e4.size g1.size, fun k hk hne => (g1.block k (by omega) hne).trans (e4.block k hk)⟩
    have rr : w1.heap[R]? = some (.cells #[.int .i64 0, .slice none 0 0] 26 (0, 0)) := (g1.block R (by omega) (by simp; omega)).trans e3
    exact ⟨World.ownsRow_nil _ _ _ _, hcC, (hb1.block R (lt16 rr)).trans rr, hC0.out, cur_below hc1 hc1 hb1, gr_below gw (hb1.mono (by omega)), by omega, by omega, by omega, hl⟩
  go_upto_region 2 with fail
  rw [HW2.out]
  try simp only [hCe]
  clear hc1 g1 hb1 hcC hW2 HW2 hCe HR hR cB
  go_upto_region 3 with fail
  go_loopw [6] (fun i wr => ∃ (k : Nat) (v : Value) (l : List Int), i = .int .i64 k ∧ k ≤ n ∧ Hid (l.length = k) ∧ Hid (StD ac len cap g C R (a : Int) v l w wr)) (fun i _ => n - (intOf i).toNat)
  case atStart => exact ⟨0, _, [], rfl, Nat.zero_le _, rfl, HS0⟩
  case round =>
    clear HS0
    obtain ⟨k, v, l, rfl, hk, HL, HS⟩ := hrel
    by_cases hkn : k < n
    · have hki : (k : Int) < (n : Int) := by omega
      obtain ⟨y, d, rfl⟩ := row_slice HS.out.row
      obtain ⟨m, hm⟩ : ∃ m, l.length = m := ⟨_, rfl⟩
      have HM : Hid (l.length = m ∧ m = k) := ⟨hm, by rw [← hm]; exact HL.out⟩
      have HS1 : Hid (StD ac len cap g C R (a : Int) (.slice y m d) l w wr) := by
        have h := HS.out
        rw [hm] at h
        exact h
      try simp only [hm]
      clear hm HS HL
      have c1 := (two_cells_of HS1.out.box).2
      have hk1000 : m < 1000000000 := by have := HM.out; omega
      have D3 : Hid (StD ac len cap g C R (a : Int) (.slice y m d) l w wr.drew) := HS1.out.below (Below.refl _ _).drew
      have HS3 : Hid ((wr.alloc (.cells #[.int .i64 0, .int .i64 1, .int .i64 1, .int .i64 1, .int .i64 2] 3)).drew.cell? ⟨C, 1, none⟩ = some (.slice y m d)) := (two_cells_of (D3.out.below ((Below.refl _ _).alloc (Nat.le_refl _) _)).box).2
      have cP : Calls Try.prog 74 #[.pointer (some ⟨g, 0, none⟩), .slice (some ⟨wr.heap.size, 0, none⟩) 5 5] (wr.alloc (.cells #[.int .i64 0, .int .i64 1, .int .i64 1, .int .i64 1, .int .i64 2] 3)).drew fun e w' => ∃ z, z ∈ [(0 : Int), 1, 1, 1, 2] ∧ e = .returned (.int .i64 z) ∧ Cur ac len cap w' g ∧ wr.drew.grownBy w' (some g) := l01PickInt_new ac len cap g 5 [0, 1, 1, 1, 2] 3 wr.drew D3.out.cur rfl (by omega) (by omega)
      go_upto_region 5 with fail
      refine region_but (fun W => W.cell? ⟨C, 1, none⟩ = some (.slice y m d)) 8 (by kernel_rfl) (show wr.drew.cell? ⟨C, 1, none⟩ = _ from c1) (fun hS => ?_)
      refine but_take 0 (v := ?_) rfl (by kernel_rfl) (by kernel_rfl) (by kernel_rfl) (by kernel_rfl) (fun _ _ _ h => h) (Or.inl ⟨by rfl, ?_⟩) (by assumption) ?_
      rotate_left 1
      · (intro w hSw; (try dsimp only at hSw); go_simp; try with_reducible rfl)
      try simp only [Act.put, List.setIfInBounds_toArray, List.set_cons_zero, List.set_cons_succ]
      refine but_take 1 (v := ?_) rfl (by kernel_rfl) (by kernel_rfl) (by kernel_rfl) (by kernel_rfl) (fun _ _ _ h => h) (Or.inl ⟨by rfl, ?_⟩) (by assumption) ?_
      rotate_left 1
      · (intro w hSw; (try dsimp only at hSw); go_simp; try with_reducible rfl)
      try simp only [Act.put, List.setIfInBounds_toArray, List.set_cons_zero, List.set_cons_succ]
      refine but_take 2 (v := ?_) rfl (by kernel_rfl) (by kernel_rfl) (by kernel_rfl) (by kernel_rfl) (fun _ _ _ h => h) (Or.inl ⟨by rfl, ?_⟩) (by assumption) ?_
      rotate_left 1
      · (intro w hSw; (try dsimp only at hSw); go_simp; try with_reducible rfl)
      try simp only [Act.put, List.setIfInBounds_toArray, List.set_cons_zero, List.set_cons_succ]
      refine but_ready (rs := [3]) (by kernel_rfl) (by simp) ?_
      refine AllBut.cons rfl (fun K' hK => ?_) AllBut.nil
      go_simp
      refine hK.out _ _ (fun _ => HS3.out) (fun hS3 => ?_)
      clear hK K'
      refine but_ready (rs := [4]) (by kernel_rfl) (by simp) ?_
      refine AllBut.cons rfl (fun K' hK => ?_) AllBut.nil
      go_simp
      go_wp2_with (go_at_call 74; (with_reducible refine cP.mono ?_); rintro e w5 ⟨z, hz, rfl, hc5, g5⟩)
      have D5 : Hid (StD ac len cap g C R (a : Int) (.slice y m d) l w w5) := D3.out.grown hc5 g5
      have bA : Below w5.heap.size w5 (w5.alloc (.cells #[.int .i64 z] 3)) := (Below.refl _ _).alloc (Nat.le_refl _) _
      have D6 : Hid (StD ac len cap g C R (a : Int) (.slice y m d) l w (w5.alloc (.cells #[.int .i64 z] 3))) := D5.out.below bA
      have hS5 : w5.cell? ⟨C, 1, none⟩ = some (.slice y m d) := (two_cells_of D5.out.box).2
      have hS6 : (w5.alloc (.cells #[.int .i64 z] 3)).cell? ⟨C, 1, none⟩ = some (.slice y m d) := (two_cells_of D6.out.box).2
      refine hK.out _ _ (fun _ => hS5) (fun hS4 => ?_)
      clear hK K'
      refine but_ready (rs := [5]) (by kernel_rfl) (by simp) ?_
      refine AllBut.cons rfl (fun K' hK => ?_) AllBut.nil
      go_simp
      refine hK.out _ _ (fun _ => hS6) (fun hS5' => ?_)
      clear hK K'
      refine but_ready (rs := [6]) (by kernel_rfl) (by simp) ?_
      refine AllBut.cons rfl (fun K' hK => ?_) AllBut.nil
      refine step_append16 rfl (Operand.tmp 16) (Operand.tmp 20) 24 rfl w.heap.size 3 i1 (.int .i64 0) 1 8 Try.underlying24 hi hz0 hz1 hz2 rfl (by decide) (by decide) (.slice y m d) m (l.flatMap intC) rfl (by have h := D5.out.row; unfold OwnI at h; rw [HM.out.1] at h; exact h) #[.int .i64 z] rfl (by simp [Value.oneCell']) rfl (some 21) rfl (by omega) (by have := D5.out.gr.size; omega) ?_
      intro v7 w7 ho7 hg7
      have O7 : OwnI w7 w.heap.size v7 (l ++ [z]) := by
        unfold OwnI
        rw [List.length_append, HM.out.1, List.flatMap_append]
        exact ho7
      have bC := D6.out.boxAt hg7
      have D7 := D6.out.more O7 hg7
      obtain ⟨y7, d7, rfl⟩ := row_slice ho7
      have D8 : Hid (StD ac len cap g C R (a : Int) (.slice y7 (m + 1) d7) (l ++ [z]) w (w7.setCell ⟨C, 1, none⟩ (.slice y7 (m + 1) d7))) := D7
      obtain ⟨e0, e1⟩ := two_cells_of bC
      have fz := fun j => frozen_of_row w7 C j _ _ bC
      clear ho7 hg7 O7 D7 bC
      refine hK.out _ _ (fun _ => e1) (fun hS6' => ?_)
      clear hK K'
      try simp only [Act.put, List.setIfInBounds_toArray, List.set_cons_zero, List.set_cons_succ]
      refine but_ready (rs := [7]) (by kernel_rfl) (by simp) ?_
      refine AllBut.cons rfl (fun K' hK => ?_) AllBut.nil
      go_simp
      refine hK.out _ _ (fun _ => e1) (fun hS7 => ?_)
      clear hK K'
      refine but_ready (rs := [8]) (by kernel_rfl) (by simp) ?_
      refine AllBut.cons rfl (fun K' hK => ?_) AllBut.nil
      go_simp
      refine hK.out _ _ (fun h => absurd rfl h) (fun _ => ?_)
      clear hK K'
      refine but_done (by kernel_rfl) ?_ _
      clear e0 e1 fz cP
      go_wp2
      go_roundw
      case rel => exact ⟨k + 1, _, l ++ [z], by go_num, by omega, (by have h1 := HM.out.1; have h2 := HM.out.2; show (l ++ [z]).length = k + 1; rw [List.length_append, h1, h2]; rfl), D8⟩
      case measure => simp [intOf]; omega
    · have hki : ¬ (k : Int) < (n : Int) := by omega
      obtain ⟨y, d, rfl⟩ := row_slice HS.out.row
      have hkn' : k = n := by omega
      obtain ⟨c0, c1⟩ := two_cells_of HS.out.box
      obtain ⟨d0, d1⟩ := two_cells_of HS.out.res
      have fz := fun j => frozen_of_row wr R j _ _ HS.out.res
      have HE : Hid (OwnI ((wr.setCell ⟨R, 0, none⟩ (.int .i64 (a : Int))).setCell ⟨R, 1, none⟩ (.slice y l.length d)) w.heap.size (.slice y l.length d) l ∧ ((wr.setCell ⟨R, 0, none⟩ (.int .i64 (a : Int))).setCell ⟨R, 1, none⟩ (.slice y l.length d)).heap[R]? = some (.cells #[.int .i64 (a : Int), .slice y l.length d] 26 (0, 0)) ∧ Cur ac len cap ((wr.setCell ⟨R, 0, none⟩ (.int .i64 (a : Int))).setCell ⟨R, 1, none⟩ (.slice y l.length d)) g ∧ w.grownBy ((wr.setCell ⟨R, 0, none⟩ (.int .i64 (a : Int))).setCell ⟨R, 1, none⟩ (.slice y l.length d)) (some g)) := by
        have h := HS.out
        have nR := apart16 h.row h.res (by decide)
        have k0 := heap_setCell_same wr R 0 _ _ (.int .i64 (a : Int)) h.res
        have k1 := heap_setCell_same _ R 1 _ _ (.slice y l.length d) k0
        have b2 : Below w.heap.size wr ((wr.setCell ⟨R, 0, none⟩ (.int .i64 (a : Int))).setCell ⟨R, 1, none⟩ (.slice y l.length d)) := ((Below.refl _ _).setCell (p := ⟨R, 0, none⟩) h.lo.2.1 _).setCell (p := ⟨R, 1, none⟩) h.lo.2.1 _
        exact ⟨far16 (far16 h.row nR) nR, k1, cur_below h.cur0 h.cur b2, gr_below h.gr b2⟩
      obtain ⟨z0, z1⟩ := two_cells_of HE.out.2.1
      go_wp2
      refine bodyPost_ret (by simp [results, Try.results29, go_sem, z0, z1]; try rfl) rfl ?_
      exact ⟨⟨a, l⟩, _, rfl, by have := HL.out; show l.length = n; omega, HE.out.1, HE.out.2.2.1, HE.out.2.2.2⟩

/-- what stands when the first state has been drawn -/
structure DJ (ac : Option Addr) (len cap g G D B : Nat) (s : PSta) (u : Value) (w W : World) : Prop where
  row : OwnI W B u s.regs
  box : W.heap[D]? = some (.cells #[.int .i64 s.acc, u] 26 (0, 0))
  r0 : W.heap[G]? = some (.cells #[.int .i64 0, .slice none 0 0] 26 (0, 0))
  r1 : W.heap[G + 1]? = some (.cells #[.int .i64 0, .slice none 0 0] 26 (0, 0))
  cur : Cur ac len cap W g
  bel : Below w.heap.size w W
  lo : w.heap.size = G ∧ G + 2 ≤ g ∧ g < B ∧ B ≤ D
theorem DJ.grown {ac : Option Addr} {len cap g G D B : Nat} {s : PSta} {u : Value} {w W W' : World} (h : DJ ac len cap g G D B s u w W) (hc : Cur ac len cap W' g) (hg : W.grownBy W' (some g)) : DJ ac len cap g G D B s u w W' := by
  obtain ⟨l1, l2, l3, l4⟩ := h.lo
  refine ⟨own_step h.row hg.size (fun k hk => hg.block k (own_lo h.row hk).2 (fun e => ?_)), (hg.block D (lt16 h.box) (fun e => ?_)).trans h.box, (hg.block G (lt16 h.r0) (fun e => ?_)).trans h.r0, (hg.block (G + 1) (lt16 h.r1) (fun e => ?_)).trans h.r1, hc, ⟨hg.os.trans h.bel.os, hg.tape.trans h.bel.tape, hg.output.trans h.bel.output, Nat.le_trans h.bel.size hg.size, fun k hk => (hg.block k (Nat.lt_of_lt_of_le hk h.bel.size) (fun e => ?_)).trans (h.bel.block k hk)⟩, h.lo⟩
  · have := (own_lo h.row hk).1
    have := Option.some.inj e
    omega
  · have := Option.some.inj e
    omega
  · have := Option.some.inj e
    omega
  · have := Option.some.inj e
    omega
  · have := Option.some.inj e
    omega
theorem DJ.below {ac : Option Addr} {len cap g G D B : Nat} {s : PSta} {u : Value} {w W W' : World} (h : DJ ac len cap g G D B s u w W) (hb : Below W.heap.size W W') : DJ ac len cap g G D B s u w W' :=
  h.grown (cur_below h.cur h.cur hb) ⟨hb.os, hb.tape, hb.output, hb.size, fun k hk _ => hb.block k hk⟩
theorem put_pair {W : World} {X : Nat} {a b : Value} {t : TypeId} (h : W.heap[X]? = some (.cells #[a, b] t (0, 0))) (c d : Value) : ((W.setCell ⟨X, 0, none⟩ c).setCell ⟨X, 1, none⟩ d).heap[X]? = some (.cells #[c, d] t (0, 0)) := by
  have k0 := heap_setCell_same W X 0 _ _ c h
  exact heap_setCell_same _ X 1 _ _ d k0
theorem put_far {W : World} {X Y : Nat} (hne : Y ≠ X) (c d : Value) : ((W.setCell ⟨X, 0, none⟩ c).setCell ⟨X, 1, none⟩ d).heap[Y]? = W.heap[Y]? := by
  rw [heap_setCell_other _ ⟨X, 1, none⟩ Y _ hne, heap_setCell_other _ ⟨X, 0, none⟩ Y _ hne]
theorem put_row {W : World} {X B : Nat} {v c d : Value} {l : List Int} (h : OwnI W B v l) (hX : v.ownBlock ≠ some X) : OwnI ((W.setCell ⟨X, 0, none⟩ c).setCell ⟨X, 1, none⟩ d) B v l := far16 (far16 h hX) hX

set_option maxHeartbeats 1000000 in
set_option maxRecDepth 100000 in
theorem drawJoin_any (ac : Option Addr) (len cap : Nat) (w : World) (hc : CodeIn w ac len w.heap.size) :
    Calls Try.prog 8 #[.slice ac len cap] w fun e w' => ∃ (s t : PSta) (u v : Value), e = .returned (.tuple #[.agg #[.int .i64 s.acc, u], .agg #[.int .i64 t.acc, v]]) ∧ s.regs.length ≤ 1000 ∧ t.regs.length ≤ 1000 ∧ ArgI w' u s.regs ∧ ArgI w' v t.regs ∧ Below w.heap.size w w' := by
  obtain ⟨t0, t1, tz, tb⟩ := two_made16 w (.cells #[.int .i64 0, .slice none 0 0] 26) (.cells #[.int .i64 0, .slice none 0 0] 26)
  obtain ⟨W0, hW0⟩ : ∃ W, ((w.alloc (.cells #[.int .i64 0, .slice none 0 0] 26)).alloc (.cells #[.int .i64 0, .slice none 0 0] 26)) = W := ⟨_, rfl⟩
  rw [hW0] at t0 t1 tz tb
  have HW0 : Hid (_ = W0) := hW0
  obtain ⟨G, hG⟩ : ∃ G, w.heap.size = G := ⟨_, rfl⟩
  rw [hG] at t0 t1 tz
  have cN := l01New_any ac len cap W0 (codeIn_later hc tb)
  have HG : Hid (w.heap.size = G ∧ W0.heap.size = G + 2 ∧ W0.heap[G]? = some (.cells #[.int .i64 0, .slice none 0 0] 26 (0, 0)) ∧ W0.heap[G + 1]? = some (.cells #[.int .i64 0, .slice none 0 0] 26 (0, 0)) ∧ Below w.heap.size w W0) := ⟨hG, tz, t0, t1, tb⟩
  clear hW0 t0 t1 tz tb hc
  go_enter Try.func8, Try.ntmps8
  go_upto_region 1 with fail
  rw [HW0.out]
  clear HW0
  try simp only [hG]
  clear hG
  go_upto_region 2 with (go_at_call 27; (with_reducible refine cN.mono ?_); rintro e w1 ⟨g, rfl, hg0, hc1, b1⟩)
  clear cN
  have cB := l01Below_nat ac len cap g 6 w1 hc1 (by omega) (by omega)
  rw [show ((6 : Nat) : Int) = 6 from rfl] at cB
  go_upto_region 3 with (go_at_call 28; (with_reducible refine cB.mono ?_); rintro e w2 ⟨n, hn, rfl, hc2, g2⟩)
  clear cB
  have cS := l16State_any ac len cap g n w2 hc2 (by omega)
  go_upto_region 4 with (go_at_call 29; (with_reducible refine cS.mono ?_); rintro e w3 ⟨s, u, rfl, hs, ho3, hc3, g3⟩; obtain ⟨uy, ud, rfl⟩ := row_slice ho3)
  clear cS
  obtain ⟨AC, hAC⟩ : ∃ a, s.acc = a := ⟨_, rfl⟩
  have hb3 : Below w3.heap.size w3 (w3.alloc (.cells #[.int .i64 s.acc, .slice uy s.regs.length ud] 26)) := (Below.refl _ _).alloc (Nat.le_refl _) _
  have hD := heap_alloc_new w3 (.cells #[.int .i64 s.acc, .slice uy s.regs.length ud] 26)
  have HD4 : Hid (DJ ac len cap g G w3.heap.size w2.heap.size s (.slice uy s.regs.length ud) w (w3.alloc (.cells #[.int .i64 s.acc, .slice uy s.regs.length ud] 26))) := by
    obtain ⟨e0, e1, e2, e3, e4⟩ := HG.out
    have s1 := b1.size
    have s2 := g2.size
    have s3 := g3.size
    have hgl := hc1.2.1
    have k : ∀ X o, W0.heap[X]? = some o → X < g → w3.heap[X]? = some o := fun X o hX hlt => by
      have a1 := (b1.block X (lt16 hX)).trans hX
      have a2 := (g2.block X (lt16 a1) (fun e => by have := Option.some.inj e; omega)).trans a1
      exact (g3.block X (lt16 a2) (fun e => by have := Option.some.inj e; omega)).trans a2
    have hw3 : Below w.heap.size w w3 := by
      refine ⟨g3.os.trans (g2.os.trans (b1.os.trans e4.os)), g3.tape.trans (g2.tape.trans (b1.tape.trans e4.tape)), g3.output.trans (g2.output.trans (b1.output.trans e4.output)), by have := e4.size; omega, fun X hX => ?_⟩
      have a0 := e4.block X hX
      have a1 := b1.block X (by have := e4.size; omega)
      have a2 := g2.block X (by have := e4.size; omega) (fun e => by have := Option.some.inj e; omega)
      have a3 := g3.block X (by have := e4.size; omega) (fun e => by have := Option.some.inj e; omega)
      exact a3.trans (a2.trans (a1.trans a0))
    have r0 := k G _ e2 (by omega)
    have r1 := k (G + 1) _ e3 (by omega)
    exact ⟨ho3.below hb3, hD, (hb3.block G (lt16 r0)).trans r0, (hb3.block (G + 1) (lt16 r1)).trans r1, cur_below hc3 hc3 hb3, chain hw3 (hb3.mono (by have := hw3.size; omega)), e0, by omega, by omega, by omega⟩
  have HN : Hid (s.regs.length = n ∧ n < 6 ∧ s.acc = AC) := ⟨hs, hn, hAC⟩
  rw [hs] at HD4
  rw [show s.acc = AC from hAC] at HD4
  clear ho3 hc3 g3 hc2 g2 hc1 b1 hb3 hD hs hn hg0
  try simp only [hAC]
  obtain ⟨D, hDe⟩ : ∃ D, w3.heap.size = D := ⟨_, rfl⟩
  obtain ⟨W4, hW4⟩ : ∃ W, w3.alloc (.cells #[.int .i64 AC, .slice uy n ud] 26) = W := ⟨_, rfl⟩
  rw [hW4] at HD4
  rw [hDe] at HD4
  rw [hW4]
  try simp only [hDe]
  clear hW4 hDe hAC
  have cO := l01Once_any ac len cap g 4 W4 HD4.out.cur (by omega) (by omega)
  rw [show ((4 : Nat) : Int) = 4 from rfl] at cO
  go_upto_if 15 with (go_at_call 30; (with_reducible refine cO.mono ?_); rintro e w5 ⟨b, rfl, hc5, g5⟩)
  have HD5 : Hid (DJ ac len cap g G D w2.heap.size s (.slice uy n ud) w w5) := HD4.out.grown hc5 g5
  clear cO hc5 g5 HD4
  go_cut [5] (fun p5 wr => ∃ n' : Nat, p5 = .int .i64 (n' : Int) ∧ n' < 6 ∧ Hid (DJ ac len cap g G D w2.heap.size s (.slice uy n ud) w wr))
  case first =>
    cases b with
    | true =>
      have cB := l01Below_nat ac len cap g 6 w5 HD5.out.cur (by omega) (by omega)
      rw [show ((6 : Nat) : Int) = 6 from rfl] at cB
      go_wp2_with (go_at_call 28; (with_reducible refine cB.mono ?_); rintro e w6 ⟨n', hn', rfl, hc6, g6⟩)
      have HD6 : Hid (DJ ac len cap g G D w2.heap.size s (.slice uy n ud) w w6) := HD5.out.grown hc6 g6
      go_meet
      case rel => exact ⟨n', rfl, hn', HD6⟩
    | false =>
      go_wp2
      go_meet
      case rel => exact ⟨n, rfl, HN.out.2.1, HD5⟩
  case rest =>
    obtain ⟨n', rfl, hn', HD⟩ := hcut
    have HDd : Hid (DJ ac len cap g G D w2.heap.size s (.slice uy n ud) w wc.drew) := HD.out.below (Below.refl _ _).drew
    have cS := l16State_any ac len cap g n' wc.drew HDd.out.cur (by omega)
    have HK : Hid (∀ W : World, W.heap[D]? = some (.cells #[.int .i64 AC, .slice uy n ud] 26 (0, 0)) → W.cell? ⟨D, 0, none⟩ = some (.int .i64 AC) ∧ W.cell? ⟨D, 1, none⟩ = some (.slice uy n ud)) := fun W h => two_cells_of h
    have hdd : wc.drew.heap[D]? = some (.cells #[.int .i64 AC, .slice uy n ud] 26 (0, 0)) := by
      have h := HDd.out.box
      rw [HN.out.2.2] at h
      exact h
    have hne : D ≠ G ∧ D ≠ G + 1 := by have := HDd.out.lo; omega
    have hSet : ∀ (W : World) (X : Nat) (c d : Value), X = G ∨ X = G + 1 → W.heap[D]? = some (.cells #[.int .i64 AC, .slice uy n ud] 26 (0, 0)) → ((W.setCell ⟨X, 0, none⟩ c).setCell ⟨X, 1, none⟩ d).heap[D]? = some (.cells #[.int .i64 AC, .slice uy n ud] 26 (0, 0)) := fun W X c d hX h => (put_far (by rcases hX with rfl | rfl <;> omega) c d).trans h
    have cS2 := cS.mono (fun e w' (hh : ∃ (t : PSta) (v : Value), e = .returned (.agg #[.int .i64 t.acc, v]) ∧ t.regs.length = n' ∧ OwnI w' wc.drew.heap.size v t.regs ∧ Cur ac len cap w' g ∧ wc.drew.grownBy w' (some g)) => show ∃ (t : PSta) (y : Option Addr) (d : Nat) (TA : Int), e = .returned (.agg #[.int .i64 TA, .slice y n' d]) ∧ (t.acc = TA ∧ t.regs.length = n') ∧ OwnI w' wc.drew.heap.size (.slice y n' d) t.regs ∧ DJ ac len cap g G D w2.heap.size s (.slice uy n ud) w w' by
      obtain ⟨t, v, e1, e2, e3, e4, e5⟩ := hh
      obtain ⟨y, d, rfl⟩ := row_slice e3
      rw [e2] at e1 e3
      exact ⟨t, y, d, _, e1, ⟨rfl, e2⟩, e3, HDd.out.grown e4 e5⟩)
    have hBox : ∀ W, DJ ac len cap g G D w2.heap.size s (.slice uy n ud) w W → Hid (W.heap[D]? = some (.cells #[.int .i64 AC, .slice uy n ud] 26 (0, 0))) := fun W h => by
      have h1 := h.box
      rw [HN.out.2.2] at h1
      exact h1
    have hG0 : ∀ W, DJ ac len cap g G D w2.heap.size s (.slice uy n ud) w W → (W.cell? ⟨G, 0, none⟩ = some (.int .i64 0) ∧ W.cell? ⟨G, 1, none⟩ = some (.slice none 0 0)) ∧ (∀ j, W.frozen? ⟨G, j, none⟩ = false) ∧ ∀ c d, (((W.setCell ⟨G, 0, none⟩ c).setCell ⟨G, 1, none⟩ d).cell? ⟨G + 1, 0, none⟩ = some (.int .i64 0) ∧ ((W.setCell ⟨G, 0, none⟩ c).setCell ⟨G, 1, none⟩ d).cell? ⟨G + 1, 1, none⟩ = some (.slice none 0 0)) ∧ ∀ j, ((W.setCell ⟨G, 0, none⟩ c).setCell ⟨G, 1, none⟩ d).frozen? ⟨G + 1, j, none⟩ = false := fun W h => by
      refine ⟨two_cells_of h.r0, fun j => frozen_of_row W G j _ _ h.r0, fun c d => ?_⟩
      have k : ((W.setCell ⟨G, 0, none⟩ c).setCell ⟨G, 1, none⟩ d).heap[G + 1]? = some (.cells #[.int .i64 0, .slice none 0 0] 26 (0, 0)) := (put_far (by omega) c d).trans h.r1
      exact ⟨two_cells_of k, fun j => frozen_of_row _ (G + 1) j _ _ k⟩
    have hEnd : ∀ (w6 : World) (t : PSta) (TA : Int) (y : Option Addr) (d : Nat), Hid (DJ ac len cap g G D w2.heap.size s (.slice uy n ud) w w6) → Hid (OwnI w6 wc.drew.heap.size (.slice y n' d) t.regs) →
        Hid (((((w6.setCell ⟨G, 0, none⟩ (.int .i64 AC)).setCell ⟨G, 1, none⟩ (.slice uy n ud)).setCell ⟨G + 1, 0, none⟩ (.int .i64 TA)).setCell ⟨G + 1, 1, none⟩ (.slice y n' d)).heap[G]? = some (.cells #[.int .i64 AC, .slice uy n ud] 26 (0, 0)) ∧ ((((w6.setCell ⟨G, 0, none⟩ (.int .i64 AC)).setCell ⟨G, 1, none⟩ (.slice uy n ud)).setCell ⟨G + 1, 0, none⟩ (.int .i64 TA)).setCell ⟨G + 1, 1, none⟩ (.slice y n' d)).heap[G + 1]? = some (.cells #[.int .i64 TA, .slice y n' d] 26 (0, 0)) ∧ ArgI ((((w6.setCell ⟨G, 0, none⟩ (.int .i64 AC)).setCell ⟨G, 1, none⟩ (.slice uy n ud)).setCell ⟨G + 1, 0, none⟩ (.int .i64 TA)).setCell ⟨G + 1, 1, none⟩ (.slice y n' d)) (.slice uy n ud) s.regs ∧ ArgI ((((w6.setCell ⟨G, 0, none⟩ (.int .i64 AC)).setCell ⟨G, 1, none⟩ (.slice uy n ud)).setCell ⟨G + 1, 0, none⟩ (.int .i64 TA)).setCell ⟨G + 1, 1, none⟩ (.slice y n' d)) (.slice y n' d) t.regs ∧ Below w.heap.size w ((((w6.setCell ⟨G, 0, none⟩ (.int .i64 AC)).setCell ⟨G, 1, none⟩ (.slice uy n ud)).setCell ⟨G + 1, 0, none⟩ (.int .i64 TA)).setCell ⟨G + 1, 1, none⟩ (.slice y n' d))) := by
      intro w6 t TA y d h ho
      have l := h.out.lo
      have hw := HDd.out.bel.size
      have k0 := put_pair h.out.r0 (.int .i64 AC) (.slice uy n ud)
      have k1 := (put_far (W := w6) (X := G) (Y := G + 1) (by omega) (.int .i64 AC) (.slice uy n ud)).trans h.out.r1
      have k2 := put_pair k1 (.int .i64 TA) (.slice y n' d)
      have k3 := (put_far (X := G + 1) (Y := G) (by omega) (.int .i64 TA) (.slice y n' d)).trans k0
      have n1 : (Value.slice uy n ud).ownBlock ≠ some G := apart16 h.out.row h.out.r0 (by decide)
      have n2 : (Value.slice uy n ud).ownBlock ≠ some (G + 1) := apart16 h.out.row h.out.r1 (by decide)
      have n3 : (Value.slice y n' d).ownBlock ≠ some G := apart16 ho.out h.out.r0 (by decide)
      have n4 : (Value.slice y n' d).ownBlock ≠ some (G + 1) := apart16 ho.out h.out.r1 (by decide)
      have q : ∀ (U : World) (X j : Nat) (u : Value), G ≤ X → Below w.heap.size w U → Below w.heap.size w (U.setCell ⟨X, j, none⟩ u) := fun U X j u hX hU => hU.setCell (p := ⟨X, j, none⟩) (by show w.heap.size ≤ X; omega) u
      exact ⟨k3, k2, OwnI.arg (put_row (put_row h.out.row n1) n2), OwnI.arg (put_row (put_row ho.out n3) n4), q _ _ _ _ (by omega) (q _ _ _ _ (by omega) (q _ _ _ _ (by omega) (q _ _ _ _ (by omega) h.out.bel)))⟩
    have HHN : Hid (n' < 6) := hn'
    clear cS HDd hn'
    go_upto_region 6 with fail
    go_region_held3 (fun W => W.cell? ⟨D, 0, none⟩ = some (.int .i64 AC) ∧ W.cell? ⟨D, 1, none⟩ = some (.slice uy n ud))
      (exact HK.out _ (by repeat (first | with_reducible exact hdd | with_reducible exact HB6.out | (with_reducible refine hSet _ _ _ _ (by omega) ?_))))
      (first | (go_at_call 29; (with_reducible refine cS2.mono ?_); rintro e w6 ⟨t, vy, vd, TA, rfl, ht, ho6, d6⟩; have HB6 := hBox _ d6; obtain ⟨⟨p0, p1⟩, p2, p3⟩ := hG0 _ d6; have p4 := fun c d => (p3 c d).1.1; have p5 := fun c d => (p3 c d).1.2; have p6 := fun c d => (p3 c d).2; have HD6 : Hid (DJ ac len cap g G D w2.heap.size s (.slice uy n ud) w w6) := d6; have HO6 : Hid (OwnI w6 wc.drew.heap.size (.slice vy n' vd) t.regs) := ho6; have HT6 : Hid (t.acc = TA ∧ t.regs.length = n') := ht; clear p3 d6 ho6 ht))
    all_goals
      have HE := hEnd _ _ TA _ _ HD6 HO6
      obtain ⟨z0, z1⟩ := two_cells_of HE.out.1
      obtain ⟨z2, z3⟩ := two_cells_of HE.out.2.1
      clear hEnd hG0 hBox cS2 HK hdd hSet p0 p1 p2 p4 p5 p6
      go_wp2
      refine bodyPost_ret (by simp [results, Try.results8, go_sem, z0, z1, z2, z3]; try rfl) rfl ?_
      exact ⟨s, t, _, _, by rw [HN.out.2.2, HT6.out.1], by have := HN.out; omega, by have := HT6.out; have := HHN.out; omega, HE.out.2.2.1, HE.out.2.2.2.1, HE.out.2.2.2.2⟩

end Go.Proofs.Ytlplljgcgohonaa
