/-
  The program's own Join.
-/
import Derived.Test.YtbgdapdenbldmaaSta16J
import Derived.Test.YtbgdapdenbldmaaVer16A
import Derived.Test.YtbgdapdenbldmaaIVer16B
import Derived.Lib.MinMax
namespace Go.Proofs.Ytbgdapdenbldmaa
open Go.RowKit Go.Sort
set_option linter.unusedVariables false

def alk (a b : Int) : Int := if a = b then a else 0

set_option maxHeartbeats 400000 in
theorem iAlike (a b : Int) (w : World) :
    Calls Try.prog 140 #[.int .i64 a, .int .i64 b] w fun e w' => e = .returned (.int .i64 (alk a b)) ∧ w = w' := by
  by_cases h : a = b
  · subst h
    have e1 : alk a a = a := if_pos rfl
    rw [e1]
    go_enter Try.func140, Try.ntmps140
    go_wp2
    go_ret
    exact ⟨rfl, rfl⟩
  · have e1 : alk a b = 0 := if_neg h
    have hne : (a == b) = false := by rw [beq_eq_false_iff_ne]; exact h
    rw [e1]
    go_enter Try.func140, Try.ntmps140
    go_wp2
    go_ret
    exact ⟨rfl, rfl⟩

/-- make of a slice, as the walk reads it, of more -/
theorem made16m {P : Program} {t e : TypeId} {z : Value} {k b : Nat} (ht : P.underlying t = some (.slice e)) (hi : (P.info? e).map (fun i => (i.zero, i.size, i.bytes)) = some (some z, k, b)) (hb : b ≤ 32) (n : Nat) (hn : n ≤ 1048576) (W : World) :
    (Instr.makeSlice t (.int .i64 (n : Int)) (.int .i64 (n : Int))).run P W = .ok (.slice (some ⟨W.heap.size, 0, none⟩) n n) (W.alloc (.cells (madeCells z.cells (n * k)) e)) := by
  obtain ⟨i, hi, hz0, hz1, hz2⟩ := info_in hi
  have hbn : b * n ≤ 32 * 1048576 := Nat.mul_le_mul hb hn
  have hc : ((b : Int) * (n : Int)) = ((b * n : Nat) : Int) := by simp
  have h := run_make (P := P) W t e i z ht hi hz0 .i64 .i64 (n : Int) (n : Int) (by omega) (Int.le_refl _) (by rw [hz2, hc]; omega) (by omega)
  rw [Int.toNat_natCast, hz1] at h
  exact h

theorem made_own (W : World) (B N g : Nat) (hg : W.heap[g]? = some (.cells (madeCells #[.int .i64 0] (N * 1)) 3 (0, 0))) (hB : B ≤ g) (hN : N ≤ 1048576) : OwnI W B (.slice (some ⟨g, 0, none⟩) N N) (List.replicate N 0) := by
  unfold OwnI
  have e : (madeCells #[.int .i64 0] (N * 1)).toList = (List.replicate N (0 : Int)).flatMap intC := by
    apply List.ext_getElem?
    intro j
    have e2 : (List.replicate N (0 : Int)).flatMap intC = List.replicate N (Value.int .i64 0) := by
      clear hg hN
      induction N with
      | zero => rfl
      | succ n ih => rw [List.replicate_succ, List.replicate_succ, List.flatMap_cons, ih]; rfl
    rw [e2, Array.getElem?_toList, List.getElem?_replicate]
    rw [Nat.mul_one]
    by_cases hj : j < N
    · simp [madeCells, hj, Nat.mod_one]
    · simp [madeCells, hj]
  have hsz : (madeCells #[Value.int .i64 0] (N * 1)).size = N * 1 := size_madeCells _ _
  rw [List.length_replicate]
  refine ⟨by rw [← e, Array.length_toList, hsz], .inr ⟨g, N, madeCells #[.int .i64 0] (N * 1), rfl, hB, hg, Nat.le_refl _, by unfold maxLen; omega, hsz, ?_⟩⟩
  rw [e, List.take_of_length_le]
  rw [← e, Array.length_toList, hsz]
  exact Nat.le_refl _

theorem joinAt_beyond {l m : List Int} {j : Nat} (h : min l.length m.length ≤ j) : joinAt l m j = 0 := by
  unfold joinAt
  rcases Nat.lt_or_ge j l.length with h1 | h1
  · rw [List.getElem?_eq_none (l := m) (by omega)]
    split <;> first | rfl | (rename_i e _; cases e) | (rename_i e; cases e)
  · rw [List.getElem?_eq_none (l := l) h1]

theorem joinP_end (l m : List Int) : joinP l m (min l.length m.length) ++ List.replicate (max l.length m.length - min l.length m.length) 0 = joinL l m := by
  apply List.ext_getElem?
  intro j
  unfold joinL
  rw [List.getElem?_map]
  rcases Nat.lt_or_ge j (min l.length m.length) with h | h
  · rw [List.getElem?_append_left (by rw [joinP_len]; exact h)]
    unfold joinP
    rw [List.getElem?_map, List.getElem?_range h, List.getElem?_range (by omega)]
  · rw [List.getElem?_append_right (by rw [joinP_len]; exact h), joinP_len, List.getElem?_replicate]
    by_cases h2 : j < max l.length m.length
    · rw [if_pos (by omega), List.getElem?_range h2]
      show _ = some (joinAt l m j)
      rw [joinAt_beyond h]
    · rw [if_neg (by omega), List.getElem?_eq_none (by simpa using Nat.le_of_not_lt h2)]
      rfl

/-- what stands while the program joins: both that came in, the result, what is made and its row -/
structure JoinI (w : World) (G C g N : Nat) (ca cb : Array Value) (acc : Int) (l : List Int) (wr : World) : Prop where
  b0 : wr.heap[G]? = some (.cells ca 98 (0, 0))
  b1 : wr.heap[G + 1]? = some (.cells cb 98 (0, 0))
  b2 : wr.heap[G + 1 + 1]? = some (.cells #[.int .i64 0, .slice none 0 0] 98 (0, 0))
  c : wr.heap[C]? = some (.cells #[.int .i64 acc, .slice (some ⟨g, 0, none⟩) N N] 98 (0, 0))
  own : OwnI wr w.heap.size (.slice (some ⟨g, 0, none⟩) N N) l
  bel : Below w.heap.size w wr
  lo : w.heap.size ≤ G ∧ G + 1 + 1 < C ∧ w.heap.size ≤ g

theorem JoinI.apart {w : World} {G C g N : Nat} {ca cb : Array Value} {acc : Int} {l : List Int} {wr : World} (h : JoinI w G C g N ca cb acc l wr) : g ≠ G ∧ g ≠ G + 1 ∧ g ≠ G + 1 + 1 ∧ g ≠ C := by
  have ne := fun {X : Nat} {cs : Array Value} (hX : wr.heap[X]? = some (.cells cs 98 (0, 0))) (e : g = X) => apart16 h.own hX (by decide) (by show some g = some X; rw [e])
  exact ⟨ne h.b0, ne h.b1, ne h.b2, ne h.c⟩

theorem JoinI.drawn {w : World} {G C g N : Nat} {ca cb : Array Value} {acc : Int} {l : List Int} {wr : World} (h : JoinI w G C g N ca cb acc l wr) : JoinI w G C g N ca cb acc l wr.drew := by
  have b : Below wr.heap.size wr wr.drew := (Below.refl _ _).drew
  exact ⟨h.b0, h.b1, h.b2, h.c, h.own.below b, h.bel.drew, h.lo⟩

theorem JoinI.put {w : World} {G C g N : Nat} {ca cb : Array Value} {acc : Int} {l : List Int} {wr : World} (h : JoinI w G C g N ca cb acc l wr) (k : Nat) (z : Int) : JoinI w G C g N ca cb acc (l.set k z) (wr.setCell ⟨g, k, none⟩ (.int .i64 z)) := by
  obtain ⟨n0, n1, n2, n3⟩ := h.apart
  have o : ∀ X, g ≠ X → (wr.setCell ⟨g, k, none⟩ (.int .i64 z)).heap[X]? = wr.heap[X]? := fun X hX => heap_setCell_other _ _ _ _ (by show X ≠ g; exact fun e => hX e.symm)
  exact ⟨(o _ n0).trans h.b0, (o _ n1).trans h.b1, (o _ n2).trans h.b2, (o _ n3).trans h.c, h.own.put k z, h.bel.setCell (p := ⟨g, k, none⟩) h.lo.2.2 _, h.lo⟩

set_option maxHeartbeats 2000000 in
set_option maxRecDepth 100000 in
theorem iJoin_any (a b : PSta) (va vb : Value) (w : World) (ha : ArgI w va a.regs) (hb : ArgI w vb b.regs) (la : a.regs.length ≤ 1048576) (lb : b.regs.length ≤ 1048576) :
    Calls Try.prog 130 #[.agg #[.int .i64 a.acc, va], .agg #[.int .i64 b.acc, vb]] w fun e w' => ∃ v, e = .returned (.agg #[.int .i64 (joinS a b).acc, v]) ∧ OwnI w' w.heap.size v (joinS a b).regs ∧ Below w.heap.size w w' := by
  obtain ⟨xa, ca, rfl, hm, oa⟩ := ha.opened
  obtain ⟨xb, cb, rfl, hm', ob⟩ := hb.opened
  clear ha hb
  obtain ⟨p, l⟩ := a
  obtain ⟨q, m⟩ := b
  unfold joinS
  simp only at oa ob la lb hm hm' ⊢
  have hJ := joinP_end l m
  obtain ⟨n, hn⟩ : ∃ n, l.length = n := ⟨_, rfl⟩
  obtain ⟨n', hn'⟩ : ∃ n, m.length = n := ⟨_, rfl⟩
  have HN : Hid (l.length = n ∧ m.length = n') := ⟨hn, hn'⟩
  rw [hn, hn'] at hJ
  rw [hn] at oa la ⊢
  rw [hn'] at ob lb ⊢
  clear hm hm'
  have HA : Hid (0 < n → ∃ b o, xa = some ⟨b, o, none⟩ ∧ b < w.heap.size ∧ ∀ (j : Nat) (z : Int), l[j]? = some z → w.cell? ⟨b, o + j, none⟩ = some (.int .i64 z)) := oa
  have HB : Hid (0 < n' → ∃ b o, xb = some ⟨b, o, none⟩ ∧ b < w.heap.size ∧ ∀ (j : Nat) (z : Int), m[j]? = some z → w.cell? ⟨b, o + j, none⟩ = some (.int .i64 z)) := ob
  obtain ⟨N, hN⟩ : ∃ N, max n n' = N := ⟨_, rfl⟩
  obtain ⟨M, hM⟩ : ∃ M, min n n' = M := ⟨_, rfl⟩
  rw [hN, hM] at hJ
  have HJ : Hid (joinP l m M ++ List.replicate (N - M) 0 = joinL l m) := hJ
  obtain ⟨J, eJ⟩ : ∃ J, joinL l m = J := ⟨_, rfl⟩
  rw [eJ] at HJ ⊢
  clear hn hn' oa ob hJ eJ
  have hMx : max (n : Int) (n' : Int) = (N : Int) := by omega
  have hMn : min (n : Int) (n' : Int) = (M : Int) := by omega
  have HM : Hid (M ≤ n ∧ M ≤ n' ∧ M ≤ N ∧ n ≤ N ∧ n' ≤ N) := ⟨by omega, by omega, by omega, by omega, by omega⟩
  have hNb : N ≤ 1048576 := by omega
  clear hN hM
  obtain ⟨acc, hacc⟩ : ∃ acc, alk p q = acc := ⟨_, rfl⟩
  have hacc2 : (if p = q then p else 0) = acc := hacc
  rw [hacc2]
  have cA : ∀ W, Calls Try.prog 140 #[.int .i64 p, .int .i64 q] W fun e w' => e = .returned (.int .i64 acc) ∧ W = w' := fun W => hacc ▸ iAlike p q W
  clear hacc hacc2
  have T := made_three w (Obj.cells #[.int .i64 p, .slice xa n ca] 98) (Obj.cells #[.int .i64 q, .slice xb n' cb] 98) (Obj.cells #[.int .i64 0, .slice none 0 0] 98)
  obtain ⟨W3, hW3⟩ : ∃ W, (((w.alloc (Obj.cells #[.int .i64 p, .slice xa n ca] 98)).alloc (Obj.cells #[.int .i64 q, .slice xb n' cb] 98)).alloc (Obj.cells #[.int .i64 0, .slice none 0 0] 98)) = W := ⟨_, rfl⟩
  rw [hW3] at T
  have HW3 : Hid (_ = W3) := hW3
  clear hW3
  obtain ⟨t0, t1, t2, tz, tb⟩ := T
  obtain ⟨G, hG⟩ : ∃ G, w.heap.size = G := ⟨_, rfl⟩
  rw [hG] at t0 t1 t2 tz
  obtain ⟨Z, hZ⟩ : ∃ Z, W3.heap.size = Z := ⟨_, rfl⟩
  have HZ : Hid (W3.heap.size = Z ∧ Z = G + 3) := ⟨hZ, by rw [← hZ, tz]⟩
  have HG : Hid (w.heap.size = G) := hG
  have HB3 : Hid (Below w.heap.size w W3) := tb
  have HT : Hid (W3.heap[G]? = some (.cells #[.int .i64 p, .slice xa n ca] 98 (0, 0)) ∧ W3.heap[G + 1]? = some (.cells #[.int .i64 q, .slice xb n' cb] 98 (0, 0)) ∧ W3.heap[G + 1 + 1]? = some (.cells #[.int .i64 0, .slice none 0 0] 98 (0, 0))) := ⟨t0, t1, t2⟩
  have HK : Hid (∀ W, Below W3.heap.size W3 W → (W.cell? ⟨G, 0, none⟩ = some (.int .i64 p) ∧ W.cell? ⟨G, 1, none⟩ = some (.slice xa n ca)) ∧ (W.cell? ⟨G + 1, 0, none⟩ = some (.int .i64 q) ∧ W.cell? ⟨G + 1, 1, none⟩ = some (.slice xb n' cb))) := fun W hW => by
    have z := HZ.out
    exact ⟨two_cells_of ((hW.block G (by omega)).trans HT.out.1), two_cells_of ((hW.block (G + 1) (by omega)).trans HT.out.2.1)⟩
  have hmI : ∀ W, (Instr.makeSlice 35 (.int .i64 (N : Int)) (.int .i64 (N : Int))).run Try.prog W = .ok (.slice (some ⟨W.heap.size, 0, none⟩) N N) (W.alloc (.cells (madeCells #[.int .i64 0] (N * 1)) 3)) := fun W => made16m (P := Try.prog) Try.underlying35 Try.info13I (by decide) N hNb W
  obtain ⟨CI, hCI⟩ : ∃ a, madeCells #[.int .i64 0] (N * 1) = a := ⟨_, rfl⟩
  have HC : Hid (madeCells #[.int .i64 0] (N * 1) = CI) := hCI
  rw [hCI] at hmI
  clear tz hG t0 t1 t2 tb hCI
  go_enter Try.func130, Try.ntmps130
  go_upto_region 1 with fail
  rw [HW3.out]
  clear HW3
  simp only [HG.out]
  go_cut [5] (fun p5 wr => ∃ (C g : Nat), p5 = .pointer (some ⟨C, 0, none⟩) ∧ Hid (JoinI w G C g N #[.int .i64 p, .slice xa n ca] #[.int .i64 q, .slice xb n' cb] acc (List.replicate N 0) wr))
  case first =>
    have bS : ∀ {W : World} (o : Obj), Below W3.heap.size W3 W → Below W3.heap.size W3 (W.alloc o) := fun o h => h.alloc h.size o
    have bP : ∀ (X j : Nat) (u : Value) {W : World}, Below W3.heap.size W3 W → Z ≤ X → Below W3.heap.size W3 (W.setCell ⟨X, j, none⟩ u) := fun X j u W h hX => h.setCell (p := ⟨X, j, none⟩) (by show W3.heap.size ≤ X; omega) u
    have hbS : ∀ (k : Int) (a : Option Addr) (m d : Nat) (W : World), (Instr.build 98 #[(0, .int .i64 k), (1, .slice a m d)]).run Try.prog W = .ok (.agg #[.int .i64 k, .slice a m d]) W := fun k a m d W => run_build W 98 _ _ (by kernel_rfl)
    have hEnd : ∀ (C g : Nat) (W : World), Below W3.heap.size W3 W → W.heap[C]? = some (.cells #[.int .i64 acc, .slice (some ⟨g, 0, none⟩) N N] 98 (0, 0)) → W.heap[g]? = some (.cells CI 3 (0, 0)) → Z ≤ C → Z ≤ g → Hid (JoinI w G C g N #[.int .i64 p, .slice xa n ca] #[.int .i64 q, .slice xb n' cb] acc (List.replicate N 0) W) := fun C g W hB hC hg h1 h2 => by
      have z := HZ.out
      have t := HT.out
      have hwg := HG.out
      exact ⟨(hB.block _ (by omega)).trans t.1, (hB.block _ (by omega)).trans t.2.1, (hB.block _ (by omega)).trans t.2.2, hC, made_own W _ N g (by rw [HC.out]; exact hg) (by omega) hNb, chain HB3.out hB, by omega, by omega, by omega⟩
    have hEndA : Hid (JoinI w G (Z + 1) Z N #[.int .i64 p, .slice xa n ca] #[.int .i64 q, .slice xb n' cb] acc (List.replicate N 0) ((W3.alloc (.cells CI 3)).alloc (.cells #[.int .i64 acc, .slice (some ⟨Z, 0, none⟩) N N] 98)).drew) := by
      refine hEnd _ _ _ (bS _ (bS _ (Below.refl _ _))).drew ?_ ?_ (Nat.le_succ _) (Nat.le_refl _)
      · show ((W3.alloc (.cells CI 3)).alloc _).heap[Z + 1]? = _
        rw [show Z + 1 = (W3.alloc (.cells CI 3)).heap.size by simp; omega]; exact heap_alloc_new _ _
      · show ((W3.alloc (.cells CI 3)).alloc _).heap[Z]? = _
        rw [heap_alloc_old (r := Z) _ _ (by simp; omega), ← hZ]; exact heap_alloc_new _ _
    have hEndB : Hid (JoinI w G Z (Z + 1) N #[.int .i64 p, .slice xa n ca] #[.int .i64 q, .slice xb n' cb] acc (List.replicate N 0) ((W3.alloc (.cells #[.int .i64 acc, .slice (some ⟨Z + 1, 0, none⟩) N N] 98)).alloc (.cells CI 3)).drew) := by
      refine hEnd _ _ _ (bS _ (bS _ (Below.refl _ _))).drew ?_ ?_ (Nat.le_refl _) (Nat.le_succ _)
      · show ((W3.alloc _).alloc (.cells CI 3)).heap[Z]? = _
        rw [heap_alloc_old (r := Z) _ _ (by simp; omega), ← hZ]; exact heap_alloc_new _ _
      · have h := heap_alloc_new (W3.alloc (.cells #[.int .i64 acc, .slice (some ⟨Z + 1, 0, none⟩) N N] 98)) (.cells CI 3)
        rw [show (W3.alloc (.cells #[.int .i64 acc, .slice (some ⟨Z + 1, 0, none⟩) N N] 98)).heap.size = Z + 1 by simp; omega] at h
        exact h
    go_region_held_law (fun W => (W.cell? ⟨G, 0, none⟩ = some (.int .i64 p) ∧ W.cell? ⟨G, 1, none⟩ = some (.slice xa n ca)) ∧ (W.cell? ⟨G + 1, 0, none⟩ = some (.int .i64 q) ∧ W.cell? ⟨G + 1, 1, none⟩ = some (.slice xb n' cb)))
      (exact HK.out _ (by repeat (first | with_reducible exact Below.refl _ _ | (with_reducible refine RowKit.Below.drew ?_) | (with_reducible refine bS _ ?_) | (with_reducible refine bP _ _ _ ?_ (by omega)))))
      (first | (go_at_call 140; (with_reducible refine (cA _).mono ?_); rintro e w' ⟨rfl, rfl⟩))
    all_goals
      clear HK HA HB HT HZ bS bP hEnd
      go_wp2
      go_meet
      case rel => first | exact ⟨_, _, rfl, hEndA⟩ | exact ⟨_, _, rfl, hEndB⟩
  case rest =>
    obtain ⟨C, g, rfl, HD⟩ := hcut
    clear HK HT HZ HB3 hZ cA hmI HC
    have D := HD.out
    obtain ⟨a0, a1⟩ := two_cells_of D.b0
    obtain ⟨e0, e1⟩ := two_cells_of D.b1
    clear D
    go_wp2
    go_loopw [28] (fun i wr => ∃ k : Nat, i = .int .i64 k ∧ k ≤ M ∧ Hid (JoinI w G C g N #[.int .i64 p, .slice xa n ca] #[.int .i64 q, .slice xb n' cb] acc (joinP l m k ++ List.replicate (N - k) 0) wr)) (fun i _ => M - (intOf i).toNat)
    case atStart => exact ⟨0, rfl, Nat.zero_le _, by simpa [joinP] using HD⟩
    case round =>
      clear HD a0 a1 e0 e1
      obtain ⟨k, rfl, hk, HR⟩ := hrel
      have D := HR.out
      obtain ⟨c0, c1⟩ := two_cells_of D.c
      have hM := HM.out
      by_cases hlt : k < M
      · obtain ⟨ga, sa, rfl, hga, hca⟩ := HA.out (by omega)
        obtain ⟨gb, sb, rfl, hgb, hcb⟩ := HB.out (by omega)
        obtain ⟨y, hy⟩ : ∃ s, l[k]? = some s := ⟨_, List.getElem?_eq_getElem (by have := HN.out; omega)⟩
        obtain ⟨z, hz⟩ : ∃ s, m[k]? = some s := ⟨_, List.getElem?_eq_getElem (by have := HN.out; omega)⟩
        have hki : (k : Int) < (n : Int) := by omega
        have hki' : (k : Int) < (n' : Int) := by omega
        have hki2 : (k : Int) < (N : Int) := by omega
        have hki3 : (k : Int) < (M : Int) := by omega
        have hk0 : (0 : Int) ≤ (k : Int) := by omega
        have hS : ∀ W, JoinI w G C g N #[.int .i64 p, .slice (some ⟨ga, sa, none⟩) n ca] #[.int .i64 q, .slice (some ⟨gb, sb, none⟩) n' cb] acc (joinP l m k ++ List.replicate (N - k) 0) W ∨ JoinI w G C g N #[.int .i64 p, .slice (some ⟨ga, sa, none⟩) n ca] #[.int .i64 q, .slice (some ⟨gb, sb, none⟩) n' cb] acc ((joinP l m k ++ List.replicate (N - k) 0).set k (alk y z)) W → W.cell? ⟨G, 1, none⟩ = some (.slice (some ⟨ga, sa, none⟩) n ca) ∧ W.cell? ⟨G + 1, 1, none⟩ = some (.slice (some ⟨gb, sb, none⟩) n' cb) ∧ W.cell? ⟨C, 1, none⟩ = some (.slice (some ⟨g, 0, none⟩) N N) ∧ W.cell? ⟨ga, sa + k, none⟩ = some (.int .i64 y) ∧ W.cell? ⟨gb, sb + k, none⟩ = some (.int .i64 z) := fun W hW => by
          rcases hW with h | h
          · exact ⟨(two_cells_of h.b0).2, (two_cells_of h.b1).2, (two_cells_of h.c).2, (h.bel.cell (p := ⟨ga, sa + k, none⟩) hga).trans (hca k y hy), (h.bel.cell (p := ⟨gb, sb + k, none⟩) hgb).trans (hcb k z hz)⟩
          · exact ⟨(two_cells_of h.b0).2, (two_cells_of h.b1).2, (two_cells_of h.c).2, (h.bel.cell (p := ⟨ga, sa + k, none⟩) hga).trans (hca k y hy), (h.bel.cell (p := ⟨gb, sb + k, none⟩) hgb).trans (hcb k z hz)⟩
        have HP := D.put k (alk y z)
        have K0 := hS _ (.inl D)
        have K1 := hS _ (.inl D.drawn)
        have K2 := hS _ (.inr HP)
        have K3 := hS _ (.inr HP.drawn)
        have KK0 : Hid _ := K0
        have KK1 : Hid _ := K1
        have KK2 : Hid _ := K2
        have KK3 : Hid _ := K3
        have hlN : (joinP l m k ++ List.replicate (N - k) 0).length = N := by rw [List.length_append, joinP_len, List.length_replicate]; omega
        have hO : wr.ownsRow w.heap.size 3 1 (.slice (some ⟨g, 0, none⟩) N N) N ((joinP l m k ++ List.replicate (N - k) 0).flatMap intC) := by
          have h := D.own
          unfold OwnI at h
          rw [hlN] at h
          exact h
        obtain ⟨⟨u, hu⟩, hfz⟩ := row_cell hO k (by omega)
        clear hlN hO
        have hu2 : wr.drew.cell? ⟨g, k, none⟩ = some u := hu
        have hfz2 : wr.drew.frozen? ⟨g, k, none⟩ = false := hfz
        have e3 : (joinP l m k ++ List.replicate (N - k) 0).set k (alk y z) = joinP l m (k + 1) ++ List.replicate (N - (k + 1)) 0 := by
          rw [joinP_more, show joinAt l m k = alk y z by unfold joinAt alk; rw [hy, hz]]
          rw [List.set_append_right (h := by rw [joinP_len]; exact Nat.le_refl _), joinP_len, Nat.sub_self, show N - k = (N - (k + 1)) + 1 by omega, List.replicate_succ, List.set_cons_zero, List.append_assoc]
          rfl
        rw [e3] at HP
        have HE0 : Hid (JoinI w G C g N #[.int .i64 p, .slice (some ⟨ga, sa, none⟩) n ca] #[.int .i64 q, .slice (some ⟨gb, sb, none⟩) n' cb] acc (joinP l m (k + 1) ++ List.replicate (N - (k + 1)) 0) (wr.setCell ⟨g, k, none⟩ (.int .i64 (alk y z)))) := HP
        have HE1 : Hid (JoinI w G C g N #[.int .i64 p, .slice (some ⟨ga, sa, none⟩) n ca] #[.int .i64 q, .slice (some ⟨gb, sb, none⟩) n' cb] acc (joinP l m (k + 1) ++ List.replicate (N - (k + 1)) 0) (wr.setCell ⟨g, k, none⟩ (.int .i64 (alk y z))).drew) := HP.drawn
        have cA := fun W => iAlike y z W
        obtain ⟨AL, hAL⟩ : ∃ x, alk y z = x := ⟨_, rfl⟩
        simp only [hAL] at cA HE0 HE1 KK2 KK3
        clear hS HP K0 K1 K2 K3 e3 hca hcb hy hz D HA HB HR c0 c1 hAL
        go_wp2
        go_region_held_law (fun W => W.cell? ⟨G, 1, none⟩ = some (.slice (some ⟨ga, sa, none⟩) n ca) ∧ W.cell? ⟨G + 1, 1, none⟩ = some (.slice (some ⟨gb, sb, none⟩) n' cb) ∧ W.cell? ⟨C, 1, none⟩ = some (.slice (some ⟨g, 0, none⟩) N N) ∧ W.cell? ⟨ga, sa + k, none⟩ = some (.int .i64 y) ∧ W.cell? ⟨gb, sb + k, none⟩ = some (.int .i64 z))
          (first | with_reducible exact KK0.out | with_reducible exact KK1.out | with_reducible exact KK2.out | with_reducible exact KK3.out)
          (first | (go_at_call 140; (with_reducible refine (cA _).mono ?_); rintro e w' ⟨rfl, rfl⟩))
        all_goals
          go_wp2
          go_roundw
          case rel => first | exact ⟨k + 1, by go_num, by omega, HE0⟩ | exact ⟨k + 1, by go_num, by omega, HE1⟩
          case measure => simp [intOf]; omega
      · have e : k = M := by omega
        subst e
        obtain ⟨b20, b21⟩ := two_cells_of D.b2
        have hne : C ≠ G + 1 + 1 := by have := D.lo; omega
        have fR := fun j => frozen_of_row wr (G + 1 + 1) j _ _ D.b2
        have k0 := heap_setCell_same wr (G + 1 + 1) 0 _ _ (.int .i64 acc) D.b2
        have k1 := heap_setCell_same _ (G + 1 + 1) 1 _ _ (.slice (some ⟨g, 0, none⟩) N N) k0
        have ne := apart16 D.own D.b2 (by decide)
        have qB : ∀ (W : World) (j : Nat) (u : Value), Below w.heap.size w W → Below w.heap.size w (W.setCell ⟨G + 1 + 1, j, none⟩ u) := fun W j u h => h.setCell (p := ⟨G + 1 + 1, j, none⟩) (by have := D.lo; show _ ≤ G + 1 + 1; omega) u
        have HO : Hid (OwnI ((wr.setCell ⟨G + 1 + 1, 0, none⟩ (.int .i64 acc)).setCell ⟨G + 1 + 1, 1, none⟩ (.slice (some ⟨g, 0, none⟩) N N)) w.heap.size (.slice (some ⟨g, 0, none⟩) N N) J ∧ Below w.heap.size w ((wr.setCell ⟨G + 1 + 1, 0, none⟩ (.int .i64 acc)).setCell ⟨G + 1 + 1, 1, none⟩ (.slice (some ⟨g, 0, none⟩) N N))) := by
          have h := far16 (o := 1) (u := .slice (some ⟨g, 0, none⟩) N N) (far16 (o := 0) (u := .int .i64 acc) D.own ne) ne
          rw [HJ.out] at h
          exact ⟨h, qB _ _ _ (qB _ _ _ D.bel)⟩
        obtain ⟨z1, z2⟩ := two_cells_of k1
        have hkk : ¬ (k : Int) < (k : Int) := by omega
        clear D HR HA HB HJ k0 k1 qB HN
        go_wp2
        refine bodyPost_ret (by simp [results, Try.results130, go_sem, z1, z2]; try rfl) rfl ?_
        exact ⟨_, rfl, HO.out.1, HO.out.2⟩

end Go.Proofs.Ytbgdapdenbldmaa
