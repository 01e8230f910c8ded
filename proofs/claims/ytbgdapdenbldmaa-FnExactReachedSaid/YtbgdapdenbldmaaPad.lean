/-
  Part 4 of what is proved of drawn right trees.
-/
import Derived.Test.YtbgdapdenbldmaaPac

namespace Go.Proofs.Ytbgdapdenbldmaa
open Go.RowKit Go.Sort
set_option linter.unusedVariables false
structure JoinAt (w : World) (G : Nat) (ca cb cr : Array Value) (acc : Int) (l : List Int) (v : Value) (wr : World) : Prop where
  b0 : wr.heap[G]? = some (.cells ca 98)
  b1 : wr.heap[G + 1]? = some (.cells cb 98)
  b2 : wr.heap[G + 1 + 1]? = some (.cells cr 98)
  b3 : wr.heap[G + 1 + 1 + 1]? = some (.cells #[.int .i64 acc, v] 98)
  own : OwnI wr (G + 4) v l
  size : G + 4 ≤ wr.heap.size
  bel : Below w.heap.size w wr
theorem JoinAt.drawn {w wr : World} {G : Nat} {ca cb cr : Array Value} {acc : Int} {l : List Int} {v : Value} (h : JoinAt w G ca cb cr acc l v wr) (n : Nat) : JoinAt w G ca cb cr acc l v (wr.drewN n) := by
  have b := below_drewN (Below.refl wr.heap.size wr) n
  have s := h.size
  exact ⟨(b.block _ (by omega)).trans h.b0, (b.block _ (by omega)).trans h.b1, (b.block _ (by omega)).trans h.b2, (b.block _ (by omega)).trans h.b3, h.own.below b, Nat.le_trans s b.size, chain h.bel b⟩
theorem JoinAt.more {w wr w' : World} {G : Nat} {ca cb cr : Array Value} {acc z : Int} {l : List Int} {v v' : Value} (hG : w.heap.size ≤ G) (h : JoinAt w G ca cb cr acc l v wr) (hb : Below (G + 4) wr w') (hv : w'.ownsRow (G + 4) 3 1 v' (l.length + 1) (l.flatMap intC ++ [.int .i64 z])) :
    JoinAt w G ca cb cr acc (l ++ [z]) v' (w'.setCell ⟨G + 1 + 1 + 1, 1, none⟩ v') := by
  have s := h.size
  have o : ∀ k, k < G + 3 → (w'.setCell ⟨G + 1 + 1 + 1, 1, none⟩ v').heap[k]? = wr.heap[k]? := fun k hk => by
    rw [heap_setCell_other _ _ _ _ (by show k ≠ G + 1 + 1 + 1; omega)]
    exact hb.block k (by omega)
  refine ⟨(o G (by omega)).trans h.b0, (o (G + 1) (by omega)).trans h.b1, (o (G + 1 + 1) (by omega)).trans h.b2, ?_, ?_, ?_, ?_⟩
  · exact heap_setCell_same w' (G + 1 + 1 + 1) 1 _ _ v' ((hb.block (G + 1 + 1 + 1) (by omega)).trans h.b3)
  · have e : (l ++ [z]).flatMap intC = l.flatMap intC ++ [.int .i64 z] := by simp [intC]
    unfold OwnI
    rw [e, List.length_append]
    exact ownsRow_setCell_below hv (a := ⟨G + 1 + 1 + 1, 1, none⟩) (by show G + 1 + 1 + 1 < G + 4; omega) v'
  · rw [show (w'.setCell ⟨G + 1 + 1 + 1, 1, none⟩ v').heap.size = w'.heap.size by simp]
    exact Nat.le_trans s hb.size
  · exact (h.bel.trans (hb.mono (by omega))).setCell (p := ⟨G + 1 + 1 + 1, 1, none⟩) (by show w.heap.size ≤ G + 1 + 1 + 1; omega) v'
theorem four_made (w : World) (o1 o2 o3 o4 : Obj) : ((((w.alloc o1).alloc o2).alloc o3).alloc o4).heap[w.heap.size]? = some o1 ∧ ((((w.alloc o1).alloc o2).alloc o3).alloc o4).heap[w.heap.size + 1]? = some o2 ∧ ((((w.alloc o1).alloc o2).alloc o3).alloc o4).heap[w.heap.size + 1 + 1]? = some o3 ∧ ((((w.alloc o1).alloc o2).alloc o3).alloc o4).heap[w.heap.size + 1 + 1 + 1]? = some o4 ∧ ((((w.alloc o1).alloc o2).alloc o3).alloc o4).heap.size = w.heap.size + 4 ∧ Below w.heap.size w ((((w.alloc o1).alloc o2).alloc o3).alloc o4) := by
  obtain ⟨a, b, c, d, e⟩ := made_three w o1 o2 o3
  have old : ∀ r, r < w.heap.size + 3 → ((((w.alloc o1).alloc o2).alloc o3).alloc o4).heap[r]? = (((w.alloc o1).alloc o2).alloc o3).heap[r]? := fun r hr => heap_alloc_old (r := r) _ _ (by omega)
  refine ⟨(old _ (by omega)).trans a, (old _ (by omega)).trans b, (old _ (by omega)).trans c, ?_, by simp, e.alloc (by omega) _⟩
  rw [show w.heap.size + 1 + 1 + 1 = (((w.alloc o1).alloc o2).alloc o3).heap.size by omega]
  exact heap_alloc_new _ _
def joinP (l m : List Int) (k : Nat) : List Int := (List.range k).map (joinAt l m)
theorem joinP_more (l m : List Int) (k : Nat) : joinP l m (k + 1) = joinP l m k ++ [joinAt l m k] := by
  unfold joinP
  rw [List.range_succ, List.map_append]
  rfl
theorem joinP_len (l m : List Int) (k : Nat) : (joinP l m k).length = k := by simp [joinP]
set_option maxHeartbeats 2000000 in
set_option maxRecDepth 100000 in
theorem specJoin_any (a b : PSta) (va vb : Value) (w : World) (ha : ArgI w va a.regs) (hb : ArgI w vb b.regs) (la : a.regs.length ≤ 1048576) (lb : b.regs.length ≤ 1048576) :
    Calls Try.prog 100 #[.agg #[.int .i64 a.acc, va], .agg #[.int .i64 b.acc, vb]] w fun e w' => ∃ v, e = .returned (.agg #[.int .i64 (joinS a b).acc, v]) ∧ OwnI w' w.heap.size v (joinS a b).regs ∧ Below w.heap.size w w' := by
  obtain ⟨i0, hi, hz0, hz1, hz2⟩ := info_in Try.info13I
  obtain ⟨xa, ca, rfl, hm, oa⟩ := ha.opened
  obtain ⟨xb, cb, rfl, hm', ob⟩ := hb.opened
  clear ha hb
  obtain ⟨p, l⟩ := a
  obtain ⟨q, m⟩ := b
  unfold joinS
  simp only at oa ob la lb hm hm' ⊢
  obtain ⟨n, hn⟩ : ∃ n, l.length = n := ⟨_, rfl⟩
  obtain ⟨n', hn'⟩ : ∃ n, m.length = n := ⟨_, rfl⟩
  have HN : Hid (l.length = n) := hn
  have HN' : Hid (m.length = n') := hn'
  rw [hn] at oa la ⊢
  rw [hn'] at ob lb ⊢
  clear hm hm'
  have HA : Hid (0 < n → ∃ b o, xa = some ⟨b, o, none⟩ ∧ b < w.heap.size ∧ ∀ (j : Nat) (z : Int), l[j]? = some z → w.cell? ⟨b, o + j, none⟩ = some (.int .i64 z)) := oa
  have HB : Hid (0 < n' → ∃ b o, xb = some ⟨b, o, none⟩ ∧ b < w.heap.size ∧ ∀ (j : Nat) (z : Int), m[j]? = some z → w.cell? ⟨b, o + j, none⟩ = some (.int .i64 z)) := ob
  have HJ : Hid (joinL l m = joinP l m (max n n')) := by show joinL l m = _; unfold joinL joinP; rw [hn, hn']
  obtain ⟨J, hJ⟩ : ∃ J, joinL l m = J := ⟨_, rfl⟩
  rw [hJ] at HJ ⊢
  clear hn hn' oa ob hJ
  obtain ⟨acc, hacc⟩ : ∃ acc, (if p = q then p else 0) = acc := ⟨_, rfl⟩
  rw [hacc]
  obtain ⟨t0, t1, t2, t3, tz, tb⟩ := four_made w (.cells #[.int .i64 p, .slice xa n ca] 98) (.cells #[.int .i64 q, .slice xb n' cb] 98) (.cells #[.int .i64 0, .slice none 0 0] 98) (.cells #[.int .i64 acc, .slice none 0 0] 98)
  obtain ⟨W4, hW4⟩ : ∃ W, ((((w.alloc (.cells #[.int .i64 p, .slice xa n ca] 98)).alloc (.cells #[.int .i64 q, .slice xb n' cb] 98)).alloc (.cells #[.int .i64 0, .slice none 0 0] 98)).alloc (.cells #[.int .i64 acc, .slice none 0 0] 98)) = W := ⟨_, rfl⟩
  rw [hW4] at t0 t1 t2 t3 tz tb
  obtain ⟨G, hG⟩ : ∃ G, w.heap.size = G := ⟨_, rfl⟩
  have hGe : w.heap.size ≤ G := by omega
  rw [hG] at t0 t1 t2 t3 tz
  have HT : Hid (JoinAt w G #[.int .i64 p, .slice xa n ca] #[.int .i64 q, .slice xb n' cb] #[.int .i64 0, .slice none 0 0] acc [] (.slice none 0 0) W4) := ⟨t0, t1, t2, t3, ⟨rfl, .inl ⟨rfl, rfl⟩⟩, by omega, tb⟩
  have HW4 : Hid (((((w.alloc (.cells #[.int .i64 p, .slice xa n ca] 98)).alloc (.cells #[.int .i64 q, .slice xb n' cb] 98)).alloc (.cells #[.int .i64 0, .slice none 0 0] 98)).alloc (.cells #[.int .i64 acc, .slice none 0 0] 98)) = W4) := hW4
  have HAcc : Hid ((if p = q then p else 0) = acc) := hacc
  clear t0 t1 t2 t3 tz tb hW4 hacc
  by_cases hpq : p = q
  case pos =>
    subst hpq
    have ea : acc = p := by rw [← HAcc.out, if_pos rfl]
    subst ea
    clear HAcc
    go_enter Try.func100, Try.ntmps100
    go_upto_region 4 with fail
    rw [HW4.out]
    clear HW4
    go_wp2
    go_loopw [6] (fun i wr => ∃ (k : Nat) (x : Option Addr) (c : Nat), i = .int .i64 k ∧ k ≤ n ∧ k ≤ n' ∧ Hid (JoinAt w G #[.int .i64 acc, .slice xa n ca] #[.int .i64 acc, .slice xb n' cb] #[.int .i64 0, .slice none 0 0] acc (joinP l m k) (.slice x k c) wr)) (fun i _ => n - (intOf i).toNat)
    case atStart => exact ⟨0, none, 0, rfl, Nat.zero_le _, Nat.zero_le _, HT⟩
    case round =>
      clear HT
      obtain ⟨k, xv, cv, rfl, hk, hk', HR⟩ := hrel
      obtain ⟨a0, a1⟩ := two_cells_of HR.out.b0
      obtain ⟨e0, e1⟩ := two_cells_of HR.out.b1
      by_cases hlt : k < n ∧ k < n'
      · obtain ⟨ga, sa, rfl, hga, hca⟩ := HA.out (by omega)
        obtain ⟨gb, sb, rfl, hgb, hcb⟩ := HB.out (by omega)
        obtain ⟨y, hy⟩ : ∃ s, l[k]? = some s := ⟨_, List.getElem?_eq_getElem (by have := HN.out; omega)⟩
        obtain ⟨z, hz⟩ : ∃ s, m[k]? = some s := ⟨_, List.getElem?_eq_getElem (by have := HN'.out; omega)⟩
        have h1 : wr.cell? ⟨ga, sa + k, none⟩ = some (.int .i64 y) := (HR.out.bel.cell hga).trans (hca k y hy)
        have h2 : wr.cell? ⟨gb, sb + k, none⟩ = some (.int .i64 z) := (HR.out.bel.cell hgb).trans (hcb k z hz)
        have hgs : ga < wr.heap.size := Nat.lt_of_lt_of_le hga HR.out.bel.size
        have hki : (k : Int) < (n : Int) := by omega
        have hki' : (k : Int) < (n' : Int) := by omega
        have hk0 : (0 : Int) ≤ (k : Int) := by omega
        have hj : joinAt l m k = if y = z then y else 0 := by unfold joinAt; rw [hy, hz]
        have HP : Hid (joinP l m (k + 1) = joinP l m k ++ [if y = z then y else 0]) := by show joinP l m (k + 1) = _; rw [joinP_more, hj]
        clear hca hcb hy hz hj HA HB
        by_cases e : y = z
        · subst e
          rw [if_pos rfl] at HP
          go_wp2
          go_quiet (fail)
          have HD := HR.out.drawn nq
          have h1' := ((below_drewN (Below.refl wr.heap.size wr) nq).cell (p := ⟨ga, sa + k, none⟩) hgs).trans h1
          clear h1 h2 a0 a1 e0 e1 HR
          obtain ⟨a0, a1⟩ := two_cells_of HD.b0
          have hown : (wr.drewN nq).ownsRow (G + 4) 3 1 (.slice xv k cv) k ((joinP l m k).flatMap intC) := by
            have h := HD.own
            unfold OwnI at h
            rw [joinP_len] at h
            exact h
          have hsz := HD.size
          obtain ⟨o0, o1⟩ := two_cells_of HD.b3
          go_wp2_with (at_builtin; refine append_one (w0 := wr.drewN nq) rfl _ _ 35 rfl (G + 4) 3 i0 (.int .i64 0) 8 Try.underlying35 hi hz0 hz1 hz2 rfl _ _ _ rfl hown (.int .i64 y) rfl rfl (by omega) (by decide) (Below.refl _ _) hsz ?_)
          intro v' w2 hown' hbel'
          obtain ⟨x2, c2, rfl⟩ := row_slice hown'
          have q3 := (hbel'.block (G + 1 + 1 + 1) (by omega)).trans HD.b3
          obtain ⟨f0, f1⟩ := two_cells_of q3
          have fz := fun j => frozen_of_row w2 (G + 1 + 1 + 1) j _ _ q3
          have HM : Hid (JoinAt w G #[.int .i64 acc, .slice (some ⟨ga, sa, none⟩) n ca] #[.int .i64 acc, .slice (some ⟨gb, sb, none⟩) n' cb] #[.int .i64 0, .slice none 0 0] acc (joinP l m (k + 1)) (.slice x2 (k + 1) c2) (w2.setCell ⟨G + 1 + 1 + 1, 1, none⟩ (.slice x2 (k + 1) c2))) := by
            show JoinAt w G #[.int .i64 acc, .slice (some ⟨ga, sa, none⟩) n ca] #[.int .i64 acc, .slice (some ⟨gb, sb, none⟩) n' cb] #[.int .i64 0, .slice none 0 0] acc (joinP l m (k + 1)) _ _
            rw [HP.out]
            exact HD.more hGe hbel' (by rw [joinP_len]; exact hown')
          clear HD hown hown' hbel' q3 o0 o1 HP
          go_wp2
          go_roundw
          case rel => exact ⟨k + 1, x2, c2, by go_num, by omega, by omega, HM⟩
          case measure => simp [intOf]; omega
        · rw [if_neg e] at HP
          have hne : (y == z) = false := by rw [beq_eq_false_iff_ne]; exact e
          go_wp2
          go_quiet (fail)
          have HD := HR.out.drawn nq
          clear h1 h2 a0 a1 e0 e1 HR
          have hown : (wr.drewN nq).ownsRow (G + 4) 3 1 (.slice xv k cv) k ((joinP l m k).flatMap intC) := by
            have h := HD.own
            unfold OwnI at h
            rw [joinP_len] at h
            exact h
          have hsz := HD.size
          obtain ⟨o0, o1⟩ := two_cells_of HD.b3
          go_wp2_with (at_builtin; refine append_one (w0 := wr.drewN nq) rfl _ _ 35 rfl (G + 4) 3 i0 (.int .i64 0) 8 Try.underlying35 hi hz0 hz1 hz2 rfl _ _ _ rfl hown (.int .i64 0) rfl rfl (by omega) (by decide) (Below.refl _ _) hsz ?_)
          intro v' w2 hown' hbel'
          obtain ⟨x2, c2, rfl⟩ := row_slice hown'
          have q3 := (hbel'.block (G + 1 + 1 + 1) (by omega)).trans HD.b3
          obtain ⟨f0, f1⟩ := two_cells_of q3
          have fz := fun j => frozen_of_row w2 (G + 1 + 1 + 1) j _ _ q3
          have HM : Hid (JoinAt w G #[.int .i64 acc, .slice (some ⟨ga, sa, none⟩) n ca] #[.int .i64 acc, .slice (some ⟨gb, sb, none⟩) n' cb] #[.int .i64 0, .slice none 0 0] acc (joinP l m (k + 1)) (.slice x2 (k + 1) c2) (w2.setCell ⟨G + 1 + 1 + 1, 1, none⟩ (.slice x2 (k + 1) c2))) := by
            show JoinAt w G #[.int .i64 acc, .slice (some ⟨ga, sa, none⟩) n ca] #[.int .i64 acc, .slice (some ⟨gb, sb, none⟩) n' cb] #[.int .i64 0, .slice none 0 0] acc (joinP l m (k + 1)) _ _
            rw [HP.out]
            exact HD.more hGe hbel' (by rw [joinP_len]; exact hown')
          clear HD hown hown' hbel' q3 o0 o1 HP
          go_wp2
          go_roundw
          case rel => exact ⟨k + 1, x2, c2, by go_num, by omega, by omega, HM⟩
          case measure => simp [intOf]; omega
      · obtain ⟨o0, o1⟩ := two_cells_of HR.out.b3
        by_cases hx : k < n
        case pos =>
          have h1 : (k : Int) < (n : Int) := by omega
          have h2 : ¬ (k : Int) < (n' : Int) := by omega
          clear HA HB
          go_wp2
          go_loopw [8] (fun i wr => ∃ (k : Nat) (x : Option Addr) (c : Nat), i = .int .i64 k ∧ ¬ (k < n ∧ k < n') ∧ k ≤ max n n' ∧ Hid (JoinAt w G #[.int .i64 acc, .slice xa n ca] #[.int .i64 acc, .slice xb n' cb] #[.int .i64 0, .slice none 0 0] acc (joinP l m k) (.slice x k c) wr)) (fun i _ => max n n' - (intOf i).toNat)
          case atStart => exact ⟨k, xv, cv, rfl, hlt, by omega, HR⟩
          case round =>
            clear HR a0 a1 e0 e1 o0 o1 hx h1 h2 hlt hk hk'
            obtain ⟨k, xv, cv, rfl, hnl, hkm, HR⟩ := hrel
            have HD := HR.out
            clear HR
            obtain ⟨a0, a1⟩ := two_cells_of HD.b0
            obtain ⟨e0, e1⟩ := two_cells_of HD.b1
            by_cases hmo : k < n ∨ k < n'
            · have HP : Hid (joinP l m (k + 1) = joinP l m k ++ [0]) := by
                show joinP l m (k + 1) = _
                have hj : joinAt l m k = 0 := by
                  unfold joinAt
                  rcases Nat.lt_or_ge k n with h | h
                  · rw [List.getElem?_eq_none (l := m) (by have := HN'.out; omega)]
                    cases l[k]? <;> rfl
                  · rw [List.getElem?_eq_none (l := l) (by have := HN.out; omega)]
                rw [joinP_more, hj]
              by_cases hx : k < n
              · have h1 : (k : Int) < (n : Int) := by omega
                have hown : wr.ownsRow (G + 4) 3 1 (.slice xv k cv) k ((joinP l m k).flatMap intC) := by
                  have h := HD.own
                  unfold OwnI at h
                  rw [joinP_len] at h
                  exact h
                have hsz := HD.size
                obtain ⟨o0, o1⟩ := two_cells_of HD.b3
                go_wp2_with (at_builtin; refine append_one (w0 := wr) rfl _ _ 35 rfl (G + 4) 3 i0 (.int .i64 0) 8 Try.underlying35 hi hz0 hz1 hz2 rfl _ _ _ rfl hown (.int .i64 0) rfl rfl (by omega) (by decide) (Below.refl _ _) hsz ?_)
                intro v' w2 hown' hbel'
                obtain ⟨x2, c2, rfl⟩ := row_slice hown'
                have q3 := (hbel'.block (G + 1 + 1 + 1) (by omega)).trans HD.b3
                obtain ⟨f0, f1⟩ := two_cells_of q3
                have fz := fun j => frozen_of_row w2 (G + 1 + 1 + 1) j _ _ q3
                have HM : Hid (JoinAt w G #[.int .i64 acc, .slice xa n ca] #[.int .i64 acc, .slice xb n' cb] #[.int .i64 0, .slice none 0 0] acc (joinP l m (k + 1)) (.slice x2 (k + 1) c2) (w2.setCell ⟨G + 1 + 1 + 1, 1, none⟩ (.slice x2 (k + 1) c2))) := by
                  show JoinAt w G #[.int .i64 acc, .slice xa n ca] #[.int .i64 acc, .slice xb n' cb] #[.int .i64 0, .slice none 0 0] acc (joinP l m (k + 1)) _ _
                  rw [HP.out]
                  exact HD.more hGe hbel' (by rw [joinP_len]; exact hown')
                clear HD hown hown' hbel' q3 o0 o1 HP
                go_wp2
                go_roundw
                case rel => exact ⟨k + 1, x2, c2, by go_num, by omega, by omega, HM⟩
                case measure => simp [intOf]; omega
              · have h1 : decide ((k : Int) < (n : Int)) = false := decide_eq_false (by omega)
                have h2 : (k : Int) < (n' : Int) := by omega
                have hown : wr.ownsRow (G + 4) 3 1 (.slice xv k cv) k ((joinP l m k).flatMap intC) := by
                  have h := HD.own
                  unfold OwnI at h
                  rw [joinP_len] at h
                  exact h
                have hsz := HD.size
                obtain ⟨o0, o1⟩ := two_cells_of HD.b3
                go_wp2_with (at_builtin; refine append_one (w0 := wr) rfl _ _ 35 rfl (G + 4) 3 i0 (.int .i64 0) 8 Try.underlying35 hi hz0 hz1 hz2 rfl _ _ _ rfl hown (.int .i64 0) rfl rfl (by omega) (by decide) (Below.refl _ _) hsz ?_)
                intro v' w2 hown' hbel'
                obtain ⟨x2, c2, rfl⟩ := row_slice hown'
                have q3 := (hbel'.block (G + 1 + 1 + 1) (by omega)).trans HD.b3
                obtain ⟨f0, f1⟩ := two_cells_of q3
                have fz := fun j => frozen_of_row w2 (G + 1 + 1 + 1) j _ _ q3
                have HM : Hid (JoinAt w G #[.int .i64 acc, .slice xa n ca] #[.int .i64 acc, .slice xb n' cb] #[.int .i64 0, .slice none 0 0] acc (joinP l m (k + 1)) (.slice x2 (k + 1) c2) (w2.setCell ⟨G + 1 + 1 + 1, 1, none⟩ (.slice x2 (k + 1) c2))) := by
                  show JoinAt w G #[.int .i64 acc, .slice xa n ca] #[.int .i64 acc, .slice xb n' cb] #[.int .i64 0, .slice none 0 0] acc (joinP l m (k + 1)) _ _
                  rw [HP.out]
                  exact HD.more hGe hbel' (by rw [joinP_len]; exact hown')
                clear HD hown hown' hbel' q3 o0 o1 HP
                go_wp2
                go_roundw
                case rel => exact ⟨k + 1, x2, c2, by go_num, by omega, by omega, HM⟩
                case measure => simp [intOf]; omega
            · have h1 : ¬ (k : Int) < (n : Int) := by omega
              have h2 : ¬ (k : Int) < (n' : Int) := by omega
              have ek : k = max n n' := by omega
              obtain ⟨o0, o1⟩ := two_cells_of HD.b3
              obtain ⟨r0, r1⟩ := two_cells_of HD.b2
              have fz := fun j => frozen_of_row wr (G + 1 + 1) j _ _ HD.b2
              have z0 : (wr.setCell ⟨G + 1 + 1, 0, none⟩ (.int .i64 acc)).heap[G + 1 + 1]? = some (.cells #[.int .i64 acc, .slice none 0 0] 98) := heap_setCell_same _ _ _ _ _ _ HD.b2
              have z1 : ((wr.setCell ⟨G + 1 + 1, 0, none⟩ (.int .i64 acc)).setCell ⟨G + 1 + 1, 1, none⟩ (.slice xv k cv)).heap[G + 1 + 1]? = some (.cells #[.int .i64 acc, .slice xv k cv] 98) := heap_setCell_same _ _ 1 _ _ _ z0
              obtain ⟨g0, g1⟩ := two_cells_of z1
              have HE : Hid (OwnI ((wr.setCell ⟨G + 1 + 1, 0, none⟩ (.int .i64 acc)).setCell ⟨G + 1 + 1, 1, none⟩ (.slice xv k cv)) w.heap.size (.slice xv k cv) J ∧ Below w.heap.size w ((wr.setCell ⟨G + 1 + 1, 0, none⟩ (.int .i64 acc)).setCell ⟨G + 1 + 1, 1, none⟩ (.slice xv k cv))) := by
                have ho := HD.own
                have eJ := HJ.out
                rw [← ek] at eJ
                rw [← eJ] at ho
                exact ⟨row_low (ownsRow_setCell_below (ownsRow_setCell_below ho (a := ⟨G + 1 + 1, 0, none⟩) (by show G + 1 + 1 < G + 4; omega) _) (a := ⟨G + 1 + 1, 1, none⟩) (by show G + 1 + 1 < G + 4; omega) _) (by omega), (HD.bel.setCell (p := ⟨G + 1 + 1, 0, none⟩) (by show w.heap.size ≤ G + 1 + 1; omega) _).setCell (p := ⟨G + 1 + 1, 1, none⟩) (by show w.heap.size ≤ G + 1 + 1; omega) _⟩
              have HEG : Hid (OwnI ((wr.setCell ⟨G + 1 + 1, 0, none⟩ (.int .i64 acc)).setCell ⟨G + 1 + 1, 1, none⟩ (.slice xv k cv)) G (.slice xv k cv) J ∧ Below G w ((wr.setCell ⟨G + 1 + 1, 0, none⟩ (.int .i64 acc)).setCell ⟨G + 1 + 1, 1, none⟩ (.slice xv k cv))) := by
                have h := HE.out
                rw [hG] at h
                exact h
              clear HD z0 z1 ek hmo
              go_wp2
              refine bodyPost_ret (by simp [results, Try.results100, go_sem, g0, g1]; try rfl) rfl ?_
              first | exact ⟨_, rfl, HEG.out.1, HEG.out.2⟩ | exact ⟨_, rfl, HEG.out.1, HE.out.2⟩ | exact ⟨_, rfl, HE.out.1, HEG.out.2⟩
        case neg =>
          have h1 : ¬ (k : Int) < (n : Int) := by omega
          clear HA HB
          go_wp2
          go_loopw [8] (fun i wr => ∃ (k : Nat) (x : Option Addr) (c : Nat), i = .int .i64 k ∧ ¬ (k < n ∧ k < n') ∧ k ≤ max n n' ∧ Hid (JoinAt w G #[.int .i64 acc, .slice xa n ca] #[.int .i64 acc, .slice xb n' cb] #[.int .i64 0, .slice none 0 0] acc (joinP l m k) (.slice x k c) wr)) (fun i _ => max n n' - (intOf i).toNat)
          case atStart => exact ⟨k, xv, cv, rfl, hlt, by omega, HR⟩
          case round =>
            clear HR a0 a1 e0 e1 o0 o1 hx h1 hlt hk hk'
            obtain ⟨k, xv, cv, rfl, hnl, hkm, HR⟩ := hrel
            have HD := HR.out
            clear HR
            obtain ⟨a0, a1⟩ := two_cells_of HD.b0
            obtain ⟨e0, e1⟩ := two_cells_of HD.b1
            by_cases hmo : k < n ∨ k < n'
            · have HP : Hid (joinP l m (k + 1) = joinP l m k ++ [0]) := by
                show joinP l m (k + 1) = _
                have hj : joinAt l m k = 0 := by
                  unfold joinAt
                  rcases Nat.lt_or_ge k n with h | h
                  · rw [List.getElem?_eq_none (l := m) (by have := HN'.out; omega)]
                    cases l[k]? <;> rfl
                  · rw [List.getElem?_eq_none (l := l) (by have := HN.out; omega)]
                rw [joinP_more, hj]
              by_cases hx : k < n
              · have h1 : (k : Int) < (n : Int) := by omega
                have hown : wr.ownsRow (G + 4) 3 1 (.slice xv k cv) k ((joinP l m k).flatMap intC) := by
                  have h := HD.own
                  unfold OwnI at h
                  rw [joinP_len] at h
                  exact h
                have hsz := HD.size
                obtain ⟨o0, o1⟩ := two_cells_of HD.b3
                go_wp2_with (at_builtin; refine append_one (w0 := wr) rfl _ _ 35 rfl (G + 4) 3 i0 (.int .i64 0) 8 Try.underlying35 hi hz0 hz1 hz2 rfl _ _ _ rfl hown (.int .i64 0) rfl rfl (by omega) (by decide) (Below.refl _ _) hsz ?_)
                intro v' w2 hown' hbel'
                obtain ⟨x2, c2, rfl⟩ := row_slice hown'
                have q3 := (hbel'.block (G + 1 + 1 + 1) (by omega)).trans HD.b3
                obtain ⟨f0, f1⟩ := two_cells_of q3
                have fz := fun j => frozen_of_row w2 (G + 1 + 1 + 1) j _ _ q3
                have HM : Hid (JoinAt w G #[.int .i64 acc, .slice xa n ca] #[.int .i64 acc, .slice xb n' cb] #[.int .i64 0, .slice none 0 0] acc (joinP l m (k + 1)) (.slice x2 (k + 1) c2) (w2.setCell ⟨G + 1 + 1 + 1, 1, none⟩ (.slice x2 (k + 1) c2))) := by
                  show JoinAt w G #[.int .i64 acc, .slice xa n ca] #[.int .i64 acc, .slice xb n' cb] #[.int .i64 0, .slice none 0 0] acc (joinP l m (k + 1)) _ _
                  rw [HP.out]
                  exact HD.more hGe hbel' (by rw [joinP_len]; exact hown')
                clear HD hown hown' hbel' q3 o0 o1 HP
                go_wp2
                go_roundw
                case rel => exact ⟨k + 1, x2, c2, by go_num, by omega, by omega, HM⟩
                case measure => simp [intOf]; omega
              · have h1 : decide ((k : Int) < (n : Int)) = false := decide_eq_false (by omega)
                have h2 : (k : Int) < (n' : Int) := by omega
                have hown : wr.ownsRow (G + 4) 3 1 (.slice xv k cv) k ((joinP l m k).flatMap intC) := by
                  have h := HD.own
                  unfold OwnI at h
                  rw [joinP_len] at h
                  exact h
                have hsz := HD.size
                obtain ⟨o0, o1⟩ := two_cells_of HD.b3
                go_wp2_with (at_builtin; refine append_one (w0 := wr) rfl _ _ 35 rfl (G + 4) 3 i0 (.int .i64 0) 8 Try.underlying35 hi hz0 hz1 hz2 rfl _ _ _ rfl hown (.int .i64 0) rfl rfl (by omega) (by decide) (Below.refl _ _) hsz ?_)
                intro v' w2 hown' hbel'
                obtain ⟨x2, c2, rfl⟩ := row_slice hown'
                have q3 := (hbel'.block (G + 1 + 1 + 1) (by omega)).trans HD.b3
                obtain ⟨f0, f1⟩ := two_cells_of q3
                have fz := fun j => frozen_of_row w2 (G + 1 + 1 + 1) j _ _ q3
                have HM : Hid (JoinAt w G #[.int .i64 acc, .slice xa n ca] #[.int .i64 acc, .slice xb n' cb] #[.int .i64 0, .slice none 0 0] acc (joinP l m (k + 1)) (.slice x2 (k + 1) c2) (w2.setCell ⟨G + 1 + 1 + 1, 1, none⟩ (.slice x2 (k + 1) c2))) := by
                  show JoinAt w G #[.int .i64 acc, .slice xa n ca] #[.int .i64 acc, .slice xb n' cb] #[.int .i64 0, .slice none 0 0] acc (joinP l m (k + 1)) _ _
                  rw [HP.out]
                  exact HD.more hGe hbel' (by rw [joinP_len]; exact hown')
                clear HD hown hown' hbel' q3 o0 o1 HP
                go_wp2
                go_roundw
                case rel => exact ⟨k + 1, x2, c2, by go_num, by omega, by omega, HM⟩
                case measure => simp [intOf]; omega
            · have h1 : ¬ (k : Int) < (n : Int) := by omega
              have h2 : ¬ (k : Int) < (n' : Int) := by omega
              have ek : k = max n n' := by omega
              obtain ⟨o0, o1⟩ := two_cells_of HD.b3
              obtain ⟨r0, r1⟩ := two_cells_of HD.b2
              have fz := fun j => frozen_of_row wr (G + 1 + 1) j _ _ HD.b2
              have z0 : (wr.setCell ⟨G + 1 + 1, 0, none⟩ (.int .i64 acc)).heap[G + 1 + 1]? = some (.cells #[.int .i64 acc, .slice none 0 0] 98) := heap_setCell_same _ _ _ _ _ _ HD.b2
              have z1 : ((wr.setCell ⟨G + 1 + 1, 0, none⟩ (.int .i64 acc)).setCell ⟨G + 1 + 1, 1, none⟩ (.slice xv k cv)).heap[G + 1 + 1]? = some (.cells #[.int .i64 acc, .slice xv k cv] 98) := heap_setCell_same _ _ 1 _ _ _ z0
              obtain ⟨g0, g1⟩ := two_cells_of z1
              have HE : Hid (OwnI ((wr.setCell ⟨G + 1 + 1, 0, none⟩ (.int .i64 acc)).setCell ⟨G + 1 + 1, 1, none⟩ (.slice xv k cv)) w.heap.size (.slice xv k cv) J ∧ Below w.heap.size w ((wr.setCell ⟨G + 1 + 1, 0, none⟩ (.int .i64 acc)).setCell ⟨G + 1 + 1, 1, none⟩ (.slice xv k cv))) := by
                have ho := HD.own
                have eJ := HJ.out
                rw [← ek] at eJ
                rw [← eJ] at ho
                exact ⟨row_low (ownsRow_setCell_below (ownsRow_setCell_below ho (a := ⟨G + 1 + 1, 0, none⟩) (by show G + 1 + 1 < G + 4; omega) _) (a := ⟨G + 1 + 1, 1, none⟩) (by show G + 1 + 1 < G + 4; omega) _) (by omega), (HD.bel.setCell (p := ⟨G + 1 + 1, 0, none⟩) (by show w.heap.size ≤ G + 1 + 1; omega) _).setCell (p := ⟨G + 1 + 1, 1, none⟩) (by show w.heap.size ≤ G + 1 + 1; omega) _⟩
              have HEG : Hid (OwnI ((wr.setCell ⟨G + 1 + 1, 0, none⟩ (.int .i64 acc)).setCell ⟨G + 1 + 1, 1, none⟩ (.slice xv k cv)) G (.slice xv k cv) J ∧ Below G w ((wr.setCell ⟨G + 1 + 1, 0, none⟩ (.int .i64 acc)).setCell ⟨G + 1 + 1, 1, none⟩ (.slice xv k cv))) := by
                have h := HE.out
                rw [hG] at h
                exact h
              clear HD z0 z1 ek hmo
              go_wp2
              refine bodyPost_ret (by simp [results, Try.results100, go_sem, g0, g1]; try rfl) rfl ?_
              first | exact ⟨_, rfl, HEG.out.1, HEG.out.2⟩ | exact ⟨_, rfl, HEG.out.1, HE.out.2⟩ | exact ⟨_, rfl, HE.out.1, HEG.out.2⟩
  case neg =>
    have ea : acc = 0 := by rw [← HAcc.out, if_neg hpq]
    subst ea
    clear HAcc
    have hnq : (p == q) = false := by rw [beq_eq_false_iff_ne]; exact hpq
    go_enter Try.func100, Try.ntmps100
    go_upto_region 4 with fail
    rw [HW4.out]
    clear HW4
    go_wp2
    go_loopw [6] (fun i wr => ∃ (k : Nat) (x : Option Addr) (c : Nat), i = .int .i64 k ∧ k ≤ n ∧ k ≤ n' ∧ Hid (JoinAt w G #[.int .i64 p, .slice xa n ca] #[.int .i64 q, .slice xb n' cb] #[.int .i64 0, .slice none 0 0] 0 (joinP l m k) (.slice x k c) wr)) (fun i _ => n - (intOf i).toNat)
    case atStart => exact ⟨0, none, 0, rfl, Nat.zero_le _, Nat.zero_le _, HT⟩
    case round =>
      clear HT
      obtain ⟨k, xv, cv, rfl, hk, hk', HR⟩ := hrel
      obtain ⟨a0, a1⟩ := two_cells_of HR.out.b0
      obtain ⟨e0, e1⟩ := two_cells_of HR.out.b1
      by_cases hlt : k < n ∧ k < n'
      · obtain ⟨ga, sa, rfl, hga, hca⟩ := HA.out (by omega)
        obtain ⟨gb, sb, rfl, hgb, hcb⟩ := HB.out (by omega)
        obtain ⟨y, hy⟩ : ∃ s, l[k]? = some s := ⟨_, List.getElem?_eq_getElem (by have := HN.out; omega)⟩
        obtain ⟨z, hz⟩ : ∃ s, m[k]? = some s := ⟨_, List.getElem?_eq_getElem (by have := HN'.out; omega)⟩
        have h1 : wr.cell? ⟨ga, sa + k, none⟩ = some (.int .i64 y) := (HR.out.bel.cell hga).trans (hca k y hy)
        have h2 : wr.cell? ⟨gb, sb + k, none⟩ = some (.int .i64 z) := (HR.out.bel.cell hgb).trans (hcb k z hz)
        have hgs : ga < wr.heap.size := Nat.lt_of_lt_of_le hga HR.out.bel.size
        have hki : (k : Int) < (n : Int) := by omega
        have hki' : (k : Int) < (n' : Int) := by omega
        have hk0 : (0 : Int) ≤ (k : Int) := by omega
        have hj : joinAt l m k = if y = z then y else 0 := by unfold joinAt; rw [hy, hz]
        have HP : Hid (joinP l m (k + 1) = joinP l m k ++ [if y = z then y else 0]) := by show joinP l m (k + 1) = _; rw [joinP_more, hj]
        clear hca hcb hy hz hj HA HB
        by_cases e : y = z
        · subst e
          rw [if_pos rfl] at HP
          go_wp2
          go_quiet (fail)
          have HD := HR.out.drawn nq
          have h1' := ((below_drewN (Below.refl wr.heap.size wr) nq).cell (p := ⟨ga, sa + k, none⟩) hgs).trans h1
          clear h1 h2 a0 a1 e0 e1 HR
          obtain ⟨a0, a1⟩ := two_cells_of HD.b0
          have hown : (wr.drewN nq).ownsRow (G + 4) 3 1 (.slice xv k cv) k ((joinP l m k).flatMap intC) := by
            have h := HD.own
            unfold OwnI at h
            rw [joinP_len] at h
            exact h
          have hsz := HD.size
          obtain ⟨o0, o1⟩ := two_cells_of HD.b3
          go_wp2_with (at_builtin; refine append_one (w0 := wr.drewN nq) rfl _ _ 35 rfl (G + 4) 3 i0 (.int .i64 0) 8 Try.underlying35 hi hz0 hz1 hz2 rfl _ _ _ rfl hown (.int .i64 y) rfl rfl (by omega) (by decide) (Below.refl _ _) hsz ?_)
          intro v' w2 hown' hbel'
          obtain ⟨x2, c2, rfl⟩ := row_slice hown'
          have q3 := (hbel'.block (G + 1 + 1 + 1) (by omega)).trans HD.b3
          obtain ⟨f0, f1⟩ := two_cells_of q3
          have fz := fun j => frozen_of_row w2 (G + 1 + 1 + 1) j _ _ q3
          have HM : Hid (JoinAt w G #[.int .i64 p, .slice (some ⟨ga, sa, none⟩) n ca] #[.int .i64 q, .slice (some ⟨gb, sb, none⟩) n' cb] #[.int .i64 0, .slice none 0 0] 0 (joinP l m (k + 1)) (.slice x2 (k + 1) c2) (w2.setCell ⟨G + 1 + 1 + 1, 1, none⟩ (.slice x2 (k + 1) c2))) := by
            show JoinAt w G #[.int .i64 p, .slice (some ⟨ga, sa, none⟩) n ca] #[.int .i64 q, .slice (some ⟨gb, sb, none⟩) n' cb] #[.int .i64 0, .slice none 0 0] 0 (joinP l m (k + 1)) _ _
            rw [HP.out]
            exact HD.more hGe hbel' (by rw [joinP_len]; exact hown')
          clear HD hown hown' hbel' q3 o0 o1 HP
          go_wp2
          go_roundw
          case rel => exact ⟨k + 1, x2, c2, by go_num, by omega, by omega, HM⟩
          case measure => simp [intOf]; omega
        · rw [if_neg e] at HP
          have hne : (y == z) = false := by rw [beq_eq_false_iff_ne]; exact e
          go_wp2
          go_quiet (fail)
          have HD := HR.out.drawn nq
          clear h1 h2 a0 a1 e0 e1 HR
          have hown : (wr.drewN nq).ownsRow (G + 4) 3 1 (.slice xv k cv) k ((joinP l m k).flatMap intC) := by
            have h := HD.own
            unfold OwnI at h
            rw [joinP_len] at h
            exact h
          have hsz := HD.size
          obtain ⟨o0, o1⟩ := two_cells_of HD.b3
          go_wp2_with (at_builtin; refine append_one (w0 := wr.drewN nq) rfl _ _ 35 rfl (G + 4) 3 i0 (.int .i64 0) 8 Try.underlying35 hi hz0 hz1 hz2 rfl _ _ _ rfl hown (.int .i64 0) rfl rfl (by omega) (by decide) (Below.refl _ _) hsz ?_)
          intro v' w2 hown' hbel'
          obtain ⟨x2, c2, rfl⟩ := row_slice hown'
          have q3 := (hbel'.block (G + 1 + 1 + 1) (by omega)).trans HD.b3
          obtain ⟨f0, f1⟩ := two_cells_of q3
          have fz := fun j => frozen_of_row w2 (G + 1 + 1 + 1) j _ _ q3
          have HM : Hid (JoinAt w G #[.int .i64 p, .slice (some ⟨ga, sa, none⟩) n ca] #[.int .i64 q, .slice (some ⟨gb, sb, none⟩) n' cb] #[.int .i64 0, .slice none 0 0] 0 (joinP l m (k + 1)) (.slice x2 (k + 1) c2) (w2.setCell ⟨G + 1 + 1 + 1, 1, none⟩ (.slice x2 (k + 1) c2))) := by
            show JoinAt w G #[.int .i64 p, .slice (some ⟨ga, sa, none⟩) n ca] #[.int .i64 q, .slice (some ⟨gb, sb, none⟩) n' cb] #[.int .i64 0, .slice none 0 0] 0 (joinP l m (k + 1)) _ _
            rw [HP.out]
            exact HD.more hGe hbel' (by rw [joinP_len]; exact hown')
          clear HD hown hown' hbel' q3 o0 o1 HP
          go_wp2
          go_roundw
          case rel => exact ⟨k + 1, x2, c2, by go_num, by omega, by omega, HM⟩
          case measure => simp [intOf]; omega
      · obtain ⟨o0, o1⟩ := two_cells_of HR.out.b3
        by_cases hx : k < n
        case pos =>
          have h1 : (k : Int) < (n : Int) := by omega
          have h2 : ¬ (k : Int) < (n' : Int) := by omega
          clear HA HB
          go_wp2
          go_loopw [8] (fun i wr => ∃ (k : Nat) (x : Option Addr) (c : Nat), i = .int .i64 k ∧ ¬ (k < n ∧ k < n') ∧ k ≤ max n n' ∧ Hid (JoinAt w G #[.int .i64 p, .slice xa n ca] #[.int .i64 q, .slice xb n' cb] #[.int .i64 0, .slice none 0 0] 0 (joinP l m k) (.slice x k c) wr)) (fun i _ => max n n' - (intOf i).toNat)
          case atStart => exact ⟨k, xv, cv, rfl, hlt, by omega, HR⟩
          case round =>
            clear HR a0 a1 e0 e1 o0 o1 hx h1 h2 hlt hk hk'
            obtain ⟨k, xv, cv, rfl, hnl, hkm, HR⟩ := hrel
            have HD := HR.out
            clear HR
            obtain ⟨a0, a1⟩ := two_cells_of HD.b0
            obtain ⟨e0, e1⟩ := two_cells_of HD.b1
            by_cases hmo : k < n ∨ k < n'
            · have HP : Hid (joinP l m (k + 1) = joinP l m k ++ [0]) := by
                show joinP l m (k + 1) = _
                have hj : joinAt l m k = 0 := by
                  unfold joinAt
                  rcases Nat.lt_or_ge k n with h | h
                  · rw [List.getElem?_eq_none (l := m) (by have := HN'.out; omega)]
                    cases l[k]? <;> rfl
                  · rw [List.getElem?_eq_none (l := l) (by have := HN.out; omega)]
                rw [joinP_more, hj]
              by_cases hx : k < n
              · have h1 : (k : Int) < (n : Int) := by omega
                have hown : wr.ownsRow (G + 4) 3 1 (.slice xv k cv) k ((joinP l m k).flatMap intC) := by
                  have h := HD.own
                  unfold OwnI at h
                  rw [joinP_len] at h
                  exact h
                have hsz := HD.size
                obtain ⟨o0, o1⟩ := two_cells_of HD.b3
                go_wp2_with (at_builtin; refine append_one (w0 := wr) rfl _ _ 35 rfl (G + 4) 3 i0 (.int .i64 0) 8 Try.underlying35 hi hz0 hz1 hz2 rfl _ _ _ rfl hown (.int .i64 0) rfl rfl (by omega) (by decide) (Below.refl _ _) hsz ?_)
                intro v' w2 hown' hbel'
                obtain ⟨x2, c2, rfl⟩ := row_slice hown'
                have q3 := (hbel'.block (G + 1 + 1 + 1) (by omega)).trans HD.b3
                obtain ⟨f0, f1⟩ := two_cells_of q3
                have fz := fun j => frozen_of_row w2 (G + 1 + 1 + 1) j _ _ q3
                have HM : Hid (JoinAt w G #[.int .i64 p, .slice xa n ca] #[.int .i64 q, .slice xb n' cb] #[.int .i64 0, .slice none 0 0] 0 (joinP l m (k + 1)) (.slice x2 (k + 1) c2) (w2.setCell ⟨G + 1 + 1 + 1, 1, none⟩ (.slice x2 (k + 1) c2))) := by
                  show JoinAt w G #[.int .i64 p, .slice xa n ca] #[.int .i64 q, .slice xb n' cb] #[.int .i64 0, .slice none 0 0] 0 (joinP l m (k + 1)) _ _
                  rw [HP.out]
                  exact HD.more hGe hbel' (by rw [joinP_len]; exact hown')
                clear HD hown hown' hbel' q3 o0 o1 HP
                go_wp2
                go_roundw
                case rel => exact ⟨k + 1, x2, c2, by go_num, by omega, by omega, HM⟩
                case measure => simp [intOf]; omega
              · have h1 : decide ((k : Int) < (n : Int)) = false := decide_eq_false (by omega)
                have h2 : (k : Int) < (n' : Int) := by omega
                have hown : wr.ownsRow (G + 4) 3 1 (.slice xv k cv) k ((joinP l m k).flatMap intC) := by
                  have h := HD.own
                  unfold OwnI at h
                  rw [joinP_len] at h
                  exact h
                have hsz := HD.size
                obtain ⟨o0, o1⟩ := two_cells_of HD.b3
                go_wp2_with (at_builtin; refine append_one (w0 := wr) rfl _ _ 35 rfl (G + 4) 3 i0 (.int .i64 0) 8 Try.underlying35 hi hz0 hz1 hz2 rfl _ _ _ rfl hown (.int .i64 0) rfl rfl (by omega) (by decide) (Below.refl _ _) hsz ?_)
                intro v' w2 hown' hbel'
                obtain ⟨x2, c2, rfl⟩ := row_slice hown'
                have q3 := (hbel'.block (G + 1 + 1 + 1) (by omega)).trans HD.b3
                obtain ⟨f0, f1⟩ := two_cells_of q3
                have fz := fun j => frozen_of_row w2 (G + 1 + 1 + 1) j _ _ q3
                have HM : Hid (JoinAt w G #[.int .i64 p, .slice xa n ca] #[.int .i64 q, .slice xb n' cb] #[.int .i64 0, .slice none 0 0] 0 (joinP l m (k + 1)) (.slice x2 (k + 1) c2) (w2.setCell ⟨G + 1 + 1 + 1, 1, none⟩ (.slice x2 (k + 1) c2))) := by
                  show JoinAt w G #[.int .i64 p, .slice xa n ca] #[.int .i64 q, .slice xb n' cb] #[.int .i64 0, .slice none 0 0] 0 (joinP l m (k + 1)) _ _
                  rw [HP.out]
                  exact HD.more hGe hbel' (by rw [joinP_len]; exact hown')
                clear HD hown hown' hbel' q3 o0 o1 HP
                go_wp2
                go_roundw
                case rel => exact ⟨k + 1, x2, c2, by go_num, by omega, by omega, HM⟩
                case measure => simp [intOf]; omega
            · have h1 : ¬ (k : Int) < (n : Int) := by omega
              have h2 : ¬ (k : Int) < (n' : Int) := by omega
              have ek : k = max n n' := by omega
              obtain ⟨o0, o1⟩ := two_cells_of HD.b3
              obtain ⟨r0, r1⟩ := two_cells_of HD.b2
              have fz := fun j => frozen_of_row wr (G + 1 + 1) j _ _ HD.b2
              have z0 : (wr.setCell ⟨G + 1 + 1, 0, none⟩ (.int .i64 0)).heap[G + 1 + 1]? = some (.cells #[.int .i64 0, .slice none 0 0] 98) := heap_setCell_same _ _ _ _ _ _ HD.b2
              have z1 : ((wr.setCell ⟨G + 1 + 1, 0, none⟩ (.int .i64 0)).setCell ⟨G + 1 + 1, 1, none⟩ (.slice xv k cv)).heap[G + 1 + 1]? = some (.cells #[.int .i64 0, .slice xv k cv] 98) := heap_setCell_same _ _ 1 _ _ _ z0
              obtain ⟨g0, g1⟩ := two_cells_of z1
              have HE : Hid (OwnI ((wr.setCell ⟨G + 1 + 1, 0, none⟩ (.int .i64 0)).setCell ⟨G + 1 + 1, 1, none⟩ (.slice xv k cv)) w.heap.size (.slice xv k cv) J ∧ Below w.heap.size w ((wr.setCell ⟨G + 1 + 1, 0, none⟩ (.int .i64 0)).setCell ⟨G + 1 + 1, 1, none⟩ (.slice xv k cv))) := by
                have ho := HD.own
                have eJ := HJ.out
                rw [← ek] at eJ
                rw [← eJ] at ho
                exact ⟨row_low (ownsRow_setCell_below (ownsRow_setCell_below ho (a := ⟨G + 1 + 1, 0, none⟩) (by show G + 1 + 1 < G + 4; omega) _) (a := ⟨G + 1 + 1, 1, none⟩) (by show G + 1 + 1 < G + 4; omega) _) (by omega), (HD.bel.setCell (p := ⟨G + 1 + 1, 0, none⟩) (by show w.heap.size ≤ G + 1 + 1; omega) _).setCell (p := ⟨G + 1 + 1, 1, none⟩) (by show w.heap.size ≤ G + 1 + 1; omega) _⟩
              have HEG : Hid (OwnI ((wr.setCell ⟨G + 1 + 1, 0, none⟩ (.int .i64 0)).setCell ⟨G + 1 + 1, 1, none⟩ (.slice xv k cv)) G (.slice xv k cv) J ∧ Below G w ((wr.setCell ⟨G + 1 + 1, 0, none⟩ (.int .i64 0)).setCell ⟨G + 1 + 1, 1, none⟩ (.slice xv k cv))) := by
                have h := HE.out
                rw [hG] at h
                exact h
              clear HD z0 z1 ek hmo
              go_wp2
              refine bodyPost_ret (by simp [results, Try.results100, go_sem, g0, g1]; try rfl) rfl ?_
              first | exact ⟨_, rfl, HEG.out.1, HEG.out.2⟩ | exact ⟨_, rfl, HEG.out.1, HE.out.2⟩ | exact ⟨_, rfl, HE.out.1, HEG.out.2⟩
        case neg =>
          have h1 : ¬ (k : Int) < (n : Int) := by omega
          clear HA HB
          go_wp2
          go_loopw [8] (fun i wr => ∃ (k : Nat) (x : Option Addr) (c : Nat), i = .int .i64 k ∧ ¬ (k < n ∧ k < n') ∧ k ≤ max n n' ∧ Hid (JoinAt w G #[.int .i64 p, .slice xa n ca] #[.int .i64 q, .slice xb n' cb] #[.int .i64 0, .slice none 0 0] 0 (joinP l m k) (.slice x k c) wr)) (fun i _ => max n n' - (intOf i).toNat)
          case atStart => exact ⟨k, xv, cv, rfl, hlt, by omega, HR⟩
          case round =>
            clear HR a0 a1 e0 e1 o0 o1 hx h1 hlt hk hk'
            obtain ⟨k, xv, cv, rfl, hnl, hkm, HR⟩ := hrel
            have HD := HR.out
            clear HR
            obtain ⟨a0, a1⟩ := two_cells_of HD.b0
            obtain ⟨e0, e1⟩ := two_cells_of HD.b1
            by_cases hmo : k < n ∨ k < n'
            · have HP : Hid (joinP l m (k + 1) = joinP l m k ++ [0]) := by
                show joinP l m (k + 1) = _
                have hj : joinAt l m k = 0 := by
                  unfold joinAt
                  rcases Nat.lt_or_ge k n with h | h
                  · rw [List.getElem?_eq_none (l := m) (by have := HN'.out; omega)]
                    cases l[k]? <;> rfl
                  · rw [List.getElem?_eq_none (l := l) (by have := HN.out; omega)]
                rw [joinP_more, hj]
              by_cases hx : k < n
              · have h1 : (k : Int) < (n : Int) := by omega
                have hown : wr.ownsRow (G + 4) 3 1 (.slice xv k cv) k ((joinP l m k).flatMap intC) := by
                  have h := HD.own
                  unfold OwnI at h
                  rw [joinP_len] at h
                  exact h
                have hsz := HD.size
                obtain ⟨o0, o1⟩ := two_cells_of HD.b3
                go_wp2_with (at_builtin; refine append_one (w0 := wr) rfl _ _ 35 rfl (G + 4) 3 i0 (.int .i64 0) 8 Try.underlying35 hi hz0 hz1 hz2 rfl _ _ _ rfl hown (.int .i64 0) rfl rfl (by omega) (by decide) (Below.refl _ _) hsz ?_)
                intro v' w2 hown' hbel'
                obtain ⟨x2, c2, rfl⟩ := row_slice hown'
                have q3 := (hbel'.block (G + 1 + 1 + 1) (by omega)).trans HD.b3
                obtain ⟨f0, f1⟩ := two_cells_of q3
                have fz := fun j => frozen_of_row w2 (G + 1 + 1 + 1) j _ _ q3
                have HM : Hid (JoinAt w G #[.int .i64 p, .slice xa n ca] #[.int .i64 q, .slice xb n' cb] #[.int .i64 0, .slice none 0 0] 0 (joinP l m (k + 1)) (.slice x2 (k + 1) c2) (w2.setCell ⟨G + 1 + 1 + 1, 1, none⟩ (.slice x2 (k + 1) c2))) := by
                  show JoinAt w G #[.int .i64 p, .slice xa n ca] #[.int .i64 q, .slice xb n' cb] #[.int .i64 0, .slice none 0 0] 0 (joinP l m (k + 1)) _ _
                  rw [HP.out]
                  exact HD.more hGe hbel' (by rw [joinP_len]; exact hown')
                clear HD hown hown' hbel' q3 o0 o1 HP
                go_wp2
                go_roundw
                case rel => exact ⟨k + 1, x2, c2, by go_num, by omega, by omega, HM⟩
                case measure => simp [intOf]; omega
              · have h1 : decide ((k : Int) < (n : Int)) = false := decide_eq_false (by omega)
                have h2 : (k : Int) < (n' : Int) := by omega
                have hown : wr.ownsRow (G + 4) 3 1 (.slice xv k cv) k ((joinP l m k).flatMap intC) := by
                  have h := HD.own
                  unfold OwnI at h
                  rw [joinP_len] at h
                  exact h
                have hsz := HD.size
                obtain ⟨o0, o1⟩ := two_cells_of HD.b3
                go_wp2_with (at_builtin; refine append_one (w0 := wr) rfl _ _ 35 rfl (G + 4) 3 i0 (.int .i64 0) 8 Try.underlying35 hi hz0 hz1 hz2 rfl _ _ _ rfl hown (.int .i64 0) rfl rfl (by omega) (by decide) (Below.refl _ _) hsz ?_)
                intro v' w2 hown' hbel'
                obtain ⟨x2, c2, rfl⟩ := row_slice hown'
                have q3 := (hbel'.block (G + 1 + 1 + 1) (by omega)).trans HD.b3
                obtain ⟨f0, f1⟩ := two_cells_of q3
                have fz := fun j => frozen_of_row w2 (G + 1 + 1 + 1) j _ _ q3
                have HM : Hid (JoinAt w G #[.int .i64 p, .slice xa n ca] #[.int .i64 q, .slice xb n' cb] #[.int .i64 0, .slice none 0 0] 0 (joinP l m (k + 1)) (.slice x2 (k + 1) c2) (w2.setCell ⟨G + 1 + 1 + 1, 1, none⟩ (.slice x2 (k + 1) c2))) := by
                  show JoinAt w G #[.int .i64 p, .slice xa n ca] #[.int .i64 q, .slice xb n' cb] #[.int .i64 0, .slice none 0 0] 0 (joinP l m (k + 1)) _ _
                  rw [HP.out]
                  exact HD.more hGe hbel' (by rw [joinP_len]; exact hown')
                clear HD hown hown' hbel' q3 o0 o1 HP
                go_wp2
                go_roundw
                case rel => exact ⟨k + 1, x2, c2, by go_num, by omega, by omega, HM⟩
                case measure => simp [intOf]; omega
            · have h1 : ¬ (k : Int) < (n : Int) := by omega
              have h2 : ¬ (k : Int) < (n' : Int) := by omega
              have ek : k = max n n' := by omega
              obtain ⟨o0, o1⟩ := two_cells_of HD.b3
              obtain ⟨r0, r1⟩ := two_cells_of HD.b2
              have fz := fun j => frozen_of_row wr (G + 1 + 1) j _ _ HD.b2
              have z0 : (wr.setCell ⟨G + 1 + 1, 0, none⟩ (.int .i64 0)).heap[G + 1 + 1]? = some (.cells #[.int .i64 0, .slice none 0 0] 98) := heap_setCell_same _ _ _ _ _ _ HD.b2
              have z1 : ((wr.setCell ⟨G + 1 + 1, 0, none⟩ (.int .i64 0)).setCell ⟨G + 1 + 1, 1, none⟩ (.slice xv k cv)).heap[G + 1 + 1]? = some (.cells #[.int .i64 0, .slice xv k cv] 98) := heap_setCell_same _ _ 1 _ _ _ z0
              obtain ⟨g0, g1⟩ := two_cells_of z1
              have HE : Hid (OwnI ((wr.setCell ⟨G + 1 + 1, 0, none⟩ (.int .i64 0)).setCell ⟨G + 1 + 1, 1, none⟩ (.slice xv k cv)) w.heap.size (.slice xv k cv) J ∧ Below w.heap.size w ((wr.setCell ⟨G + 1 + 1, 0, none⟩ (.int .i64 0)).setCell ⟨G + 1 + 1, 1, none⟩ (.slice xv k cv))) := by
                have ho := HD.own
                have eJ := HJ.out
                rw [← ek] at eJ
                rw [← eJ] at ho
                exact ⟨row_low (ownsRow_setCell_below (ownsRow_setCell_below ho (a := ⟨G + 1 + 1, 0, none⟩) (by show G + 1 + 1 < G + 4; omega) _) (a := ⟨G + 1 + 1, 1, none⟩) (by show G + 1 + 1 < G + 4; omega) _) (by omega), (HD.bel.setCell (p := ⟨G + 1 + 1, 0, none⟩) (by show w.heap.size ≤ G + 1 + 1; omega) _).setCell (p := ⟨G + 1 + 1, 1, none⟩) (by show w.heap.size ≤ G + 1 + 1; omega) _⟩
              have HEG : Hid (OwnI ((wr.setCell ⟨G + 1 + 1, 0, none⟩ (.int .i64 0)).setCell ⟨G + 1 + 1, 1, none⟩ (.slice xv k cv)) G (.slice xv k cv) J ∧ Below G w ((wr.setCell ⟨G + 1 + 1, 0, none⟩ (.int .i64 0)).setCell ⟨G + 1 + 1, 1, none⟩ (.slice xv k cv))) := by
                have h := HE.out
                rw [hG] at h
                exact h
              clear HD z0 z1 ek hmo
              go_wp2
              refine bodyPost_ret (by simp [results, Try.results100, go_sem, g0, g1]; try rfl) rfl ?_
              first | exact ⟨_, rfl, HEG.out.1, HEG.out.2⟩ | exact ⟨_, rfl, HEG.out.1, HE.out.2⟩ | exact ⟨_, rfl, HE.out.1, HEG.out.2⟩
end Go.Proofs.Ytbgdapdenbldmaa
