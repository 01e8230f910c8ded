/-
  The walk of the program's words of figures.
-/
import Derived.Test.YtcabanghegddhaaGreatDoorIWordA
import Derived.Test.YtcabanghegddhaaGreatDoorILimbs
import Derived.Test.YtcabanghegddhaaGreatDoorRangeA
import Derived.Deep.RegionHeld
namespace Go.Proofs.YtcabanghegddhaaGreatDoor
open Go.RowKit Go.Shelf
attribute [local go_sem] Oper.semAt_some
set_option linter.unusedVariables false

theorem own_stays {W W' : World} {row : Option Nat} {B D g n c : Nat} {e : TypeId} {xs : List Value} (h : W.ownsRow B e 1 (.slice (some ⟨g, 0, none⟩) n c) n xs) (hg : W.grownBy W' row) (hr : ∀ r, row = some r → D ≤ r ∧ ∃ o : Obj, W.heap[r]? = some o ∧ o.isCells = false) : W'.ownsRow B e 1 (.slice (some ⟨g, 0, none⟩) n c) n xs := by
  refine h.kept hg (.inr fun he => ?_)
  obtain ⟨_, o, ho, hc⟩ := hr g he.symm
  rcases h.2 with ⟨h', _⟩ | ⟨g', cap', cur, h', _, h2, _⟩
  · cases h'
  · cases h'
    rw [ho] at h2
    cases h2
    cases hc
theorem box_stays {W W' : World} {row : Option Nat} {D b : Nat} {t : TypeId} {v : Value} (h : Boxed W b t v) (hg : W.grownBy W' row) (hr : ∀ r, row = some r → D ≤ r ∧ ∃ o : Obj, W.heap[r]? = some o ∧ o.isCells = false) : Boxed W' b t v := by
  refine h.kept hg fun he => ?_
  obtain ⟨_, o, ho, hc⟩ := hr b he.symm
  rw [show W.heap[b]? = _ from h] at ho
  cases ho
  cases hc
theorem own_block {W : World} {B g n c : Nat} {e : TypeId} {xs : List Value} (h : W.ownsRow B e 1 (.slice (some ⟨g, 0, none⟩) n c) n xs) : ∃ cur, W.heap[g]? = some (.cells cur e (0, 0)) := by
  rcases h.2 with ⟨h', _⟩ | ⟨g', cap', cur, h', _, h2, _⟩
  · cases h'
  · cases h'
    exact ⟨cur, h2⟩
theorem wrows_apart {W : World} {B1 B2 g1 g2 n1 n2 c1 c2 : Nat} {e1 e2 : TypeId} {xs ys : List Value} (h1 : W.ownsRow B1 e1 1 (.slice (some ⟨g1, 0, none⟩) n1 c1) n1 xs) (h2 : W.ownsRow B2 e2 1 (.slice (some ⟨g2, 0, none⟩) n2 c2) n2 ys) (he : e1 ≠ e2) : g1 ≠ g2 := by
  rintro rfl
  obtain ⟨cur, hc⟩ := own_block h1
  obtain ⟨cur', hc'⟩ := own_block h2
  rw [hc] at hc'
  cases hc'
  exact he rfl

theorem limbV_drop (xs : List Nat) (i : Nat) : limbV (xs.drop i) = xs.getD i 0 + 1000000000 * limbV (xs.drop (i + 1)) := by
  by_cases h : i < xs.length
  · rw [List.drop_eq_getElem_cons h, limbV, List.getD_eq_getElem?_getD, List.getElem?_eq_getElem h]
    rfl
  · rw [List.drop_of_length_le (by omega), List.drop_of_length_le (by omega), List.getD_eq_getElem?_getD, List.getElem?_eq_none (by omega)]
    simp [limbV]

set_option maxHeartbeats 1000000 in
theorem backLimbs (a : Option Addr) (len cap : Nat) (w : World) :
    Calls Tryz.prog 97 #[.slice a len cap] w fun e w' => e = .returned (.func (.func 120) #[] #[.pointer (some ⟨w.heap.size, 0, none⟩)]) ∧ w' = w.alloc (.cells #[.slice a len cap] 116) := by
  have hmf : ∀ (fn : Fn) (first cap : Array Value) (w : World), (Instr.makeFunc fn first cap).run Tryz.prog w = .ok (.func fn first cap) w := fun _ _ _ _ => rfl
  go_enter Tryz.func97, Tryz.ntmps97
  go_wp2
  go_ret
  exact ⟨rfl, rfl⟩

/-- words whose last one is not 0, or the one word 0 -/
def TopW (ys : List Nat) : Prop := 1 ≤ ys.length ∧ (2 ^ (64 * (ys.length - 1)) ≤ wordV ys ∨ (wordV ys = 0 ∧ ys.length = 1))

theorem topW_step {ys zs : List Nat} {b m : Nat} (h : TopW ys) (hb : 1 ≤ b) (hv : wordV zs = wordV ys * b + m) (hl : zs.length = ys.length ∨ (zs.length = ys.length + 1 ∧ 2 ^ (64 * ys.length) ≤ wordV zs)) : TopW zs := by
  obtain ⟨h1, h2⟩ := h
  refine ⟨by omega, ?_⟩
  rcases hl with hl | ⟨hl, hl2⟩
  · rcases h2 with h2 | ⟨h2, h3⟩
    · left
      rw [hl, hv]
      exact Nat.le_trans h2 (Nat.le_trans (Nat.le_mul_of_pos_right _ hb) (Nat.le_add_right _ _))
    · rcases Nat.eq_zero_or_pos (wordV zs) with h4 | h4
      · exact .inr ⟨h4, by omega⟩
      · left
        rw [hl, h3]
        exact h4
  · left
    rw [hl, Nat.add_sub_cancel]
    exact hl2

set_option maxHeartbeats 2000000 in
set_option maxRecDepth 100000 in
theorem wordsWalk (s : ByteArray) (w : World) (hs : s.size ≤ 800) (hs1 : 1 ≤ s.size) (hF : Figs s.data.toList) :
    Calls Tryz.prog 74 #[.string s] w fun e w' => ∃ (v : Value) (ys : List Nat), e = .returned v ∧ RowW w' w.heap.size v ys ∧ Below w.heap.size w w' ∧ wordV ys = digV s.data.toList ∧ WordOk ys ∧ TopW ys ∧ ys.length ≤ 91 := by
  obtain ⟨i0, hi, hz0, hz1, hz2⟩ := info_parts Tryz.infoWord
  obtain ⟨H, hH⟩ : ∃ H, w.heap.size = H := ⟨_, rfl⟩
  obtain ⟨W1, hmk, hrow1, hb1, hs1'⟩ : ∃ W1, (Instr.makeSlice 93 (.int .i64 1) (.int .i64 1)).run Tryz.prog w = .ok (.slice (some ⟨H, 0, none⟩) 1 1) W1 ∧ W1.ownsRow H 28 1 (.slice (some ⟨H, 0, none⟩) 1 1) 1 [.int .u64 0] ∧ Below H w W1 ∧ W1.heap.size = H + 1 := by
    have h := run_make (P := Tryz.prog) w 93 28 i0 (.int .u64 0) Tryz.underlying93 hi hz0 .i64 .i64 (1 : Int) (1 : Int) (by omega) (by omega) (by rw [hz2]; omega) (by omega)
    refine ⟨_, by rw [← hH]; exact h, ⟨rfl, .inr ⟨H, 1, _, rfl, Nat.le_refl _, by rw [← hH]; exact heap_alloc_new w _, Nat.le_refl _, by unfold maxLen; omega, by simp [size_madeCells, hz1], ?_⟩⟩, by rw [← hH]; exact (Below.refl _ _).alloc (Nat.le_refl _) _, by simp [hH]⟩
    rw [hz1]
    show List.take 1 (madeCells #[.int .u64 0] 1).toList = _
    rw [toList_madeCells_one]
    rfl
  obtain ⟨W0, hW0⟩ : ∃ W0, W1.alloc (.cells #[.slice (some ⟨H, 0, none⟩) 1 1] 93) = W0 := ⟨_, rfl⟩
  have bx0 : Boxed W0 (H + 1) 93 (.slice (some ⟨H, 0, none⟩) 1 1) := by rw [← hW0, ← hs1']; exact Boxed.new _ _ _
  have hrow0 : W0.ownsRow H 28 1 (.slice (some ⟨H, 0, none⟩) 1 1) 1 [.int .u64 0] := by rw [← hW0]; exact hrow1.alloc _
  have hb0 : Below H w W0 := by rw [← hW0]; exact hb1.alloc (by omega) _
  have hs0 : W0.heap.size = H + 2 := by rw [← hW0]; simp [hs1']
  have cL := limbsWalk s W0 (by omega) hF
  clear hrow1 hb1
  refine (callsIn_wide (n := 4)).1 ?_
  refine callsIn_of_wp_marks Tryz.func74 rfl trivial ?_ rfl
  simp only [Tryz.ntmps74, List.size_toArray, List.length_cons, List.length_nil, Nat.reduceAdd, Nat.reduceSub, Array.replicate_succ, Array.replicate_zero, List.push_toArray, List.append_toArray, List.nil_append, List.cons_append]
  gi_wp2_with (refine ⟨trivial, ?_⟩; gi_at_call 98; with_reducible refine (callsIn_wide.2 cL).mono ?_; rintro e w' ⟨v, xs, rfl, hrow, hbel, hval, hok, hl1, hl2⟩)
  obtain ⟨N, hN⟩ : ∃ N, xs.length = N := ⟨_, rfl⟩
  obtain ⟨gl, cl, rfl, hgl1, hgl2⟩ : ∃ gl cl, v = .slice (some ⟨gl, 0, none⟩) N cl ∧ H + 2 ≤ gl ∧ gl < w'.heap.size := by
    rcases hrow.cells with ⟨_, h⟩ | ⟨g, cap, h, h1, h2, _⟩
    · have : xs.length = 0 := by rw [h]; rfl
      omega
    · exact ⟨g, cap, by rw [← hN]; exact h, by omega, h2⟩
  refine ⟨trivial, ?_⟩
  refine (callsIn_wide.2 (backLimbs _ _ _ _)).mono ?_
  rintro e w2 ⟨rfl, rfl⟩
  have hsz := hbel.size
  rw [hs0] at hsz hbel hrow
  have hrow' : w'.ownsRow (H + 2) 3 1 (.slice (some ⟨gl, 0, none⟩) N cl) N (xs.map fun x => Value.int .i64 (x : Nat)) := by
    have := hrow
    unfold Row at this
    rw [hN] at this
    exact this
  obtain ⟨V, hV⟩ : ∃ V, w'.alloc (.cells #[.slice (some ⟨gl, 0, none⟩) N cl] 116) = V := ⟨_, rfl⟩
  obtain ⟨K, hK⟩ : ∃ K, w'.heap.size = K := ⟨_, rfl⟩
  have bl : Boxed V K 116 (.slice (some ⟨gl, 0, none⟩) N cl) := by rw [← hV, ← hK]; exact Boxed.new _ _ _
  have bx : Boxed V (H + 1) 93 (.slice (some ⟨H, 0, none⟩) 1 1) := by
    rw [← hV]
    refine Boxed.alloc ?_ _
    exact (hbel.block _ (by omega)).trans bx0
  have hrW : V.ownsRow H 28 1 (.slice (some ⟨H, 0, none⟩) 1 1) 1 [.int .u64 0] := by
    rw [← hV]
    refine World.ownsRow.alloc ?_ _
    exact own_below hrow0 (by rw [hs0]; exact hbel)
  have hrL : V.ownsRow (H + 2) 3 1 (.slice (some ⟨gl, 0, none⟩) N cl) N (xs.map fun x => Value.int .i64 (x : Nat)) := by rw [← hV]; exact hrow'.alloc _
  have hbV : Below H w V := by
    rw [← hV]
    exact (hb0.trans (hbel.mono (by omega))).alloc (by omega) _
  have hsV : V.heap.size = K + 1 := by rw [← hV]; simp [hK]
  have hlimb : Hid (∀ j, xs.getD j 0 < 1000000000) := fun j => limbsOk_at hok j
  simp only [hK, hV]
  gi_wp2
  refine rangeAll (α := Nat × Nat) rfl (by decide) (gf := 120) (lb := #[.pointer (some ⟨K, 0, none⟩)]) rfl trivial (enters_of Tryz.func120 (by kernel_rfl) rfl)
    (encs := fun x => #[.int .i64 (x.1 : Nat), .int .i64 (x.2 : Nat)]) (fun _ => rfl)
    (fun pre W => ∃ (ys : List Nat) (g c : Nat), Boxed W (H + 1) 93 (.slice (some ⟨g, 0, none⟩) ys.length c) ∧ W.ownsRow H 28 1 (.slice (some ⟨g, 0, none⟩) ys.length c) ys.length (ys.map fun x => Value.int .u64 (x : Nat)) ∧ W.ownsRow (H + 2) 3 1 (.slice (some ⟨gl, 0, none⟩) N cl) N (xs.map fun x => Value.int .i64 (x : Nat)) ∧ Boxed W K 116 (.slice (some ⟨gl, 0, none⟩) N cl) ∧ Below H w W ∧ K + 1 ≤ W.heap.size ∧ pre.length ≤ N ∧ ys.length ≤ 1 + pre.length ∧ WordOk ys ∧ TopW ys ∧ wordV ys = limbV (xs.drop (N - pre.length)))
    (fun pre x => pre.length < N ∧ x.1 = N - 1 - pre.length ∧ x.2 = xs.getD (N - 1 - pre.length) 0)
    (fun ys => ys.length = N)
    ?own ?start
    (fun x => { tmps := #[.string s, undef, .slice none 0 0, .pointer (some ⟨H + 1, 0, none⟩), undef, .int .i64 (x.2 : Nat), .slice (some ⟨H, 0, none⟩) 1 1, .string s, .slice (some ⟨gl, 0, none⟩) N cl, .func (.func 120) #[] #[.pointer (some ⟨K, 0, none⟩)], .int .i64 (x.1 : Nat), .int .i64 (x.2 : Nat), undef, undef, undef, undef, undef], defers := [] })
    ?assign ?body ?seq ?done
  case start =>
    refine ⟨[0], H, 1, bx, hrW, hrL, bl, hbV, by omega, by simp, by simp, fun x hx => by simp at hx; subst hx; decide, ⟨by simp, .inr ⟨rfl, rfl⟩⟩, ?_⟩
    rw [List.length_nil, Nat.sub_zero, List.drop_of_length_le (by omega)]
    rfl
  case own =>
    rintro pre X Y row ⟨ys, g, c, k1, k2, k3, k4, k5, k6, k7, k8, k9, k10, k11⟩ hgr hr
    exact ⟨ys, g, c, box_stays k1 hgr hr, own_stays k2 hgr hr, own_stays k3 hgr hr, box_stays k4 hgr hr, k5.grown hgr (by omega) (fun k e => by have := (hr k e).1; omega), by have := hgr.size; omega, k7, k8, k9, k10, k11⟩
  case assign =>
    intro l x W K hK
    gi_wp2
    exact hK
  case body =>
    rintro l pre ⟨p, x⟩ W ⟨ys, g, c, k1, k2, k3, k4, k5, k6, k7, k8, k9, k10, k11⟩ ⟨hl1, hx1, hx2⟩
    dsimp only at hx1 hx2
    have hx3 : x < 1000000000 := by rw [hx2]; exact hlimb.out _
    have hx4 : (x : Int) < 1000000000 := by omega
    have hgl := wrows_apart k2 k3 (by decide)
    have hg1 := World.ownsRow.lt k2 g rfl
    have hgx : some (H + 1) ≠ (some g : Option Nat) := Boxed.not_row k1 (by decide) k2
    have hgk : some K ≠ (some g : Option Nat) := Boxed.not_row k4 (by decide) k2
    have cT := wtimesWalk g c 1000000000 x H ys W k2 k9 (by omega) (by decide) (by omega) (by omega)
    have z0 : ((1000000000 : Nat) : Int) = 1000000000 := rfl
    rw [z0] at cT
    have c0 := k1.cell
    have f0 := k1.frozen
    have HX : Hid (Unit → p = N - 1 - pre.length ∧ x = xs.getD (N - 1 - pre.length) 0) := fun _ => ⟨hx1, hx2⟩
    have HK : Hid (Unit → W.ownsRow H 28 1 (.slice (some ⟨g, 0, none⟩) ys.length c) ys.length (ys.map fun x => Value.int .u64 (x : Nat)) ∧ TopW ys ∧ wordV ys = limbV (xs.drop (N - pre.length))) := fun _ => ⟨k2, k10, k11⟩
    clear hx1 hx2 hx3 k2 k9 k10 k11 hs hs1 hF hok hl2 hrow hrow' hval bx0 hrow0
    gi_wp2_with fail
    refine ⟨trivial, ?_⟩
    with_reducible refine (CallsIn.inRound l (callsIn_wide.2 cT)).mono ?_
    rintro e w3 ⟨v3, zs, rfl, hrow3, hgr3, hval3, hok3, hlen3⟩
    have hzl : zs.length ≤ ys.length + 1 := by omega
    have hz1 : zs.length ≠ 0 := by have := (HK.out ()).2.1.1; omega
    have HV : Hid (Unit → TopW zs ∧ wordV zs = limbV (xs.drop (N - (pre.length + 1))) ∧ WordOk zs) := fun _ => by
      refine ⟨topW_step (HK.out ()).2.1 (by decide) hval3 hlen3, ?_, hok3⟩
      rw [hval3, (HK.out ()).2.2, limbV_drop xs (N - (pre.length + 1)), (by omega : N - (pre.length + 1) + 1 = N - pre.length), (HX.out ()).2, (by omega : N - 1 - pre.length = N - (pre.length + 1)), Nat.mul_comm, Nat.add_comm]
    clear hval3 hok3 hlen3 cT
    obtain ⟨g3, c3, rfl, hg3, _⟩ := hrow3.nonempty hz1
    have hrow4 : w3.ownsRow H 28 1 (.slice (some ⟨g3, 0, none⟩) zs.length c3) zs.length (zs.map fun x => Value.int .u64 (x : Nat)) := hrow3
    have kx : Boxed w3 (H + 1) 93 (.slice (some ⟨g, 0, none⟩) ys.length c) := k1.kept hgr3 hgx
    have kl : Boxed w3 K 116 (.slice (some ⟨gl, 0, none⟩) N cl) := k4.kept hgr3 hgk
    have kr := k3.kept hgr3 (.inr (by intro e; injection e with e; exact hgl e.symm))
    have kk : KeepsOthers W w3 := KeepsOthers.of_grownBy hgr3 (fun j o e ho => by
      cases e
      obtain ⟨cur, hc⟩ := own_block (HK.out ()).1
      rw [hc] at ho
      cases ho
      rfl)
    have c0 := kx.cell
    have f0 := kx.frozen
    have hsz3 := hgr3.size
    have hbl3 : Below H w w3 := below_of_grown k5 hgr3 (by omega) hg1.1
    have hx5 : some (H + 1) ≠ (some g3 : Option Nat) := Boxed.not_row kx (by decide) hrow4
    have hgs := grownBy_setCell' w3 (H + 1) (.slice (some ⟨g3, 0, none⟩) zs.length c3)
    gi_wp2
    have hKn : K ≠ H + 1 := by omega
    refine ⟨(kk.trans (KeepsOthers.setCell _ _ _)).from _, zs, g3, c3, Boxed.set _ kx, hrow4.kept hgs (.inr fun e => hx5 (by rw [← e]; rfl)), kr.kept hgs (.inr fun e => absurd (Option.some.inj (show (some gl : Option Nat) = some (H + 1) from e)) (by omega)), kl.other hKn _, hbl3.setCell (p := ⟨H + 1, 0, none⟩) (by show H ≤ H + 1; omega) _, ?_, by simp; omega, by simp; omega, (HV.out ()).2.2, (HV.out ()).1, ?_⟩
    · have := hgs.size
      omega
    · rw [List.length_append, List.length_singleton]
      exact (HV.out ()).2.1
  case seq =>
    intro l J W hJI hst hY h0
    refine callsIn_of_wp Tryz.func120 rfl trivial ?_ rfl
    simp only [Tryz.ntmps120, List.size_toArray, List.length_cons, List.length_nil, Nat.reduceAdd, Nat.reduceSub, Array.replicate_succ, Array.replicate_zero, List.push_toArray, List.append_toArray, List.nil_append, List.cons_append]
    have HJ : Hid (∀ pre W, J pre W → W.ownsRow (H + 2) 3 1 (.slice (some ⟨gl, 0, none⟩) N cl) N (xs.map fun x => Value.int .i64 (x : Nat)) ∧ Boxed W K 116 (.slice (some ⟨gl, 0, none⟩) N cl)) := fun pre W h => by
      obtain ⟨ys, g, c, k1, k2, k3, k4, _⟩ := hJI pre W h
      exact ⟨k3, k4⟩
    have hb3 : W.cell? ⟨K, 0, none⟩ = some (.slice (some ⟨gl, 0, none⟩) N cl) := (HJ.out _ _ h0).2.cell
    have la' : (N : Int) ≤ 1000 := by omega
    have HN : Hid (Unit → xs.length = N) := fun _ => hN
    clear hJI hst bl bx hrW hrL hbV hsV hlimb bx0 hrow0 hrow hrow' hbel hok hval hs hs1 hF hl1 hl2 hN
    gi_wp2
    gi_loopw [3] (fun i wr => ∃ pre : List (Nat × Nat), i = .int .i64 ((N : Int) - 1 - pre.length) ∧ (pre.length : Int) ≤ N ∧ J pre wr) (fun i _ => (intOf i + 1).toNat)
    case atStart => exact ⟨[], by simp, by simp, h0⟩
    case round =>
      obtain ⟨pre, rfl, hpl, hJp⟩ := hrel
      obtain ⟨k1, k5⟩ := HJ.out pre wr hJp
      have hb3' : wr.cell? ⟨K, 0, none⟩ = some (.slice (some ⟨gl, 0, none⟩) N cl) := k5.cell
      by_cases hlt : (pre.length : Int) < N
      · obtain ⟨p, hp⟩ : ∃ p : Nat, N - 1 - pre.length = p := ⟨_, rfl⟩
        have hp' : (N : Int) - 1 - pre.length = p := by omega
        obtain ⟨x, hx⟩ : ∃ x, xs.getD p 0 = x := ⟨_, rfl⟩
        have hcell : wr.cell? ⟨gl, p, none⟩ = some (.int .i64 (x : Int)) := by
          have hzl : xs.length = N := HN.out ()
          rw [World.ownsRow.cellAt k1 p (by omega), List.getElem?_map, List.getElem?_eq_getElem (by omega), ← hx, List.getD_eq_getElem?_getD, List.getElem?_eq_getElem (by omega)]
          rfl
        have hpL : (p : Int) < N := by omega
        obtain ⟨fn, tmps, assign, body, hy, hR⟩ := hY pre (p, x) wr hJp ⟨by omega, hp.symm, by rw [hp]; exact hx.symm⟩
        dsimp only at hy
        have HP : Hid (Unit → N - 1 - pre.length = p) := fun _ => hp
        clear hY k1 k5 hx hb3 h0 hp
        gi_wp2
        refine hR.mono ?_
        rintro e W3 ⟨rfl, hJ3⟩
        gi_wp2
        go_roundw
        case rel => exact ⟨pre ++ [(p, x)], by go_num, by simp; omega, hJ3⟩
        case measure => simp [intOf]; omega
      · have hpe : (N : Int) - 1 - pre.length = -1 := by omega
        clear hY k1 k5 hb3 h0
        gi_wp2
        go_end0
        exact ⟨⟨_, rfl⟩, pre, by omega, hJp⟩
  case done =>
    rintro D pre W hD hlen ⟨ys, g, c, k1, k2, k3, k4, k5, k6, k7, k8, k9, k10, k11⟩ hKD
    have hc := k1.cell
    rw [hlen, Nat.sub_self, List.drop_zero] at k11
    have HV : Hid (Unit → TopW ys ∧ wordV ys = limbV xs ∧ WordOk ys ∧ limbV xs = digV s.data.toList) := fun _ => ⟨k10, k11, k9, hval⟩
    have HL : Hid (Unit → ys.length ≤ 91) := fun _ => by omega
    clear k9 k10 k11 hval hlimb bx0 hrow0 hrow hrow' hbel hok hs hs1 hF hl1 hl2 hN
    gi_wp2
    refine ⟨by simp, .inl ⟨_, _, rfl, run_takeDeferred hKD, ?_⟩⟩
    obtain ⟨v1, v2, v3, v4⟩ := HV.out ()
    refine ⟨_, results_tmp rfl _ _ _, _, ys, rfl, ?_, ?_, v2.trans v4, v3, v1, HL.out ()⟩
    · rw [hH]
      exact own_stays (D := 0) k2 (grownBy_putObj' _ _ _) (fun q e => by cases e; exact ⟨Nat.zero_le _, _, hKD, rfl⟩)
    · rw [hH]
      exact k5.trans (belowK_b (w := w) (by omega) W D _ _ (by omega) hKD rfl rfl)

end Go.Proofs.YtcabanghegddhaaGreatDoor
