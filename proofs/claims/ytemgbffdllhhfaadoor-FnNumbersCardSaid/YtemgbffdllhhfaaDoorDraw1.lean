/-
  The draws of chapter 1: that they return, and of what kind.
-/
import Derived.Test.YtemgbffdllhhfaaDoorCur
import Derived.Test.YtemgbffdllhhfaaDoorInfo
import Derived.OpenShut
namespace Go.Proofs.YtemgbffdllhhfaaDoor
open Go.RowKit
set_option linter.unusedVariables false

set_option maxHeartbeats 400000 in
set_option maxRecDepth 100000 in
theorem l01PickInt_any (ac : Option Addr) (len cap g gl c : Nat) (zs : List Int) (w : World) (hC : Cur ac len cap w g) (hgl : gl ≠ g) (h0 : 0 < zs.length) (hn : zs.length ≤ 1000) (hz : ∀ j, j < zs.length → w.cell? ⟨gl, j, none⟩ = some (.int .i64 (zs.getD j 0))) :
    Calls Tryd.prog 23 #[.pointer (some ⟨g, 0, none⟩), .slice (some ⟨gl, 0, none⟩) zs.length c] w fun e w' => ∃ z, z ∈ zs ∧ e = .returned (.int .i64 z) ∧ Cur ac len cap w' g ∧ w.grownBy w' (some g) := by
  go_enter Tryd.func23, Tryd.ntmps23
  go_wp2_with fail
  refine (l01Below_nat ac len cap g zs.length _ hC h0 (by omega)).mono ?_
  rintro e w1 ⟨x, hx, rfl, hC1, gr1⟩
  have hc : w1.cell? ⟨gl, x, none⟩ = some (.int .i64 (zs.getD x 0)) := gr1.cell (hz x hx) (by simpa using hgl)
  have hxi : (x : Int) < (zs.length : Int) := by omega
  have hx0 : (0 : Int) ≤ (x : Int) := by omega
  clear hz
  go_wp2
  go_ret
  exact ⟨zs[x], List.getElem_mem hx, rfl, hC1, gr1⟩

theorem cur_alloc {ac : Option Addr} {len cap g : Nat} {w : World} (h : Cur ac len cap w g) (o : Obj) : Cur ac len cap (w.alloc o) g := by
  obtain ⟨h1, h2, i, hh, h3, h4⟩ := h
  exact ⟨codeIn_kept h1 (World.grownBy_alloc _ _ _), by simp; omega, i, hh, h3, by rw [Below.heap_alloc w o g h2]; exact h4⟩

theorem gr_below {w w1 w2 : World} {row : Option Nat} (gr : w.grownBy w1 row) (b : Below w.heap.size w1 w2) : w.grownBy w2 row :=
  ⟨b.os.trans gr.os, b.tape.trans gr.tape, b.output.trans gr.output, Nat.le_trans gr.size b.size, fun k hk hr => (b.block k hk).trans (gr.block k hk hr)⟩
theorem cur_below {ac : Option Addr} {len cap g : Nat} {w w1 w2 : World} (h : Cur ac len cap w g) (h1 : Cur ac len cap w1 g) (b : Below w.heap.size w1 w2) : Cur ac len cap w2 g := by
  obtain ⟨⟨hc1, hc2⟩, hlt, _⟩ := h
  obtain ⟨⟨hd1, hd2⟩, hlt1, i, hh, h3, h4⟩ := h1
  refine ⟨⟨hd1, fun hp => ?_⟩, Nat.lt_of_lt_of_le hlt1 b.size, i, hh, h3, by rw [b.block g hlt]; exact h4⟩
  obtain ⟨x, off, e, hx, hxl, _⟩ := hc2 hp
  obtain ⟨y, off', e', hy, hyl, hc⟩ := hd2 hp
  rw [e] at e'
  injection e' with e1
  injection e1 with e2 e3
  subst e2
  subst e3
  exact ⟨x, off, e, hx, Nat.lt_of_lt_of_le hyl b.size, fun j hj => by obtain ⟨z, hz, hcz⟩ := hc j hj; exact ⟨z, hz, (b.cell hxl).trans hcz⟩⟩

theorem l01PickInt_new (ac : Option Addr) (len cap g n : Nat) (zs : List Int) (t : TypeId) (w : World) (hC : Cur ac len cap w g) (hl : zs.length = n) (h0 : 0 < n) (hn : n ≤ 1000) :
    Calls Tryd.prog 23 #[.pointer (some ⟨g, 0, none⟩), .slice (some ⟨w.heap.size, 0, none⟩) n n] (w.alloc (.cells (zs.map (Value.int .i64)).toArray t)) fun e w' => ∃ z, z ∈ zs ∧ e = .returned (.int .i64 z) ∧ Cur ac len cap w' g ∧ w.grownBy w' (some g) := by
  subst hl
  have hg := hC.2.1
  refine (l01PickInt_any ac len cap g w.heap.size _ zs _ (cur_alloc hC _) (by omega) h0 hn (fun j hj => ?_)).mono fun e w' ⟨z, hz, he, hc, gr⟩ => ⟨z, hz, he, hc, (World.grownBy_alloc _ _ _).trans gr⟩
  have h := heap_alloc_new w (.cells (zs.map (Value.int .i64)).toArray t)
  unfold World.cell?
  simp only [h]
  simp [List.getElem?_eq_getElem hj]

def drawnNumbers : List Int := [-1, 0, 127, 128, 16383, 16384, 1000000000, 1000000001, 9223372036854775807, -9223372036854775808]

set_option maxHeartbeats 1000000 in
set_option maxRecDepth 100000 in
theorem l01Number_any (ac : Option Addr) (len cap g : Nat) (w : World) (hC : Cur ac len cap w g) :
    Calls Tryd.prog 15 #[.pointer (some ⟨g, 0, none⟩)] w fun e w' => ∃ z : Int, e = .returned (.int .i64 z) ∧ Cur ac len cap w' g ∧ w.grownBy w' (some g) := by
  go_enter Tryd.func15, Tryd.ntmps15
  go_wp2_with fail
  refine (l01Below_nat ac len cap g 4 _ hC (by omega) (by omega)).mono ?_
  rintro e w1 ⟨x, hx, rfl, hC1, gr1⟩
  by_cases h0 : x = 0
  · subst h0
    go_wp2_with fail
    refine (l01PickInt_new ac len cap g 10 drawnNumbers _ w1 hC1 rfl (by omega) (by omega)).mono ?_
    rintro e w2 ⟨z, hz, rfl, hC2, gr2⟩
    go_wp2
    go_ret
    exact ⟨z, rfl, hC2, gr1.trans gr2⟩
  · have e0 : ((x : Int) == 0) = false := by rw [beq_eq_false_iff_ne]; omega
    by_cases h1 : x = 1
    · subst h1
      go_wp2_with fail
      refine (l01Below_nat ac len cap g 1000000000 _ hC1 (by omega) (by omega)).mono ?_
      rintro e w2 ⟨y, hy, rfl, hC2, gr2⟩
      go_wp2
      go_ret
      exact ⟨_, rfl, hC2, gr1.trans gr2⟩
    · have e1 : ((x : Int) == 1) = false := by rw [beq_eq_false_iff_ne]; omega
      go_wp2_with fail
      refine (l01Below_nat ac len cap g 400 _ hC1 (by omega) (by omega)).mono ?_
      rintro e w2 ⟨y, hy, rfl, hC2, gr2⟩
      go_wp2
      go_ret
      exact ⟨_, rfl, hC2, gr1.trans gr2⟩

set_option maxHeartbeats 400000 in
set_option maxRecDepth 100000 in
theorem drawVarText_any (ac : Option Addr) (len cap : Nat) (w : World) (hc : CodeIn w ac len w.heap.size) :
    Calls Tryd.prog 5 #[.slice ac len cap] w fun e w' => ∃ z : Int, e = .returned (.int .i64 z) ∧ Below w.heap.size w w' := by
  go_enter Tryd.func5, Tryd.ntmps5
  go_wp2_with fail
  refine (l01New_any ac len cap w hc).mono ?_
  rintro e w1 ⟨g, rfl, hg, hC1, b1⟩
  go_wp2_with fail
  refine (l01Number_any ac len cap g w1 hC1).mono ?_
  rintro e w2 ⟨z, rfl, hC2, gr2⟩
  go_wp2
  go_ret
  exact ⟨z, rfl, b1.grown gr2 b1.size (fun k hk => by injection hk with hk; omega)⟩

set_option maxHeartbeats 1000000 in
set_option maxRecDepth 100000 in
theorem l01Text_any (ac : Option Addr) (len cap g n : Nat) (w : World) (hC : Cur ac len cap w g) (hn : n ≤ 5000) :
    Calls Tryd.prog 21 #[.pointer (some ⟨g, 0, none⟩), .int .i64 n] w fun e w' => ∃ s : ByteArray, s.size = n ∧ e = .returned (.string s) ∧ Cur ac len cap w' g ∧ w.grownBy w' (some g) := by
  obtain ⟨i0, hi, hz0, hz1, hz2⟩ := info_parts Tryd.infoByte
  have hg := hC.2.1
  go_enter Tryd.func21, Tryd.ntmps21
  go_wp2
  go_loopw [5, 6] (fun v x wr => ∃ (k : Nat) (xs : List Int), k ≤ n ∧ x = .int .i64 k ∧ xs.length = k ∧ wr.ownsRow w.heap.size 5 1 v k (xs.map (Value.int .u8)) ∧ Cur ac len cap wr g ∧ w.grownBy wr (some g)) (fun _ x _ => n - (intOf x).toNat)
  case atStart => exact ⟨0, [], Nat.zero_le _, rfl, rfl, World.ownsRow_made w #[] 0 (Nat.le_refl _) (Nat.zero_le _) rfl, cur_alloc hC _, World.grownBy_alloc _ _ _⟩
  case round =>
    obtain ⟨k, xs, hk, rfl, hxs, hown, hCr, gr⟩ := hrel
    have hsz := gr.size
    by_cases hlt : k < n
    · go_wp2_with fail
      refine (l01Byte_any ac len cap g wr hCr).mono ?_
      rintro e w1 ⟨x, hx, rfl, hC1, gr1⟩
      have hown1 : w1.ownsRow w.heap.size 5 1 _ k (xs.map (Value.int .u8)) := hown.kept gr1 (by
        cases hv : Value.ownBlock _ with
        | none => exact .inl rfl
        | some q => exact .inr (by have := (hown.lt q hv).1; simp; omega))
      have hsz1 := gr1.size
      go_wp2_with (at_builtin; refine append_one (w0 := w1) rfl _ _ 22 rfl w.heap.size 5 i0 (.int .u8 0) 1 Tryd.underlying22 hi hz0 hz1 hz2 rfl _ _ _ rfl hown1 (.int .u8 (x : Int)) rfl rfl (by omega) (by decide) (Below.refl _ _) (by omega) ?_)
      intro v' w2 hown' hbel'
      have hC2 := cur_below hC hC1 hbel'
      have gr2 := gr_below (gr.trans gr1) hbel'
      have hrow : w2.ownsRow w.heap.size 5 1 v' (k + 1) ((xs ++ [(x : Int)]).map (Value.int .u8)) := by simpa using hown'
      clear hown' hown hown1 gr gr1 hC hCr
      go_wp2
      go_roundw
      case rel => exact ⟨k + 1, xs ++ [(x : Int)], by omega, by go_num, by simp [hxs], hrow, hC2, gr2⟩
      case measure => simp [intOf]; omega
    · obtain rfl : k = n := by omega
      have hcv := conv_own (P := Tryd.prog) xs Tryd.underlying22 Tryd.underlying5 Tryd.underlying9 hown
      go_wp2
      go_ret
      exact ⟨strOfNums xs, by rw [strOfNums_size]; exact hxs, rfl, hCr, gr⟩

theorem own_thawed {w : World} {B : Nat} {e : TypeId} {g n c : Nat} {xs : List Value} (h : w.ownsRow B e 1 (.slice (some ⟨g, 0, none⟩) n c) n xs) (j : Nat) : w.frozen? ⟨g, j, none⟩ = false := by
  rcases h.2 with ⟨h', _⟩ | ⟨g', cap', cur, h', hb, hg, _⟩
  · simp at h'
  · simp only [Value.slice.injEq, Option.some.injEq, Addr.mk.injEq, and_true, true_and] at h'
    obtain ⟨rfl, rfl⟩ := h'
    unfold World.frozen?
    simp only [hg]
    simp

set_option maxHeartbeats 1000000 in
set_option maxRecDepth 100000 in
theorem l01Long_any (n : Nat) (y : Int) (w : World) (hn : n ≤ 1000000) :
    Calls Tryd.prog 19 #[.int .i64 n, .int .u8 y] w fun e w' => ∃ s : ByteArray, s.size = n ∧ e = .returned (.string s) ∧ Below w.heap.size w w' := by
  obtain ⟨i0, hi, hz0, hz1, hz2⟩ := info_parts Tryd.infoByte
  have hmk := fun W : World => run_make (P := Tryd.prog) W 22 5 i0 (.int .u8 0) Tryd.underlying22 hi hz0 .i64 .i64 (n : Int) (n : Int) (by omega) (by omega) (by rw [hz2]; omega) (by omega)
  go_enter Tryd.func19, Tryd.ntmps19
  go_wp2
  clear hmk
  go_loopw [6] (fun x wr => ∃ (k : Nat) (zs : List Int), k ≤ n ∧ x = .int .i64 k ∧ zs.length = n ∧ wr.ownsRow w.heap.size 5 1 (.slice (some ⟨w.heap.size, 0, none⟩) n n) n (zs.map (Value.int .u8)) ∧ Below w.heap.size w wr) (fun x _ => n - (intOf x).toNat)
  case atStart =>
    refine ⟨0, List.replicate n 0, Nat.zero_le _, rfl, by simp, ⟨by simp, .inr ⟨w.heap.size, n, _, rfl, Nat.le_refl _, heap_alloc_new w _, Nat.le_refl _, by unfold maxLen; omega, by simp [size_madeCells], ?_⟩⟩, (Below.refl _ _).alloc (Nat.le_refl _) _⟩
    rw [toList_madeCells_one, Nat.mul_one, List.map_replicate, List.take_of_length_le (by simp)]
  case round =>
    obtain ⟨k, zs, hk, rfl, hzl, hown, hbel⟩ := hrel
    by_cases hlt : k < n
    · have hki : (k : Int) < (n : Int) := by omega
      have hk0 : (0 : Int) ≤ (k : Int) := by omega
      have hc1 : wr.cell? ⟨w.heap.size, k, none⟩ = some (.int .u8 (zs[k]'(by omega))) := by
        have h := hown.cells (g := w.heap.size) rfl k (.int .u8 (zs[k]'(by omega))) (by rw [List.getElem?_map, List.getElem?_eq_getElem (by omega)]; rfl)
        have hp : (⟨w.heap.size, 0, none⟩ : Addr).add k = ⟨w.heap.size, k, none⟩ := by unfold Addr.add; split <;> simp_all
        rw [← hp]; exact h
      have hf1 : wr.frozen? ⟨w.heap.size, k, none⟩ = false := own_thawed hown k
      have st := hown.stored k (.int .u8 y)
      have HS : Hid _ := st
      clear st
      go_wp2
      go_roundw
      case rel => exact ⟨k + 1, zs.set k y, by omega, by go_num, by simpa using hzl, by rw [List.map_set]; exact HS.out.1, hbel.setCell (Nat.le_refl _) _⟩
      case measure => simp [intOf]; omega
    · obtain rfl : k = n := by omega
      have hcv := conv_own (P := Tryd.prog) zs Tryd.underlying22 Tryd.underlying5 Tryd.underlying9 hown
      go_wp2
      go_ret
      exact ⟨strOfNums zs, by rw [strOfNums_size]; exact hzl, rfl, hbel⟩

theorem l01Long_at {x : Int} (n : Nat) (hx : x = n) (y : Int) (w : World) (hn : n ≤ 1000000) :
    Calls Tryd.prog 19 #[.int .i64 x, .int .u8 y] w fun e w' => ∃ s : ByteArray, s.size = n ∧ e = .returned (.string s) ∧ Below w.heap.size w w' := by
  subst hx; exact l01Long_any n y w hn

set_option maxHeartbeats 400000 in
set_option maxRecDepth 100000 in
theorem drawHex_any (ac : Option Addr) (len cap : Nat) (w : World) (hc : CodeIn w ac len w.heap.size) :
    Calls Tryd.prog 10 #[.slice ac len cap] w fun e w' => ∃ s : ByteArray, s.size ≤ 12001 ∧ e = .returned (.string s) ∧ Below w.heap.size w w' := by
  go_enter Tryd.func10, Tryd.ntmps10
  go_wp2_with fail
  refine (l01New_any ac len cap w hc).mono ?_
  rintro e w1 ⟨g, rfl, hg, hC1, b1⟩
  have hgk : ∀ k, some g = some k → w.heap.size ≤ k := fun k hk => by injection hk with hk; omega
  have hs1 := b1.size
  go_wp2_with fail
  refine (l01Once_any ac len cap g 60 w1 hC1 (by omega) (by omega)).mono ?_
  rintro e w2 ⟨b, rfl, hC2, gr2⟩
  have b2 := b1.grown gr2 b1.size hgk
  have hs2 := b2.size
  cases b with
  | true =>
    go_wp2_with fail
    refine (l01Below_nat ac len cap g 2 w2 hC2 (by omega) (by omega)).mono ?_
    rintro e w3 ⟨x, hx, rfl, hC3, gr3⟩
    have b3 := b2.grown gr3 b2.size hgk
    go_wp2_with fail
    refine (l01Long_at (12000 + x) (by omega) _ w3 (by omega)).mono ?_
    rintro e w4 ⟨s, hs, rfl, b4⟩
    go_wp2
    go_ret
    exact ⟨s, by omega, rfl, b3.trans (b4.mono b3.size)⟩
  | false =>
    go_wp2_with fail
    refine (l01Below_nat ac len cap g 30 w2 hC2 (by omega) (by omega)).mono ?_
    rintro e w3 ⟨x, hx, rfl, hC3, gr3⟩
    have b3 := b2.grown gr3 b2.size hgk
    go_wp2_with fail
    refine (l01Text_any ac len cap g x w3 hC3 (by omega)).mono ?_
    rintro e w4 ⟨s, hs, rfl, hC4, gr4⟩
    go_wp2
    go_ret
    exact ⟨s, by omega, rfl, b3.grown gr4 b3.size hgk⟩

theorem codeIn_of {w : World} {a : Option Addr} {len cap : Nat} {zs : List Int} (h : (a = none ∧ len = 0 ∧ cap = 0 ∧ zs = []) ∨ ∃ x, a = some x ∧ len ≤ cap ∧ cap ≤ maxLen ∧ zs.length = cap ∧ (∀ i, i < zs.length → w.cell? (x.add i) = some (.int .u8 (zs.getD i 0))) ∧ ∀ n ∈ zs, (Lit.int .u8 n).wf = true) (hl : len ≤ 1048576) : CodeIn w a len w.heap.size := by
  refine ⟨hl, fun hp => ?_⟩
  rcases h with ⟨_, h0, _⟩ | ⟨⟨b, off, spot⟩, rfl, hlc, _, hz, hc, hw⟩
  · omega
  · have h0 := hc 0 (by omega)
    have hs : spot = none := by simpa [Addr.add] using World.cell?_spot h0
    subst hs
    have hp0 : ∀ j, (⟨b, off, none⟩ : Addr).add j = ⟨b, off + j, none⟩ := fun j => by unfold Addr.add; split <;> simp_all
    have hlt : b < w.heap.size := by
      have := World.block_lt_of_cell? w _ h0
      rw [hp0] at this
      exact this
    refine ⟨b, off, rfl, by omega, hlt, fun j hj => ?_⟩
    have hj2 : j < zs.length := by omega
    have hcj := hc j hj2
    rw [hp0, List.getD_eq_getElem?_getD, List.getElem?_eq_getElem hj2] at hcj
    have hwj := hw _ (List.getElem_mem hj2)
    have hb : 0 ≤ zs[j] ∧ zs[j] ≤ 255 := bounds_u8 hwj
    refine ⟨zs[j].toNat, by omega, ?_⟩
    rw [hcj]
    simp only [Option.getD_some]
    congr 2
    omega
theorem codeIn_later {w w' : World} {ac : Option Addr} {len g : Nat} (h : CodeIn w ac len g) (b : Below w.heap.size w w') : CodeIn w' ac len w'.heap.size := by
  refine ⟨h.1, fun hp => ?_⟩
  obtain ⟨x, off, e, _, hlt, hc⟩ := h.2 hp
  have hs := b.size
  exact ⟨x, off, e, by omega, by omega, fun j hj => by obtain ⟨z, hz, hcz⟩ := hc j hj; exact ⟨z, hz, (b.cell hlt).trans hcz⟩⟩

set_option maxHeartbeats 400000 in
set_option maxRecDepth 100000 in
theorem big_any (ac : Option Addr) (len cap : Nat) (w : World) (hl : len ≤ 9223372036854775807) :
    Calls Tryd.prog 4 #[.slice ac len cap] w fun e w' => e = .returned (.bool (decide (1048576 < (len : Int)))) ∧ w = w' := by
  go_enter Tryd.func4, Tryd.ntmps4
  go_wp2
  go_ret
  exact ⟨rfl, rfl⟩

end Go.Proofs.YtemgbffdllhhfaaDoor
