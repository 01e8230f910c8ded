/-
  Part 4 of what is proved of drawn right trees.
-/
import Derived.Test.YtcdbifcidaafnaaGreatDoorPab
import Derived.Test.YtcdbifcidaafnaaGreatDoorPac

namespace Go.Proofs.YtcdbifcidaafnaaGreatDoor
open Go.RowKit Go.Sort
set_option linter.unusedVariables false
set_option linter.unusedSimpArgs false
def valL (p : PVal) : Prop := valW p ∧ p.text.size ≤ 1000
theorem valL_zero : valL ⟨0, 0, ⟨#[]⟩, 0⟩ := by
  refine ⟨⟨?_, ?_, ?_, ?_⟩, ?_⟩
  · show I64 0; unfold I64; omega
  · show N64 0; unfold N64; omega
  · show (0 : Nat) ≤ maxLen; exact Nat.zero_le _
  · show I64 0; unfold I64; omega
  · show (0 : Nat) ≤ 1000; omega
structure BXS (ac : Option Addr) (len cap g : Nat) (S : List Nat) (w wr : World) : Prop where
  box : ∀ C, C ∈ S → w.heap.size ≤ C ∧ ∃ p : PVal, wr.heap[C]? = some (.cells #[.int .i64 p.kind, .int .u64 (p.num : Int), .string p.text, .int .i64 p.ref] 26 (0, 0)) ∧ valL p
  cur0 : Cur ac len cap w g
  cur : Cur ac len cap wr g
  gr : w.grownBy wr (some g)
variable {ac : Option Addr} {len cap g : Nat} {S : List Nat} {w wr wr' : World}
theorem box_in {w : World} {k : Nat} {o : Obj} (h : w.heap[k]? = some o) : k < w.heap.size := (Array.getElem?_eq_some_iff.1 h).1
theorem BXS.grown (h : BXS ac len cap g S w wr) (hc : Cur ac len cap wr' g) (hg : wr.grownBy wr' (some g)) : BXS ac len cap g S w wr' := by
  have hl := h.cur0.2.1
  refine ⟨fun C hC => ?_, h.cur0, hc, h.gr.trans hg⟩
  obtain ⟨h1, p, h2, h3⟩ := h.box C hC
  exact ⟨h1, p, (hg.block C (box_in h2) (fun e => by have := Option.some.inj e; omega)).trans h2, h3⟩
theorem BXS.below (h : BXS ac len cap g S w wr) (hb : Below wr.heap.size wr wr') : BXS ac len cap g S w wr' :=
  h.grown (cur_below h.cur h.cur hb) ⟨hb.os, hb.tape, hb.output, hb.size, fun k hk _ => hb.block k hk⟩
theorem BXS.start (hC : Cur ac len cap w g) : BXS ac len cap g [] w w := ⟨fun C hD => (by cases hD), hC, hC, ⟨rfl, rfl, rfl, Nat.le_refl _, fun _ _ _ => rfl⟩⟩
theorem BXS.new (h : BXS ac len cap g S w wr) (q : PVal) (hq : valL q) : BXS ac len cap g (wr.heap.size :: S) w (wr.alloc (.cells #[.int .i64 q.kind, .int .u64 (q.num : Int), .string q.text, .int .i64 q.ref] 26)) := by
  have hb := h.below ((Below.refl wr.heap.size wr).alloc (Nat.le_refl _) (.cells #[.int .i64 q.kind, .int .u64 (q.num : Int), .string q.text, .int .i64 q.ref] 26))
  refine ⟨fun C hC => ?_, hb.cur0, hb.cur, hb.gr⟩
  rcases List.mem_cons.1 hC with rfl | hC
  · exact ⟨h.gr.size, q, heap_alloc_new wr _, hq⟩
  · exact hb.box C hC
theorem BXS.put (h : BXS ac len cap g S w wr) {C : Nat} (hC : C ∈ S) {p q : PVal} {j : Nat} {v : Value} (hb : wr.heap[C]? = some (.cells #[.int .i64 p.kind, .int .u64 (p.num : Int), .string p.text, .int .i64 p.ref] 26 (0, 0))) (e : (#[.int .i64 p.kind, .int .u64 (p.num : Int), .string p.text, .int .i64 p.ref] : Array Value).setIfInBounds j v = #[.int .i64 q.kind, .int .u64 (q.num : Int), .string q.text, .int .i64 q.ref]) (hq : valL q) : BXS ac len cap g S w (wr.setCell ⟨C, j, none⟩ v) := by
  have hlo := (h.box C hC).1
  have bP : Below w.heap.size wr (wr.setCell ⟨C, j, none⟩ v) := (Below.refl _ _).setCell (p := ⟨C, j, none⟩) hlo v
  refine ⟨fun D hD => ?_, h.cur0, cur_below h.cur0 h.cur bP, gr_below h.gr bP⟩
  obtain ⟨h1, r, h2, h3⟩ := h.box D hD
  refine ⟨h1, ?_⟩
  by_cases hDC : D = C
  · subst hDC
    refine ⟨q, ?_, hq⟩
    rw [← e]
    exact heap_setCell_same _ _ _ _ _ _ hb
  · exact ⟨r, (heap_setCell_other wr ⟨C, j, none⟩ D v hDC).trans h2, h3⟩
theorem BXS.put4 (h : BXS ac len cap g S w wr) {C : Nat} (hC : C ∈ S) (q : PVal) (hq : valL q) : BXS ac len cap g S w ((((wr.setCell ⟨C, 0, none⟩ (.int .i64 q.kind)).setCell ⟨C, 1, none⟩ (.int .u64 (q.num : Int))).setCell ⟨C, 2, none⟩ (.string q.text)).setCell ⟨C, 3, none⟩ (.int .i64 q.ref)) := by
  have hlo := (h.box C hC).1
  have bP : Below w.heap.size wr ((((wr.setCell ⟨C, 0, none⟩ (.int .i64 q.kind)).setCell ⟨C, 1, none⟩ (.int .u64 (q.num : Int))).setCell ⟨C, 2, none⟩ (.string q.text)).setCell ⟨C, 3, none⟩ (.int .i64 q.ref)) := ((((Below.refl _ _).setCell (p := ⟨C, 0, none⟩) hlo _).setCell (p := ⟨C, 1, none⟩) hlo _).setCell (p := ⟨C, 2, none⟩) hlo _).setCell (p := ⟨C, 3, none⟩) hlo _
  obtain ⟨_, p, hb, _⟩ := h.box C hC
  refine ⟨fun D hD => ?_, h.cur0, cur_below h.cur0 h.cur bP, gr_below h.gr bP⟩
  obtain ⟨h1, r, h2, h3⟩ := h.box D hD
  refine ⟨h1, ?_⟩
  by_cases hDC : D = C
  · subst hDC
    exact ⟨q, four_put hb, hq⟩
  · exact ⟨r, by rw [heap_setCell_other _ _ _ _ hDC, heap_setCell_other _ _ _ _ hDC, heap_setCell_other _ _ _ _ hDC, heap_setCell_other _ _ _ _ hDC]; exact h2, h3⟩
theorem wrapU {x : Nat} (h : x < 1000) : IntKind.u64.wrap (x : Int) = (x : Int) := by rw [IntKind.wrap_u64]; omega
theorem valL_num {p : PVal} (h : valL p) {n : Nat} (hn : n < 18446744073709551616) : valL ⟨p.kind, n, p.text, p.ref⟩ := by
  obtain ⟨⟨h1, _, h3, h4⟩, h5⟩ := h
  exact ⟨⟨h1, hn, h3, h4⟩, h5⟩
theorem valL_kind {p : PVal} (h : valL p) {n : Int} (hn : -10 ≤ n ∧ n ≤ 10) : valL ⟨n, p.num, p.text, p.ref⟩ := by
  obtain ⟨⟨_, h2, h3, h4⟩, h5⟩ := h
  exact ⟨⟨by show I64 n; unfold I64; omega, h2, h3, h4⟩, h5⟩
theorem valL_ref {p : PVal} (h : valL p) {n : Int} (hn : -10 ≤ n ∧ n ≤ 10) : valL ⟨p.kind, p.num, p.text, n⟩ := by
  obtain ⟨⟨h1, h2, h3, _⟩, h5⟩ := h
  exact ⟨⟨h1, h2, h3, by show I64 n; unfold I64; omega⟩, h5⟩
theorem valL_text {p : PVal} (h : valL p) {s : ByteArray} (hs : s.size ≤ 1000) : valL ⟨p.kind, p.num, s, p.ref⟩ := by
  obtain ⟨⟨h1, h2, _, h4⟩, _⟩ := h
  exact ⟨⟨h1, h2, by show s.size ≤ maxLen; unfold maxLen; omega, h4⟩, hs⟩
theorem pick5 (ac : Option Addr) (len cap g : Nat) (w : World) (hC : Cur ac len cap w g) (s : ByteArray) (hs : s.size ≤ 1000) :
    Calls Tryz.prog 64 #[.pointer (some ⟨g, 0, none⟩), .slice (some ⟨w.heap.size, 0, none⟩) 5 5] (w.alloc (.cells #[.string ⟨#[]⟩, .string ⟨#[97]⟩, .string ⟨#[98]⟩, .string ⟨#[97, 98]⟩, .string s] 9)) fun e w' => ∃ t : ByteArray, t.size ≤ 1000 ∧ e = .returned (.string t) ∧ Cur ac len cap w' g ∧ w.grownBy w' (some g) := by
  have hr := row_new w [.string ⟨#[]⟩, .string ⟨#[97]⟩, .string ⟨#[98]⟩, .string ⟨#[97, 98]⟩, .string s] 9 5 1000 rfl (fun v hv => by
    simp only [List.mem_cons, List.not_mem_nil, or_false] at hv
    rcases hv with rfl | rfl | rfl | rfl | rfl
    · exact ⟨_, rfl, by decide⟩
    · exact ⟨_, rfl, by decide⟩
    · exact ⟨_, rfl, by decide⟩
    · exact ⟨_, rfl, by decide⟩
    · exact ⟨_, rfl, hs⟩)
  have hl := hC.2.1
  have bO : Below w.heap.size w (w.alloc (.cells #[.string ⟨#[]⟩, .string ⟨#[97]⟩, .string ⟨#[98]⟩, .string ⟨#[97, 98]⟩, .string s] 9)) := (Below.refl _ _).alloc (Nat.le_refl _) _
  refine (l01Pick_any ac len cap g w.heap.size 5 1000 5 _ (cur_below hC hC bO) (by omega) (by simp) (by omega) (by omega) hr).mono ?_
  rintro e w' ⟨t, h1, h2, h3, h4⟩
  exact ⟨t, h1, h2, h3, ⟨h4.os.trans bO.os, h4.tape.trans bO.tape, h4.output.trans bO.output, Nat.le_trans bO.size h4.size, fun k hk hne => (h4.block k (Nat.lt_of_lt_of_le hk bO.size) hne).trans (bO.block k hk)⟩⟩
set_option maxHeartbeats 4000000 in
set_option maxRecDepth 100000 in
theorem l17Value_any (ac : Option Addr) (len cap g : Nat) (w : World) (hC : Cur ac len cap w g) :
    Calls Tryz.prog 47 #[.pointer (some ⟨g, 0, none⟩)] w fun e w' => ∃ p : PVal, e = .returned (.agg #[.int .i64 p.kind, .int .u64 (p.num : Int), .string p.text, .int .i64 p.ref]) ∧ valL p ∧ Cur ac len cap w' g ∧ w.grownBy w' (some g) := by
  have H0 := (BXS.start hC).new ⟨0, 0, ⟨#[]⟩, 0⟩ valL_zero
  obtain ⟨R, hR⟩ : ∃ R, w.heap.size = R := ⟨_, rfl⟩
  have HL : Hid (w.heap.size = R) := hR
  rw [hR] at H0
  obtain ⟨W0, hW0⟩ : ∃ W, w.alloc (.cells #[.int .i64 0, .int .u64 0, .string ⟨#[]⟩, .int .i64 0] 26) = W := ⟨_, rfl⟩
  have HW0 : Hid (_ = W0) := hW0
  have H0' : BXS ac len cap g [R] w W0 := by rw [← hW0]; exact H0
  have cB := fun (n : Nat) (W : World) (h : Cur ac len cap W g) (h0 : 0 < n) (h1 : n ≤ 1000) => l01Below_nat ac len cap g n W h h0 (by omega)
  have cB5 := cB 5 W0 H0'.cur (by omega) (by omega)
  have hbV : ∀ (k : Int) W, (Instr.build 26 #[(0, .int .i64 k)]).run Tryz.prog W = .ok (.agg #[.int .i64 k, .int .u64 0, .string ⟨#[]⟩, .int .i64 0]) W := fun k W => run_build W 26 _ _ (by kernel_rfl)
  rw [show ((5 : Nat) : Int) = 5 from rfl] at cB5
  clear H0 hW0
  have HH0 : Hid _ := H0'
  go_enter Tryz.func47, Tryz.ntmps47
  go_upto_region 1 with fail
  rw [HW0.out]
  clear HW0
  try simp only [hR]
  go_upto_region 2 with (go_at_call 48; (with_reducible refine cB5.mono ?_); rintro e w1 ⟨a, ha, rfl, hc1, g1⟩)
  have H1 := (HH0.out.grown hc1 g1).new ⟨(a : Int), 0, ⟨#[]⟩, 0⟩ (valL_kind valL_zero (by omega))
  obtain ⟨C, hCe⟩ : ∃ C, w1.heap.size = C := ⟨_, rfl⟩
  have HCC : Hid (w1.heap.size = C) := hCe
  have hx := heap_alloc_new w1 (.cells #[.int .i64 (a : Int), .int .u64 0, .string ⟨#[]⟩, .int .i64 0] 26)
  obtain ⟨W2, hW2⟩ : ∃ W, w1.alloc (.cells #[.int .i64 (a : Int), .int .u64 0, .string ⟨#[]⟩, .int .i64 0] 26) = W := ⟨_, rfl⟩
  have HW2 : Hid (_ = W2) := hW2
  have HX : Hid (BXS ac len cap g [C, R] w W2) := by
    have h := H1
    rw [hCe] at h
    rw [← hW2]
    exact h
  rw [hW2, hCe] at hx
  clear H1 hc1 g1 HH0 H0' cB5 hW2
  try rw [HW2.out]
  try simp only [hCe]
  clear HW2 hCe hR
  obtain ⟨x0, x1, x2, x3⟩ := four_cells hx
  have fzx := fun j => frozen_of_row W2 C j _ _ hx
  have cN := fun (W : World) (h : Cur ac len cap W g) => l03Number_any ac len cap g W h
  have cL := fun (n : Nat) (W : World) (hn : n ≤ 1000) => l01Long_any n 97 W (by omega)
  have ha5 : a = 0 ∨ a = 1 ∨ a = 2 ∨ a = 3 ∨ a = 4 := by omega
  clear hx
  rcases ha5 with rfl | rfl | rfl | rfl | rfl
  · go_upto_region 11 with fail
    obtain ⟨WX, hWX⟩ : ∃ W, W2 = W := ⟨_, rfl⟩
    have HY : Hid (BXS ac len cap g [C, R] w WX) := by rw [← hWX]; exact HX.out
    simp only [hWX]
    clear hWX HX x0 x1 x2 x3 fzx
    have cB40 := cB 40 WX HY.out.cur (by omega) (by omega)
    rw [show ((40 : Nat) : Int) = 40 from rfl] at cB40
    go_upto_region 12 with (go_at_call 48; (with_reducible refine cB40.mono ?_); rintro e w6 ⟨z, hz6, rfl, hc6, g6⟩)
    have H6 : Hid (BXS ac len cap g [C, R] w w6) := HY.out.grown hc6 g6
    have hz5 : z = 0 ∨ z = 1 ∨ z = 2 ∨ z = 3 ∨ (¬ (z : Int) = 0 ∧ ¬ (z : Int) = 1 ∧ ¬ (z : Int) = 2 ∧ ¬ (z : Int) = 3) := by omega
    clear HY cB40 hc6 g6
    rcases hz5 with rfl | rfl | rfl | rfl | ⟨z0, z1, z2, z3⟩
    · have cP : Calls Tryz.prog 51 #[.pointer (some ⟨g, 0, none⟩), .slice (some ⟨w6.heap.size, 0, none⟩) 4 4] (w6.alloc (.cells #[.int .i64 (-1), .int .i64 5, .int .i64 1, .int .i64 3] 3)) fun e w' => ∃ z, z ∈ [(-1 : Int), 5, 1, 3] ∧ e = .returned (.int .i64 z) ∧ Cur ac len cap w' g ∧ w6.grownBy w' (some g) := l01PickInt_new ac len cap g 4 [-1, 5, 1, 3] 3 w6 H6.out.cur rfl (by omega) (by omega)
      go_upto_region 20 with (go_at_call 51; (with_reducible refine cP.mono ?_); rintro e w7 ⟨y, hy, rfl, hc7, g7⟩; have H7 := H6.out.grown hc7 g7; obtain ⟨_, p7, hb7, ok7⟩ := H7.box C (by simp); obtain ⟨v0, v1, v2, v3⟩ := four_cells hb7; have fv := fun j => frozen_of_row w7 C j _ _ hb7)
      have HZ : Hid (BXS ac len cap g [C, R] w (w7.setCell ⟨C, 0, none⟩ (.int .i64 y))) := H7.put (by simp) hb7 rfl (valL_kind (n := y) ok7 (by simp at hy; omega))
      clear v0 v1 v2 v3 fv hb7 H7 hc7 g7 cP H6
      obtain ⟨WZ, hWZ⟩ : ∃ W, w7.setCell ⟨C, 0, none⟩ (.int .i64 y) = W := ⟨_, rfl⟩
      rw [hWZ] at HZ
      simp only [hWZ]
      clear hWZ
      obtain ⟨_, p8, hb8, ok8⟩ := HZ.out.box C (by simp)
      obtain ⟨_, r8, hr8, _⟩ := HZ.out.box R (by simp)
      obtain ⟨s0, s1, s2, s3⟩ := four_cells hb8
      obtain ⟨r0, r1, r2, r3⟩ := four_cells hr8
      have fr := fun j => frozen_of_row WZ R j _ _ hr8
      obtain ⟨k0, k1, k2, k3⟩ := four_cells (four_put (b0 := .int .i64 p8.kind) (b1 := .int .u64 (p8.num : Int)) (b2 := .string p8.text) (b3 := .int .i64 p8.ref) hr8)
      have HE : Hid _ := HZ.out.put4 (C := R) (by simp) p8 ok8
      have HOK : Hid (valL p8) := ok8
      clear hb8 hr8 ok8 HZ HL HCC
      go_wp2
      refine bodyPost_ret (by simp [results, Tryz.results47, go_sem, k0, k1, k2, k3]; try rfl) rfl ?_
      exact ⟨p8, rfl, HOK.out, HE.out.cur, HE.out.gr⟩
    · obtain ⟨_, p7, hb7, ok7⟩ := H6.out.box C (by simp); obtain ⟨v0, v1, v2, v3⟩ := four_cells hb7; have fv := fun j => frozen_of_row w6 C j _ _ hb7
      go_upto_region 20 with fail
      have HZ : Hid (BXS ac len cap g [C, R] w (w6.setCell ⟨C, 1, none⟩ (.int .u64 2))) := H6.out.put (by simp) hb7 rfl (valL_num (n := 2) ok7 (by omega))
      clear v0 v1 v2 v3 fv hb7 H6
      obtain ⟨WZ, hWZ⟩ : ∃ W, w6.setCell ⟨C, 1, none⟩ (.int .u64 2) = W := ⟨_, rfl⟩
      rw [hWZ] at HZ
      simp only [hWZ]
      clear hWZ
      obtain ⟨_, p8, hb8, ok8⟩ := HZ.out.box C (by simp)
      obtain ⟨_, r8, hr8, _⟩ := HZ.out.box R (by simp)
      obtain ⟨s0, s1, s2, s3⟩ := four_cells hb8
      obtain ⟨r0, r1, r2, r3⟩ := four_cells hr8
      have fr := fun j => frozen_of_row WZ R j _ _ hr8
      obtain ⟨k0, k1, k2, k3⟩ := four_cells (four_put (b0 := .int .i64 p8.kind) (b1 := .int .u64 (p8.num : Int)) (b2 := .string p8.text) (b3 := .int .i64 p8.ref) hr8)
      have HE : Hid _ := HZ.out.put4 (C := R) (by simp) p8 ok8
      have HOK : Hid (valL p8) := ok8
      clear hb8 hr8 ok8 HZ HL HCC
      go_wp2
      refine bodyPost_ret (by simp [results, Tryz.results47, go_sem, k0, k1, k2, k3]; try rfl) rfl ?_
      exact ⟨p8, rfl, HOK.out, HE.out.cur, HE.out.gr⟩
    · have cB2 := cB 2 w6 H6.out.cur (by omega) (by omega)
      rw [show ((2 : Nat) : Int) = 2 from rfl] at cB2
      go_upto_region 20 with (first
        | (go_at_call 48; (with_reducible refine cB2.mono ?_); rintro e w8 ⟨y, hy8, rfl, hc8, g8⟩; have H8 := H6.out.grown hc8 g8; have hyw : IntKind.i64.wrap (200 + (y : Int)) = 200 + (y : Int) := by rw [IntKind.wrap_i64]; omega)
        | (go_at_call 65; (with_reducible refine (l01Long_at (200 + y) (show (200 : Int) + (y : Int) = ((200 + y : Nat) : Int) by omega) 97 w8 (by omega)).mono ?_); rintro e w7 ⟨t4, ht4, rfl, b4⟩; have H7 := H8.below b4; obtain ⟨_, p7, hb7, ok7⟩ := H7.box C (by simp); obtain ⟨v0, v1, v2, v3⟩ := four_cells hb7; have fv := fun j => frozen_of_row w7 C j _ _ hb7))
      have HZ : Hid (BXS ac len cap g [C, R] w (w7.setCell ⟨C, 2, none⟩ (.string t4))) := H7.put (by simp) hb7 rfl (valL_text (s := t4) ok7 (by omega))
      clear v0 v1 v2 v3 fv hb7 H7 H8 hc8 g8 b4 cB2 H6
      obtain ⟨WZ, hWZ⟩ : ∃ W, w7.setCell ⟨C, 2, none⟩ (.string t4) = W := ⟨_, rfl⟩
      rw [hWZ] at HZ
      simp only [hWZ]
      clear hWZ
      obtain ⟨_, p8, hb8, ok8⟩ := HZ.out.box C (by simp)
      obtain ⟨_, r8, hr8, _⟩ := HZ.out.box R (by simp)
      obtain ⟨s0, s1, s2, s3⟩ := four_cells hb8
      obtain ⟨r0, r1, r2, r3⟩ := four_cells hr8
      have fr := fun j => frozen_of_row WZ R j _ _ hr8
      obtain ⟨k0, k1, k2, k3⟩ := four_cells (four_put (b0 := .int .i64 p8.kind) (b1 := .int .u64 (p8.num : Int)) (b2 := .string p8.text) (b3 := .int .i64 p8.ref) hr8)
      have HE : Hid _ := HZ.out.put4 (C := R) (by simp) p8 ok8
      have HOK : Hid (valL p8) := ok8
      clear hb8 hr8 ok8 HZ HL HCC
      go_wp2
      refine bodyPost_ret (by simp [results, Tryz.results47, go_sem, k0, k1, k2, k3]; try rfl) rfl ?_
      exact ⟨p8, rfl, HOK.out, HE.out.cur, HE.out.gr⟩
    · have cP : Calls Tryz.prog 51 #[.pointer (some ⟨g, 0, none⟩), .slice (some ⟨w6.heap.size, 0, none⟩) 2 2] (w6.alloc (.cells #[.int .i64 (-1), .int .i64 1] 3)) fun e w' => ∃ z, z ∈ [(-1 : Int), 1] ∧ e = .returned (.int .i64 z) ∧ Cur ac len cap w' g ∧ w6.grownBy w' (some g) := l01PickInt_new ac len cap g 2 [-1, 1] 3 w6 H6.out.cur rfl (by omega) (by omega)
      go_upto_region 20 with (go_at_call 51; (with_reducible refine cP.mono ?_); rintro e w7 ⟨y, hy, rfl, hc7, g7⟩; have H7 := H6.out.grown hc7 g7; obtain ⟨_, p7, hb7, ok7⟩ := H7.box C (by simp); obtain ⟨v0, v1, v2, v3⟩ := four_cells hb7; have fv := fun j => frozen_of_row w7 C j _ _ hb7)
      have HZ : Hid (BXS ac len cap g [C, R] w (w7.setCell ⟨C, 3, none⟩ (.int .i64 y))) := H7.put (by simp) hb7 rfl (valL_ref (n := y) ok7 (by simp at hy; omega))
      clear v0 v1 v2 v3 fv hb7 H7 hc7 g7 cP H6
      obtain ⟨WZ, hWZ⟩ : ∃ W, w7.setCell ⟨C, 3, none⟩ (.int .i64 y) = W := ⟨_, rfl⟩
      rw [hWZ] at HZ
      simp only [hWZ]
      clear hWZ
      obtain ⟨_, p8, hb8, ok8⟩ := HZ.out.box C (by simp)
      obtain ⟨_, r8, hr8, _⟩ := HZ.out.box R (by simp)
      obtain ⟨s0, s1, s2, s3⟩ := four_cells hb8
      obtain ⟨r0, r1, r2, r3⟩ := four_cells hr8
      have fr := fun j => frozen_of_row WZ R j _ _ hr8
      obtain ⟨k0, k1, k2, k3⟩ := four_cells (four_put (b0 := .int .i64 p8.kind) (b1 := .int .u64 (p8.num : Int)) (b2 := .string p8.text) (b3 := .int .i64 p8.ref) hr8)
      have HE : Hid _ := HZ.out.put4 (C := R) (by simp) p8 ok8
      have HOK : Hid (valL p8) := ok8
      clear hb8 hr8 ok8 HZ HL HCC
      go_wp2
      refine bodyPost_ret (by simp [results, Tryz.results47, go_sem, k0, k1, k2, k3]; try rfl) rfl ?_
      exact ⟨p8, rfl, HOK.out, HE.out.cur, HE.out.gr⟩
    · go_upto_region 20 with fail
      have HZ : Hid (BXS ac len cap g [C, R] w w6) := H6
      clear H6
      obtain ⟨WZ, hWZ⟩ : ∃ W, w6 = W := ⟨_, rfl⟩
      rw [hWZ] at HZ
      simp only [hWZ]
      clear hWZ
      obtain ⟨_, p8, hb8, ok8⟩ := HZ.out.box C (by simp)
      obtain ⟨_, r8, hr8, _⟩ := HZ.out.box R (by simp)
      obtain ⟨s0, s1, s2, s3⟩ := four_cells hb8
      obtain ⟨r0, r1, r2, r3⟩ := four_cells hr8
      have fr := fun j => frozen_of_row WZ R j _ _ hr8
      obtain ⟨k0, k1, k2, k3⟩ := four_cells (four_put (b0 := .int .i64 p8.kind) (b1 := .int .u64 (p8.num : Int)) (b2 := .string p8.text) (b3 := .int .i64 p8.ref) hr8)
      have HE : Hid _ := HZ.out.put4 (C := R) (by simp) p8 ok8
      have HOK : Hid (valL p8) := ok8
      clear hb8 hr8 ok8 HZ HL HCC
      go_wp2
      refine bodyPost_ret (by simp [results, Tryz.results47, go_sem, k0, k1, k2, k3]; try rfl) rfl ?_
      exact ⟨p8, rfl, HOK.out, HE.out.cur, HE.out.gr⟩
  · have cB2 := cB 2 W2 HX.out.cur (by omega) (by omega)
    rw [show ((2 : Nat) : Int) = 2 from rfl] at cB2
    go_upto_region 11 with (go_at_call 48; (with_reducible refine cB2.mono ?_); rintro e w3 ⟨x, hx3, rfl, hc3, g3⟩; have hwx := wrapU (x := x) (by omega); have H3 := HX.out.grown hc3 g3; obtain ⟨_, p3, hb3, ok3⟩ := H3.box C (by simp); obtain ⟨y0, y1, y2, y3⟩ := four_cells hb3; have fy := fun j => frozen_of_row w3 C j _ _ hb3)
    have HY : Hid (BXS ac len cap g [C, R] w (w3.setCell ⟨C, 1, none⟩ (.int .u64 (x : Int)))) := H3.put (by simp) hb3 rfl (valL_num (n := x) ok3 (by omega))
    obtain ⟨WX, hWX⟩ : ∃ W, w3.setCell ⟨C, 1, none⟩ (.int .u64 (x : Int)) = W := ⟨_, rfl⟩
    rw [hWX] at HY
    simp only [hWX]
    clear hWX HX x0 x1 x2 x3 fzx y0 y1 y2 y3 fy hb3 H3 hc3 g3 cB2
    have cB40 := cB 40 WX HY.out.cur (by omega) (by omega)
    rw [show ((40 : Nat) : Int) = 40 from rfl] at cB40
    go_upto_region 12 with (go_at_call 48; (with_reducible refine cB40.mono ?_); rintro e w6 ⟨z, hz6, rfl, hc6, g6⟩)
    have H6 : Hid (BXS ac len cap g [C, R] w w6) := HY.out.grown hc6 g6
    have hz5 : z = 0 ∨ z = 1 ∨ z = 2 ∨ z = 3 ∨ (¬ (z : Int) = 0 ∧ ¬ (z : Int) = 1 ∧ ¬ (z : Int) = 2 ∧ ¬ (z : Int) = 3) := by omega
    clear HY cB40 hc6 g6
    rcases hz5 with rfl | rfl | rfl | rfl | ⟨z0, z1, z2, z3⟩
    · have cP : Calls Tryz.prog 51 #[.pointer (some ⟨g, 0, none⟩), .slice (some ⟨w6.heap.size, 0, none⟩) 4 4] (w6.alloc (.cells #[.int .i64 (-1), .int .i64 5, .int .i64 1, .int .i64 3] 3)) fun e w' => ∃ z, z ∈ [(-1 : Int), 5, 1, 3] ∧ e = .returned (.int .i64 z) ∧ Cur ac len cap w' g ∧ w6.grownBy w' (some g) := l01PickInt_new ac len cap g 4 [-1, 5, 1, 3] 3 w6 H6.out.cur rfl (by omega) (by omega)
      go_upto_region 20 with (go_at_call 51; (with_reducible refine cP.mono ?_); rintro e w7 ⟨y, hy, rfl, hc7, g7⟩; have H7 := H6.out.grown hc7 g7; obtain ⟨_, p7, hb7, ok7⟩ := H7.box C (by simp); obtain ⟨v0, v1, v2, v3⟩ := four_cells hb7; have fv := fun j => frozen_of_row w7 C j _ _ hb7)
      have HZ : Hid (BXS ac len cap g [C, R] w (w7.setCell ⟨C, 0, none⟩ (.int .i64 y))) := H7.put (by simp) hb7 rfl (valL_kind (n := y) ok7 (by simp at hy; omega))
      clear v0 v1 v2 v3 fv hb7 H7 hc7 g7 cP H6
      obtain ⟨WZ, hWZ⟩ : ∃ W, w7.setCell ⟨C, 0, none⟩ (.int .i64 y) = W := ⟨_, rfl⟩
      rw [hWZ] at HZ
      simp only [hWZ]
      clear hWZ
      obtain ⟨_, p8, hb8, ok8⟩ := HZ.out.box C (by simp)
      obtain ⟨_, r8, hr8, _⟩ := HZ.out.box R (by simp)
      obtain ⟨s0, s1, s2, s3⟩ := four_cells hb8
      obtain ⟨r0, r1, r2, r3⟩ := four_cells hr8
      have fr := fun j => frozen_of_row WZ R j _ _ hr8
      obtain ⟨k0, k1, k2, k3⟩ := four_cells (four_put (b0 := .int .i64 p8.kind) (b1 := .int .u64 (p8.num : Int)) (b2 := .string p8.text) (b3 := .int .i64 p8.ref) hr8)
      have HE : Hid _ := HZ.out.put4 (C := R) (by simp) p8 ok8
      have HOK : Hid (valL p8) := ok8
      clear hb8 hr8 ok8 HZ HL HCC
      go_wp2
      refine bodyPost_ret (by simp [results, Tryz.results47, go_sem, k0, k1, k2, k3]; try rfl) rfl ?_
      exact ⟨p8, rfl, HOK.out, HE.out.cur, HE.out.gr⟩
    · obtain ⟨_, p7, hb7, ok7⟩ := H6.out.box C (by simp); obtain ⟨v0, v1, v2, v3⟩ := four_cells hb7; have fv := fun j => frozen_of_row w6 C j _ _ hb7
      go_upto_region 20 with fail
      have HZ : Hid (BXS ac len cap g [C, R] w (w6.setCell ⟨C, 1, none⟩ (.int .u64 2))) := H6.out.put (by simp) hb7 rfl (valL_num (n := 2) ok7 (by omega))
      clear v0 v1 v2 v3 fv hb7 H6
      obtain ⟨WZ, hWZ⟩ : ∃ W, w6.setCell ⟨C, 1, none⟩ (.int .u64 2) = W := ⟨_, rfl⟩
      rw [hWZ] at HZ
      simp only [hWZ]
      clear hWZ
      obtain ⟨_, p8, hb8, ok8⟩ := HZ.out.box C (by simp)
      obtain ⟨_, r8, hr8, _⟩ := HZ.out.box R (by simp)
      obtain ⟨s0, s1, s2, s3⟩ := four_cells hb8
      obtain ⟨r0, r1, r2, r3⟩ := four_cells hr8
      have fr := fun j => frozen_of_row WZ R j _ _ hr8
      obtain ⟨k0, k1, k2, k3⟩ := four_cells (four_put (b0 := .int .i64 p8.kind) (b1 := .int .u64 (p8.num : Int)) (b2 := .string p8.text) (b3 := .int .i64 p8.ref) hr8)
      have HE : Hid _ := HZ.out.put4 (C := R) (by simp) p8 ok8
      have HOK : Hid (valL p8) := ok8
      clear hb8 hr8 ok8 HZ HL HCC
      go_wp2
      refine bodyPost_ret (by simp [results, Tryz.results47, go_sem, k0, k1, k2, k3]; try rfl) rfl ?_
      exact ⟨p8, rfl, HOK.out, HE.out.cur, HE.out.gr⟩
    · have cB2 := cB 2 w6 H6.out.cur (by omega) (by omega)
      rw [show ((2 : Nat) : Int) = 2 from rfl] at cB2
      go_upto_region 20 with (first
        | (go_at_call 48; (with_reducible refine cB2.mono ?_); rintro e w8 ⟨y, hy8, rfl, hc8, g8⟩; have H8 := H6.out.grown hc8 g8; have hyw : IntKind.i64.wrap (200 + (y : Int)) = 200 + (y : Int) := by rw [IntKind.wrap_i64]; omega)
        | (go_at_call 65; (with_reducible refine (l01Long_at (200 + y) (show (200 : Int) + (y : Int) = ((200 + y : Nat) : Int) by omega) 97 w8 (by omega)).mono ?_); rintro e w7 ⟨t4, ht4, rfl, b4⟩; have H7 := H8.below b4; obtain ⟨_, p7, hb7, ok7⟩ := H7.box C (by simp); obtain ⟨v0, v1, v2, v3⟩ := four_cells hb7; have fv := fun j => frozen_of_row w7 C j _ _ hb7))
      have HZ : Hid (BXS ac len cap g [C, R] w (w7.setCell ⟨C, 2, none⟩ (.string t4))) := H7.put (by simp) hb7 rfl (valL_text (s := t4) ok7 (by omega))
      clear v0 v1 v2 v3 fv hb7 H7 H8 hc8 g8 b4 cB2 H6
      obtain ⟨WZ, hWZ⟩ : ∃ W, w7.setCell ⟨C, 2, none⟩ (.string t4) = W := ⟨_, rfl⟩
      rw [hWZ] at HZ
      simp only [hWZ]
      clear hWZ
      obtain ⟨_, p8, hb8, ok8⟩ := HZ.out.box C (by simp)
      obtain ⟨_, r8, hr8, _⟩ := HZ.out.box R (by simp)
      obtain ⟨s0, s1, s2, s3⟩ := four_cells hb8
      obtain ⟨r0, r1, r2, r3⟩ := four_cells hr8
      have fr := fun j => frozen_of_row WZ R j _ _ hr8
      obtain ⟨k0, k1, k2, k3⟩ := four_cells (four_put (b0 := .int .i64 p8.kind) (b1 := .int .u64 (p8.num : Int)) (b2 := .string p8.text) (b3 := .int .i64 p8.ref) hr8)
      have HE : Hid _ := HZ.out.put4 (C := R) (by simp) p8 ok8
      have HOK : Hid (valL p8) := ok8
      clear hb8 hr8 ok8 HZ HL HCC
      go_wp2
      refine bodyPost_ret (by simp [results, Tryz.results47, go_sem, k0, k1, k2, k3]; try rfl) rfl ?_
      exact ⟨p8, rfl, HOK.out, HE.out.cur, HE.out.gr⟩
    · have cP : Calls Tryz.prog 51 #[.pointer (some ⟨g, 0, none⟩), .slice (some ⟨w6.heap.size, 0, none⟩) 2 2] (w6.alloc (.cells #[.int .i64 (-1), .int .i64 1] 3)) fun e w' => ∃ z, z ∈ [(-1 : Int), 1] ∧ e = .returned (.int .i64 z) ∧ Cur ac len cap w' g ∧ w6.grownBy w' (some g) := l01PickInt_new ac len cap g 2 [-1, 1] 3 w6 H6.out.cur rfl (by omega) (by omega)
      go_upto_region 20 with (go_at_call 51; (with_reducible refine cP.mono ?_); rintro e w7 ⟨y, hy, rfl, hc7, g7⟩; have H7 := H6.out.grown hc7 g7; obtain ⟨_, p7, hb7, ok7⟩ := H7.box C (by simp); obtain ⟨v0, v1, v2, v3⟩ := four_cells hb7; have fv := fun j => frozen_of_row w7 C j _ _ hb7)
      have HZ : Hid (BXS ac len cap g [C, R] w (w7.setCell ⟨C, 3, none⟩ (.int .i64 y))) := H7.put (by simp) hb7 rfl (valL_ref (n := y) ok7 (by simp at hy; omega))
      clear v0 v1 v2 v3 fv hb7 H7 hc7 g7 cP H6
      obtain ⟨WZ, hWZ⟩ : ∃ W, w7.setCell ⟨C, 3, none⟩ (.int .i64 y) = W := ⟨_, rfl⟩
      rw [hWZ] at HZ
      simp only [hWZ]
      clear hWZ
      obtain ⟨_, p8, hb8, ok8⟩ := HZ.out.box C (by simp)
      obtain ⟨_, r8, hr8, _⟩ := HZ.out.box R (by simp)
      obtain ⟨s0, s1, s2, s3⟩ := four_cells hb8
      obtain ⟨r0, r1, r2, r3⟩ := four_cells hr8
      have fr := fun j => frozen_of_row WZ R j _ _ hr8
      obtain ⟨k0, k1, k2, k3⟩ := four_cells (four_put (b0 := .int .i64 p8.kind) (b1 := .int .u64 (p8.num : Int)) (b2 := .string p8.text) (b3 := .int .i64 p8.ref) hr8)
      have HE : Hid _ := HZ.out.put4 (C := R) (by simp) p8 ok8
      have HOK : Hid (valL p8) := ok8
      clear hb8 hr8 ok8 HZ HL HCC
      go_wp2
      refine bodyPost_ret (by simp [results, Tryz.results47, go_sem, k0, k1, k2, k3]; try rfl) rfl ?_
      exact ⟨p8, rfl, HOK.out, HE.out.cur, HE.out.gr⟩
    · go_upto_region 20 with fail
      have HZ : Hid (BXS ac len cap g [C, R] w w6) := H6
      clear H6
      obtain ⟨WZ, hWZ⟩ : ∃ W, w6 = W := ⟨_, rfl⟩
      rw [hWZ] at HZ
      simp only [hWZ]
      clear hWZ
      obtain ⟨_, p8, hb8, ok8⟩ := HZ.out.box C (by simp)
      obtain ⟨_, r8, hr8, _⟩ := HZ.out.box R (by simp)
      obtain ⟨s0, s1, s2, s3⟩ := four_cells hb8
      obtain ⟨r0, r1, r2, r3⟩ := four_cells hr8
      have fr := fun j => frozen_of_row WZ R j _ _ hr8
      obtain ⟨k0, k1, k2, k3⟩ := four_cells (four_put (b0 := .int .i64 p8.kind) (b1 := .int .u64 (p8.num : Int)) (b2 := .string p8.text) (b3 := .int .i64 p8.ref) hr8)
      have HE : Hid _ := HZ.out.put4 (C := R) (by simp) p8 ok8
      have HOK : Hid (valL p8) := ok8
      clear hb8 hr8 ok8 HZ HL HCC
      go_wp2
      refine bodyPost_ret (by simp [results, Tryz.results47, go_sem, k0, k1, k2, k3]; try rfl) rfl ?_
      exact ⟨p8, rfl, HOK.out, HE.out.cur, HE.out.gr⟩
  · have cN2 := cN W2 HX.out.cur
    go_upto_region 11 with (go_at_call 49; (with_reducible refine cN2.mono ?_); rintro e w3 ⟨x, hx3, rfl, hc3, g3⟩; have H3 := HX.out.grown hc3 g3; obtain ⟨_, p3, hb3, ok3⟩ := H3.box C (by simp); obtain ⟨y0, y1, y2, y3⟩ := four_cells hb3; have fy := fun j => frozen_of_row w3 C j _ _ hb3)
    have HY : Hid (BXS ac len cap g [C, R] w (w3.setCell ⟨C, 1, none⟩ (.int .u64 (x : Int)))) := H3.put (by simp) hb3 rfl (valL_num ok3 hx3)
    obtain ⟨WX, hWX⟩ : ∃ W, w3.setCell ⟨C, 1, none⟩ (.int .u64 (x : Int)) = W := ⟨_, rfl⟩
    rw [hWX] at HY
    simp only [hWX]
    clear hWX HX x0 x1 x2 x3 fzx y0 y1 y2 y3 fy hb3 H3 hc3 g3 cN2
    have cB40 := cB 40 WX HY.out.cur (by omega) (by omega)
    rw [show ((40 : Nat) : Int) = 40 from rfl] at cB40
    go_upto_region 12 with (go_at_call 48; (with_reducible refine cB40.mono ?_); rintro e w6 ⟨z, hz6, rfl, hc6, g6⟩)
    have H6 : Hid (BXS ac len cap g [C, R] w w6) := HY.out.grown hc6 g6
    have hz5 : z = 0 ∨ z = 1 ∨ z = 2 ∨ z = 3 ∨ (¬ (z : Int) = 0 ∧ ¬ (z : Int) = 1 ∧ ¬ (z : Int) = 2 ∧ ¬ (z : Int) = 3) := by omega
    clear HY cB40 hc6 g6
    rcases hz5 with rfl | rfl | rfl | rfl | ⟨z0, z1, z2, z3⟩
    · have cP : Calls Tryz.prog 51 #[.pointer (some ⟨g, 0, none⟩), .slice (some ⟨w6.heap.size, 0, none⟩) 4 4] (w6.alloc (.cells #[.int .i64 (-1), .int .i64 5, .int .i64 1, .int .i64 3] 3)) fun e w' => ∃ z, z ∈ [(-1 : Int), 5, 1, 3] ∧ e = .returned (.int .i64 z) ∧ Cur ac len cap w' g ∧ w6.grownBy w' (some g) := l01PickInt_new ac len cap g 4 [-1, 5, 1, 3] 3 w6 H6.out.cur rfl (by omega) (by omega)
      go_upto_region 20 with (go_at_call 51; (with_reducible refine cP.mono ?_); rintro e w7 ⟨y, hy, rfl, hc7, g7⟩; have H7 := H6.out.grown hc7 g7; obtain ⟨_, p7, hb7, ok7⟩ := H7.box C (by simp); obtain ⟨v0, v1, v2, v3⟩ := four_cells hb7; have fv := fun j => frozen_of_row w7 C j _ _ hb7)
      have HZ : Hid (BXS ac len cap g [C, R] w (w7.setCell ⟨C, 0, none⟩ (.int .i64 y))) := H7.put (by simp) hb7 rfl (valL_kind (n := y) ok7 (by simp at hy; omega))
      clear v0 v1 v2 v3 fv hb7 H7 hc7 g7 cP H6
      obtain ⟨WZ, hWZ⟩ : ∃ W, w7.setCell ⟨C, 0, none⟩ (.int .i64 y) = W := ⟨_, rfl⟩
      rw [hWZ] at HZ
      simp only [hWZ]
      clear hWZ
      obtain ⟨_, p8, hb8, ok8⟩ := HZ.out.box C (by simp)
      obtain ⟨_, r8, hr8, _⟩ := HZ.out.box R (by simp)
      obtain ⟨s0, s1, s2, s3⟩ := four_cells hb8
      obtain ⟨r0, r1, r2, r3⟩ := four_cells hr8
      have fr := fun j => frozen_of_row WZ R j _ _ hr8
      obtain ⟨k0, k1, k2, k3⟩ := four_cells (four_put (b0 := .int .i64 p8.kind) (b1 := .int .u64 (p8.num : Int)) (b2 := .string p8.text) (b3 := .int .i64 p8.ref) hr8)
      have HE : Hid _ := HZ.out.put4 (C := R) (by simp) p8 ok8
      have HOK : Hid (valL p8) := ok8
      clear hb8 hr8 ok8 HZ HL HCC
      go_wp2
      refine bodyPost_ret (by simp [results, Tryz.results47, go_sem, k0, k1, k2, k3]; try rfl) rfl ?_
      exact ⟨p8, rfl, HOK.out, HE.out.cur, HE.out.gr⟩
    · obtain ⟨_, p7, hb7, ok7⟩ := H6.out.box C (by simp); obtain ⟨v0, v1, v2, v3⟩ := four_cells hb7; have fv := fun j => frozen_of_row w6 C j _ _ hb7
      go_upto_region 20 with fail
      have HZ : Hid (BXS ac len cap g [C, R] w (w6.setCell ⟨C, 1, none⟩ (.int .u64 2))) := H6.out.put (by simp) hb7 rfl (valL_num (n := 2) ok7 (by omega))
      clear v0 v1 v2 v3 fv hb7 H6
      obtain ⟨WZ, hWZ⟩ : ∃ W, w6.setCell ⟨C, 1, none⟩ (.int .u64 2) = W := ⟨_, rfl⟩
      rw [hWZ] at HZ
      simp only [hWZ]
      clear hWZ
      obtain ⟨_, p8, hb8, ok8⟩ := HZ.out.box C (by simp)
      obtain ⟨_, r8, hr8, _⟩ := HZ.out.box R (by simp)
      obtain ⟨s0, s1, s2, s3⟩ := four_cells hb8
      obtain ⟨r0, r1, r2, r3⟩ := four_cells hr8
      have fr := fun j => frozen_of_row WZ R j _ _ hr8
      obtain ⟨k0, k1, k2, k3⟩ := four_cells (four_put (b0 := .int .i64 p8.kind) (b1 := .int .u64 (p8.num : Int)) (b2 := .string p8.text) (b3 := .int .i64 p8.ref) hr8)
      have HE : Hid _ := HZ.out.put4 (C := R) (by simp) p8 ok8
      have HOK : Hid (valL p8) := ok8
      clear hb8 hr8 ok8 HZ HL HCC
      go_wp2
      refine bodyPost_ret (by simp [results, Tryz.results47, go_sem, k0, k1, k2, k3]; try rfl) rfl ?_
      exact ⟨p8, rfl, HOK.out, HE.out.cur, HE.out.gr⟩
    · have cB2 := cB 2 w6 H6.out.cur (by omega) (by omega)
      rw [show ((2 : Nat) : Int) = 2 from rfl] at cB2
      go_upto_region 20 with (first
        | (go_at_call 48; (with_reducible refine cB2.mono ?_); rintro e w8 ⟨y, hy8, rfl, hc8, g8⟩; have H8 := H6.out.grown hc8 g8; have hyw : IntKind.i64.wrap (200 + (y : Int)) = 200 + (y : Int) := by rw [IntKind.wrap_i64]; omega)
        | (go_at_call 65; (with_reducible refine (l01Long_at (200 + y) (show (200 : Int) + (y : Int) = ((200 + y : Nat) : Int) by omega) 97 w8 (by omega)).mono ?_); rintro e w7 ⟨t4, ht4, rfl, b4⟩; have H7 := H8.below b4; obtain ⟨_, p7, hb7, ok7⟩ := H7.box C (by simp); obtain ⟨v0, v1, v2, v3⟩ := four_cells hb7; have fv := fun j => frozen_of_row w7 C j _ _ hb7))
      have HZ : Hid (BXS ac len cap g [C, R] w (w7.setCell ⟨C, 2, none⟩ (.string t4))) := H7.put (by simp) hb7 rfl (valL_text (s := t4) ok7 (by omega))
      clear v0 v1 v2 v3 fv hb7 H7 H8 hc8 g8 b4 cB2 H6
      obtain ⟨WZ, hWZ⟩ : ∃ W, w7.setCell ⟨C, 2, none⟩ (.string t4) = W := ⟨_, rfl⟩
      rw [hWZ] at HZ
      simp only [hWZ]
      clear hWZ
      obtain ⟨_, p8, hb8, ok8⟩ := HZ.out.box C (by simp)
      obtain ⟨_, r8, hr8, _⟩ := HZ.out.box R (by simp)
      obtain ⟨s0, s1, s2, s3⟩ := four_cells hb8
      obtain ⟨r0, r1, r2, r3⟩ := four_cells hr8
      have fr := fun j => frozen_of_row WZ R j _ _ hr8
      obtain ⟨k0, k1, k2, k3⟩ := four_cells (four_put (b0 := .int .i64 p8.kind) (b1 := .int .u64 (p8.num : Int)) (b2 := .string p8.text) (b3 := .int .i64 p8.ref) hr8)
      have HE : Hid _ := HZ.out.put4 (C := R) (by simp) p8 ok8
      have HOK : Hid (valL p8) := ok8
      clear hb8 hr8 ok8 HZ HL HCC
      go_wp2
      refine bodyPost_ret (by simp [results, Tryz.results47, go_sem, k0, k1, k2, k3]; try rfl) rfl ?_
      exact ⟨p8, rfl, HOK.out, HE.out.cur, HE.out.gr⟩
    · have cP : Calls Tryz.prog 51 #[.pointer (some ⟨g, 0, none⟩), .slice (some ⟨w6.heap.size, 0, none⟩) 2 2] (w6.alloc (.cells #[.int .i64 (-1), .int .i64 1] 3)) fun e w' => ∃ z, z ∈ [(-1 : Int), 1] ∧ e = .returned (.int .i64 z) ∧ Cur ac len cap w' g ∧ w6.grownBy w' (some g) := l01PickInt_new ac len cap g 2 [-1, 1] 3 w6 H6.out.cur rfl (by omega) (by omega)
      go_upto_region 20 with (go_at_call 51; (with_reducible refine cP.mono ?_); rintro e w7 ⟨y, hy, rfl, hc7, g7⟩; have H7 := H6.out.grown hc7 g7; obtain ⟨_, p7, hb7, ok7⟩ := H7.box C (by simp); obtain ⟨v0, v1, v2, v3⟩ := four_cells hb7; have fv := fun j => frozen_of_row w7 C j _ _ hb7)
      have HZ : Hid (BXS ac len cap g [C, R] w (w7.setCell ⟨C, 3, none⟩ (.int .i64 y))) := H7.put (by simp) hb7 rfl (valL_ref (n := y) ok7 (by simp at hy; omega))
      clear v0 v1 v2 v3 fv hb7 H7 hc7 g7 cP H6
      obtain ⟨WZ, hWZ⟩ : ∃ W, w7.setCell ⟨C, 3, none⟩ (.int .i64 y) = W := ⟨_, rfl⟩
      rw [hWZ] at HZ
      simp only [hWZ]
      clear hWZ
      obtain ⟨_, p8, hb8, ok8⟩ := HZ.out.box C (by simp)
      obtain ⟨_, r8, hr8, _⟩ := HZ.out.box R (by simp)
      obtain ⟨s0, s1, s2, s3⟩ := four_cells hb8
      obtain ⟨r0, r1, r2, r3⟩ := four_cells hr8
      have fr := fun j => frozen_of_row WZ R j _ _ hr8
      obtain ⟨k0, k1, k2, k3⟩ := four_cells (four_put (b0 := .int .i64 p8.kind) (b1 := .int .u64 (p8.num : Int)) (b2 := .string p8.text) (b3 := .int .i64 p8.ref) hr8)
      have HE : Hid _ := HZ.out.put4 (C := R) (by simp) p8 ok8
      have HOK : Hid (valL p8) := ok8
      clear hb8 hr8 ok8 HZ HL HCC
      go_wp2
      refine bodyPost_ret (by simp [results, Tryz.results47, go_sem, k0, k1, k2, k3]; try rfl) rfl ?_
      exact ⟨p8, rfl, HOK.out, HE.out.cur, HE.out.gr⟩
    · go_upto_region 20 with fail
      have HZ : Hid (BXS ac len cap g [C, R] w w6) := H6
      clear H6
      obtain ⟨WZ, hWZ⟩ : ∃ W, w6 = W := ⟨_, rfl⟩
      rw [hWZ] at HZ
      simp only [hWZ]
      clear hWZ
      obtain ⟨_, p8, hb8, ok8⟩ := HZ.out.box C (by simp)
      obtain ⟨_, r8, hr8, _⟩ := HZ.out.box R (by simp)
      obtain ⟨s0, s1, s2, s3⟩ := four_cells hb8
      obtain ⟨r0, r1, r2, r3⟩ := four_cells hr8
      have fr := fun j => frozen_of_row WZ R j _ _ hr8
      obtain ⟨k0, k1, k2, k3⟩ := four_cells (four_put (b0 := .int .i64 p8.kind) (b1 := .int .u64 (p8.num : Int)) (b2 := .string p8.text) (b3 := .int .i64 p8.ref) hr8)
      have HE : Hid _ := HZ.out.put4 (C := R) (by simp) p8 ok8
      have HOK : Hid (valL p8) := ok8
      clear hb8 hr8 ok8 HZ HL HCC
      go_wp2
      refine bodyPost_ret (by simp [results, Tryz.results47, go_sem, k0, k1, k2, k3]; try rfl) rfl ?_
      exact ⟨p8, rfl, HOK.out, HE.out.cur, HE.out.gr⟩
  · have cB2 := cB 201 W2 HX.out.cur (by omega) (by omega)
    rw [show ((201 : Nat) : Int) = 201 from rfl] at cB2
    have cP := fun (W : World) (hW : BXS ac len cap g [C, R] w W) (s : ByteArray) (hs : s.size ≤ 1000) => pick5 ac len cap g W hW.cur s hs
    go_upto_region 11 with (first
      | (go_at_call 48; (with_reducible refine cB2.mono ?_); rintro e w3 ⟨x, hx3, rfl, hc3, g3⟩; have H3 := HX.out.grown hc3 g3)
      | (go_at_call 65; (with_reducible refine (cL x w3 (by omega)).mono ?_); rintro e w4 ⟨t4, ht4, rfl, b4⟩; have H4 := H3.below b4)
      | (go_at_call 64; (with_reducible refine (cP w4 H4 t4 (by omega)).mono ?_); rintro e w5 ⟨x5, hx5, rfl, hc5, g5⟩; have H5 := H4.grown hc5 g5; obtain ⟨_, p5, hb5, ok5⟩ := H5.box C (by simp); obtain ⟨y0, y1, y2, y3⟩ := four_cells hb5; have fy := fun j => frozen_of_row w5 C j _ _ hb5))
    have HY : Hid (BXS ac len cap g [C, R] w (w5.setCell ⟨C, 2, none⟩ (.string x5))) := H5.put (by simp) hb5 rfl (valL_text ok5 hx5)
    obtain ⟨WX, hWX⟩ : ∃ W, w5.setCell ⟨C, 2, none⟩ (.string x5) = W := ⟨_, rfl⟩
    rw [hWX] at HY
    simp only [hWX]
    clear hWX HX x0 x1 x2 x3 fzx y0 y1 y2 y3 fy hb5 H5 hc5 g5 cB2 H3 H4 b4 hc3 g3 cP
    have cB40 := cB 40 WX HY.out.cur (by omega) (by omega)
    rw [show ((40 : Nat) : Int) = 40 from rfl] at cB40
    go_upto_region 12 with (go_at_call 48; (with_reducible refine cB40.mono ?_); rintro e w6 ⟨z, hz6, rfl, hc6, g6⟩)
    have H6 : Hid (BXS ac len cap g [C, R] w w6) := HY.out.grown hc6 g6
    have hz5 : z = 0 ∨ z = 1 ∨ z = 2 ∨ z = 3 ∨ (¬ (z : Int) = 0 ∧ ¬ (z : Int) = 1 ∧ ¬ (z : Int) = 2 ∧ ¬ (z : Int) = 3) := by omega
    clear HY cB40 hc6 g6
    rcases hz5 with rfl | rfl | rfl | rfl | ⟨z0, z1, z2, z3⟩
    · have cP : Calls Tryz.prog 51 #[.pointer (some ⟨g, 0, none⟩), .slice (some ⟨w6.heap.size, 0, none⟩) 4 4] (w6.alloc (.cells #[.int .i64 (-1), .int .i64 5, .int .i64 1, .int .i64 3] 3)) fun e w' => ∃ z, z ∈ [(-1 : Int), 5, 1, 3] ∧ e = .returned (.int .i64 z) ∧ Cur ac len cap w' g ∧ w6.grownBy w' (some g) := l01PickInt_new ac len cap g 4 [-1, 5, 1, 3] 3 w6 H6.out.cur rfl (by omega) (by omega)
      go_upto_region 20 with (go_at_call 51; (with_reducible refine cP.mono ?_); rintro e w7 ⟨y, hy, rfl, hc7, g7⟩; have H7 := H6.out.grown hc7 g7; obtain ⟨_, p7, hb7, ok7⟩ := H7.box C (by simp); obtain ⟨v0, v1, v2, v3⟩ := four_cells hb7; have fv := fun j => frozen_of_row w7 C j _ _ hb7)
      have HZ : Hid (BXS ac len cap g [C, R] w (w7.setCell ⟨C, 0, none⟩ (.int .i64 y))) := H7.put (by simp) hb7 rfl (valL_kind (n := y) ok7 (by simp at hy; omega))
      clear v0 v1 v2 v3 fv hb7 H7 hc7 g7 cP H6
      obtain ⟨WZ, hWZ⟩ : ∃ W, w7.setCell ⟨C, 0, none⟩ (.int .i64 y) = W := ⟨_, rfl⟩
      rw [hWZ] at HZ
      simp only [hWZ]
      clear hWZ
      obtain ⟨_, p8, hb8, ok8⟩ := HZ.out.box C (by simp)
      obtain ⟨_, r8, hr8, _⟩ := HZ.out.box R (by simp)
      obtain ⟨s0, s1, s2, s3⟩ := four_cells hb8
      obtain ⟨r0, r1, r2, r3⟩ := four_cells hr8
      have fr := fun j => frozen_of_row WZ R j _ _ hr8
      obtain ⟨k0, k1, k2, k3⟩ := four_cells (four_put (b0 := .int .i64 p8.kind) (b1 := .int .u64 (p8.num : Int)) (b2 := .string p8.text) (b3 := .int .i64 p8.ref) hr8)
      have HE : Hid _ := HZ.out.put4 (C := R) (by simp) p8 ok8
      have HOK : Hid (valL p8) := ok8
      clear hb8 hr8 ok8 HZ HL HCC
      go_wp2
      refine bodyPost_ret (by simp [results, Tryz.results47, go_sem, k0, k1, k2, k3]; try rfl) rfl ?_
      exact ⟨p8, rfl, HOK.out, HE.out.cur, HE.out.gr⟩
    · obtain ⟨_, p7, hb7, ok7⟩ := H6.out.box C (by simp); obtain ⟨v0, v1, v2, v3⟩ := four_cells hb7; have fv := fun j => frozen_of_row w6 C j _ _ hb7
      go_upto_region 20 with fail
      have HZ : Hid (BXS ac len cap g [C, R] w (w6.setCell ⟨C, 1, none⟩ (.int .u64 2))) := H6.out.put (by simp) hb7 rfl (valL_num (n := 2) ok7 (by omega))
      clear v0 v1 v2 v3 fv hb7 H6
      obtain ⟨WZ, hWZ⟩ : ∃ W, w6.setCell ⟨C, 1, none⟩ (.int .u64 2) = W := ⟨_, rfl⟩
      rw [hWZ] at HZ
      simp only [hWZ]
      clear hWZ
      obtain ⟨_, p8, hb8, ok8⟩ := HZ.out.box C (by simp)
      obtain ⟨_, r8, hr8, _⟩ := HZ.out.box R (by simp)
      obtain ⟨s0, s1, s2, s3⟩ := four_cells hb8
      obtain ⟨r0, r1, r2, r3⟩ := four_cells hr8
      have fr := fun j => frozen_of_row WZ R j _ _ hr8
      obtain ⟨k0, k1, k2, k3⟩ := four_cells (four_put (b0 := .int .i64 p8.kind) (b1 := .int .u64 (p8.num : Int)) (b2 := .string p8.text) (b3 := .int .i64 p8.ref) hr8)
      have HE : Hid _ := HZ.out.put4 (C := R) (by simp) p8 ok8
      have HOK : Hid (valL p8) := ok8
      clear hb8 hr8 ok8 HZ HL HCC
      go_wp2
      refine bodyPost_ret (by simp [results, Tryz.results47, go_sem, k0, k1, k2, k3]; try rfl) rfl ?_
      exact ⟨p8, rfl, HOK.out, HE.out.cur, HE.out.gr⟩
    · have cB2 := cB 2 w6 H6.out.cur (by omega) (by omega)
      rw [show ((2 : Nat) : Int) = 2 from rfl] at cB2
      go_upto_region 20 with (first
        | (go_at_call 48; (with_reducible refine cB2.mono ?_); rintro e w8 ⟨y, hy8, rfl, hc8, g8⟩; have H8 := H6.out.grown hc8 g8; have hyw : IntKind.i64.wrap (200 + (y : Int)) = 200 + (y : Int) := by rw [IntKind.wrap_i64]; omega)
        | (go_at_call 65; (with_reducible refine (l01Long_at (200 + y) (show (200 : Int) + (y : Int) = ((200 + y : Nat) : Int) by omega) 97 w8 (by omega)).mono ?_); rintro e w7 ⟨t4, ht4, rfl, b4⟩; have H7 := H8.below b4; obtain ⟨_, p7, hb7, ok7⟩ := H7.box C (by simp); obtain ⟨v0, v1, v2, v3⟩ := four_cells hb7; have fv := fun j => frozen_of_row w7 C j _ _ hb7))
      have HZ : Hid (BXS ac len cap g [C, R] w (w7.setCell ⟨C, 2, none⟩ (.string t4))) := H7.put (by simp) hb7 rfl (valL_text (s := t4) ok7 (by omega))
      clear v0 v1 v2 v3 fv hb7 H7 H8 hc8 g8 b4 cB2 H6
      obtain ⟨WZ, hWZ⟩ : ∃ W, w7.setCell ⟨C, 2, none⟩ (.string t4) = W := ⟨_, rfl⟩
      rw [hWZ] at HZ
      simp only [hWZ]
      clear hWZ
      obtain ⟨_, p8, hb8, ok8⟩ := HZ.out.box C (by simp)
      obtain ⟨_, r8, hr8, _⟩ := HZ.out.box R (by simp)
      obtain ⟨s0, s1, s2, s3⟩ := four_cells hb8
      obtain ⟨r0, r1, r2, r3⟩ := four_cells hr8
      have fr := fun j => frozen_of_row WZ R j _ _ hr8
      obtain ⟨k0, k1, k2, k3⟩ := four_cells (four_put (b0 := .int .i64 p8.kind) (b1 := .int .u64 (p8.num : Int)) (b2 := .string p8.text) (b3 := .int .i64 p8.ref) hr8)
      have HE : Hid _ := HZ.out.put4 (C := R) (by simp) p8 ok8
      have HOK : Hid (valL p8) := ok8
      clear hb8 hr8 ok8 HZ HL HCC
      go_wp2
      refine bodyPost_ret (by simp [results, Tryz.results47, go_sem, k0, k1, k2, k3]; try rfl) rfl ?_
      exact ⟨p8, rfl, HOK.out, HE.out.cur, HE.out.gr⟩
    · have cP : Calls Tryz.prog 51 #[.pointer (some ⟨g, 0, none⟩), .slice (some ⟨w6.heap.size, 0, none⟩) 2 2] (w6.alloc (.cells #[.int .i64 (-1), .int .i64 1] 3)) fun e w' => ∃ z, z ∈ [(-1 : Int), 1] ∧ e = .returned (.int .i64 z) ∧ Cur ac len cap w' g ∧ w6.grownBy w' (some g) := l01PickInt_new ac len cap g 2 [-1, 1] 3 w6 H6.out.cur rfl (by omega) (by omega)
      go_upto_region 20 with (go_at_call 51; (with_reducible refine cP.mono ?_); rintro e w7 ⟨y, hy, rfl, hc7, g7⟩; have H7 := H6.out.grown hc7 g7; obtain ⟨_, p7, hb7, ok7⟩ := H7.box C (by simp); obtain ⟨v0, v1, v2, v3⟩ := four_cells hb7; have fv := fun j => frozen_of_row w7 C j _ _ hb7)
      have HZ : Hid (BXS ac len cap g [C, R] w (w7.setCell ⟨C, 3, none⟩ (.int .i64 y))) := H7.put (by simp) hb7 rfl (valL_ref (n := y) ok7 (by simp at hy; omega))
      clear v0 v1 v2 v3 fv hb7 H7 hc7 g7 cP H6
      obtain ⟨WZ, hWZ⟩ : ∃ W, w7.setCell ⟨C, 3, none⟩ (.int .i64 y) = W := ⟨_, rfl⟩
      rw [hWZ] at HZ
      simp only [hWZ]
      clear hWZ
      obtain ⟨_, p8, hb8, ok8⟩ := HZ.out.box C (by simp)
      obtain ⟨_, r8, hr8, _⟩ := HZ.out.box R (by simp)
      obtain ⟨s0, s1, s2, s3⟩ := four_cells hb8
      obtain ⟨r0, r1, r2, r3⟩ := four_cells hr8
      have fr := fun j => frozen_of_row WZ R j _ _ hr8
      obtain ⟨k0, k1, k2, k3⟩ := four_cells (four_put (b0 := .int .i64 p8.kind) (b1 := .int .u64 (p8.num : Int)) (b2 := .string p8.text) (b3 := .int .i64 p8.ref) hr8)
      have HE : Hid _ := HZ.out.put4 (C := R) (by simp) p8 ok8
      have HOK : Hid (valL p8) := ok8
      clear hb8 hr8 ok8 HZ HL HCC
      go_wp2
      refine bodyPost_ret (by simp [results, Tryz.results47, go_sem, k0, k1, k2, k3]; try rfl) rfl ?_
      exact ⟨p8, rfl, HOK.out, HE.out.cur, HE.out.gr⟩
    · go_upto_region 20 with fail
      have HZ : Hid (BXS ac len cap g [C, R] w w6) := H6
      clear H6
      obtain ⟨WZ, hWZ⟩ : ∃ W, w6 = W := ⟨_, rfl⟩
      rw [hWZ] at HZ
      simp only [hWZ]
      clear hWZ
      obtain ⟨_, p8, hb8, ok8⟩ := HZ.out.box C (by simp)
      obtain ⟨_, r8, hr8, _⟩ := HZ.out.box R (by simp)
      obtain ⟨s0, s1, s2, s3⟩ := four_cells hb8
      obtain ⟨r0, r1, r2, r3⟩ := four_cells hr8
      have fr := fun j => frozen_of_row WZ R j _ _ hr8
      obtain ⟨k0, k1, k2, k3⟩ := four_cells (four_put (b0 := .int .i64 p8.kind) (b1 := .int .u64 (p8.num : Int)) (b2 := .string p8.text) (b3 := .int .i64 p8.ref) hr8)
      have HE : Hid _ := HZ.out.put4 (C := R) (by simp) p8 ok8
      have HOK : Hid (valL p8) := ok8
      clear hb8 hr8 ok8 HZ HL HCC
      go_wp2
      refine bodyPost_ret (by simp [results, Tryz.results47, go_sem, k0, k1, k2, k3]; try rfl) rfl ?_
      exact ⟨p8, rfl, HOK.out, HE.out.cur, HE.out.gr⟩
  · have cB2 := cB 3 W2 HX.out.cur (by omega) (by omega)
    rw [show ((3 : Nat) : Int) = 3 from rfl] at cB2
    go_upto_region 11 with (go_at_call 48; (with_reducible refine cB2.mono ?_); rintro e w3 ⟨x, hx3, rfl, hc3, g3⟩; have H3 := HX.out.grown hc3 g3; obtain ⟨_, p3, hb3, ok3⟩ := H3.box C (by simp); obtain ⟨y0, y1, y2, y3⟩ := four_cells hb3; have fy := fun j => frozen_of_row w3 C j _ _ hb3)
    have HY : Hid (BXS ac len cap g [C, R] w (w3.setCell ⟨C, 3, none⟩ (.int .i64 (x : Int)))) := H3.put (by simp) hb3 rfl (valL_ref (n := (x : Int)) ok3 (by omega))
    obtain ⟨WX, hWX⟩ : ∃ W, w3.setCell ⟨C, 3, none⟩ (.int .i64 (x : Int)) = W := ⟨_, rfl⟩
    rw [hWX] at HY
    simp only [hWX]
    clear hWX HX x0 x1 x2 x3 fzx y0 y1 y2 y3 fy hb3 H3 hc3 g3 cB2
    have cB40 := cB 40 WX HY.out.cur (by omega) (by omega)
    rw [show ((40 : Nat) : Int) = 40 from rfl] at cB40
    go_upto_region 12 with (go_at_call 48; (with_reducible refine cB40.mono ?_); rintro e w6 ⟨z, hz6, rfl, hc6, g6⟩)
    have H6 : Hid (BXS ac len cap g [C, R] w w6) := HY.out.grown hc6 g6
    have hz5 : z = 0 ∨ z = 1 ∨ z = 2 ∨ z = 3 ∨ (¬ (z : Int) = 0 ∧ ¬ (z : Int) = 1 ∧ ¬ (z : Int) = 2 ∧ ¬ (z : Int) = 3) := by omega
    clear HY cB40 hc6 g6
    rcases hz5 with rfl | rfl | rfl | rfl | ⟨z0, z1, z2, z3⟩
    · have cP : Calls Tryz.prog 51 #[.pointer (some ⟨g, 0, none⟩), .slice (some ⟨w6.heap.size, 0, none⟩) 4 4] (w6.alloc (.cells #[.int .i64 (-1), .int .i64 5, .int .i64 1, .int .i64 3] 3)) fun e w' => ∃ z, z ∈ [(-1 : Int), 5, 1, 3] ∧ e = .returned (.int .i64 z) ∧ Cur ac len cap w' g ∧ w6.grownBy w' (some g) := l01PickInt_new ac len cap g 4 [-1, 5, 1, 3] 3 w6 H6.out.cur rfl (by omega) (by omega)
      go_upto_region 20 with (go_at_call 51; (with_reducible refine cP.mono ?_); rintro e w7 ⟨y, hy, rfl, hc7, g7⟩; have H7 := H6.out.grown hc7 g7; obtain ⟨_, p7, hb7, ok7⟩ := H7.box C (by simp); obtain ⟨v0, v1, v2, v3⟩ := four_cells hb7; have fv := fun j => frozen_of_row w7 C j _ _ hb7)
      have HZ : Hid (BXS ac len cap g [C, R] w (w7.setCell ⟨C, 0, none⟩ (.int .i64 y))) := H7.put (by simp) hb7 rfl (valL_kind (n := y) ok7 (by simp at hy; omega))
      clear v0 v1 v2 v3 fv hb7 H7 hc7 g7 cP H6
      obtain ⟨WZ, hWZ⟩ : ∃ W, w7.setCell ⟨C, 0, none⟩ (.int .i64 y) = W := ⟨_, rfl⟩
      rw [hWZ] at HZ
      simp only [hWZ]
      clear hWZ
      obtain ⟨_, p8, hb8, ok8⟩ := HZ.out.box C (by simp)
      obtain ⟨_, r8, hr8, _⟩ := HZ.out.box R (by simp)
      obtain ⟨s0, s1, s2, s3⟩ := four_cells hb8
      obtain ⟨r0, r1, r2, r3⟩ := four_cells hr8
      have fr := fun j => frozen_of_row WZ R j _ _ hr8
      obtain ⟨k0, k1, k2, k3⟩ := four_cells (four_put (b0 := .int .i64 p8.kind) (b1 := .int .u64 (p8.num : Int)) (b2 := .string p8.text) (b3 := .int .i64 p8.ref) hr8)
      have HE : Hid _ := HZ.out.put4 (C := R) (by simp) p8 ok8
      have HOK : Hid (valL p8) := ok8
      clear hb8 hr8 ok8 HZ HL HCC
      go_wp2
      refine bodyPost_ret (by simp [results, Tryz.results47, go_sem, k0, k1, k2, k3]; try rfl) rfl ?_
      exact ⟨p8, rfl, HOK.out, HE.out.cur, HE.out.gr⟩
    · obtain ⟨_, p7, hb7, ok7⟩ := H6.out.box C (by simp); obtain ⟨v0, v1, v2, v3⟩ := four_cells hb7; have fv := fun j => frozen_of_row w6 C j _ _ hb7
      go_upto_region 20 with fail
      have HZ : Hid (BXS ac len cap g [C, R] w (w6.setCell ⟨C, 1, none⟩ (.int .u64 2))) := H6.out.put (by simp) hb7 rfl (valL_num (n := 2) ok7 (by omega))
      clear v0 v1 v2 v3 fv hb7 H6
      obtain ⟨WZ, hWZ⟩ : ∃ W, w6.setCell ⟨C, 1, none⟩ (.int .u64 2) = W := ⟨_, rfl⟩
      rw [hWZ] at HZ
      simp only [hWZ]
      clear hWZ
      obtain ⟨_, p8, hb8, ok8⟩ := HZ.out.box C (by simp)
      obtain ⟨_, r8, hr8, _⟩ := HZ.out.box R (by simp)
      obtain ⟨s0, s1, s2, s3⟩ := four_cells hb8
      obtain ⟨r0, r1, r2, r3⟩ := four_cells hr8
      have fr := fun j => frozen_of_row WZ R j _ _ hr8
      obtain ⟨k0, k1, k2, k3⟩ := four_cells (four_put (b0 := .int .i64 p8.kind) (b1 := .int .u64 (p8.num : Int)) (b2 := .string p8.text) (b3 := .int .i64 p8.ref) hr8)
      have HE : Hid _ := HZ.out.put4 (C := R) (by simp) p8 ok8
      have HOK : Hid (valL p8) := ok8
      clear hb8 hr8 ok8 HZ HL HCC
      go_wp2
      refine bodyPost_ret (by simp [results, Tryz.results47, go_sem, k0, k1, k2, k3]; try rfl) rfl ?_
      exact ⟨p8, rfl, HOK.out, HE.out.cur, HE.out.gr⟩
    · have cB2 := cB 2 w6 H6.out.cur (by omega) (by omega)
      rw [show ((2 : Nat) : Int) = 2 from rfl] at cB2
      go_upto_region 20 with (first
        | (go_at_call 48; (with_reducible refine cB2.mono ?_); rintro e w8 ⟨y, hy8, rfl, hc8, g8⟩; have H8 := H6.out.grown hc8 g8; have hyw : IntKind.i64.wrap (200 + (y : Int)) = 200 + (y : Int) := by rw [IntKind.wrap_i64]; omega)
        | (go_at_call 65; (with_reducible refine (l01Long_at (200 + y) (show (200 : Int) + (y : Int) = ((200 + y : Nat) : Int) by omega) 97 w8 (by omega)).mono ?_); rintro e w7 ⟨t4, ht4, rfl, b4⟩; have H7 := H8.below b4; obtain ⟨_, p7, hb7, ok7⟩ := H7.box C (by simp); obtain ⟨v0, v1, v2, v3⟩ := four_cells hb7; have fv := fun j => frozen_of_row w7 C j _ _ hb7))
      have HZ : Hid (BXS ac len cap g [C, R] w (w7.setCell ⟨C, 2, none⟩ (.string t4))) := H7.put (by simp) hb7 rfl (valL_text (s := t4) ok7 (by omega))
      clear v0 v1 v2 v3 fv hb7 H7 H8 hc8 g8 b4 cB2 H6
      obtain ⟨WZ, hWZ⟩ : ∃ W, w7.setCell ⟨C, 2, none⟩ (.string t4) = W := ⟨_, rfl⟩
      rw [hWZ] at HZ
      simp only [hWZ]
      clear hWZ
      obtain ⟨_, p8, hb8, ok8⟩ := HZ.out.box C (by simp)
      obtain ⟨_, r8, hr8, _⟩ := HZ.out.box R (by simp)
      obtain ⟨s0, s1, s2, s3⟩ := four_cells hb8
      obtain ⟨r0, r1, r2, r3⟩ := four_cells hr8
      have fr := fun j => frozen_of_row WZ R j _ _ hr8
      obtain ⟨k0, k1, k2, k3⟩ := four_cells (four_put (b0 := .int .i64 p8.kind) (b1 := .int .u64 (p8.num : Int)) (b2 := .string p8.text) (b3 := .int .i64 p8.ref) hr8)
      have HE : Hid _ := HZ.out.put4 (C := R) (by simp) p8 ok8
      have HOK : Hid (valL p8) := ok8
      clear hb8 hr8 ok8 HZ HL HCC
      go_wp2
      refine bodyPost_ret (by simp [results, Tryz.results47, go_sem, k0, k1, k2, k3]; try rfl) rfl ?_
      exact ⟨p8, rfl, HOK.out, HE.out.cur, HE.out.gr⟩
    · have cP : Calls Tryz.prog 51 #[.pointer (some ⟨g, 0, none⟩), .slice (some ⟨w6.heap.size, 0, none⟩) 2 2] (w6.alloc (.cells #[.int .i64 (-1), .int .i64 1] 3)) fun e w' => ∃ z, z ∈ [(-1 : Int), 1] ∧ e = .returned (.int .i64 z) ∧ Cur ac len cap w' g ∧ w6.grownBy w' (some g) := l01PickInt_new ac len cap g 2 [-1, 1] 3 w6 H6.out.cur rfl (by omega) (by omega)
      go_upto_region 20 with (go_at_call 51; (with_reducible refine cP.mono ?_); rintro e w7 ⟨y, hy, rfl, hc7, g7⟩; have H7 := H6.out.grown hc7 g7; obtain ⟨_, p7, hb7, ok7⟩ := H7.box C (by simp); obtain ⟨v0, v1, v2, v3⟩ := four_cells hb7; have fv := fun j => frozen_of_row w7 C j _ _ hb7)
      have HZ : Hid (BXS ac len cap g [C, R] w (w7.setCell ⟨C, 3, none⟩ (.int .i64 y))) := H7.put (by simp) hb7 rfl (valL_ref (n := y) ok7 (by simp at hy; omega))
      clear v0 v1 v2 v3 fv hb7 H7 hc7 g7 cP H6
      obtain ⟨WZ, hWZ⟩ : ∃ W, w7.setCell ⟨C, 3, none⟩ (.int .i64 y) = W := ⟨_, rfl⟩
      rw [hWZ] at HZ
      simp only [hWZ]
      clear hWZ
      obtain ⟨_, p8, hb8, ok8⟩ := HZ.out.box C (by simp)
      obtain ⟨_, r8, hr8, _⟩ := HZ.out.box R (by simp)
      obtain ⟨s0, s1, s2, s3⟩ := four_cells hb8
      obtain ⟨r0, r1, r2, r3⟩ := four_cells hr8
      have fr := fun j => frozen_of_row WZ R j _ _ hr8
      obtain ⟨k0, k1, k2, k3⟩ := four_cells (four_put (b0 := .int .i64 p8.kind) (b1 := .int .u64 (p8.num : Int)) (b2 := .string p8.text) (b3 := .int .i64 p8.ref) hr8)
      have HE : Hid _ := HZ.out.put4 (C := R) (by simp) p8 ok8
      have HOK : Hid (valL p8) := ok8
      clear hb8 hr8 ok8 HZ HL HCC
      go_wp2
      refine bodyPost_ret (by simp [results, Tryz.results47, go_sem, k0, k1, k2, k3]; try rfl) rfl ?_
      exact ⟨p8, rfl, HOK.out, HE.out.cur, HE.out.gr⟩
    · go_upto_region 20 with fail
      have HZ : Hid (BXS ac len cap g [C, R] w w6) := H6
      clear H6
      obtain ⟨WZ, hWZ⟩ : ∃ W, w6 = W := ⟨_, rfl⟩
      rw [hWZ] at HZ
      simp only [hWZ]
      clear hWZ
      obtain ⟨_, p8, hb8, ok8⟩ := HZ.out.box C (by simp)
      obtain ⟨_, r8, hr8, _⟩ := HZ.out.box R (by simp)
      obtain ⟨s0, s1, s2, s3⟩ := four_cells hb8
      obtain ⟨r0, r1, r2, r3⟩ := four_cells hr8
      have fr := fun j => frozen_of_row WZ R j _ _ hr8
      obtain ⟨k0, k1, k2, k3⟩ := four_cells (four_put (b0 := .int .i64 p8.kind) (b1 := .int .u64 (p8.num : Int)) (b2 := .string p8.text) (b3 := .int .i64 p8.ref) hr8)
      have HE : Hid _ := HZ.out.put4 (C := R) (by simp) p8 ok8
      have HOK : Hid (valL p8) := ok8
      clear hb8 hr8 ok8 HZ HL HCC
      go_wp2
      refine bodyPost_ret (by simp [results, Tryz.results47, go_sem, k0, k1, k2, k3]; try rfl) rfl ?_
      exact ⟨p8, rfl, HOK.out, HE.out.cur, HE.out.gr⟩
end Go.Proofs.YtcdbifcidaafnaaGreatDoor
