/-
  The draws of chapter 1: that they return, and of what kind.
-/
import Derived.Test.YtlplljgcgohonaaCur
import Derived.Test.YtlplljgcgohonaaInfo
import Derived.OpenShut
namespace Go.Proofs.Ytlplljgcgohonaa
open Go.RowKit
set_option linter.unusedVariables false

set_option maxHeartbeats 400000 in
set_option maxRecDepth 100000 in
theorem l01PickInt_any (ac : Option Addr) (len cap g gl c : Nat) (zs : List Int) (w : World) (hC : Cur ac len cap w g) (hgl : gl ≠ g) (h0 : 0 < zs.length) (hn : zs.length ≤ 1000) (hz : ∀ j, j < zs.length → w.cell? ⟨gl, j, none⟩ = some (.int .i64 (zs.getD j 0))) :
    Calls Try.prog 74 #[.pointer (some ⟨g, 0, none⟩), .slice (some ⟨gl, 0, none⟩) zs.length c] w fun e w' => ∃ z, z ∈ zs ∧ e = .returned (.int .i64 z) ∧ Cur ac len cap w' g ∧ w.grownBy w' (some g) := by
  go_enter Try.func74, Try.ntmps74
  go_wp2_with fail
  refine (l01Below_nat ac len cap g zs.length _ hC h0 (by omega)).mono ?_
  rintro e w1 ⟨x, hx, rfl, hC1, gr1⟩
  have hc : w1.cell? ⟨gl, x, none⟩ = some (.int .i64 (zs.getD x 0)) := gr1.cell (hz x hx) (by simpa using hgl)
  have hxi : (x : Int) < (zs.length : Int) := by omega
  have hx0 : (0 : Int) ≤ (x : Int) := by omega
  clear hz
  go_wp2
  go_ret
  exact ⟨zs[x], List.getElem_mem hx, rfl, hC1, gr1⟩

theorem cur_alloc {ac : Option Addr} {len cap g : Nat} {w : World} (h : Cur ac len cap w g) (o : Obj) : Cur ac len cap (w.alloc o) g := by
  obtain ⟨h1, h2, i, hh, h3, h4⟩ := h
  exact ⟨codeIn_kept h1 (World.grownBy_alloc _ _ _), by simp; omega, i, hh, h3, by rw [Below.heap_alloc w o g h2]; exact h4⟩

theorem gr_below {w w1 w2 : World} {row : Option Nat} (gr : w.grownBy w1 row) (b : Below w.heap.size w1 w2) : w.grownBy w2 row :=
  ⟨b.os.trans gr.os, b.tape.trans gr.tape, b.output.trans gr.output, Nat.le_trans gr.size b.size, fun k hk hr => (b.block k hk).trans (gr.block k hk hr)⟩
theorem cur_below {ac : Option Addr} {len cap g : Nat} {w w1 w2 : World} (h : Cur ac len cap w g) (h1 : Cur ac len cap w1 g) (b : Below w.heap.size w1 w2) : Cur ac len cap w2 g := by
  obtain ⟨⟨hc1, hc2⟩, hlt, _⟩ := h
  obtain ⟨⟨hd1, hd2⟩, hlt1, i, hh, h3, h4⟩ := h1
  refine ⟨⟨hd1, fun hp => ?_⟩, Nat.lt_of_lt_of_le hlt1 b.size, i, hh, h3, by rw [b.block g hlt]; exact h4⟩
  obtain ⟨x, off, e, hx, hxl, _⟩ := hc2 hp
  obtain ⟨y, off', e', hy, hyl, hc⟩ := hd2 hp
  rw [e] at e'
  injection e' with e1
  injection e1 with e2 e3
  subst e2
  subst e3
  exact ⟨x, off, e, hx, Nat.lt_of_lt_of_le hyl b.size, fun j hj => by obtain ⟨z, hz, hcz⟩ := hc j hj; exact ⟨z, hz, (b.cell hxl).trans hcz⟩⟩

theorem l01PickInt_new (ac : Option Addr) (len cap g n : Nat) (zs : List Int) (t : TypeId) (w : World) (hC : Cur ac len cap w g) (hl : zs.length = n) (h0 : 0 < n) (hn : n ≤ 1000) :
    Calls Try.prog 74 #[.pointer (some ⟨g, 0, none⟩), .slice (some ⟨w.heap.size, 0, none⟩) n n] (w.alloc (.cells (zs.map (Value.int .i64)).toArray t)) fun e w' => ∃ z, z ∈ zs ∧ e = .returned (.int .i64 z) ∧ Cur ac len cap w' g ∧ w.grownBy w' (some g) := by
  subst hl
  have hg := hC.2.1
  refine (l01PickInt_any ac len cap g w.heap.size _ zs _ (cur_alloc hC _) (by omega) h0 hn (fun j hj => ?_)).mono fun e w' ⟨z, hz, he, hc, gr⟩ => ⟨z, hz, he, hc, (World.grownBy_alloc _ _ _).trans gr⟩
  have h := heap_alloc_new w (.cells (zs.map (Value.int .i64)).toArray t)
  unfold World.cell?
  simp only [h]
  simp [List.getElem?_eq_getElem hj]

def drawnNumbers : List Int := [-1, 0, 127, 128, 16383, 16384, 1000000000, 1000000001, 9223372036854775807, -9223372036854775808]

theorem own_thawed {w : World} {B : Nat} {e : TypeId} {g n c : Nat} {xs : List Value} (h : w.ownsRow B e 1 (.slice (some ⟨g, 0, none⟩) n c) n xs) (j : Nat) : w.frozen? ⟨g, j, none⟩ = false := by
  rcases h.2 with ⟨h', _⟩ | ⟨g', cap', cur, h', hb, hg, _⟩
  · simp at h'
  · simp only [Value.slice.injEq, Option.some.injEq, Addr.mk.injEq, and_true, true_and] at h'
    obtain ⟨rfl, rfl⟩ := h'
    unfold World.frozen?
    simp only [hg]
    simp

theorem codeIn_of {w : World} {a : Option Addr} {len cap : Nat} {zs : List Int} (h : (a = none ∧ len = 0 ∧ cap = 0 ∧ zs = []) ∨ ∃ x, a = some x ∧ len ≤ cap ∧ cap ≤ maxLen ∧ zs.length = cap ∧ (∀ i, i < zs.length → w.cell? (x.add i) = some (.int .u8 (zs.getD i 0))) ∧ ∀ n ∈ zs, (Lit.int .u8 n).wf = true) (hl : len ≤ 1048576) : CodeIn w a len w.heap.size := by
  refine ⟨hl, fun hp => ?_⟩
  rcases h with ⟨_, h0, _⟩ | ⟨⟨b, off, spot⟩, rfl, hlc, _, hz, hc, hw⟩
  · omega
  · have h0 := hc 0 (by omega)
    have hs : spot = none := by simpa [Addr.add] using World.cell?_spot h0
    subst hs
    have hp0 : ∀ j, (⟨b, off, none⟩ : Addr).add j = ⟨b, off + j, none⟩ := fun j => by unfold Addr.add; split <;> simp_all
    have hlt : b < w.heap.size := by
      have := World.block_lt_of_cell? w _ h0
      rw [hp0] at this
      exact this
    refine ⟨b, off, rfl, by omega, hlt, fun j hj => ?_⟩
    have hj2 : j < zs.length := by omega
    have hcj := hc j hj2
    rw [hp0, List.getD_eq_getElem?_getD, List.getElem?_eq_getElem hj2] at hcj
    have hwj := hw _ (List.getElem_mem hj2)
    have hb : 0 ≤ zs[j] ∧ zs[j] ≤ 255 := bounds_u8 hwj
    refine ⟨zs[j].toNat, by omega, ?_⟩
    rw [hcj]
    simp only [Option.getD_some]
    congr 2
    omega
theorem codeIn_later {w w' : World} {ac : Option Addr} {len g : Nat} (h : CodeIn w ac len g) (b : Below w.heap.size w w') : CodeIn w' ac len w'.heap.size := by
  refine ⟨h.1, fun hp => ?_⟩
  obtain ⟨x, off, e, _, hlt, hc⟩ := h.2 hp
  have hs := b.size
  exact ⟨x, off, e, by omega, by omega, fun j hj => by obtain ⟨z, hz, hcz⟩ := hc j hj; exact ⟨z, hz, (b.cell hlt).trans hcz⟩⟩

set_option maxHeartbeats 400000 in
set_option maxRecDepth 100000 in
theorem big_any (ac : Option Addr) (len cap : Nat) (w : World) (hl : len ≤ 9223372036854775807) :
    Calls Try.prog 7 #[.slice ac len cap] w fun e w' => e = .returned (.bool (decide (1048576 < (len : Int)))) ∧ w = w' := by
  go_enter Try.func7, Try.ntmps7
  go_wp2
  go_ret
  exact ⟨rfl, rfl⟩

end Go.Proofs.Ytlplljgcgohonaa
