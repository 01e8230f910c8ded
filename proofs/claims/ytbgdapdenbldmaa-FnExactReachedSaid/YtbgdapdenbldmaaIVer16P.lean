/-
  The ring of what is yet to do: the program's behind, put, take.
-/
import Derived.Test.YtbgdapdenbldmaaIVer16Q
namespace Go.Proofs.Ytbgdapdenbldmaa
open Go.RowKit Go.Sort
set_option linter.unusedVariables false

set_option maxHeartbeats 1000000 in
set_option maxRecDepth 100000 in
theorem iBehind (X L n k : Nat) (w : World) (c9 : w.cell? ⟨X, 9, none⟩ = some (.slice (some ⟨L, 0, none⟩) n n)) (hk : k ≤ 1000) (hn : 0 < n) (hn2 : n ≤ 1000) :
    Calls Try.prog 116 #[.pointer (some ⟨X, 9, none⟩), .int .i64 (k : Int)] w fun e w' => e = .returned (.int .i64 (((k + 1) % n : Nat) : Int)) ∧ w = w' := by
  have hw1 : IntKind.i64.wrap ((k : Int) + 1) = (k : Int) + 1 := wrap_small (by omega) (by omega)
  have hm : (k + 1) % n < n := Nat.mod_lt _ hn
  have e1 : ((k : Int) + 1).tmod (n : Int) = (((k + 1) % n : Nat) : Int) := by rw [Int.ofNat_tmod]; rfl
  have hn0 : ((n : Int) == 0) = false := by rw [beq_eq_false_iff_ne]; omega
  have hn1 : ¬ (n : Int) = 0 := by omega
  obtain ⟨R, hR⟩ : ∃ R, (k + 1) % n = R := ⟨_, rfl⟩
  rw [hR] at e1 hm ⊢
  have hw2 : IntKind.i64.wrap (R : Int) = (R : Int) := wrap_small (by omega) (by omega)
  clear hR
  go_enter Try.func116, Try.ntmps116
  go_wp2
  go_ret
  exact ⟨rfl, rfl⟩

variable {X S H L K n B : Nat} {fv cv : Value} {PA RE : Int} {qc qk qh : Value} {r : RunP} {fi : Nat} {w : World}

set_option maxHeartbeats 1000000 in
set_option maxRecDepth 100000 in
theorem iPut (h : TAt X S H L K n B fv cv PA RE qc qk qh r fi w) (q : Nat) (hq : q < n) (hn : n ≤ 300) :
    Calls Try.prog 132 #[.pointer (some ⟨X, 9, none⟩), .int .i64 (q : Int)] w fun e w' => e = .returned (.tuple #[]) ∧ TAt X S H L K n B fv cv PA RE qc qk qh { r with todo := putL r.todo q } fi w' ∧ TStep X S H L K w w' := by
  obtain ⟨c3, u1, u2, u3⟩ := h.sl
  obtain ⟨c4, v1, v2, v3⟩ := h.wa
  have bc := boxC h.box
  have x12 := bc.c12
  have hq0 : (0 : Int) ≤ (q : Int) := by omega
  have hq1 : (q : Int) < (n : Int) := by omega
  by_cases hin : q ∈ r.todo
  · have hE : TAt X S H L K n B fv cv PA RE qc qk qh { r with todo := putL r.todo q } fi w := by
      rw [show putL r.todo q = r.todo from if_pos hin]
      exact h
    have HE : Hid _ := hE
    have k1 : w.cell? ⟨K, q, none⟩ = some (.bool true) := by rw [cell_of_row _ _ _ _ _ _ v1, v3 q hq, decide_eq_true hin]
    clear hE v3 v1 v2 u1 u2 u3 bc h
    go_enter Try.func132, Try.ntmps132
    go_wp2
    go_returns
    exact ⟨rfl, HE.out, TStep.refl _⟩
  · have HE0 := h.ringPut q hq hin
    have ap := h.apart
    have k1 : w.cell? ⟨K, q, none⟩ = some (.bool false) := by rw [cell_of_row _ _ _ _ _ _ v1, v3 q hq, decide_eq_false hin]
    have z1 := fun j => frozen_of_row w K j _ _ v1
    have hXK := ap.xk
    have hXL := ap.xl
    have hLK := ap.lk
    have hx1 : (w.setCell ⟨K, q, none⟩ (.bool true)).heap[X]? = w.heap[X]? := heap_setCell_other w ⟨K, q, none⟩ X _ ap.xk
    have hl1 : (w.setCell ⟨K, q, none⟩ (.bool true)).heap[L]? = w.heap[L]? := heap_setCell_other w ⟨K, q, none⟩ L _ ap.lk
    obtain ⟨fr, hfr⟩ : ∃ x, (fi + r.todo.length) % n = x := ⟨_, rfl⟩
    have hfn : fr < n := by rw [← hfr]; exact Nat.mod_lt _ (by omega)
    have bx1 := hx1.trans h.box
    rw [hfr] at bx1 HE0
    have bc1 := boxC bx1
    have bl1 := hl1.trans u1
    obtain ⟨W1, hW1⟩ : ∃ W, w.setCell ⟨K, q, none⟩ (.bool true) = W := ⟨_, rfl⟩
    simp only [hW1] at bc1 bl1 HE0 bx1
    have hx2 : (W1.setCell ⟨L, fr, none⟩ (.iface 3 (.int .i64 (q : Int)))).heap[X]? = W1.heap[X]? := heap_setCell_other W1 ⟨L, fr, none⟩ X _ ap.xl
    have bc2 := boxC (hx2.trans bx1)
    obtain ⟨cl, hcl⟩ : ∃ u, c3[fr]? = some u := ⟨_, Array.getElem?_eq_getElem (by omega)⟩
    have l1 : W1.cell? ⟨L, fr, none⟩ = some cl := by rw [cell_of_row _ _ _ _ _ _ bl1]; exact hcl
    have lz := fun j => frozen_of_row W1 L j _ _ bl1
    obtain ⟨W2, hW2⟩ : ∃ W, W1.setCell ⟨L, fr, none⟩ (.iface 3 (.int .i64 (q : Int))) = W := ⟨_, rfl⟩
    simp only [hW2] at bc2 HE0
    have cB := fun W c9 => iBehind X L n fr W c9 (by omega) (by omega) (by omega)
    obtain ⟨nx, hnx⟩ : ∃ x, (fr + 1) % n = x := ⟨_, rfl⟩
    simp only [hnx] at cB HE0
    have HE : Hid _ := HE0
    have d9 := bc1.c9
    have d11 := bc1.c11
    have e9 := bc2.c9
    have e11 := bc2.c11
    have ez := bc2.fz
    have hf0 : (0 : Int) ≤ (fr : Int) := by omega
    have hf1 : (fr : Int) < (n : Int) := by omega
    have HW1 : Hid (w.setCell ⟨K, q, none⟩ (.bool true) = W1) := hW1
    have HW2 : Hid (W1.setCell ⟨L, fr, none⟩ (.iface 3 (.int .i64 (q : Int))) = W2) := hW2
    have HS : Hid (W1.cell? ⟨X, 9, none⟩ = some (.slice (some ⟨L, 0, none⟩) n n) ∧ W1.cell? ⟨X, 11, none⟩ = some (.int .i64 (fr : Int))) := ⟨d9, d11⟩
    have HS2 : Hid (W2.cell? ⟨X, 9, none⟩ = some (.slice (some ⟨L, 0, none⟩) n n) ∧ W2.cell? ⟨X, 11, none⟩ = some (.int .i64 (fr : Int))) := ⟨e9, e11⟩
    have hmi : ∀ (v : Value) (W : World), (Instr.makeInterface 3 v).run Try.prog W = .ok (.iface 3 v) W := fun v W => rfl
    clear HE0 v1 v2 v3 u1 u2 u3 bc bc1 bc2 bl1 bx1 hx1 hx2 hl1 hW1 hW2 hcl hnx hfr h ap
    go_enter Try.func132, Try.ntmps132
    go_upto_region 2 with fail
    simp only [HW1.out]
    clear HW1 k1 z1 x12
    go_region_held_law (fun W => W.cell? ⟨X, 9, none⟩ = some (.slice (some ⟨L, 0, none⟩) n n) ∧ W.cell? ⟨X, 11, none⟩ = some (.int .i64 (fr : Int)))
      (first | exact HS.out | exact HS2.out | (rw [HW2.out]; exact HS2.out))
      (first | (fail))
    simp only [HW2.out]
    clear HW2 l1 lz d9 d11 HS HS2
    have e9' : W2.drew.cell? ⟨X, 9, none⟩ = some (.slice (some ⟨L, 0, none⟩) n n) := e9
    have e11' : W2.drew.cell? ⟨X, 11, none⟩ = some (.int .i64 (fr : Int)) := e11
    have ez' : ∀ j, W2.drew.frozen? ⟨X, j, none⟩ = false := ez
    go_wp2_with (go_at_call 116; (refine (cB _ e9').mono ?_); rintro e w5 ⟨rfl, rfl⟩)
    go_returns
    have hd := (Below.refl (W2.setCell ⟨X, 11, none⟩ (.int .i64 (nx : Int))).heap.size (W2.setCell ⟨X, 11, none⟩ (.int .i64 (nx : Int)))).drew
    exact ⟨rfl, HE.out.1.below hd, HE.out.2.trans (TStep.of_below hd)⟩

set_option maxHeartbeats 1000000 in
set_option maxRecDepth 100000 in
theorem iTake_none (h : TAt X S H L K n B fv cv PA RE qc qk qh r fi w) (ht : r.todo = []) (hn : n ≤ 300) :
    Calls Try.prog 82 #[.pointer (some ⟨X, 9, none⟩)] w fun e w' => e = .returned (.tuple #[.int .i64 0, .bool false]) ∧ Below w.heap.size w w' := by
  obtain ⟨c3, u1, u2, u3⟩ := h.sl
  have bc := boxC h.box
  have x9 := bc.c9
  have x10 := bc.c10
  have hfl := h.fl
  have l1 : w.cell? ⟨L, fi, none⟩ = some .nilIface := by
    have := u3 0 (by omega)
    rw [Nat.add_zero, Nat.mod_eq_of_lt h.fl, ht] at this
    rw [cell_of_row _ _ _ _ _ _ u1]
    exact this
  have hf0 : (0 : Int) ≤ (fi : Int) := by omega
  have hf1 : (fi : Int) < (n : Int) := by omega
  have hta : ∀ W, (Instr.typeAssert .nilIface 20 3 true).run Try.prog W = .ok (.tuple #[.int .i64 0, .bool false]) W := fun W => by kernel_rfl
  clear u1 u2 u3 bc h
  go_enter Try.func82, Try.ntmps82
  go_wp2
  go_quiet (fail)
  go_wp2
  go_ret2
  exact ⟨rfl, below_drewN (Below.refl _ _) _⟩

set_option maxHeartbeats 1000000 in
set_option maxRecDepth 100000 in
theorem iTake_some {q : Nat} {m : List Nat} (h : TAt X S H L K n B fv cv PA RE qc qk qh r fi w) (ht : r.todo = q :: m) (hn : n ≤ 300) :
    Calls Try.prog 82 #[.pointer (some ⟨X, 9, none⟩)] w fun e w' => e = .returned (.tuple #[.int .i64 (q : Int), .bool true]) ∧ TAt X S H L K n B fv cv PA RE qc qk qh { r with todo := m } ((fi + 1) % n) w' ∧ TStep X S H L K w w' := by
  have hq : q < n := h.tl q (by rw [ht]; simp)
  have hfl := h.fl
  have hf0 : (0 : Int) ≤ (fi : Int) := by omega
  have hf1 : (fi : Int) < (n : Int) := by omega
  have hq0 : (0 : Int) ≤ (q : Int) := by omega
  have hq1 : (q : Int) < (n : Int) := by omega
  have hta : ∀ W, (Instr.typeAssert (.iface 3 (.int .i64 (q : Int))) 20 3 true).run Try.prog W = .ok (.tuple #[.int .i64 (q : Int), .bool true]) W := fun W => by kernel_rfl
  have bc := boxC h.box
  have x9 := bc.c9
  have x10 := bc.c10
  obtain ⟨c3, u1, u2, u3⟩ := h.sl
  have l1 : w.cell? ⟨L, fi, none⟩ = some (.iface 3 (.int .i64 (q : Int))) := by
    have := u3 0 (by omega)
    rw [Nat.add_zero, Nat.mod_eq_of_lt h.fl, ht] at this
    rw [cell_of_row _ _ _ _ _ _ u1]
    exact this
  have HT : Hid _ := h
  clear u1 u2 u3 bc h
  go_enter Try.func82, Try.ntmps82
  go_upto_region 1 with fail
  go_quiet (fail)
  obtain ⟨W0, hW0⟩ : ∃ W, w.drewN nq = W := ⟨_, rfl⟩
  have b0 : Below w.heap.size w W0 := by rw [← hW0]; exact below_drewN (Below.refl _ _) _
  simp only [hW0]
  clear hW0 x9 x10 l1
  have h := HT.out.below b0
  have HE0 := h.ringTake ht
  have ap := h.apart
  obtain ⟨c3, u1, u2, u3⟩ := h.sl
  obtain ⟨c4, v1, v2, v3⟩ := h.wa
  have bc := boxC h.box
  have x12 := bc.c12
  have k1 : W0.cell? ⟨K, q, none⟩ = some (.bool true) := by rw [cell_of_row _ _ _ _ _ _ v1, v3 q hq, decide_eq_true (by rw [ht]; simp)]
  have z1 := fun j => frozen_of_row W0 K j _ _ v1
  have hXK := ap.xk
  have hXL := ap.xl
  have hLK := ap.lk
  have hx1 : (W0.setCell ⟨K, q, none⟩ (.bool false)).heap[X]? = W0.heap[X]? := heap_setCell_other W0 ⟨K, q, none⟩ X _ ap.xk
  have hl1 : (W0.setCell ⟨K, q, none⟩ (.bool false)).heap[L]? = W0.heap[L]? := heap_setCell_other W0 ⟨K, q, none⟩ L _ ap.lk
  have bx1 := hx1.trans h.box
  have bc1 := boxC bx1
  have bl1 := hl1.trans u1
  obtain ⟨W1, hW1⟩ : ∃ W, W0.setCell ⟨K, q, none⟩ (.bool false) = W := ⟨_, rfl⟩
  simp only [hW1] at bc1 bl1 HE0 bx1
  have hx2 : (W1.setCell ⟨L, fi, none⟩ .nilIface).heap[X]? = W1.heap[X]? := heap_setCell_other W1 ⟨L, fi, none⟩ X _ ap.xl
  have bc2 := boxC (hx2.trans bx1)
  obtain ⟨cl, hcl⟩ : ∃ u, c3[fi]? = some u := ⟨_, Array.getElem?_eq_getElem (by omega)⟩
  have l1 : W1.cell? ⟨L, fi, none⟩ = some cl := by rw [cell_of_row _ _ _ _ _ _ bl1]; exact hcl
  have lz := fun j => frozen_of_row W1 L j _ _ bl1
  obtain ⟨W2, hW2⟩ : ∃ W, W1.setCell ⟨L, fi, none⟩ .nilIface = W := ⟨_, rfl⟩
  simp only [hW2] at bc2 HE0
  have cB := fun W c9 => iBehind X L n fi W c9 (by omega) (by omega) (by omega)
  obtain ⟨nx, hnx⟩ : ∃ x, (fi + 1) % n = x := ⟨_, rfl⟩
  simp only [hnx] at cB HE0
  have HNX : Hid ((fi + 1) % n = nx) := hnx
  have HE : Hid _ := HE0
  have d9 := bc1.c9
  have d10 := bc1.c10
  have e9 := bc2.c9
  have e10 := bc2.c10
  have ez := bc2.fz
  have HW1 : Hid (W0.setCell ⟨K, q, none⟩ (.bool false) = W1) := hW1
  have HW2 : Hid (W1.setCell ⟨L, fi, none⟩ .nilIface = W2) := hW2
  have HS : Hid (W1.cell? ⟨X, 9, none⟩ = some (.slice (some ⟨L, 0, none⟩) n n) ∧ W1.cell? ⟨X, 10, none⟩ = some (.int .i64 (fi : Int))) := ⟨d9, d10⟩
  have HS2 : Hid (W2.cell? ⟨X, 9, none⟩ = some (.slice (some ⟨L, 0, none⟩) n n) ∧ W2.cell? ⟨X, 10, none⟩ = some (.int .i64 (fi : Int))) := ⟨e9, e10⟩
  have HB0 : Hid (TStep X S H L K w W0) := TStep.of_below b0
  clear HE0 v1 v2 v3 u1 u2 u3 bc bc1 bc2 bl1 bx1 hx1 hx2 hl1 hW1 hW2 hcl hnx h ap b0 HT hta
  go_upto_region 5 with fail
  simp only [HW1.out]
  clear HW1 k1 z1 x12
  go_region_held_law (fun W => W.cell? ⟨X, 9, none⟩ = some (.slice (some ⟨L, 0, none⟩) n n) ∧ W.cell? ⟨X, 10, none⟩ = some (.int .i64 (fi : Int)))
    (first | exact HS.out | exact HS2.out | (rw [HW2.out]; exact HS2.out))
    (first | (fail))
  simp only [HW2.out]
  clear HW2 l1 lz d9 d10 HS HS2
  have e9' : W2.drew.cell? ⟨X, 9, none⟩ = some (.slice (some ⟨L, 0, none⟩) n n) := e9
  have e10' : W2.drew.cell? ⟨X, 10, none⟩ = some (.int .i64 (fi : Int)) := e10
  have ez' : ∀ j, W2.drew.frozen? ⟨X, j, none⟩ = false := ez
  go_wp2_with (go_at_call 116; (refine (cB _ e9').mono ?_); rintro e w5 ⟨rfl, rfl⟩)
  go_ret2
  rw [HNX.out]
  have hd := (Below.refl (W2.setCell ⟨X, 10, none⟩ (.int .i64 (nx : Int))).heap.size (W2.setCell ⟨X, 10, none⟩ (.int .i64 (nx : Int)))).drew
  exact ⟨rfl, HE.out.1.below hd, HB0.out.trans (HE.out.2.trans (TStep.of_below hd))⟩

end Go.Proofs.Ytbgdapdenbldmaa
