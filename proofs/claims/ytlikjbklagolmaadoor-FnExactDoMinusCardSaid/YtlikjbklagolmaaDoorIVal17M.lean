/-
  The program's own DoMinus: what was done, or the text that is thrown.
-/
import Derived.Test.YtlikjbklagolmaaDoorIErrAs
import Derived.Test.YtlikjbklagolmaaDoorIVal17N
import Derived.Test.YtlikjbklagolmaaDoorVal17M
import Derived.Test.YtlikjbklagolmaaDoorIAddF
namespace Go.Proofs.YtlikjbklagolmaaDoor
open Go.RowKit Go.Sort
set_option linter.unusedVariables false
set_option linter.unusedSimpArgs false

/-- the library's own handle of the error type -/
def EtOk (w : World) : Prop := w.cell? ⟨0, 0, none⟩ = some (.iface 75 (.agg #[.pointer (some ⟨1, 38, none⟩)]))
theorem EtOk.lt {w : World} (h : EtOk w) : 0 < w.heap.size := World.block_lt_of_cell? w ⟨0, 0, none⟩ h
theorem EtOk.below {w w' : World} {B : Nat} (h : EtOk w) (h0 : 0 < B) (hb : Below B w w') : EtOk w' := (hb.cell (p := ⟨0, 0, none⟩) h0).trans h
theorem EtOk.more {w w' : World} (h : EtOk w) (hb : Below w.heap.size w w') : EtOk w' := h.below h.lt hb

theorem as_hit2 (T : Nat) (s : ByteArray) (old : Value) (w : World) (hg : EtOk w) (hT : w.heap[T]? = some (.cells #[old] 44 (0, 0))) :
    Calls Tryd.prog 15 #[.iface 44 (.agg #[.string s]), .iface 46 (.pointer (some ⟨T, 0, none⟩))] w fun ev w' => ev = .returned (.bool true) ∧ w'.heap[T]? = some (.cells #[.string s] 44 (0, 0)) ∧ w.grownBy w' (some T) := by
  refine (as_hit T s old w hg (by rw [cell_of_row _ _ _ _ _ _ hT]; rfl) (frozen_of_row w T 0 _ _ hT)).mono fun ev w' ⟨e1, e2⟩ => ⟨e1, ?_, ?_⟩
  · subst e2
    have hl := (Array.getElem?_eq_some_iff.1 hT).1
    have k : ∀ (o1 o2 o3 o4 : Obj), ((((w.alloc o1).alloc o2).alloc o3).alloc o4).heap[T]? = some (.cells #[old] 44 (0, 0)) := fun o1 o2 o3 o4 => by
      rw [heap_alloc_old (r := T) _ _ (by simp; omega), heap_alloc_old (r := T) _ _ (by simp; omega), heap_alloc_old (r := T) _ _ (by simp; omega), heap_alloc_old (r := T) _ _ hl]
      exact hT
    exact heap_setCell_same _ T 0 #[old] _ (.string s) (k _ _ _ _)
  · subst e2
    refine ⟨rfl, rfl, rfl, by simp [World.setCell]; omega, fun k hk hne => ?_⟩
    rw [heap_setCell_other _ ⟨T, 0, none⟩ k _ (fun e => hne (by rw [show k = T from e]))]
    rw [heap_alloc_old (r := k) _ _ (by simp; omega), heap_alloc_old (r := k) _ _ (by simp; omega), heap_alloc_old (r := k) _ _ (by simp; omega), heap_alloc_old (r := k) _ _ hk]

set_option maxHeartbeats 1000000 in
set_option maxRecDepth 100000 in
theorem iValueOrText_ok {p : PVal} {T : TypeId} {v : Value} {fv : FuncId} (h : Cont17 p T v fv) (w : World) :
    Calls Tryd.prog 11 #[.iface T v, .nilIface] w fun e w' => e = .returned (.tuple #[.agg #[.int .i64 (cvP p).kind, .int .u64 ((cvP p).num : Int), .string (cvP p).text, .int .i64 (cvP p).ref], .string ⟨#[]⟩]) ∧ Below w.heap.size w w' := by
  have cV := fun W => iValueOf h W
  obtain ⟨q, hq⟩ : ∃ q, cvP p = q := ⟨_, rfl⟩
  simp only [hq] at cV ⊢
  clear hq
  obtain ⟨t0, t1, tz, tb⟩ := two_made w (.cells #[.int .i64 0, .int .u64 0, .string ⟨#[]⟩, .int .i64 0] 26) (.cells #[.string ⟨#[]⟩] 44)
  rcases h with ⟨_, rfl, rfl, rfl⟩ | ⟨_, rfl, rfl, rfl⟩ | ⟨_, rfl, rfl, rfl⟩ | ⟨_, rfl, rfl, rfl⟩ | ⟨_, rfl, rfl, rfl⟩ | ⟨_, rfl, rfl, rfl⟩
  all_goals
    go_enter Tryd.func11, Tryd.ntmps11
    go_upto_region 4 with (go_at_call 15; (with_reducible refine (as_nil _ _).mono ?_); rintro e w1 ⟨rfl, rfl⟩)
    go_wp2_with fail
    refine (cV _).mono ?_
    rintro e w2 ⟨rfl, b2⟩
    obtain ⟨⟨c0, c1, c2, c3⟩, fz, ⟨g0, g1, g2, g3⟩, hbe⟩ := four_ready (G := w.heap.size) (b0 := .int .i64 q.kind) (b1 := .int .u64 (q.num : Int)) (b2 := .string q.text) (b3 := .int .i64 q.ref) ((b2.block w.heap.size (by omega)).trans t0) (chain tb b2) (by omega)
    clear t0 t1 tz tb cV
    go_wp2
    refine bodyPost_ret (by simp [results, Tryd.results11, go_sem, g0, g1, g2, g3]; try rfl) rfl ?_
    exact ⟨rfl, hbe⟩

set_option maxHeartbeats 1000000 in
set_option maxRecDepth 100000 in
theorem iValueOrText_no (s : ByteArray) (w : World) (hg : EtOk w) :
    Calls Tryd.prog 11 #[.nilIface, .iface 44 (.agg #[.string s])] w fun e w' => e = .returned (.tuple #[.agg #[.int .i64 0, .int .u64 0, .string ⟨#[]⟩, .int .i64 0], .string s]) ∧ Below w.heap.size w w' := by
  obtain ⟨t0, t1, tz, tb⟩ := two_made w (.cells #[.int .i64 0, .int .u64 0, .string ⟨#[]⟩, .int .i64 0] 26) (.cells #[.string ⟨#[]⟩] 44)
  have cA := as_hit2 (w.heap.size + 1) s _ _ (hg.more tb) t1
  have hbT : ∀ W, (Instr.build 26 #[]).run Tryd.prog W = .ok (.agg #[.int .i64 0, .int .u64 0, .string ⟨#[]⟩, .int .i64 0]) W := fun W => run_build W 26 _ _ (by kernel_rfl)
  clear hg
  go_enter Tryd.func11, Tryd.ntmps11
  go_upto_region 3 with (go_at_call 15; (with_reducible refine cA.mono ?_); rintro e w3 ⟨rfl, hT, gr⟩)
  have r3 : w3.heap[w.heap.size]? = some (.cells #[.int .i64 0, .int .u64 0, .string ⟨#[]⟩, .int .i64 0] 26 (0, 0)) := (gr.block w.heap.size (by omega) (by simp)).trans t0
  have b3 : Below w.heap.size w w3 := ⟨gr.os.trans tb.os, gr.tape.trans tb.tape, gr.output.trans tb.output, Nat.le_trans tb.size gr.size, fun k hk => (gr.block k (by omega) (by simp; omega)).trans (tb.block k hk)⟩
  obtain ⟨⟨c0, c1, c2, c3⟩, fz, ⟨g0, g1, g2, g3⟩, hbe⟩ := four_ready (G := w.heap.size) (b0 := .int .i64 0) (b1 := .int .u64 0) (b2 := .string ⟨#[]⟩) (b3 := .int .i64 0) r3 b3 (Nat.le_refl _)
  have s0 : w3.cell? ⟨w.heap.size + 1, 0, none⟩ = some (.string s) := by rw [cell_of_row _ _ _ _ _ _ hT]; rfl
  clear t0 t1 tz tb cA hT gr r3 b3
  go_region
  all_goals
    go_wp2
    refine bodyPost_ret (by simp [results, Tryd.results11, go_sem, g0, g1, g2, g3]; try rfl) rfl ?_
    exact ⟨rfl, hbe.drew⟩

set_option maxHeartbeats 1000000 in
set_option maxRecDepth 100000 in
theorem iNegated (p : PVal) (w : World) (hp : valW p) :
    Calls Tryd.prog 12 #[.agg #[.int .i64 p.kind, .int .u64 (p.num : Int), .string p.text, .int .i64 p.ref]] w fun e w' => e = .returned (if p.kind = 2 then .tuple #[.iface 48 (.int .u64 ((negN p.num : Nat) : Int)), .nilIface] else .tuple #[.nilIface, .iface 44 (.agg #[.string typeS])]) ∧ Below w.heap.size w w' := by
  obtain ⟨T, v, fv, hc⟩ := cont17_some p
  have cC := fun W => iContentAs hc W
  have tA := fun W => assertNum hc W
  have cN := fun W => iNegate p.num W hp.2.1
  have hbM : ∀ (s : ByteArray) W, (Instr.build 44 #[(0, .string s)]).run Tryd.prog W = .ok (.agg #[.string s]) W := fun s W => run_build W 44 _ _ (by kernel_rfl)
  obtain ⟨k, x, s, r⟩ := p
  have b0 : Below w.heap.size w (w.alloc (.cells #[.int .i64 k, .int .u64 (x : Int), .string s, .int .i64 r] 26)) := (Below.refl _ _).alloc (Nat.le_refl _) _
  have h0 := heap_alloc_new w (.cells #[.int .i64 k, .int .u64 (x : Int), .string s, .int .i64 r] 26)
  obtain ⟨a0, a1, a2, a3⟩ := four_cells h0
  simp only at cC tA cN ⊢
  obtain ⟨N, hN⟩ : ∃ N, negN x = N := ⟨_, rfl⟩
  simp only [hN] at cN ⊢
  clear hc hp h0 hN
  by_cases h2 : k = 2
  · subst h2
    rw [if_pos rfl]
    have e1 : isNum ⟨2, x, s, r⟩ = true := rfl
    have e2 : numP ⟨2, x, s, r⟩ = x := rfl
    simp only [e1, e2] at tA
    clear e1 e2
    go_enter Tryd.func12, Tryd.ntmps12
    go_wp2_with fail
    refine (cC _).mono ?_
    rintro e w1 ⟨rfl, b1⟩
    clear a0 a1 a2 a3 cC
    go_wp2_with fail
    refine (cN _).mono ?_
    rintro e w2 ⟨rfl, b2⟩
    go_wp2
    go_ret2
    exact ⟨rfl, chain b0 (chain b1 b2)⟩
  · rw [if_neg h2]
    have e1 : isNum ⟨k, x, s, r⟩ = false := by simp [isNum, h2]
    have e2 : numP ⟨k, x, s, r⟩ = 0 := by simp [numP, h2]
    simp only [e1, e2] at tA
    clear e1 e2 cN
    go_enter Tryd.func12, Tryd.ntmps12
    go_wp2_with fail
    refine (cC _).mono ?_
    rintro e w1 ⟨rfl, b1⟩
    clear a0 a1 a2 a3 cC
    go_wp2
    go_ret2
    exact ⟨rfl, chain b0 b1⟩

set_option maxHeartbeats 1000000 in
set_option maxRecDepth 100000 in
theorem iDoMinus_any (p : PVal) (w : World) (hp : valW p) (hg : EtOk w) :
    Calls Tryd.prog 7 #[.agg #[.int .i64 p.kind, .int .u64 (p.num : Int), .string p.text, .int .i64 p.ref]] w fun e w' => e = .returned (.tuple #[.agg #[.int .i64 (minusV p).1.kind, .int .u64 ((minusV p).1.num : Int), .string (minusV p).1.text, .int .i64 (minusV p).1.ref], .string (minusV p).2]) ∧ Below w.heap.size w w' := by
  have cN := fun W => iNegated p W hp
  have hl := hg.lt
  obtain ⟨k, x, s, r⟩ := p
  simp only at cN ⊢
  obtain ⟨t0, t1, tz, tb⟩ := two_made w (.cells #[.int .i64 k, .int .u64 (x : Int), .string s, .int .i64 r] 26) (.cells #[.int .i64 0, .int .u64 0, .string ⟨#[]⟩, .int .i64 0] 26)
  obtain ⟨a0, a1, a2, a3⟩ := four_cells t0
  by_cases h2 : k = 2
  · subst h2
    have e1 : minusV ⟨2, x, s, r⟩ = (⟨2, negN x, ⟨#[]⟩, 0⟩, ⟨#[]⟩) := rfl
    rw [e1]
    simp only [if_true] at cN ⊢
    obtain ⟨N, hN⟩ : ∃ N, negN x = N := ⟨_, rfl⟩
    simp only [hN] at cN ⊢
    have cV := fun W => iValueOrText_ok (p := ⟨2, N, ⟨#[]⟩, 0⟩) (T := 48) (v := .int .u64 (N : Int)) (.inr (.inr (.inl ⟨rfl, rfl, rfl, rfl⟩))) W
    have e2 : cvP ⟨2, N, ⟨#[]⟩, 0⟩ = ⟨2, N, ⟨#[]⟩, 0⟩ := rfl
    rw [e2] at cV
    simp only at cV
    clear e1 e2 hN hp hg
    go_enter Tryd.func7, Tryd.ntmps7
    go_wp2_with fail
    refine (cN _).mono ?_
    rintro e w1 ⟨rfl, b1⟩
    clear a0 a1 a2 a3 cN
    go_wp2_with fail
    refine (cV _).mono ?_
    rintro e w2 ⟨rfl, b2⟩
    have hz := b1.size
    obtain ⟨⟨c0, c1, c2, c3⟩, fz, ⟨g0, g1, g2, g3⟩, hbe⟩ := four_ready (G := w.heap.size + 1) (b0 := .int .i64 2) (b1 := .int .u64 (N : Int)) (b2 := .string ⟨#[]⟩) (b3 := .int .i64 0) ((b2.block (w.heap.size + 1) (by omega)).trans ((b1.block (w.heap.size + 1) (by omega)).trans t1)) (chain (chain tb b1) b2) (by omega)
    clear t0 t1 tz tb
    go_wp2
    refine bodyPost_ret (by simp [results, Tryd.results7, go_sem, g0, g1, g2, g3]; try rfl) rfl ?_
    exact ⟨rfl, hbe⟩
  · have e1 : minusV ⟨k, x, s, r⟩ = (⟨0, 0, ⟨#[]⟩, 0⟩, typeS) := by simp [minusV, h2, noneV]
    rw [e1]
    simp only [if_neg h2] at cN ⊢
    have cV := fun W (h : EtOk W) => iValueOrText_no typeS W h
    obtain ⟨ST, hST⟩ : ∃ t, typeS = t := ⟨_, rfl⟩
    simp only [hST] at cN cV ⊢
    have HG : Hid (∀ W, Below w.heap.size w W → EtOk W) := fun W hW => hg.below hl hW
    have HTB : Hid (Below w.heap.size w _) := tb
    clear e1 hST hp hg
    go_enter Tryd.func7, Tryd.ntmps7
    go_wp2_with fail
    refine (cN _).mono ?_
    rintro e w1 ⟨rfl, b1⟩
    clear a0 a1 a2 a3 cN
    have cV1 := cV w1 (HG.out _ (chain HTB.out b1))
    go_wp2_with fail
    refine cV1.mono ?_
    rintro e w2 ⟨rfl, b2⟩
    have hz := b1.size
    obtain ⟨⟨c0, c1, c2, c3⟩, fz, ⟨g0, g1, g2, g3⟩, hbe⟩ := four_ready (G := w.heap.size + 1) (b0 := .int .i64 0) (b1 := .int .u64 0) (b2 := .string ⟨#[]⟩) (b3 := .int .i64 0) ((b2.block (w.heap.size + 1) (by omega)).trans ((b1.block (w.heap.size + 1) (by omega)).trans t1)) (chain (chain tb b1) b2) (by omega)
    clear t0 t1 tz tb cV cV1
    go_wp2
    refine bodyPost_ret (by simp [results, Tryd.results7, go_sem, g0, g1, g2, g3]; try rfl) rfl ?_
    exact ⟨rfl, hbe⟩

end Go.Proofs.YtlikjbklagolmaaDoor
