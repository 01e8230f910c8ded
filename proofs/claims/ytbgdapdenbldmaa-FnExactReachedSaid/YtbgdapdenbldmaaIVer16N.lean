/-
  The tracer is made: the program's newRing, and what trace begins with.
-/
import Derived.Test.YtbgdapdenbldmaaIVer16H
namespace Go.Proofs.Ytbgdapdenbldmaa
open Go.RowKit Go.Sort
set_option linter.unusedVariables false

theorem Try.infoAny16 : (Try.prog.info? 20).map (fun i => (i.zero, i.size, i.bytes)) = some (some .nilIface, 1, 16) := by kernel_rfl

theorem Try.infoBoolI16 : (Try.prog.info? 4).map (fun i => (i.zero, i.size, i.bytes)) = some (some (.bool false), 1, 1) := by kernel_rfl

theorem Try.infoStaI16 : (Try.prog.info? 98).map (fun i => (i.zero, i.size, i.bytes)) = some (some (.agg #[.int .i64 0, .slice none 0 0]), 2, 32) := by kernel_rfl

theorem four_of {w : World} {g : Nat} {a b c d : Value} {t : TypeId} {r : Nat × Nat} (h : w.heap[g]? = some (.cells #[a, b, c, d] t r)) : w.cell? ⟨g, 0, none⟩ = some a ∧ w.cell? ⟨g, 1, none⟩ = some b ∧ w.cell? ⟨g, 2, none⟩ = some c ∧ w.cell? ⟨g, 3, none⟩ = some d := by
  refine ⟨?_, ?_, ?_, ?_⟩ <;> (rw [cell_of_row _ _ _ _ _ _ h]; rfl)

/-- what newRing hands back -/
structure RingNew (n L K : Nat) (w w' : World) : Prop where
  bl : w'.heap[L]? = some (.cells (madeCells #[.nilIface] (n * 1)) 20 (0, 0))
  bk : w'.heap[K]? = some (.cells (madeCells #[.bool false] (n * 1)) 4 (0, 0))
  bel : Below w.heap.size w w'
  lo : w.heap.size ≤ L ∧ w.heap.size ≤ K

set_option maxHeartbeats 2000000 in
set_option maxRecDepth 100000 in
theorem iNewRing (n : Nat) (w : World) (hn : n ≤ 300) :
    Calls Try.prog 80 #[.int .i64 (n : Int)] w fun e w' => ∃ L K, e = .returned (.agg #[.slice (some ⟨L, 0, none⟩) n n, .int .i64 0, .int .i64 0, .slice (some ⟨K, 0, none⟩) n n]) ∧ RingNew n L K w w' := by
  have hmA : ∀ W, (Instr.makeSlice 103 (.int .i64 (n : Int)) (.int .i64 (n : Int))).run Try.prog W = .ok (.slice (some ⟨W.heap.size, 0, none⟩) n n) (W.alloc (.cells (madeCells #[.nilIface] (n * 1)) 20)) := fun W => made16m (P := Try.prog) Try.underlying103 Try.infoAny16 (by decide) n (by omega) W
  have hmB : ∀ W, (Instr.makeSlice 50 (.int .i64 (n : Int)) (.int .i64 (n : Int))).run Try.prog W = .ok (.slice (some ⟨W.heap.size, 0, none⟩) n n) (W.alloc (.cells (madeCells #[.bool false] (n * 1)) 4)) := fun W => made16m (P := Try.prog) Try.underlying50 Try.infoBoolI16 (by decide) n (by omega) W
  obtain ⟨CA, hCA⟩ : ∃ a, madeCells #[.nilIface] (n * 1) = a := ⟨_, rfl⟩
  obtain ⟨CB, hCB⟩ : ∃ a, madeCells #[.bool false] (n * 1) = a := ⟨_, rfl⟩
  have HCA : Hid (madeCells #[.nilIface] (n * 1) = CA ∧ madeCells #[.bool false] (n * 1) = CB) := ⟨hCA, hCB⟩
  simp only [hCA] at hmA
  simp only [hCB] at hmB
  have hbR : ∀ (a b : Option Addr) (m d m' d' : Nat) (W : World), (Instr.build 105 #[(0, .slice a m d), (3, .slice b m' d')]).run Try.prog W = .ok (.agg #[.slice a m d, .int .i64 0, .int .i64 0, .slice b m' d']) W := fun a b m d m' d' W => run_build W 105 _ _ (by kernel_rfl)
  obtain ⟨Z, hZ⟩ : ∃ z, w.heap.size = z := ⟨_, rfl⟩
  have M := fun (o1 o2 o3 : Obj) => made_three w o1 o2 o3
  simp only [hZ] at M
  have hEndA : Hid (RingNew n (Z + 1) (Z + 1 + 1) w ((((w.alloc (.cells #[.slice (some ⟨Z + 1, 0, none⟩) n n, .int .i64 0, .int .i64 0, .slice (some ⟨Z + 1 + 1, 0, none⟩) n n] 105)).alloc (.cells CA 20)).alloc (.cells CB 4)).drew)) := by
    obtain ⟨m1, m2, m3, m4, m5⟩ := M (.cells #[.slice (some ⟨Z + 1, 0, none⟩) n n, .int .i64 0, .int .i64 0, .slice (some ⟨Z + 1 + 1, 0, none⟩) n n] 105) (.cells CA 20) (.cells CB 4)
    exact ⟨by rw [HCA.out.1]; exact m2, by rw [HCA.out.2]; exact m3, by rw [hZ]; exact m5.drew, by omega, by omega⟩
  have hEndB : Hid (RingNew n (Z + 1 + 1) (Z + 1) w ((((w.alloc (.cells #[.slice (some ⟨Z + 1 + 1, 0, none⟩) n n, .int .i64 0, .int .i64 0, .slice (some ⟨Z + 1, 0, none⟩) n n] 105)).alloc (.cells CB 4)).alloc (.cells CA 20)).drew)) := by
    obtain ⟨m1, m2, m3, m4, m5⟩ := M (.cells #[.slice (some ⟨Z + 1 + 1, 0, none⟩) n n, .int .i64 0, .int .i64 0, .slice (some ⟨Z + 1, 0, none⟩) n n] 105) (.cells CB 4) (.cells CA 20)
    exact ⟨by rw [HCA.out.1]; exact m3, by rw [HCA.out.2]; exact m2, by rw [hZ]; exact m5.drew, by omega, by omega⟩
  have cells : ∀ (a b : Value) (o2 o3 : Obj), ((((w.alloc (.cells #[a, .int .i64 0, .int .i64 0, b] 105)).alloc o2).alloc o3).drew.cell? ⟨Z, 0, none⟩ = some a ∧ (((w.alloc (.cells #[a, .int .i64 0, .int .i64 0, b] 105)).alloc o2).alloc o3).drew.cell? ⟨Z, 1, none⟩ = some (.int .i64 0) ∧ (((w.alloc (.cells #[a, .int .i64 0, .int .i64 0, b] 105)).alloc o2).alloc o3).drew.cell? ⟨Z, 2, none⟩ = some (.int .i64 0) ∧ (((w.alloc (.cells #[a, .int .i64 0, .int .i64 0, b] 105)).alloc o2).alloc o3).drew.cell? ⟨Z, 3, none⟩ = some b) := fun a b o2 o3 => four_of (w := (((w.alloc (.cells #[a, .int .i64 0, .int .i64 0, b] 105)).alloc o2).alloc o3).drew) (M _ o2 o3).1
  have cA := cells (.slice (some ⟨Z + 1, 0, none⟩) n n) (.slice (some ⟨Z + 1 + 1, 0, none⟩) n n) (.cells CA 20) (.cells CB 4)
  have cB := cells (.slice (some ⟨Z + 1 + 1, 0, none⟩) n n) (.slice (some ⟨Z + 1, 0, none⟩) n n) (.cells CB 4) (.cells CA 20)
  obtain ⟨a0, a1, a2, a3⟩ := cA
  obtain ⟨e0, e1, e2, e3⟩ := cB
  have HA : Hid _ := And.intro a0 (And.intro a1 (And.intro a2 a3))
  have HB : Hid _ := And.intro e0 (And.intro e1 (And.intro e2 e3))
  clear M cells hCA hCB a0 a1 a2 a3 e0 e1 e2 e3
  go_enter Try.func80, Try.ntmps80
  go_upto_region 1 with fail
  go_region
  · obtain ⟨a0, a1, a2, a3⟩ := HA.out
    go_wp2
    refine bodyPost_ret (by simp [results, Try.results80, go_sem, a0, a1, a2, a3]; try rfl) rfl ?_
    exact ⟨_, _, rfl, hEndA.out⟩
  · obtain ⟨a0, a1, a2, a3⟩ := HB.out
    go_wp2
    refine bodyPost_ret (by simp [results, Try.results80, go_sem, a0, a1, a2, a3]; try rfl) rfl ?_
    exact ⟨_, _, rfl, hEndB.out⟩

end Go.Proofs.Ytbgdapdenbldmaa
