/-
  The walk of the specification's l05Up: a whole number brought to 2^52 at least.
-/
import Derived.Test.YtilhcfnennfofaaMul
namespace Go.Proofs.Ytilhcfnennfofaa
open Go.RowKit
set_option linter.unusedVariables false

/-- how far the whole number in a block is below 2^52 -/
def roomAt (w : World) (g : Nat) : Nat := 4503599627370496 - (intOf ((w.cell? ⟨g, 2, none⟩).getD (.int .u64 0))).toNat
theorem roomAt_of {w : World} {g : Nat} {a b d : Value} {x : Int} {t : TypeId} {r : Nat × Nat} (h : w.heap[g]? = some (.cells #[a, b, .int .u64 x, d] t r)) : roomAt w g = 4503599627370496 - x.toNat := by
  have := (cells_four h).2.2.1
  unfold roomAt
  rw [this]
  rfl

set_option maxHeartbeats 1000000 in
set_option maxRecDepth 100000 in
theorem l05Up_any (k m : Nat) (s : Bool) (e : Int) (w : World) (h0 : m ≠ 0) (hm : m < 9007199254740992) (h1 : -1074 ≤ e) (h2 : e ≤ 971) :
    Calls Try.prog 32 #[.agg #[.int .i64 k, .bool s, .int .u64 m, .int .i64 e]] w fun en w' => ∃ (u M : Nat) (f : Int), en = .returned (.agg #[.int .i64 k, .bool s, .int .u64 M, .int .i64 f]) ∧ (f = e - u ∧ u ≤ 52 ∧ M = m * 2 ^ u ∧ 4503599627370496 ≤ M ∧ M < 9007199254740992) ∧ Below w.heap.size w w' := by
  have H0 : Hid (Unit → m ≠ 0 ∧ m < 9007199254740992) := fun _ => ⟨h0, hm⟩
  clear h0 hm
  go_enter Try.func32, Try.ntmps32
  go_upto_region 1 with fail
  go_loopw [] (fun wr => ∃ u M : Nat, (M : Int) < 9007199254740992 ∧ (u : Int) ≤ 52 ∧ Hid (Unit → M = m * 2 ^ u) ∧ Below w.heap.size w wr ∧ wr.heap[w.heap.size]? = some (.cells #[.int .i64 k, .bool s, .int .u64 M, .int .i64 (e - u)] 40) ∧ wr.heap[w.heap.size + 1]? = some (.cells #[.int .i64 0, .bool false, .int .u64 0, .int .i64 0] 40)) (fun wr => roomAt wr w.heap.size)
  case atStart =>
    refine ⟨0, m, by have := H0.out (); omega, by omega, fun _ => by simp, below_two _ _ _, ?_, ?_⟩
    · rw [(by simp : e - ((0 : Nat) : Int) = e)]
      exact (Below.heap_alloc _ _ _ (by simp)).trans (heap_alloc_new _ _)
    · have hz : (w.alloc (.cells #[.int .i64 k, .bool s, .int .u64 m, .int .i64 e] 40)).heap.size = w.heap.size + 1 := by simp
      rw [← hz]
      exact heap_alloc_new _ _
  case round =>
    obtain ⟨u, M, hM, hu, HM, hB, hC, hO⟩ := hrel
    obtain ⟨c0, c1, c2, c3⟩ := cells_four hC
    obtain ⟨d0, d1, d2, d3⟩ := cells_four hO
    have fz := fun j => frozen_of_row wr w.heap.size j _ _ hC
    have fo := fun j => frozen_of_row wr (w.heap.size + 1) j _ _ hO
    have HC : Hid _ := hC
    have HO : Hid _ := hO
    clear hC hO
    obtain ⟨F, hF⟩ : ∃ F : Int, e - u = F := ⟨_, rfl⟩
    rw [hF] at c3
    have HF : Hid (Unit → e - (u : Int) = F) := fun _ => hF
    have F1 : -1126 ≤ F := by omega
    have F2 : F ≤ 971 := by omega
    clear hF
    by_cases hlt : (M : Int) < 4503599627370496
    · have HU : Hid (Unit → (u : Int) + 1 ≤ 52) := fun _ => by
        rcases Nat.lt_or_ge u 52 with h | h
        · omega
        · have hu2 : u = 52 := by omega
          have hm := HM.out ()
          subst hu2
          have := (H0.out ()).1
          have h3 : (2 : Nat) ^ 52 = 4503599627370496 := by decide
          rw [h3] at hm
          omega
      go_wp2
      go_roundw
      case rel =>
        refine ⟨u + 1, M * 2, by omega, by have := HU.out (); omega, fun _ => by rw [HM.out (), Nat.pow_succ, Nat.mul_assoc], (hB.setCell (p := ⟨w.heap.size, 2, none⟩) (Nat.le_refl _) _).setCell (p := ⟨w.heap.size, 3, none⟩) (Nat.le_refl _) _, ?_, ?_⟩
        · rw [heap_setCell_same _ _ _ _ _ _ (heap_setCell_same _ _ _ _ _ _ HC.out)]
          have := HF.out ()
          simp
          omega
        · rw [heap_setCell_other _ _ _ _ (by simp), heap_setCell_other _ _ _ _ (by simp)]
          exact HO.out
      case measure =>
        have hM0 : M ≠ 0 := by
          rw [HM.out ()]
          exact Nat.mul_ne_zero (H0.out ()).1 (by have := Nat.two_pow_pos u; omega)
        rw [roomAt_of HC.out, roomAt_of (a := .int .i64 k) (b := .bool s) (x := (M : Int) * 2) (d := .int .i64 (F - 1)) (t := 40) (r := (0, 0)) (by rw [heap_setCell_same _ _ _ _ _ _ (heap_setCell_same _ _ _ _ _ _ HC.out)]; simp)]
        omega
    · have hge : decide ((M : Int) < 4503599627370496) = false := by simp; omega
      have x0 := set_here (v := .int .i64 (k : Int)) d0
      have x1 := set_here (v := .bool s) (set_keep_o (v := .int .i64 (k : Int)) (j := 0) (g := w.heap.size + 1) (by decide) d1)
      have x2 := set_here (v := .int .u64 (M : Int)) (set_keep_o (v := .bool s) (j := 1) (g := w.heap.size + 1) (by decide) (set_keep_o (v := .int .i64 (k : Int)) (j := 0) (g := w.heap.size + 1) (by decide) d2))
      have x3 := set_here (v := .int .i64 F) (set_keep_o (v := .int .u64 (M : Int)) (j := 2) (g := w.heap.size + 1) (by decide) (set_keep_o (v := .bool s) (j := 1) (g := w.heap.size + 1) (by decide) (set_keep_o (v := .int .i64 (k : Int)) (j := 0) (g := w.heap.size + 1) (by decide) d3)))
      go_wp2
      refine bodyPost_ret (by simp [results, Try.results32, go_sem, x0, x1, x2, x3]; try rfl) rfl ?_
      refine ⟨u, M, F, rfl, ⟨(HF.out ()).symm, by omega, HM.out (), by omega, by omega⟩, ?_⟩
      · have hg : w.heap.size ≤ w.heap.size + 1 := Nat.le_succ _
        exact (((hB.setCell (p := ⟨w.heap.size + 1, 0, none⟩) hg _).setCell (p := ⟨w.heap.size + 1, 1, none⟩) hg _).setCell (p := ⟨w.heap.size + 1, 2, none⟩) hg _).setCell (p := ⟨w.heap.size + 1, 3, none⟩) hg _

end Go.Proofs.Ytilhcfnennfofaa
