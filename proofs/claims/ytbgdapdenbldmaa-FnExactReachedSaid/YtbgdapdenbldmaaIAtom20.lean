/-
  sync/atomic.Int64: Add and Load.
-/
import Derived.Test.YtbgdapdenbldmaaBoolS16
import Derived.Laws.LoneSync
import Derived.RegionCalls
namespace Go.Proofs.Ytbgdapdenbldmaa
open Go.RowKit Go.Sort
set_option linter.unusedVariables false

theorem add_plain (x : Int) (w : World) (h0 : 0 ≤ x) (h1 : x < 1000) : (Op.intArith .add .i64 x 1).run Try.prog w = .ok (.int .i64 (x + 1)) w := by
  have e : IntKind.i64.wrap (x + 1) = x + 1 := by rw [IntKind.wrap_i64]; omega
  show Result.ok (Value.int .i64 (IntKind.i64.wrap (x + 1))) w = _
  rw [e]

set_option maxHeartbeats 1000000 in
set_option maxRecDepth 100000 in
theorem iAtomAdd (X : Nat) (x : Int) (w : World) (hc : w.cell? ⟨X, 0, none⟩ = some (.int .i64 x)) (hz : w.frozen? ⟨X, 0, none⟩ = false) (h0 : 0 ≤ x) (h1 : x < 1000) :
    Calls Try.prog 28 #[.pointer (some ⟨X, 0, none⟩), .int .i64 1] w fun e w' => e = .returned (.int .i64 (x + 1)) ∧ (w' = w.setCell ⟨X, 0, none⟩ (.int .i64 (x + 1)) ∨ w' = w.drew.setCell ⟨X, 0, none⟩ (.int .i64 (x + 1))) := by
  have hc2 : w.drew.cell? ⟨X, 0, none⟩ = some (.int .i64 x) := by rw [← hc]; rfl
  have hz2 : w.drew.frozen? ⟨X, 0, none⟩ = false := by rw [← hz]; rfl
  have hadd0 := run_call_add (P := Try.prog) Try.func53 (by kernel_rfl) (by kernel_rfl) (by kernel_rfl) .i64 (by kernel_rfl) (y := 1) hc hz (add_plain x w h0 h1)
  have hadd1 := run_call_add (P := Try.prog) Try.func53 (by kernel_rfl) (by kernel_rfl) (by kernel_rfl) .i64 (by kernel_rfl) (y := 1) hc2 hz2 (add_plain x w.drew h0 h1)
  go_enter Try.func28, Try.ntmps28
  go_wp2
  go_ret
  exact ⟨rfl, by first | exact .inl rfl | exact .inr rfl⟩

set_option maxHeartbeats 1000000 in
set_option maxRecDepth 100000 in
theorem iAtomLoad (X : Nat) (x : Int) (w : World) (hc : w.cell? ⟨X, 0, none⟩ = some (.int .i64 x)) :
    Calls Try.prog 29 #[.pointer (some ⟨X, 0, none⟩)] w fun e w' => e = .returned (.int .i64 x) ∧ (w' = w ∨ w' = w.drew) := by
  have hc2 : w.drew.cell? ⟨X, 0, none⟩ = some (.int .i64 x) := by rw [← hc]; rfl
  have hadd0 := run_call_load (P := Try.prog) Try.func54 (by kernel_rfl) (by kernel_rfl) (by kernel_rfl) .i64 (by kernel_rfl) hc
  have hadd1 := run_call_load (P := Try.prog) Try.func54 (by kernel_rfl) (by kernel_rfl) (by kernel_rfl) .i64 (by kernel_rfl) hc2
  go_enter Try.func29, Try.ntmps29
  go_wp2
  go_ret
  exact ⟨rfl, by first | exact .inl rfl | exact .inr rfl⟩

end Go.Proofs.Ytbgdapdenbldmaa
