/-
  The law's own helpers over states: marked, and looked for their marks.
-/
import Derived.Test.YtgaphgejpnepfaaSta16T
namespace Go.Proofs.Ytgaphgejpnepfaa
open Go.RowKit Go.Sort
set_option linter.unusedVariables false

theorem grown_more {w w' : World} (h : Below w.heap.size w w') (row : Option Nat) : w.grownBy w' row := ⟨h.os, h.tape, h.output, h.size, fun k hk _ => h.block k hk⟩

set_option maxHeartbeats 1000000 in
set_option maxRecDepth 100000 in
/-- a state of one's own is marked: numbers from k on stand in its row then, no other block that was there is changed -/
theorem markState_any (B : Nat) (p : PSta) (v : Value) (k : Nat) (w : World) (hv : OwnI w B v p.regs) (hl : p.regs.length ≤ 2000000) (hk : k ≤ 1000000000) :
    Calls Try.prog 26 #[.agg #[.int .i64 p.acc, v], .int .i64 k] w fun e w' => e = .returned (.int .i64 ((k + p.regs.length : Nat) : Int)) ∧ OwnI w' B v (upI k p.regs.length) ∧ w.grownBy w' v.ownBlock := by
  have b0 : Below w.heap.size w (w.alloc (.cells #[.int .i64 p.acc, v] 26)) := (Below.refl _ _).alloc (Nat.le_refl _) _
  have cM := markIntS_f B v p.regs k _ (hv.below b0) hl hk
  have HG : Hid (w.grownBy (w.alloc (.cells #[.int .i64 p.acc, v] 26)) v.ownBlock) := grown_more b0 _
  obtain ⟨xv, cv, rfl⟩ := row_slice hv
  obtain ⟨N, hN⟩ : ∃ N : Nat, k + p.regs.length = N := ⟨_, rfl⟩
  rw [hN] at cM ⊢
  clear hv
  go_enter Try.func26, Try.ntmps26
  go_wp2_with fail
  refine cM.mono ?_
  rintro e w' ⟨rfl, ho, hg⟩
  have HO : Hid _ := ho
  have HGG : Hid _ := HG.out.trans hg
  clear ho hg HG
  go_wp2
  go_ret
  exact ⟨rfl, HO.out, HGG.out⟩

set_option maxHeartbeats 1000000 in
set_option maxRecDepth 100000 in
theorem heldState_any (acc : Int) (v : Value) (n k : Nat) (w : World) (hv : ArgI w v (upI k n)) (hl : n ≤ 2000000) (hk : k ≤ 1000000000) :
    Calls Try.prog 27 #[.agg #[.int .i64 acc, v], .int .i64 k] w fun e w' => e = .returned (.int .i64 ((k + n : Nat) : Int)) ∧ Below w.heap.size w w' := by
  have b0 : Below w.heap.size w (w.alloc (.cells #[.int .i64 acc, v] 26)) := (Below.refl _ _).alloc (Nat.le_refl _) _
  have cM := heldIntS_f v n k _ (hv.below b0) hl hk
  obtain ⟨N, hN⟩ : ∃ N : Nat, k + n = N := ⟨_, rfl⟩
  rw [hN] at cM ⊢
  have h0 : ¬ (N : Int) < 0 := by omega
  clear hv
  go_enter Try.func27, Try.ntmps27
  go_wp2_with fail
  refine cM.mono ?_
  rintro e w' ⟨rfl, rfl⟩
  go_wp2
  go_ret
  exact ⟨rfl, b0⟩

end Go.Proofs.Ytgaphgejpnepfaa
