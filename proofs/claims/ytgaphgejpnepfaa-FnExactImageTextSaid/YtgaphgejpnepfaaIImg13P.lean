/-
  The program's own capOk, insOk, handlerOk, startsAlone.
-/
import Derived.Test.YtgaphgejpnepfaaIImg13W
namespace Go.Proofs.Ytgaphgejpnepfaa
open Go.RowKit Go.Sort
set_option linter.unusedVariables false

/-- a number that its bounds don't move -/
def wi (m l h : Int) : Bool := (if h < (if m < l then l else m) then h else (if m < l then l else m)) == m
theorem wi_in (m l h : Int) (hl : l ≤ h) : wi m l h = inB m l h := by
  unfold wi inB
  rw [Bool.eq_iff_iff]
  simp only [beq_iff_eq, Bool.and_eq_true, decide_eq_true_eq]
  split <;> split at * <;> omega
theorem wi_0 : wi 0 0 0 = true := rfl

theorem iWithin5 (m0 m1 m2 m3 m4 l0 l1 l2 l3 l4 h0 h1 h2 h3 h4 : Int) (w : World) :
    Calls Try.prog 97 #[.agg #[.int .i64 m0, .int .i64 m1, .int .i64 m2, .int .i64 m3, .int .i64 m4], .agg #[.int .i64 l0, .int .i64 l1, .int .i64 l2, .int .i64 l3, .int .i64 l4], .agg #[.int .i64 h0, .int .i64 h1, .int .i64 h2, .int .i64 h3, .int .i64 h4]] w fun e w' => e = .returned (.bool (wi m0 l0 h0 && (wi m1 l1 h1 && (wi m2 l2 h2 && (wi m3 l3 h3 && wi m4 l4 h4))))) ∧ Below w.heap.size w w' :=
  iWithin (fun j => match j with | 0 => m0 | 1 => m1 | 2 => m2 | 3 => m3 | _ => m4) (fun j => match j with | 0 => l0 | 1 => l1 | 2 => l2 | 3 => l3 | _ => l4) (fun j => match j with | 0 => h0 | 1 => h1 | 2 => h2 | 3 => h3 | _ => h4) w _ rfl

theorem eqFiveV (m0 m1 m2 m3 m4 l0 l1 l2 l3 l4 : Int) (w : World) : (Op.equalIn 10000 158 (.agg #[.int .i64 m0, .int .i64 m1, .int .i64 m2, .int .i64 m3, .int .i64 m4]) (.agg #[.int .i64 l0, .int .i64 l1, .int .i64 l2, .int .i64 l3, .int .i64 l4])).run Try.prog w = .ok (m0 == l0 && (m1 == l1 && (m2 == l2 && (m3 == l3 && m4 == l4)))) w :=
  eqFive (fun j => match j with | 0 => m0 | 1 => m1 | 2 => m2 | 3 => m3 | _ => m4) (fun j => match j with | 0 => l0 | 1 => l1 | 2 => l2 | 3 => l3 | _ => l4) w
theorem build1 (a : Int) (w : World) : (Instr.build 158 #[(0, .int .i64 a)]).run Try.prog w = .ok (.agg #[.int .i64 a, .int .i64 0, .int .i64 0, .int .i64 0, .int .i64 0]) w := run_build w 158 _ _ (by kernel_rfl)
theorem build2 (a b : Int) (w : World) : (Instr.build 158 #[(0, .int .i64 a), (1, .int .i64 b)]).run Try.prog w = .ok (.agg #[.int .i64 a, .int .i64 b, .int .i64 0, .int .i64 0, .int .i64 0]) w := run_build w 158 _ _ (by kernel_rfl)
theorem build3 (a b c : Int) (w : World) : (Instr.build 158 #[(0, .int .i64 a), (1, .int .i64 b), (2, .int .i64 c)]).run Try.prog w = .ok (.agg #[.int .i64 a, .int .i64 b, .int .i64 c, .int .i64 0, .int .i64 0]) w := run_build w 158 _ _ (by kernel_rfl)
theorem build5 (a b c d e : Int) (w : World) : (Instr.build 158 #[(0, .int .i64 a), (1, .int .i64 b), (2, .int .i64 c), (3, .int .i64 d), (4, .int .i64 e)]).run Try.prog w = .ok (.agg #[.int .i64 a, .int .i64 b, .int .i64 c, .int .i64 d, .int .i64 e]) w := run_build w 158 _ _ (by kernel_rfl)
theorem build0 (w : World) : (Instr.build 158 #[]).run Try.prog w = .ok (.agg #[.int .i64 0, .int .i64 0, .int .i64 0, .int .i64 0, .int .i64 0]) w := run_build w 158 _ _ (by kernel_rfl)

set_option maxHeartbeats 1000000 in
set_option maxRecDepth 100000 in
theorem iCapOk (p : PCap) (w : World) :
    Calls Try.prog 163 #[.agg #[.bool p.reg, .int .i64 p.index]] w fun e w' => e = .returned (.bool (capOk p)) ∧ Below w.heap.size w w' := by
  have hF : (wi p.index 0 40 && (wi 0 0 0 && (wi 0 0 0 && (wi 0 0 0 && wi 0 0 0)))) = capOk p := by rw [wi_0, wi_in _ _ _ (by decide)]; unfold capOk; simp
  have cW := fun W => iWithin5 p.index 0 0 0 0 0 0 0 0 0 40 0 0 0 0 W
  simp only [hF] at cW
  obtain ⟨F, eF⟩ : ∃ F, capOk p = F := ⟨_, rfl⟩
  rw [eF]
  simp only [eF] at cW
  clear hF eF
  have hb1 := build1
  have b0 : ∀ cs t, Below w.heap.size w (w.alloc (.cells cs t)) := fun cs t => (Below.refl _ _).alloc (Nat.le_refl _) _
  go_enter Try.func163, Try.ntmps163
  go_wp2_with (go_at_call 97; refine (cW _).mono ?_; rintro e w' ⟨rfl, hb⟩)
  go_ret
  exact ⟨rfl, chain (b0 _ _) hb⟩

set_option maxHeartbeats 1000000 in
set_option maxRecDepth 100000 in
theorem iInsOk (p : PIns) (w : World) :
    Calls Try.prog 165 #[.agg #[.int .i64 p.op, .int .i64 p.a, .int .i64 p.b]] w fun e w' => e = .returned (.bool (insOk p)) ∧ Below w.heap.size w w' := by
  have hF : (wi p.op 1 19 && (wi p.a 0 300 && (wi p.b 0 300 && (wi 0 0 0 && wi 0 0 0)))) = insOk p := by rw [wi_0, wi_in _ 1 19 (by decide), wi_in _ 0 300 (by decide), wi_in p.b 0 300 (by decide)]; unfold insOk; simp
  have cW := fun W => iWithin5 p.op p.a p.b 0 0 1 0 0 0 0 19 300 300 0 0 W
  simp only [hF] at cW
  obtain ⟨F, eF⟩ : ∃ F, insOk p = F := ⟨_, rfl⟩
  rw [eF]
  simp only [eF] at cW
  clear hF eF
  have hb3 := build3
  have b0 : ∀ cs t, Below w.heap.size w (w.alloc (.cells cs t)) := fun cs t => (Below.refl _ _).alloc (Nat.le_refl _) _
  go_enter Try.func165, Try.ntmps165
  go_wp2_with (go_at_call 97; refine (cW _).mono ?_; rintro e w' ⟨rfl, hb⟩)
  go_ret
  exact ⟨rfl, chain (b0 _ _) hb⟩

set_option maxHeartbeats 1000000 in
set_option maxRecDepth 100000 in
theorem iHandlerOk (p : PHnd) (w : World) :
    Calls Try.prog 167 #[.agg #[.int .i64 p.lo, .int .i64 p.hi, .int .i64 p.target]] w fun e w' => e = .returned (.bool (hndOk p)) ∧ Below w.heap.size w w' := by
  have hF : (wi p.lo 0 300 && (wi p.hi 0 300 && (wi p.target 0 300 && (wi 0 0 0 && wi 0 0 0)))) = hndOk p := by rw [wi_0, wi_in _ 0 300 (by decide), wi_in _ 0 300 (by decide), wi_in p.target 0 300 (by decide)]; unfold hndOk; simp
  have cW := fun W => iWithin5 p.lo p.hi p.target 0 0 0 0 0 0 0 300 300 300 0 0 W
  simp only [hF] at cW
  obtain ⟨F, eF⟩ : ∃ F, hndOk p = F := ⟨_, rfl⟩
  rw [eF]
  simp only [eF] at cW
  clear hF eF
  have hb3 := build3
  have b0 : ∀ cs t, Below w.heap.size w (w.alloc (.cells cs t)) := fun cs t => (Below.refl _ _).alloc (Nat.le_refl _) _
  go_enter Try.func167, Try.ntmps167
  go_wp2_with (go_at_call 97; refine (cW _).mono ?_; rintro e w' ⟨rfl, hb⟩)
  go_ret
  exact ⟨rfl, chain (b0 _ _) hb⟩

set_option maxHeartbeats 1000000 in
set_option maxRecDepth 100000 in
theorem iStartsAlone (p : PFun) (x : Option Addr) (c : Nat) (kv hv : Value) (w : World) (hm : p.caps.length ≤ maxLen) :
    Calls Try.prog 102 #[.agg #[.int .i64 p.params, .int .i64 p.regs, .slice x p.caps.length c, kv, hv]] w fun e w' => e = .returned (.bool (decide (p.params = 0) && decide (p.caps.length = 0))) ∧ Below w.heap.size w w' := by
  have hE := fun (W : World) => eqFiveV p.params p.caps.length 0 0 0 0 0 0 0 0 W
  have hG := eqGuardFive
  have hF : (p.params == 0 && ((p.caps.length : Int) == 0 && ((0 : Int) == 0 && ((0 : Int) == 0 && (0 : Int) == 0)))) = (decide (p.params = 0) && decide (p.caps.length = 0)) := by
    rw [Bool.eq_iff_iff]
    simp
  obtain ⟨F, eF⟩ : ∃ F, (decide (p.params = 0) && decide (p.caps.length = 0)) = F := ⟨_, rfl⟩
  rw [eF] at hF ⊢
  simp only [hF] at hE
  clear hF eF
  unfold maxLen at hm
  have hb2 := build2
  have hb0 := build0
  have b0 : ∀ cs t, Below w.heap.size w (w.alloc (.cells cs t)) := fun cs t => (Below.refl _ _).alloc (Nat.le_refl _) _
  go_enter Try.func102, Try.ntmps102
  go_wp2
  go_ret
  exact ⟨rfl, b0 _ _⟩

end Go.Proofs.Ytgaphgejpnepfaa
