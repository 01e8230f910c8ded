/-
  The program's own funcOk.
-/
import Derived.Test.YtgaphgejpnepfaaIImg13L
namespace Go.Proofs.Ytgaphgejpnepfaa
open Go.RowKit Go.Sort
set_option linter.unusedVariables false

theorem fun_meas (p : PFun) : (wi p.params 0 4 && (wi p.regs p.params 40 && (wi p.caps.length 0 20 && (wi p.code.length 1 300 && wi p.hnds.length 0 40)))) = (inB p.params 0 4 && (inB p.regs p.params 40 && (decide (p.caps.length ≤ 20) && (inB p.code.length 1 300 && decide (p.hnds.length ≤ 40))))) := by
  rw [wi_in _ 0 4 (by decide), wi_in _ 0 20 (by decide), wi_in _ 1 300 (by decide), wi_in _ 0 40 (by decide)]
  by_cases h : inB p.params 0 4 = true
  · have h2 : p.params ≤ 40 := by
      unfold inB at h
      simp only [Bool.and_eq_true, decide_eq_true_eq] at h
      omega
    rw [wi_in _ _ _ h2]
    have e1 : inB p.caps.length 0 20 = decide (p.caps.length ≤ 20) := by unfold inB; rw [Bool.eq_iff_iff]; simp; omega
    have e2 : inB p.hnds.length 0 40 = decide (p.hnds.length ≤ 40) := by unfold inB; rw [Bool.eq_iff_iff]; simp; omega
    rw [e1, e2]
  · have h' : inB p.params 0 4 = false := by simpa using h
    rw [h']
    rfl

theorem fun_ok4 (p : PFun) (b : Bool) (h : (inB p.params 0 4 && (inB p.regs p.params 40 && (decide (p.caps.length ≤ 20) && (inB p.code.length 1 300 && decide (p.hnds.length ≤ 40))))) = b) : funOk p = (b && (p.caps.all capOk && (p.code.all insOk && p.hnds.all hndOk))) := by
  rw [← h]
  unfold funOk
  simp only [Bool.and_assoc]

set_option maxHeartbeats 2000000 in
set_option maxRecDepth 100000 in
theorem iFuncOk (p : PFun) (cv kv hv : Value) (w : World) (h2 : ArgFlat w cv 2 p.caps.length (p.caps.flatMap capC)) (h3 : ArgFlat w kv 3 p.code.length (p.code.flatMap insC)) (h4 : ArgFlat w hv 3 p.hnds.length (p.hnds.flatMap hndC)) :
    Calls Try.prog 101 #[.agg #[.int .i64 p.params, .int .i64 p.regs, cv, kv, hv]] w fun e w' => e = .returned (.bool (funOk p)) ∧ Below w.heap.size w w' := by
  have cC := fun W (hb : Below w.heap.size w W) => iAllCap p.caps cv W (h2.below hb)
  have cK := fun W (hb : Below w.heap.size w W) => iAllIns p.code kv W (h3.below hb)
  have cH := fun W (hb : Below w.heap.size w W) => iAllHandler p.hnds hv W (h4.below hb)
  obtain ⟨x2, c2, rfl, m2, _⟩ := h2
  obtain ⟨x3, c3, rfl, m3, _⟩ := h3
  obtain ⟨x4, c4, rfl, m4, _⟩ := h4
  unfold maxLen at m2 m3 m4
  have cW := fun W => iWithin5 p.params p.regs p.caps.length p.code.length p.hnds.length 0 p.params 0 1 0 4 40 20 300 40 W
  simp only [fun_meas p] at cW
  obtain ⟨b1, e1⟩ : ∃ b, (inB p.params 0 4 && (inB p.regs p.params 40 && (decide (p.caps.length ≤ 20) && (inB p.code.length 1 300 && decide (p.hnds.length ≤ 40))))) = b := ⟨_, rfl⟩
  simp only [e1] at cW
  rw [fun_ok4 p b1 e1]
  clear e1
  obtain ⟨b2, e2⟩ : ∃ b, p.caps.all capOk = b := ⟨_, rfl⟩
  obtain ⟨b3, e3⟩ : ∃ b, p.code.all insOk = b := ⟨_, rfl⟩
  obtain ⟨b4, e4⟩ : ∃ b, p.hnds.all hndOk = b := ⟨_, rfl⟩
  simp only [e2] at cC
  simp only [e3] at cK
  simp only [e4] at cH
  rw [e2, e3, e4]
  clear e2 e3 e4
  obtain ⟨P, hP⟩ : ∃ x, p.params = x := ⟨_, rfl⟩
  obtain ⟨R, hR⟩ : ∃ x, p.regs = x := ⟨_, rfl⟩
  obtain ⟨n2, e2⟩ : ∃ n, p.caps.length = n := ⟨_, rfl⟩
  obtain ⟨n3, e3⟩ : ∃ n, p.code.length = n := ⟨_, rfl⟩
  obtain ⟨n4, e4⟩ : ∃ n, p.hnds.length = n := ⟨_, rfl⟩
  rw [hP, hR, e2, e3, e4]
  simp only [hP, hR, e2, e3, e4] at cW
  simp only [e2] at cC m2
  simp only [e3] at cK m3
  simp only [e4] at cH m4
  clear hP hR e2 e3 e4
  have hb5 := build5
  have b0 : ∀ cs t, Below w.heap.size w (w.alloc (.cells cs t)) := fun cs t => (Below.refl _ _).alloc (Nat.le_refl _) _
  go_enter Try.func101, Try.ntmps101
  go_wp2_with fail
  refine (cW _).mono ?_
  rintro e w1 ⟨rfl, hb1⟩
  have hX1 : Below (w.alloc (.cells #[.int .i64 P, .int .i64 R, .slice x2 n2 c2, .slice x3 n3 c3, .slice x4 n4 c4] 78)).heap.size (w.alloc (.cells #[.int .i64 P, .int .i64 R, .slice x2 n2 c2, .slice x3 n3 c3, .slice x4 n4 c4] 78)) w1 := chain (by repeat (first | exact Below.refl _ _ | refine Below.setCell ?_ (by simp; try omega) _ | refine Below.alloc ?_ (by simp; try omega) _)) hb1
  have hY1 : Below w.heap.size w w1 := chain (b0 _ _) hX1
  clear hb1 cW
  cases b1 with
  | false =>
    go_wp2
    go_ret
    exact ⟨rfl, hY1⟩
  | true =>
  have k2 := new_cell hX1 2 _ rfl
  go_wp2_with fail
  refine (cC _ hY1).mono ?_
  rintro e w2 ⟨rfl, hb2⟩
  have hX2 := chain hX1 hb2
  have hY2 := chain hY1 hb2
  clear hb2 cC k2
  cases b2 with
  | false =>
    go_wp2
    go_ret
    exact ⟨rfl, hY2⟩
  | true =>
  have k3 := new_cell hX2 3 _ rfl
  go_wp2_with fail
  refine (cK _ hY2).mono ?_
  rintro e w3 ⟨rfl, hb3⟩
  have hX3 := chain hX2 hb3
  have hY3 := chain hY2 hb3
  clear hb3 cK k3
  cases b3 with
  | false =>
    go_wp2
    go_ret
    exact ⟨rfl, hY3⟩
  | true =>
  have k4 := new_cell hX3 4 _ rfl
  go_wp2_with fail
  refine (cH _ hY3).mono ?_
  rintro e w4 ⟨rfl, hb4⟩
  go_wp2
  go_ret
  exact ⟨rfl, chain hY3 hb4⟩

end Go.Proofs.Ytgaphgejpnepfaa
