/-
  The law FnJoins, walked behind its draws.
-/
import Derived.Test.YtlplljgcgohonaaJoinsL
import Derived.Deep.QuietTactic
import Derived.BigQuiet
import Derived.Lib.QuietBelow
namespace Go.Proofs.Ytlplljgcgohonaa
open Go Go.RowKit Go.Sort
set_option linter.unusedVariables false
set_option linter.unusedSimpArgs false

set_option maxHeartbeats 4000000 in
set_option maxRecDepth 100000 in
theorem joins_rest (a0 : Option Addr) (len0 cap0 : Nat) (w : World) (hl9 : len0 ≤ 9223372036854775807) (hbig : ¬ 1048576 < len0) (hcode : CodeIn w a0 len0 w.heap.size) :
    Calls Try.prog 3 #[.slice a0 len0 cap0] w fun e w' => e = .returned (.bool true) ∧ Below w.heap.size w w' := by
  have cD := drawJoin_any a0 len0 cap0 _ hcode
  clear hcode
  go_enter Try.func3, Try.ntmps3
  go_upto_region 3 with (go_at_call 7; (with_reducible refine (big_any a0 len0 cap0 _ hl9).mono ?_); rintro e w1 ⟨rfl, rfl⟩)
  go_upto_region 4 with (go_at_call 8; (with_reducible refine cD.mono ?_); rintro e w1 ⟨s, t, u, v, rfl, hs, ht, hu, hv, b1⟩; obtain ⟨ux, uc, rfl, _, _⟩ := hu.opened; obtain ⟨vx, vc, rfl, _, _⟩ := hv.opened)
  clear cD
  have M := two_made16 w1 (.cells #[.int .i64 s.acc, .slice ux s.regs.length uc] 26) (.cells #[.int .i64 t.acc, .slice vx t.regs.length vc] 26)
  have hlen1 := joinL_size s.regs t.regs
  have HJ : Hid (joinS t s = joinS s t ∧ joinS s s = s) := ⟨joinS_comm s t, joinS_self s⟩
  have hu2 : ∀ W, Below w1.heap.size w1 W → ArgI W (.slice ux s.regs.length uc) s.regs := fun W h => hu.below h
  have hv2 : ∀ W, Below w1.heap.size w1 W → ArgI W (.slice vx t.regs.length vc) t.regs := fun W h => hv.below h
  have J1 := fun W (h : Below w1.heap.size w1 W) => (iJoin_any s t _ _ W (hu2 W h) (hv2 W h) (by omega) (by omega)).mono (fun e w' (hh : ∃ v', e = .returned (.agg #[.int .i64 (joinS s t).acc, v']) ∧ OwnI w' W.heap.size v' (joinS s t).regs ∧ Below W.heap.size W w') => show ∃ (y : Option Addr) (d : Nat), e = .returned (.agg #[.int .i64 (joinS s t).acc, .slice y (joinS s t).regs.length d]) ∧ ArgI w' (.slice y (joinS s t).regs.length d) (joinS s t).regs ∧ Below W.heap.size W w' by
    obtain ⟨v, e1, e2, e3⟩ := hh
    obtain ⟨y, d, rfl⟩ := row_slice e2
    exact ⟨y, d, e1, e2.arg, e3⟩)
  have J2 := fun W (h : Below w1.heap.size w1 W) => (iJoin_any t s _ _ W (hv2 W h) (hu2 W h) (by omega) (by omega)).mono (fun e w' (hh : ∃ v', e = .returned (.agg #[.int .i64 (joinS t s).acc, v']) ∧ OwnI w' W.heap.size v' (joinS t s).regs ∧ Below W.heap.size W w') => show ∃ (y : Option Addr) (d : Nat), e = .returned (.agg #[.int .i64 (joinS s t).acc, .slice y (joinS s t).regs.length d]) ∧ ArgI w' (.slice y (joinS s t).regs.length d) (joinS s t).regs ∧ Below W.heap.size W w' by
    obtain ⟨v, e1, e2, e3⟩ := hh
    rw [HJ.out.1] at e1 e2
    obtain ⟨y, d, rfl⟩ := row_slice e2
    exact ⟨y, d, e1, e2.arg, e3⟩)
  have J3 := fun W (h : Below w1.heap.size w1 W) => (iJoin_any s s _ _ W (hu2 W h) (hu2 W h) (by omega) (by omega)).mono (fun e w' (hh : ∃ v', e = .returned (.agg #[.int .i64 (joinS s s).acc, v']) ∧ OwnI w' W.heap.size v' (joinS s s).regs ∧ Below W.heap.size W w') => show ∃ (y : Option Addr) (d : Nat), e = .returned (.agg #[.int .i64 s.acc, .slice y s.regs.length d]) ∧ ArgI w' (.slice y s.regs.length d) s.regs ∧ Below W.heap.size W w' by
    obtain ⟨v, e1, e2, e3⟩ := hh
    rw [HJ.out.2] at e1 e2
    obtain ⟨y, d, rfl⟩ := row_slice e2
    exact ⟨y, d, e1, e2.arg, e3⟩)
  have hSome := fun (i : Nat) (z : Int) (h : (joinS s t).regs[i]? = some z) (hz : z ≠ 0) => joinL_some h hz
  have hAcc := joinS_acc s t
  have hJlen : (joinS s t).regs.length = max s.regs.length t.regs.length := hlen1
  obtain ⟨js, hjs⟩ : ∃ j, joinS s t = j := ⟨_, rfl⟩
  simp only [hjs] at J1 J2 hSome hAcc hJlen
  obtain ⟨n, hn⟩ : ∃ k, s.regs.length = k := ⟨_, rfl⟩
  obtain ⟨m, hm⟩ : ∃ k, t.regs.length = k := ⟨_, rfl⟩
  obtain ⟨q, hq⟩ : ∃ k, js.regs.length = k := ⟨_, rfl⟩
  obtain ⟨AC, hAC⟩ : ∃ k, s.acc = k := ⟨_, rfl⟩
  obtain ⟨BC, hBC⟩ : ∃ k, t.acc = k := ⟨_, rfl⟩
  obtain ⟨JC, hJC⟩ : ∃ k, js.acc = k := ⟨_, rfl⟩
  simp only [hn, hm, hAC, hBC] at M
  simp only [hq, hJC, hn, hm, hAC, hBC] at J1 J2
  simp only [hn, hAC] at J3
  simp only [hAC, hBC, hJC] at hAcc
  try simp only [hn, hm, hAC, hBC]
  have HL : Hid (s.regs.length = n ∧ t.regs.length = m ∧ js.regs.length = q ∧ q = max n m ∧ n ≤ 1000 ∧ m ≤ 1000) := ⟨hn, hm, hq, by rw [← hq, hJlen, hn, hm], by omega, by omega⟩
  have HS : Hid (∀ (i : Nat) (z : Int), js.regs[i]? = some z → z ≠ 0 → s.regs[i]? = some z ∧ t.regs[i]? = some z) := hSome
  have HA : Hid (JC = 0 ∨ JC = AC ∧ JC = BC) := hAcc
  have HU : Hid (∀ W, Below w1.heap.size w1 W → ArgI W (.slice ux n uc) s.regs) := fun W h => by rw [← hn]; exact hu2 W h
  have HV : Hid (∀ W, Below w1.heap.size w1 W → ArgI W (.slice vx m vc) t.regs) := fun W h => by rw [← hm]; exact hv2 W h
  clear hs ht hu hv hu2 hv2 hlen1 HJ hSome hAcc hJlen hjs hn hm hq hAC hBC hJC
  obtain ⟨W3, hW3⟩ : ∃ W, ((w1.alloc (.cells #[.int .i64 AC, .slice ux n uc] 26)).alloc (.cells #[.int .i64 BC, .slice vx m vc] 26)) = W := ⟨_, rfl⟩
  rw [hW3] at M
  rw [hW3]
  obtain ⟨t0, t1, tz, tb⟩ := M
  obtain ⟨P, hP⟩ : ∃ P, w1.heap.size = P := ⟨_, rfl⟩
  rw [hP] at t0 t1 tz
  try simp only [hP]
  have HP : Hid (w1.heap.size = P ∧ Below w.heap.size w w1 ∧ Below w1.heap.size w1 W3) := ⟨hP, b1, tb⟩
  have HK : Hid (∀ W, Below W3.heap.size W3 W → (W.cell? ⟨P, 0, none⟩ = some (.int .i64 AC) ∧ W.cell? ⟨P, 1, none⟩ = some (.slice ux n uc)) ∧ (W.cell? ⟨P + 1, 0, none⟩ = some (.int .i64 BC) ∧ W.cell? ⟨P + 1, 1, none⟩ = some (.slice vx m vc))) := fun W h => ⟨two_cells_of ((h.block P (lt16 t0)).trans t0), two_cells_of ((h.block (P + 1) (lt16 t1)).trans t1)⟩
  clear hW3 hP tz b1 t0 t1
  obtain ⟨⟨p0, p1⟩, p2, p3⟩ := HK.out W3 (Below.refl _ _)
  -- joined three times
  have cJ1 := J1 W3 tb
  go_upto_region 5 with (go_at_call 9; (with_reducible refine cJ1.mono ?_); rintro e w4 ⟨jx, jd, rfl, hj, b4⟩)
  have bx4 : Below w4.heap.size w4 (w4.alloc (.cells #[.int .i64 JC, .slice jx q jd] 26)) := (Below.refl _ _).alloc (Nat.le_refl _) _
  have hx4 := heap_alloc_new w4 (.cells #[.int .i64 JC, .slice jx q jd] 26)
  obtain ⟨W4, hW4⟩ : ∃ W, (w4.alloc (.cells #[.int .i64 JC, .slice jx q jd] 26)) = W := ⟨_, rfl⟩
  obtain ⟨X4, hX4⟩ : ∃ X, w4.heap.size = X := ⟨_, rfl⟩
  rw [hW4] at bx4 hx4
  rw [hX4] at hx4
  try simp only [hW4, hX4]
  have hj4 := hj.below bx4
  have B4 := chain b4 bx4
  clear hW4 hX4 bx4 b4 hj cJ1 J1 p0 p1 p2 p3
  obtain ⟨⟨p0, p1⟩, p2, p3⟩ := HK.out W4 B4
  have cJ2 := J2 W4 (chain tb B4)
  go_upto_region 6 with (go_at_call 9; (with_reducible refine cJ2.mono ?_); rintro e w5 ⟨kx, kd, rfl, hk, b5⟩)
  have bx5 : Below w5.heap.size w5 (w5.alloc (.cells #[.int .i64 JC, .slice kx q kd] 26)) := (Below.refl _ _).alloc (Nat.le_refl _) _
  have hx5 := heap_alloc_new w5 (.cells #[.int .i64 JC, .slice kx q kd] 26)
  obtain ⟨W5, hW5⟩ : ∃ W, (w5.alloc (.cells #[.int .i64 JC, .slice kx q kd] 26)) = W := ⟨_, rfl⟩
  obtain ⟨X5, hX5⟩ : ∃ X, w5.heap.size = X := ⟨_, rfl⟩
  rw [hW5] at bx5 hx5
  rw [hX5] at hx5
  try simp only [hW5, hX5]
  have hk5 := hk.below bx5
  have B45 := chain b5 bx5
  have B5 := chain B4 B45
  have hx4' := (B45.block X4 (lt16 hx4)).trans hx4
  have hj5 := hj4.below B45
  clear hW5 hX5 bx5 b5 hk cJ2 J2 p0 p1 p2 p3 hx4 hj4 B45
  obtain ⟨⟨p0, p1⟩, p2, p3⟩ := HK.out W5 B5
  have cJ3 := J3 W5 (chain tb B5)
  go_upto_region 7 with (go_at_call 9; (with_reducible refine cJ3.mono ?_); rintro e w6 ⟨lx, ld, rfl, hl, b6⟩)
  have bx6 : Below w6.heap.size w6 (w6.alloc (.cells #[.int .i64 AC, .slice lx n ld] 26)) := (Below.refl _ _).alloc (Nat.le_refl _) _
  have hx6 := heap_alloc_new w6 (.cells #[.int .i64 AC, .slice lx n ld] 26)
  obtain ⟨W6, hW6⟩ : ∃ W, (w6.alloc (.cells #[.int .i64 AC, .slice lx n ld] 26)) = W := ⟨_, rfl⟩
  obtain ⟨X6, hX6⟩ : ∃ X, w6.heap.size = X := ⟨_, rfl⟩
  rw [hW6] at bx6 hx6
  rw [hX6] at hx6
  try simp only [hW6, hX6]
  have hl6 := hl.below bx6
  have B56 := chain b6 bx6
  have B6 := chain B5 B56
  have hx4 := (B56.block X4 (lt16 hx4')).trans hx4'
  have hx5' := (B56.block X5 (lt16 hx5)).trans hx5
  have hj6 := hj5.below B56
  have hk6 := hk5.below B56
  clear hW6 hX6 bx6 b6 hl cJ3 J3 p0 p1 p2 p3 hx4' hx5 hj5 hk5 B56 B5 B4
  have HX : Hid (∀ W, Below W6.heap.size W6 W → ((W.cell? ⟨P, 0, none⟩ = some (.int .i64 AC) ∧ W.cell? ⟨P, 1, none⟩ = some (.slice ux n uc)) ∧ (W.cell? ⟨P + 1, 0, none⟩ = some (.int .i64 BC) ∧ W.cell? ⟨P + 1, 1, none⟩ = some (.slice vx m vc))) ∧ (W.cell? ⟨X4, 0, none⟩ = some (.int .i64 JC) ∧ W.cell? ⟨X4, 1, none⟩ = some (.slice jx q jd)) ∧ (W.cell? ⟨X5, 0, none⟩ = some (.int .i64 JC) ∧ W.cell? ⟨X5, 1, none⟩ = some (.slice kx q kd)) ∧ (W.cell? ⟨X6, 0, none⟩ = some (.int .i64 AC) ∧ W.cell? ⟨X6, 1, none⟩ = some (.slice lx n ld))) := fun W h => ⟨HK.out W (chain B6 h), two_cells_of ((h.block X4 (lt16 hx4)).trans hx4), two_cells_of ((h.block X5 (lt16 hx5')).trans hx5'), two_cells_of ((h.block X6 (lt16 hx6)).trans hx6)⟩
  have HB6 : Hid (Below W3.heap.size W3 W6) := B6
  have sJ : ∀ W, Below W6.heap.size W6 W → Calls Try.prog 10 #[.slice jx q jd, .slice kx q kd] W fun e w' => e = .returned (.bool true) ∧ Below W.heap.size W w' := fun W h => (sameInts_f _ _ js.regs js.regs W (hj6.below h) (hk6.below h)).mono (fun e w' (hh : e = .returned (.bool (decide (js.regs = js.regs))) ∧ Below W.heap.size W w') => ⟨by rw [hh.1]; simp, hh.2⟩)
  have sA : ∀ W, Below W6.heap.size W6 W → Calls Try.prog 10 #[.slice lx n ld, .slice ux n uc] W fun e w' => e = .returned (.bool true) ∧ Below W.heap.size W w' := fun W h => (sameInts_f _ _ s.regs s.regs W (hl6.below h) (HU.out W (chain tb (chain B6 h)))).mono (fun e w' (hh : e = .returned (.bool (decide (s.regs = s.regs))) ∧ Below W.heap.size W w') => ⟨by rw [hh.1]; simp, hh.2⟩)
  have HJR : Hid (ArgI W6 (.slice jx q jd) js.regs) := hj6
  clear hx4 hx5' hx6 hj6 hk6 hl6 HK B6
  obtain ⟨⟨⟨p0, p1⟩, p2, p3⟩, ⟨p4, p5⟩, ⟨p6, p7⟩, p8, p9⟩ := HX.out W6 (Below.refl _ _)
  have s1 := sJ W6 (Below.refl _ _)
  go_upto_region 9 with (first
    | (go_at_call 10; (with_reducible refine s1.mono ?_); rintro e w7 ⟨rfl, b7⟩; obtain ⟨⟨⟨c0, c1⟩, c2, c3⟩, ⟨c4, c5⟩, ⟨c6, c7⟩, c8, c9⟩ := HX.out w7 b7; have s2 := sA w7 b7)
    | (go_at_call 10; (with_reducible refine s2.mono ?_); rintro e w8 ⟨rfl, b8⟩; have HB8 : Hid (Below W6.heap.size W6 w8) := chain b7 b8))
  have hopen : ∀ (W : World) (x : Option Addr) (k c : Nat) (l : List Int), l.length = k → ArgI W (.slice x k c) l → (0 < k → ∃ b o, x = some ⟨b, o, none⟩ ∧ b < W.heap.size ∧ ∀ (j : Nat) (z : Int), l[j]? = some z → W.cell? ⟨b, o + j, none⟩ = some (.int .i64 z)) := fun W x k c l hl h => by
    obtain ⟨x', c', e, _, ho⟩ := h.opened
    simp only [Value.slice.injEq] at e
    obtain ⟨e1, e2, e3⟩ := e
    rw [← e2, ← e1] at ho
    exact ho
  have HOJ : Hid _ := hopen _ _ _ _ _ HL.out.2.2.1 HJR.out
  have HOU : Hid _ := hopen _ _ _ _ _ HL.out.1 (HU.out W6 (chain HP.out.2.2 HB6.out))
  have HOV : Hid _ := hopen _ _ _ _ _ HL.out.2.1 (HV.out W6 (chain HP.out.2.2 HB6.out))
  clear hopen s1 s2 sJ sA b7 b8 p0 p1 p2 p3 p4 p5 p6 p7 p8 p9 c0 c1 c2 c3 c4 c5 c6 c7 c8 c9 tb
  go_upto_region 10 with fail
  go_loopw [8] (fun i wr => ∃ k : Nat, i = .int .i64 k ∧ k ≤ q ∧ Hid (Below W6.heap.size W6 wr)) (fun i _ => q - (intOf i).toNat)
  case atStart => exact ⟨0, rfl, Nat.zero_le _, HB8⟩
  case round =>
    obtain ⟨k, rfl, hk, HB⟩ := hrel
    obtain ⟨⟨⟨p0, p1⟩, p2, p3⟩, ⟨p4, p5⟩, _, _⟩ := HX.out wr HB.out
    by_cases hkq : k < q
    · have hq9 : q ≤ 1000 := by have := HL.out; omega
      have hki : (k : Int) < (q : Int) := by omega
      have hk0 : (0 : Int) ≤ (k : Int) := by omega
      obtain ⟨z, hz⟩ : ∃ z, js.regs[k]? = some z := ⟨_, List.getElem?_eq_getElem (by have := HL.out.2.2.1; omega)⟩
      obtain ⟨bj, oj, rfl, hbj, hcj⟩ := HOJ.out (by omega)
      have q0 : wr.cell? ⟨bj, oj + k, none⟩ = some (.int .i64 z) := (HB.out.cell hbj).trans (hcj k z hz)
      by_cases hz0 : z = 0
      · subst hz0
        go_upto_region 12 with fail
        have r1 := cell_regrown p1
        have r3 := cell_regrown p3
        have r5 := cell_regrown p5
        have rq := cell_regrown q0
        clear p0 p1 p2 p3 p4 p5 q0 hcj
        refine wp_region_quiet_below (by kernel_rfl) (by kernel_rfl) ?_
        repeat (first | go_big_quiet_step (fail) | quiet_step (fail))
        refine wpQuiet_nil ?_
        intro _ hw'
        obtain ⟨⟨dq, osq⟩, hw2⟩ := hw'
        subst hw2
        have HB2 : Hid (Below W6.heap.size W6 (grow (redrawn wr dq) osq)) := chain HB.out (below_regrown wr dq osq)
        clear r1 r3 r5 rq
        go_wp2
        go_roundw
        case rel => exact ⟨k + 1, by go_num, by omega, HB2⟩
        case measure => simp [intOf]; omega
      · obtain ⟨h1, h2⟩ := HS.out k z hz hz0
        have hkn : k < n := by have := HL.out.1; have := (List.getElem?_eq_some_iff.1 h1).1; omega
        have hkm : k < m := by have := HL.out.2.1; have := (List.getElem?_eq_some_iff.1 h2).1; omega
        obtain ⟨bu, ou, rfl, hbu, hcu⟩ := HOU.out (by omega)
        obtain ⟨bv, ov, rfl, hbv, hcv⟩ := HOV.out (by omega)
        have q1 : wr.cell? ⟨bu, ou + k, none⟩ = some (.int .i64 z) := (HB.out.cell hbu).trans (hcu k z h1)
        have q2 : wr.cell? ⟨bv, ov + k, none⟩ = some (.int .i64 z) := (HB.out.cell hbv).trans (hcv k z h2)
        have hzb : (z != 0) = true := by simp [hz0]
        have hkn' : (k : Int) < (n : Int) := by omega
        have hkm' : (k : Int) < (m : Int) := by omega
        go_upto_region 12 with fail
        have r1 := cell_regrown p1
        have r3 := cell_regrown p3
        have r5 := cell_regrown p5
        have rq := cell_regrown q0
        have rq1 := cell_regrown q1
        have rq2 := cell_regrown q2
        clear p0 p1 p2 p3 p4 p5 q0 q1 q2 hcj hcu hcv
        refine wp_region_quiet_below (by kernel_rfl) (by kernel_rfl) ?_
        repeat (first | go_big_quiet_step (fail) | quiet_step (fail))
        refine wpQuiet_nil ?_
        intro _ hw'
        obtain ⟨⟨dq, osq⟩, hw2⟩ := hw'
        subst hw2
        have HB2 : Hid (Below W6.heap.size W6 (grow (redrawn wr dq) osq)) := chain HB.out (below_regrown wr dq osq)
        clear r1 r3 r5 rq rq1 rq2
        go_wp2
        go_roundw
        case rel => exact ⟨k + 1, by go_num, by omega, HB2⟩
        case measure => simp [intOf]; omega
    · have hki : ¬ (k : Int) < (q : Int) := by omega
      rcases HA.out with rfl | ⟨rfl, rfl⟩
      · go_wp2
        go_ret
        exact ⟨rfl, chain HP.out.2.1 (chain HP.out.2.2 (chain HB6.out HB.out))⟩
      · by_cases hj0 : JC = 0
        · subst hj0
          go_wp2
          go_ret
          exact ⟨rfl, chain HP.out.2.1 (chain HP.out.2.2 (chain HB6.out HB.out))⟩
        · have hjb : (JC == 0) = false := by rw [beq_eq_false_iff_ne]; exact hj0
          go_wp2
          go_ret
          exact ⟨rfl, chain HP.out.2.1 (chain HP.out.2.2 (chain HB6.out HB.out))⟩

end Go.Proofs.Ytlplljgcgohonaa
