/-
  Part 16 of what is proved of drawn right trees.
-/
import Derived.Test.YtcdbifcidaafnaaGreatDoorPao

namespace Go.Proofs.YtcdbifcidaafnaaGreatDoor
open Go.RowKit Go.Sort
set_option linter.unusedVariables false
set_option linter.unusedSimpArgs false
theorem lt17 {w : World} {k : Nat} {o : Obj} (h : w.heap[k]? = some o) : k < w.heap.size := (Array.getElem?_eq_some_iff.1 h).1
def textB (op : Int) (s u : ByteArray) : PVal × ByteArray :=
  if inB op 6 9 = true then (boolV (orderB op (Op.bytesLess s.toList u.toList) (s.toList == u.toList) false), ⟨#[]⟩)
  else if op = 1 then (if 200 < s.size + u.size then (noneV, longS) else (textV (s ++ u), ⟨#[]⟩))
  else (noneV, typeS)
set_option maxHeartbeats 1000000 in
set_option maxRecDepth 100000 in
theorem iTextDo (op : Int) (s u : ByteArray) (w : World) (hs : s.size ≤ 1048576) (hu : u.size ≤ 1048576) :
    Calls Tryz.prog 55 #[.string s, .int .i64 op, .string u] w fun e w' => ∃ v, e = .returned v ∧ DoneIs (textB op s u) v ∧ Below w.heap.size w w' := by
  have cO := fun W => iOrderText s u W
  have cH := fun W => iHoldsFor op (Op.bytesLess s.toList u.toList) (s.toList == u.toList) (!Op.bytesLess s.toList u.toList && !(s.toList == u.toList)) W
  have HH : Hid (DoneIs (if inB op 6 9 = true then (boolV (orderB op (Op.bytesLess s.toList u.toList) (s.toList == u.toList) false), ⟨#[]⟩) else (noneV, typeS)) (holdU op (Op.bytesLess s.toList u.toList) (s.toList == u.toList) (!Op.bytesLess s.toList u.toList && !(s.toList == u.toList)))) := hold_is op _ _ _ false rfl (fun h => by cases h) (fun h => bytesLess_ne _ _ h)
  unfold textB
  by_cases h1 : op = 1
  · subst h1
    rw [if_neg (fun h => by have := in_69.1 h; omega), if_pos rfl]
    have e3 : IntKind.i64.wrap ((s.size : Int) + (u.size : Int)) = (s.size : Int) + (u.size : Int) := by rw [IntKind.wrap_i64]; omega
    clear cO cH HH
    have hbM : ∀ (t : ByteArray) W, (Instr.build 85 #[(0, .string t)]).run Tryz.prog W = .ok (.agg #[.string t]) W := fun t W => run_build W 85 _ _ (by kernel_rfl)
    by_cases hl : 200 < s.size + u.size
    · rw [if_pos hl]
      have hl' : (200 : Int) < (s.size : Int) + (u.size : Int) := by omega
      have HD : Hid (DoneIs (noneV, longS) _) := done_no longS
      go_enter Tryz.func55, Tryz.ntmps55
      go_wp2
      go_ret2
      exact ⟨_, rfl, HD.out, Below.refl _ _⟩
    · rw [if_neg hl]
      have hl' : ¬ (200 : Int) < (s.size : Int) + (u.size : Int) := by omega
      have HD : Hid (∀ t, DoneIs (textV t, ⟨#[]⟩) (.tuple #[.iface 81 (.string t), .nilIface])) := done_text
      have hN := heap_alloc_new w (.cells #[.string s, .string u] 9)
      have b0 : Below w.heap.size w (w.alloc (.cells #[.string s, .string u] 9)) := (Below.refl _ _).alloc (Nat.le_refl _) _
      have cJ := iJoin2 w.heap.size s u (w.alloc (.cells #[.string s, .string u] 9)) (by rw [cell_of_row _ _ _ _ _ _ hN]; rfl) (by rw [cell_of_row _ _ _ _ _ _ hN]; rfl) (by omega)
      clear hN
      go_enter Tryz.func55, Tryz.ntmps55
      go_wp2_with (go_at_call 81; (with_reducible refine cJ.mono ?_); rintro e w1 ⟨rfl, b1⟩)
      go_ret2
      exact ⟨_, rfl, HD.out _, chain b0 b1⟩
  · rw [if_neg h1]
    obtain ⟨R, hR⟩ : ∃ R, (if inB op 6 9 = true then (boolV (orderB op (Op.bytesLess s.toList u.toList) (s.toList == u.toList) false), (⟨#[]⟩ : ByteArray)) else (noneV, typeS)) = R := ⟨_, rfl⟩
    obtain ⟨U, hU⟩ : ∃ U, holdU op (Op.bytesLess s.toList u.toList) (s.toList == u.toList) (!Op.bytesLess s.toList u.toList && !(s.toList == u.toList)) = U := ⟨_, rfl⟩
    rw [hR, hU] at HH
    rw [hR]
    have HU : Hid (∃ a b, U = .tuple #[a, b]) := by
      rw [← hU]
      unfold holdU
      repeat' split
      all_goals exact ⟨_, _, rfl⟩
    obtain ⟨ua, ub, rfl⟩ := HU.out
    simp only [hU] at cH
    obtain ⟨L, hL⟩ : ∃ b, Op.bytesLess s.toList u.toList = b := ⟨_, rfl⟩
    obtain ⟨E, hE⟩ : ∃ b, (s.toList == u.toList) = b := ⟨_, rfl⟩
    obtain ⟨K, hK⟩ : ∃ b, (!L && !E) = b := ⟨_, rfl⟩
    simp only [hL, hE, hK] at cO cH
    have e1 : (op == 1) = false := by rw [beq_eq_false_iff_ne]; exact h1
    have e2 : (op != 1) = true := by rw [bne_iff_ne]; exact h1
    clear hR hU hL hE hK HU
    go_enter Tryz.func55, Tryz.ntmps55
    go_wp2_with (first | (go_at_call 80; (with_reducible refine (cO _).mono ?_); rintro e w1 ⟨rfl, b1⟩) | (go_at_call 79; (with_reducible refine (cH _).mono ?_); rintro e w2 ⟨rfl, b2⟩))
    go_ret2
    exact ⟨_, rfl, HH.out, chain b1 b2⟩
theorem DoneIs.pair {r : PVal × ByteArray} {u : Value} (h : DoneIs r u) : ∃ a b, u = .tuple #[a, b] := by
  rcases h with ⟨_, _, _, _, _, _, rfl⟩ | ⟨_, rfl⟩ <;> exact ⟨_, _, rfl⟩
theorem binV_num {op : Int} {a b : PVal} (h10 : ¬ op = 10) (h11 : ¬ op = 11) (ha : isNum a = true) (hb : isNum b = true) : binV op a b = numB op a.num b.num := by
  unfold isNum at ha hb
  simp only [decide_eq_true_eq] at ha hb
  unfold binV numB
  rw [if_neg h10, if_neg h11, if_neg (by omega), if_pos ⟨ha, hb⟩]
  by_cases ho : inB op 6 9 = true
  · have := in_69.1 ho
    rw [if_pos ho, if_neg (by omega), if_neg (by omega), if_neg (by omega), if_neg (by omega), if_neg (by omega), if_pos ho]
  · rw [if_neg ho, if_neg ho]
theorem binV_text {op : Int} {a b : PVal} (h10 : ¬ op = 10) (h11 : ¬ op = 11) (ha : isTxt a = true) (hb : isTxt b = true) : binV op a b = textB op a.text b.text := by
  unfold isTxt at ha hb
  simp only [decide_eq_true_eq] at ha hb
  unfold binV textB
  rw [if_neg h10, if_neg h11, if_pos ⟨ha, hb⟩]
theorem binV_no {op : Int} {a b : PVal} (h10 : ¬ op = 10) (h11 : ¬ op = 11) (hn : (isNum a && isNum b) = false) (ht : (isTxt a && isTxt b) = false) : binV op a b = (noneV, typeS) := by
  unfold isNum at hn
  unfold isTxt at ht
  simp only [Bool.and_eq_false_iff, decide_eq_false_iff_not] at hn ht
  unfold binV
  rw [if_neg h10, if_neg h11, if_neg (by omega), if_neg (by omega)]
theorem numP_is {p : PVal} (h : isNum p = true) : numP p = p.num := by
  unfold isNum at h
  unfold numP
  rw [if_pos (by simpa using h)]
theorem txtP_is {p : PVal} (h : isTxt p = true) : txtP p = p.text := by
  unfold isTxt at h
  unfold txtP
  rw [if_pos (by simpa using h)]
set_option maxHeartbeats 1000000 in
set_option maxRecDepth 100000 in
theorem iDone (op : Int) (a b : PVal) (w : World) (ha : valW a) (hb : valW b) (la : a.text.size ≤ 1048576) (lb : b.text.size ≤ 1048576) :
    Calls Tryz.prog 27 #[.int .i64 op, .agg #[.int .i64 a.kind, .int .u64 (a.num : Int), .string a.text, .int .i64 a.ref], .agg #[.int .i64 b.kind, .int .u64 (b.num : Int), .string b.text, .int .i64 b.ref]] w fun e w' => ∃ u, e = .returned u ∧ DoneIs (binV op a b) u ∧ Below w.heap.size w w' := by
  have cS := fun W => iSameValue_any a b W ha hb
  have cN := fun W => iNumbersIn a b W
  have cT := fun W => iTextsIn a b W
  have cD := fun W (h1 : isNum a = true) (h2 : isNum b = true) => iNumDo op a.num b.num W ha.2.1 hb.2.1
  have cE := fun W => iTextDo op a.text b.text W la lb
  have HT : Hid (∀ (x y : Bool), DoneIs (boolV x, ⟨#[]⟩) (.tuple #[.iface 80 (.bool x), .nilIface])) := fun x _ => done_truth x
  have HNo : Hid (DoneIs (noneV, typeS) (.tuple #[.nilIface, .iface 85 (.agg #[.string typeS])])) := done_no typeS
  obtain ⟨t0, t1, tz, tb⟩ := two_made w (.cells #[.int .i64 a.kind, .int .u64 (a.num : Int), .string a.text, .int .i64 a.ref] 26) (.cells #[.int .i64 b.kind, .int .u64 (b.num : Int), .string b.text, .int .i64 b.ref] 26)
  obtain ⟨W2, hW2⟩ : ∃ W, ((w.alloc (.cells #[.int .i64 a.kind, .int .u64 (a.num : Int), .string a.text, .int .i64 a.ref] 26)).alloc (.cells #[.int .i64 b.kind, .int .u64 (b.num : Int), .string b.text, .int .i64 b.ref] 26)) = W := ⟨_, rfl⟩
  rw [hW2] at t0 t1 tz tb
  have HW2 : Hid (_ = W2) := hW2
  have HK : Hid (∀ W, Below W2.heap.size W2 W → (W.cell? ⟨w.heap.size, 0, none⟩ = some (.int .i64 a.kind) ∧ W.cell? ⟨w.heap.size, 1, none⟩ = some (.int .u64 (a.num : Int)) ∧ W.cell? ⟨w.heap.size, 2, none⟩ = some (.string a.text) ∧ W.cell? ⟨w.heap.size, 3, none⟩ = some (.int .i64 a.ref)) ∧ (W.cell? ⟨w.heap.size + 1, 0, none⟩ = some (.int .i64 b.kind) ∧ W.cell? ⟨w.heap.size + 1, 1, none⟩ = some (.int .u64 (b.num : Int)) ∧ W.cell? ⟨w.heap.size + 1, 2, none⟩ = some (.string b.text) ∧ W.cell? ⟨w.heap.size + 1, 3, none⟩ = some (.int .i64 b.ref))) := fun W hW => ⟨four_cells ((hW.block _ (lt17 t0)).trans t0), four_cells ((hW.block _ (lt17 t1)).trans t1)⟩
  obtain ⟨⟨a0, a1, a2, a3⟩, b0, b1, b2, b3⟩ := HK.out W2 (Below.refl _ _)
  clear hW2 t0 t1 tz ha hb la lb
  obtain ⟨SV, hSV⟩ : ∃ x, valSame a b = x := ⟨_, rfl⟩
  simp only [hSV] at cS
  by_cases h10 : op = 10
  · subst h10
    have eb : binV 10 a b = (boolV SV, ⟨#[]⟩) := by rw [← hSV]; rfl
    rw [eb]
    clear cN cT cD cE HK eb hSV
    go_enter Tryz.func27, Tryz.ntmps27
    go_upto_region 1 with fail
    rw [HW2.out]
    clear HW2
    go_wp2_with (go_at_call 13; (with_reducible refine (cS _).mono ?_); rintro e w3 ⟨rfl, hb3⟩)
    go_ret2
    exact ⟨_, rfl, HT.out _ true, chain tb hb3⟩
  by_cases h11 : op = 11
  · subst h11
    have eb : binV 11 a b = (boolV (!SV), ⟨#[]⟩) := by rw [← hSV]; rfl
    rw [eb]
    clear cN cT cD cE HK eb hSV h10
    go_enter Tryz.func27, Tryz.ntmps27
    go_upto_region 1 with fail
    rw [HW2.out]
    clear HW2
    go_wp2_with (go_at_call 13; (with_reducible refine (cS _).mono ?_); rintro e w3 ⟨rfl, hb3⟩)
    go_ret2
    exact ⟨_, rfl, HT.out _ true, chain tb hb3⟩
  clear cS hSV HT
  have e10 : (op == 10) = false := by rw [beq_eq_false_iff_ne]; exact h10
  have e11 : (op == 11) = false := by rw [beq_eq_false_iff_ne]; exact h11
  obtain ⟨NB, hNB⟩ : ∃ x, (isNum a && isNum b) = x := ⟨_, rfl⟩
  simp only [hNB] at cN
  cases NB with
  | true =>
    rw [Bool.and_eq_true] at hNB
    have eb := binV_num h10 h11 hNB.1 hNB.2
    rw [eb]
    rw [numP_is hNB.1, numP_is hNB.2] at cN
    have cD1 := fun W => (cD W hNB.1 hNB.2).mono (fun e w' (hh : ∃ u, e = .returned u ∧ DoneIs (numB op a.num b.num) u ∧ Below W.heap.size W w') => show ∃ x y, e = .returned (.tuple #[x, y]) ∧ Hid (DoneIs (numB op a.num b.num) (.tuple #[x, y])) ∧ Below W.heap.size W w' by
      obtain ⟨u, e1, e2, e3⟩ := hh
      obtain ⟨x, y, rfl⟩ := e2.pair
      exact ⟨x, y, e1, e2, e3⟩)
    obtain ⟨R, hR⟩ : ∃ R, numB op a.num b.num = R := ⟨_, rfl⟩
    simp only [hR] at cD1 ⊢
    clear cT cD cE HK eb hNB hR HNo h10 h11
    go_enter Tryz.func27, Tryz.ntmps27
    go_upto_region 1 with fail
    rw [HW2.out]
    clear HW2
    go_wp2_with (first | (go_at_call 42; (with_reducible refine (cN _).mono ?_); rintro e w3 ⟨rfl, hb3⟩) | (go_at_call 53; (with_reducible refine (cD1 _).mono ?_); rintro e w4 ⟨x4, y4, rfl, HD4, hb4⟩))
    go_ret2
    exact ⟨_, rfl, HD4.out, chain tb (chain hb3 hb4)⟩
  | false =>
  clear cD
  obtain ⟨TB, hTB⟩ : ∃ x, (isTxt a && isTxt b) = x := ⟨_, rfl⟩
  simp only [hTB] at cT
  have HK3 := HK
  cases TB with
  | true =>
    rw [Bool.and_eq_true] at hTB
    have eb := binV_text h10 h11 hTB.1 hTB.2
    rw [eb]
    rw [txtP_is hTB.1, txtP_is hTB.2] at cT
    have cE1 := fun W => (cE W).mono (fun e w' (hh : ∃ u, e = .returned u ∧ DoneIs (textB op a.text b.text) u ∧ Below W.heap.size W w') => show ∃ x y, e = .returned (.tuple #[x, y]) ∧ Hid (DoneIs (textB op a.text b.text) (.tuple #[x, y])) ∧ Below W.heap.size W w' by
      obtain ⟨u, e1, e2, e3⟩ := hh
      obtain ⟨x, y, rfl⟩ := e2.pair
      exact ⟨x, y, e1, e2, e3⟩)
    obtain ⟨R, hR⟩ : ∃ R, textB op a.text b.text = R := ⟨_, rfl⟩
    simp only [hR] at cE1 ⊢
    clear cE eb hTB hNB hR HNo h10 h11
    go_enter Tryz.func27, Tryz.ntmps27
    go_upto_region 1 with fail
    rw [HW2.out]
    clear HW2
    go_upto_region 9 with (go_at_call 42; (with_reducible refine (cN _).mono ?_); rintro e w3 ⟨rfl, hb3⟩)
    clear a0 a1 a2 a3 b0 b1 b2 b3 cN
    obtain ⟨⟨a0, a1, a2, a3⟩, b0, b1, b2, b3⟩ := HK.out w3 hb3
    go_wp2_with (first | (go_at_call 54; (with_reducible refine (cT _).mono ?_); rintro e w4 ⟨rfl, hb4⟩) | (go_at_call 55; (with_reducible refine (cE1 _).mono ?_); rintro e w5 ⟨x5, y5, rfl, HD5, hb5⟩))
    go_ret2
    exact ⟨_, rfl, HD5.out, chain tb (chain hb3 (chain hb4 hb5))⟩
  | false =>
    rw [binV_no h10 h11 hNB hTB]
    have hbM : ∀ (t : ByteArray) W, (Instr.build 85 #[(0, .string t)]).run Tryz.prog W = .ok (.agg #[.string t]) W := fun t W => run_build W 85 _ _ (by kernel_rfl)
    clear cE hTB hNB h10 h11
    go_enter Tryz.func27, Tryz.ntmps27
    go_upto_region 1 with fail
    rw [HW2.out]
    clear HW2
    go_upto_region 9 with (go_at_call 42; (with_reducible refine (cN _).mono ?_); rintro e w3 ⟨rfl, hb3⟩)
    clear a0 a1 a2 a3 b0 b1 b2 b3 cN
    obtain ⟨⟨a0, a1, a2, a3⟩, b0, b1, b2, b3⟩ := HK.out w3 hb3
    go_wp2_with (go_at_call 54; (with_reducible refine (cT _).mono ?_); rintro e w4 ⟨rfl, hb4⟩)
    go_ret2
    exact ⟨_, rfl, HNo.out, chain tb (chain hb3 hb4)⟩
set_option maxHeartbeats 1000000 in
set_option maxRecDepth 100000 in
theorem iDoBinary_any (op : Int) (a b : PVal) (w : World) (ha : valW a) (hb : valW b) (la : a.text.size ≤ 1048576) (lb : b.text.size ≤ 1048576) (hg : EtOk w) :
    Calls Tryz.prog 10 #[.int .i64 op, .agg #[.int .i64 a.kind, .int .u64 (a.num : Int), .string a.text, .int .i64 a.ref], .agg #[.int .i64 b.kind, .int .u64 (b.num : Int), .string b.text, .int .i64 b.ref]] w fun e w' => e = .returned (pairV (binV op a b)) ∧ Below w.heap.size w w' := by
  have cD := fun W => iDone op a b W ha hb la lb
  have hl := hg.lt
  obtain ⟨⟨q, s⟩, hR⟩ : ∃ R, binV op a b = R := ⟨_, rfl⟩
  simp only [hR] at cD ⊢
  clear hR ha hb la lb
  have hG : ∀ W, Below w.heap.size w W → EtOk W := fun W hW => hg.below hl hW
  obtain ⟨t0, t1, t2, tz, tb⟩ := three_made w (.cells #[.int .i64 a.kind, .int .u64 (a.num : Int), .string a.text, .int .i64 a.ref] 26) (.cells #[.int .i64 b.kind, .int .u64 (b.num : Int), .string b.text, .int .i64 b.ref] 26) (.cells #[.int .i64 0, .int .u64 0, .string ⟨#[]⟩, .int .i64 0] 26)
  obtain ⟨W3, hW3⟩ : ∃ W, (((w.alloc (.cells #[.int .i64 a.kind, .int .u64 (a.num : Int), .string a.text, .int .i64 a.ref] 26)).alloc (.cells #[.int .i64 b.kind, .int .u64 (b.num : Int), .string b.text, .int .i64 b.ref] 26)).alloc (.cells #[.int .i64 0, .int .u64 0, .string ⟨#[]⟩, .int .i64 0] 26)) = W := ⟨_, rfl⟩
  rw [hW3] at t0 t1 t2 tz tb
  have HW3 : Hid (_ = W3) := hW3
  obtain ⟨a0, a1, a2, a3⟩ := four_cells t0
  obtain ⟨b0, b1, b2, b3⟩ := four_cells t1
  have HT2 : Hid (W3.heap[w.heap.size + 2]? = _ ∧ W3.heap.size = w.heap.size + 3 ∧ Below w.heap.size w W3) := ⟨t2, tz, tb⟩
  have cV : ∀ (u : Value) W, DoneIs (q, s) u → Below w.heap.size w W → ∃ x y, u = .tuple #[x, y] ∧ Calls Tryz.prog 26 #[x, y] W fun e w' => e = .returned (.tuple #[.agg #[.int .i64 q.kind, .int .u64 (q.num : Int), .string q.text, .int .i64 q.ref], .string s]) ∧ Below W.heap.size W w' := fun u W hu hW => by
    rcases hu with ⟨T, v, fv, h1, h2, h3, rfl⟩ | ⟨h1, rfl⟩
    · have c := iValueOrText_ok h1 W
      rw [h2] at c
      simp only at h3
      subst h3
      exact ⟨_, _, rfl, c⟩
    · have c := iValueOrText_no s W (hG W hW)
      simp only at h1
      subst h1
      exact ⟨_, _, rfl, c⟩
  have HV : Hid _ := cV
  clear hW3 t0 t1 t2 tz tb cV hG hg hl
  go_enter Tryz.func10, Tryz.ntmps10
  go_upto_region 1 with fail
  rw [HW3.out]
  clear HW3
  go_wp2_with fail
  refine (cD _).mono ?_
  rintro e w1 ⟨u, rfl, hu, hb1⟩
  obtain ⟨x, y, rfl, cV⟩ := HV.out u w1 hu (chain HT2.out.2.2 hb1)
  clear a0 a1 a2 a3 b0 b1 b2 b3 cD HV hu
  go_wp2_with fail
  refine cV.mono ?_
  rintro e w2 ⟨rfl, hb2⟩
  have hz := HT2.out.2.1
  obtain ⟨⟨c0, c1, c2, c3⟩, fz, ⟨g0, g1, g2, g3⟩, hbe⟩ := four_ready (w := w) (w1 := w2) (G := w.heap.size + 2) (B := w.heap.size) (b0 := .int .i64 q.kind) (b1 := .int .u64 (q.num : Int)) (b2 := .string q.text) (b3 := .int .i64 q.ref) (((chain hb1 hb2).block (w.heap.size + 2) (by omega)).trans HT2.out.1) (chain HT2.out.2.2 (chain hb1 hb2)) (by omega)
  clear hz
  go_wp2
  refine bodyPost_ret (by simp [results, Tryz.results10, go_sem, g0, g1, g2, g3]; try rfl) rfl ?_
  exact ⟨rfl, hbe⟩
end Go.Proofs.YtcdbifcidaafnaaGreatDoor
