/-
  Part 15 of what is proved of drawn right trees.
-/
import Derived.Test.YtcdbifcidaafnaaGreatDoorPal
import Derived.Test.YtcdbifcidaafnaaGreatDoorPam
import Derived.Test.YtcdbifcidaafnaaGreatDoorPan
import Derived.Test.YtcdbifcidaafnaaGreatDoorPaj
import Derived.Test.YtcdbifcidaafnaaGreatDoorPak
import Derived.Test.YtcdbifcidaafnaaGreatDoorPac
import Derived.Test.YtcdbifcidaafnaaGreatDoorPag
import Derived.Test.YtcdbifcidaafnaaGreatDoorPab
import Derived.Test.YtcdbifcidaafnaaGreatDoorPah
import Derived.Test.YtcdbifcidaafnaaGreatDoorPai
import Derived.Test.YtcdbifcidaafnaaGreatDoorPaa
import Derived.Deep.QuietTactic
import Derived.BigQuiet
import Derived.Lib.QuietBelow
import Derived.Lib.ConvBytes

namespace Go.Proofs.YtcdbifcidaafnaaGreatDoor
open Go.RowKit Go.Sort
set_option linter.unusedVariables false
set_option linter.unusedSimpArgs false
theorem bytesLess_self : ∀ (l : List UInt8), Op.bytesLess l l = false
  | [] => rfl
  | a :: l => by
    rw [Op.bytesLess, bytesLess_self l]
    have : decide (a < a) = false := by simp
    simp [this]
theorem bytesLess_ne (a b : List UInt8) (h : Op.bytesLess a b = true) : (a == b) = false := by
  rw [beq_eq_false_iff_ne]
  intro e
  subst e
  rw [bytesLess_self] at h
  cases h
def numB (op : Int) (x y : Nat) : PVal × ByteArray :=
  if op = 1 then (numV (addN x y), ⟨#[]⟩)
  else if op = 2 then (numV (subN x y), ⟨#[]⟩)
  else if op = 3 then (numV (mulN x y), ⟨#[]⟩)
  else if op = 4 then (numV (divN x y), ⟨#[]⟩)
  else if op = 5 then (numV (remN x y), ⟨#[]⟩)
  else if inB op 6 9 = true then (boolV (orderB op (lessN x y) (equalN x y) (decide (kindN x = 1) || decide (kindN y = 1))), ⟨#[]⟩)
  else (noneV, typeS)
theorem less_greater (x y : Nat) : lessN y x = (!(decide (kindN x = 1) || decide (kindN y = 1)) && (!lessN x y && !equalN x y)) := by
  unfold lessN equalN
  rw [Bool.eq_iff_iff]
  simp only [decide_eq_true_eq, Bool.and_eq_true, Bool.not_eq_true', Bool.or_eq_false_iff, decide_eq_false_iff_not]
  constructor
  · rintro ⟨h1, h2, h3⟩
    exact ⟨⟨h2, h1⟩, fun h => by omega, fun h => by omega⟩
  · rintro ⟨⟨h1, h2⟩, h3, h4⟩
    refine ⟨h2, h1, ?_⟩
    rcases Int.lt_trichotomy (keyN x) (keyN y) with h | h | h
    · exact absurd ⟨h1, h2, h⟩ h3
    · exact absurd ⟨h1, h2, h⟩ h4
    · exact h
theorem nan_none (x y : Nat) (h : (decide (kindN x = 1) || decide (kindN y = 1)) = true) : lessN x y = false ∧ equalN x y = false := by
  unfold lessN equalN
  simp only [Bool.or_eq_true, decide_eq_true_eq] at h
  constructor <;> (apply decide_eq_false; rintro ⟨h1, h2, _⟩; rcases h with h | h <;> contradiction)
theorem less_not (x y : Nat) (h : lessN x y = true) : equalN x y = false := by
  unfold lessN at h
  unfold equalN
  simp only [decide_eq_true_eq] at h
  apply decide_eq_false
  rintro ⟨_, _, h3⟩
  omega
set_option maxHeartbeats 1000000 in
set_option maxRecDepth 100000 in
theorem iNumDo (op : Int) (x y : Nat) (w : World) (hx : x < 18446744073709551616) (hy : y < 18446744073709551616) :
    Calls Tryz.prog 53 #[.int .u64 (x : Int), .int .i64 op, .int .u64 (y : Int)] w fun e w' => ∃ u, e = .returned u ∧ DoneIs (numB op x y) u ∧ Below w.heap.size w w' := by
  have cA := fun W => iAdd x y W hx hy
  have cS := fun W => iSub x y W hx hy
  have cM := fun W => iMul x y W hx hy
  have cD := fun W => iDiv x y W hx hy
  have cR := fun W => iRem x y W hx hy
  have cO := fun W => iOrderNum x y W hx hy
  have cH := fun W => iHoldsFor op (lessN x y) (equalN x y) (lessN y x) W
  have HD : Hid (∀ N : Nat, DoneIs (numV N, ⟨#[]⟩) (.tuple #[.iface 64 (.int .u64 (N : Int)), .nilIface])) := done_num
  have HH : Hid (DoneIs (if inB op 6 9 = true then (boolV (orderB op (lessN x y) (equalN x y) (decide (kindN x = 1) || decide (kindN y = 1))), ⟨#[]⟩) else (noneV, typeS)) (holdU op (lessN x y) (equalN x y) (lessN y x))) := hold_is op _ _ _ _ (less_greater x y) (nan_none x y) (less_not x y)
  clear hx hy
  unfold numB
  by_cases h1 : op = 1
  · subst h1
    rw [if_pos rfl]
    obtain ⟨N, hN⟩ : ∃ N, addN x y = N := ⟨_, rfl⟩
    simp only [hN] at cA ⊢
    clear cS cM cD cR cO cH HH hN
    go_enter Tryz.func53, Tryz.ntmps53
    go_wp2_with (go_at_call 73; (with_reducible refine (cA _).mono ?_); rintro e w1 ⟨rfl, b1⟩)
    go_ret2
    exact ⟨_, rfl, HD.out _, b1⟩
  rw [if_neg h1]
  by_cases h2 : op = 2
  · subst h2
    rw [if_pos rfl]
    obtain ⟨N, hN⟩ : ∃ N, subN x y = N := ⟨_, rfl⟩
    simp only [hN] at cS ⊢
    clear cA cM cD cR cO cH HH hN
    go_enter Tryz.func53, Tryz.ntmps53
    go_wp2_with (go_at_call 74; (with_reducible refine (cS _).mono ?_); rintro e w1 ⟨rfl, b1⟩)
    go_ret2
    exact ⟨_, rfl, HD.out _, b1⟩
  rw [if_neg h2]
  by_cases h3 : op = 3
  · subst h3
    rw [if_pos rfl]
    obtain ⟨N, hN⟩ : ∃ N, mulN x y = N := ⟨_, rfl⟩
    simp only [hN] at cM ⊢
    clear cS cA cD cR cO cH HH hN
    go_enter Tryz.func53, Tryz.ntmps53
    go_wp2_with (go_at_call 75; (with_reducible refine (cM _).mono ?_); rintro e w1 ⟨rfl, b1⟩)
    go_ret2
    exact ⟨_, rfl, HD.out _, b1⟩
  rw [if_neg h3]
  by_cases h4 : op = 4
  · subst h4
    rw [if_pos rfl]
    obtain ⟨N, hN⟩ : ∃ N, divN x y = N := ⟨_, rfl⟩
    simp only [hN] at cD ⊢
    clear cS cM cA cR cO cH HH hN
    go_enter Tryz.func53, Tryz.ntmps53
    go_wp2_with (go_at_call 76; (with_reducible refine (cD _).mono ?_); rintro e w1 ⟨rfl, b1⟩)
    go_ret2
    exact ⟨_, rfl, HD.out _, b1⟩
  rw [if_neg h4]
  by_cases h5 : op = 5
  · subst h5
    rw [if_pos rfl]
    obtain ⟨N, hN⟩ : ∃ N, remN x y = N := ⟨_, rfl⟩
    simp only [hN] at cR ⊢
    clear cS cM cD cA cO cH HH hN
    go_enter Tryz.func53, Tryz.ntmps53
    go_wp2_with (go_at_call 77; (with_reducible refine (cR _).mono ?_); rintro e w1 ⟨rfl, b1⟩)
    go_ret2
    exact ⟨_, rfl, HD.out _, b1⟩
  rw [if_neg h5]
  obtain ⟨R, hR⟩ : ∃ R, (if inB op 6 9 = true then (boolV (orderB op (lessN x y) (equalN x y) (decide (kindN x = 1) || decide (kindN y = 1))), (⟨#[]⟩ : ByteArray)) else (noneV, typeS)) = R := ⟨_, rfl⟩
  obtain ⟨U, hU⟩ : ∃ U, holdU op (lessN x y) (equalN x y) (lessN y x) = U := ⟨_, rfl⟩
  rw [hR, hU] at HH
  rw [hR]
  have HU : Hid (∃ a b, U = .tuple #[a, b]) := by
    rw [← hU]
    unfold holdU
    repeat' split
    all_goals exact ⟨_, _, rfl⟩
  obtain ⟨ua, ub, rfl⟩ := HU.out
  simp only [hU] at cH
  obtain ⟨L, hL⟩ : ∃ b, lessN x y = b := ⟨_, rfl⟩
  obtain ⟨E, hE⟩ : ∃ b, equalN x y = b := ⟨_, rfl⟩
  obtain ⟨K, hK⟩ : ∃ b, lessN y x = b := ⟨_, rfl⟩
  simp only [hL, hE, hK] at cO cH
  have e1 : (op == 1) = false := by rw [beq_eq_false_iff_ne]; exact h1
  have e2 : (op == 2) = false := by rw [beq_eq_false_iff_ne]; exact h2
  have e3 : (op == 3) = false := by rw [beq_eq_false_iff_ne]; exact h3
  have e4 : (op == 4) = false := by rw [beq_eq_false_iff_ne]; exact h4
  have e5 : (op == 5) = false := by rw [beq_eq_false_iff_ne]; exact h5
  clear cA cS cM cD cR hR hU hL hE hK HD HU h1 h2 h3 h4 h5
  go_enter Tryz.func53, Tryz.ntmps53
  go_wp2_with (first | (go_at_call 78; (with_reducible refine (cO _).mono ?_); rintro e w1 ⟨rfl, b1⟩) | (go_at_call 79; (with_reducible refine (cH _).mono ?_); rintro e w2 ⟨rfl, b2⟩))
  go_ret2
  exact ⟨_, rfl, HH.out, chain b1 b2⟩
end Go.Proofs.YtcdbifcidaafnaaGreatDoor
namespace Go.Proofs.YtcdbifcidaafnaaGreatDoor
open Go.RowKit Go.Sort
set_option linter.unusedVariables false
set_option linter.unusedSimpArgs false
theorem lt17 {w : World} {k : Nat} {o : Obj} (h : w.heap[k]? = some o) : k < w.heap.size := (Array.getElem?_eq_some_iff.1 h).1
def textB (op : Int) (s u : ByteArray) : PVal × ByteArray :=
  if inB op 6 9 = true then (boolV (orderB op (Op.bytesLess s.toList u.toList) (s.toList == u.toList) false), ⟨#[]⟩)
  else if op = 1 then (if 200 < s.size + u.size then (noneV, longS) else (textV (s ++ u), ⟨#[]⟩))
  else (noneV, typeS)
set_option maxHeartbeats 1000000 in
set_option maxRecDepth 100000 in
theorem iTextDo (op : Int) (s u : ByteArray) (w : World) (hs : s.size ≤ 1048576) (hu : u.size ≤ 1048576) :
    Calls Tryz.prog 55 #[.string s, .int .i64 op, .string u] w fun e w' => ∃ v, e = .returned v ∧ DoneIs (textB op s u) v ∧ Below w.heap.size w w' := by
  have cO := fun W => iOrderText s u W
  have cH := fun W => iHoldsFor op (Op.bytesLess s.toList u.toList) (s.toList == u.toList) (!Op.bytesLess s.toList u.toList && !(s.toList == u.toList)) W
  have HH : Hid (DoneIs (if inB op 6 9 = true then (boolV (orderB op (Op.bytesLess s.toList u.toList) (s.toList == u.toList) false), ⟨#[]⟩) else (noneV, typeS)) (holdU op (Op.bytesLess s.toList u.toList) (s.toList == u.toList) (!Op.bytesLess s.toList u.toList && !(s.toList == u.toList)))) := hold_is op _ _ _ false rfl (fun h => by cases h) (fun h => bytesLess_ne _ _ h)
  unfold textB
  by_cases h1 : op = 1
  · subst h1
    rw [if_neg (fun h => by have := in_69.1 h; omega), if_pos rfl]
    have e3 : IntKind.i64.wrap ((s.size : Int) + (u.size : Int)) = (s.size : Int) + (u.size : Int) := by rw [IntKind.wrap_i64]; omega
    clear cO cH HH
    have hbM : ∀ (t : ByteArray) W, (Instr.build 85 #[(0, .string t)]).run Tryz.prog W = .ok (.agg #[.string t]) W := fun t W => run_build W 85 _ _ (by kernel_rfl)
    by_cases hl : 200 < s.size + u.size
    · rw [if_pos hl]
      have hl' : (200 : Int) < (s.size : Int) + (u.size : Int) := by omega
      have HD : Hid (DoneIs (noneV, longS) _) := done_no longS
      go_enter Tryz.func55, Tryz.ntmps55
      go_wp2
      go_ret2
      exact ⟨_, rfl, HD.out, Below.refl _ _⟩
    · rw [if_neg hl]
      have hl' : ¬ (200 : Int) < (s.size : Int) + (u.size : Int) := by omega
      have HD : Hid (∀ t, DoneIs (textV t, ⟨#[]⟩) (.tuple #[.iface 81 (.string t), .nilIface])) := done_text
      have hN := heap_alloc_new w (.cells #[.string s, .string u] 9)
      have b0 : Below w.heap.size w (w.alloc (.cells #[.string s, .string u] 9)) := (Below.refl _ _).alloc (Nat.le_refl _) _
      have cJ := iJoin2 w.heap.size s u (w.alloc (.cells #[.string s, .string u] 9)) (by rw [cell_of_row _ _ _ _ _ _ hN]; rfl) (by rw [cell_of_row _ _ _ _ _ _ hN]; rfl) (by omega)
      clear hN
      go_enter Tryz.func55, Tryz.ntmps55
      go_wp2_with (go_at_call 81; (with_reducible refine cJ.mono ?_); rintro e w1 ⟨rfl, b1⟩)
      go_ret2
      exact ⟨_, rfl, HD.out _, chain b0 b1⟩
  · rw [if_neg h1]
    obtain ⟨R, hR⟩ : ∃ R, (if inB op 6 9 = true then (boolV (orderB op (Op.bytesLess s.toList u.toList) (s.toList == u.toList) false), (⟨#[]⟩ : ByteArray)) else (noneV, typeS)) = R := ⟨_, rfl⟩
    obtain ⟨U, hU⟩ : ∃ U, holdU op (Op.bytesLess s.toList u.toList) (s.toList == u.toList) (!Op.bytesLess s.toList u.toList && !(s.toList == u.toList)) = U := ⟨_, rfl⟩
    rw [hR, hU] at HH
    rw [hR]
    have HU : Hid (∃ a b, U = .tuple #[a, b]) := by
      rw [← hU]
      unfold holdU
      repeat' split
      all_goals exact ⟨_, _, rfl⟩
    obtain ⟨ua, ub, rfl⟩ := HU.out
    simp only [hU] at cH
    obtain ⟨L, hL⟩ : ∃ b, Op.bytesLess s.toList u.toList = b := ⟨_, rfl⟩
    obtain ⟨E, hE⟩ : ∃ b, (s.toList == u.toList) = b := ⟨_, rfl⟩
    obtain ⟨K, hK⟩ : ∃ b, (!L && !E) = b := ⟨_, rfl⟩
    simp only [hL, hE, hK] at cO cH
    have e1 : (op == 1) = false := by rw [beq_eq_false_iff_ne]; exact h1
    have e2 : (op != 1) = true := by rw [bne_iff_ne]; exact h1
    clear hR hU hL hE hK HU
    go_enter Tryz.func55, Tryz.ntmps55
    go_wp2_with (first | (go_at_call 80; (with_reducible refine (cO _).mono ?_); rintro e w1 ⟨rfl, b1⟩) | (go_at_call 79; (with_reducible refine (cH _).mono ?_); rintro e w2 ⟨rfl, b2⟩))
    go_ret2
    exact ⟨_, rfl, HH.out, chain b1 b2⟩
theorem DoneIs.pair {r : PVal × ByteArray} {u : Value} (h : DoneIs r u) : ∃ a b, u = .tuple #[a, b] := by
  rcases h with ⟨_, _, _, _, _, _, rfl⟩ | ⟨_, rfl⟩ <;> exact ⟨_, _, rfl⟩
theorem bin17V_num {op : Int} {a b : PVal} (h10 : ¬ op = 10) (h11 : ¬ op = 11) (ha : isNum a = true) (hb : isNum b = true) : bin17V op a b = numB op a.num b.num := by
  unfold isNum at ha hb
  simp only [decide_eq_true_eq] at ha hb
  unfold bin17V numB
  rw [if_neg h10, if_neg h11, if_neg (by omega), if_pos ⟨ha, hb⟩]
  by_cases ho : inB op 6 9 = true
  · have := in_69.1 ho
    rw [if_pos ho, if_neg (by omega), if_neg (by omega), if_neg (by omega), if_neg (by omega), if_neg (by omega), if_pos ho]
  · rw [if_neg ho, if_neg ho]
theorem bin17V_text {op : Int} {a b : PVal} (h10 : ¬ op = 10) (h11 : ¬ op = 11) (ha : isTxt a = true) (hb : isTxt b = true) : bin17V op a b = textB op a.text b.text := by
  unfold isTxt at ha hb
  simp only [decide_eq_true_eq] at ha hb
  unfold bin17V textB
  rw [if_neg h10, if_neg h11, if_pos ⟨ha, hb⟩]
theorem bin17V_no {op : Int} {a b : PVal} (h10 : ¬ op = 10) (h11 : ¬ op = 11) (hn : (isNum a && isNum b) = false) (ht : (isTxt a && isTxt b) = false) : bin17V op a b = (noneV, typeS) := by
  unfold isNum at hn
  unfold isTxt at ht
  simp only [Bool.and_eq_false_iff, decide_eq_false_iff_not] at hn ht
  unfold bin17V
  rw [if_neg h10, if_neg h11, if_neg (by omega), if_neg (by omega)]
theorem numP_is {p : PVal} (h : isNum p = true) : numP p = p.num := by
  unfold isNum at h
  unfold numP
  rw [if_pos (by simpa using h)]
theorem txtP_is {p : PVal} (h : isTxt p = true) : txtP p = p.text := by
  unfold isTxt at h
  unfold txtP
  rw [if_pos (by simpa using h)]
set_option maxHeartbeats 1000000 in
set_option maxRecDepth 100000 in
theorem iDone (op : Int) (a b : PVal) (w : World) (ha : valW a) (hb : valW b) (la : a.text.size ≤ 1048576) (lb : b.text.size ≤ 1048576) :
    Calls Tryz.prog 27 #[.int .i64 op, .agg #[.int .i64 a.kind, .int .u64 (a.num : Int), .string a.text, .int .i64 a.ref], .agg #[.int .i64 b.kind, .int .u64 (b.num : Int), .string b.text, .int .i64 b.ref]] w fun e w' => ∃ u, e = .returned u ∧ DoneIs (bin17V op a b) u ∧ Below w.heap.size w w' := by
  have cS := fun W => iSameValue_any a b W ha hb
  have cN := fun W => iNumbersIn a b W
  have cT := fun W => iTextsIn a b W
  have cD := fun W (h1 : isNum a = true) (h2 : isNum b = true) => iNumDo op a.num b.num W ha.2.1 hb.2.1
  have cE := fun W => iTextDo op a.text b.text W la lb
  have HT : Hid (∀ (x y : Bool), DoneIs (boolV x, ⟨#[]⟩) (.tuple #[.iface 80 (.bool x), .nilIface])) := fun x _ => done_truth x
  have HNo : Hid (DoneIs (noneV, typeS) (.tuple #[.nilIface, .iface 85 (.agg #[.string typeS])])) := done_no typeS
  obtain ⟨t0, t1, tz, tb⟩ := two_made w (.cells #[.int .i64 a.kind, .int .u64 (a.num : Int), .string a.text, .int .i64 a.ref] 26) (.cells #[.int .i64 b.kind, .int .u64 (b.num : Int), .string b.text, .int .i64 b.ref] 26)
  obtain ⟨W2, hW2⟩ : ∃ W, ((w.alloc (.cells #[.int .i64 a.kind, .int .u64 (a.num : Int), .string a.text, .int .i64 a.ref] 26)).alloc (.cells #[.int .i64 b.kind, .int .u64 (b.num : Int), .string b.text, .int .i64 b.ref] 26)) = W := ⟨_, rfl⟩
  rw [hW2] at t0 t1 tz tb
  have HW2 : Hid (_ = W2) := hW2
  have HK : Hid (∀ W, Below W2.heap.size W2 W → (W.cell? ⟨w.heap.size, 0, none⟩ = some (.int .i64 a.kind) ∧ W.cell? ⟨w.heap.size, 1, none⟩ = some (.int .u64 (a.num : Int)) ∧ W.cell? ⟨w.heap.size, 2, none⟩ = some (.string a.text) ∧ W.cell? ⟨w.heap.size, 3, none⟩ = some (.int .i64 a.ref)) ∧ (W.cell? ⟨w.heap.size + 1, 0, none⟩ = some (.int .i64 b.kind) ∧ W.cell? ⟨w.heap.size + 1, 1, none⟩ = some (.int .u64 (b.num : Int)) ∧ W.cell? ⟨w.heap.size + 1, 2, none⟩ = some (.string b.text) ∧ W.cell? ⟨w.heap.size + 1, 3, none⟩ = some (.int .i64 b.ref))) := fun W hW => ⟨four_cells ((hW.block _ (lt17 t0)).trans t0), four_cells ((hW.block _ (lt17 t1)).trans t1)⟩
  obtain ⟨⟨a0, a1, a2, a3⟩, b0, b1, b2, b3⟩ := HK.out W2 (Below.refl _ _)
  clear hW2 t0 t1 tz ha hb la lb
  obtain ⟨SV, hSV⟩ : ∃ x, valSame a b = x := ⟨_, rfl⟩
  simp only [hSV] at cS
  by_cases h10 : op = 10
  · subst h10
    have eb : bin17V 10 a b = (boolV SV, ⟨#[]⟩) := by rw [← hSV]; rfl
    rw [eb]
    clear cN cT cD cE HK eb hSV
    go_enter Tryz.func27, Tryz.ntmps27
    go_upto_region 1 with fail
    rw [HW2.out]
    clear HW2
    go_wp2_with (go_at_call 13; (with_reducible refine (cS _).mono ?_); rintro e w3 ⟨rfl, hb3⟩)
    go_ret2
    exact ⟨_, rfl, HT.out _ true, chain tb hb3⟩
  by_cases h11 : op = 11
  · subst h11
    have eb : bin17V 11 a b = (boolV (!SV), ⟨#[]⟩) := by rw [← hSV]; rfl
    rw [eb]
    clear cN cT cD cE HK eb hSV h10
    go_enter Tryz.func27, Tryz.ntmps27
    go_upto_region 1 with fail
    rw [HW2.out]
    clear HW2
    go_wp2_with (go_at_call 13; (with_reducible refine (cS _).mono ?_); rintro e w3 ⟨rfl, hb3⟩)
    go_ret2
    exact ⟨_, rfl, HT.out _ true, chain tb hb3⟩
  clear cS hSV HT
  have e10 : (op == 10) = false := by rw [beq_eq_false_iff_ne]; exact h10
  have e11 : (op == 11) = false := by rw [beq_eq_false_iff_ne]; exact h11
  obtain ⟨NB, hNB⟩ : ∃ x, (isNum a && isNum b) = x := ⟨_, rfl⟩
  simp only [hNB] at cN
  cases NB with
  | true =>
    rw [Bool.and_eq_true] at hNB
    have eb := bin17V_num h10 h11 hNB.1 hNB.2
    rw [eb]
    rw [numP_is hNB.1, numP_is hNB.2] at cN
    have cD1 := fun W => (cD W hNB.1 hNB.2).mono (fun e w' (hh : ∃ u, e = .returned u ∧ DoneIs (numB op a.num b.num) u ∧ Below W.heap.size W w') => show ∃ x y, e = .returned (.tuple #[x, y]) ∧ Hid (DoneIs (numB op a.num b.num) (.tuple #[x, y])) ∧ Below W.heap.size W w' by
      obtain ⟨u, e1, e2, e3⟩ := hh
      obtain ⟨x, y, rfl⟩ := e2.pair
      exact ⟨x, y, e1, e2, e3⟩)
    obtain ⟨R, hR⟩ : ∃ R, numB op a.num b.num = R := ⟨_, rfl⟩
    simp only [hR] at cD1 ⊢
    clear cT cD cE HK eb hNB hR HNo h10 h11
    go_enter Tryz.func27, Tryz.ntmps27
    go_upto_region 1 with fail
    rw [HW2.out]
    clear HW2
    go_wp2_with (first | (go_at_call 42; (with_reducible refine (cN _).mono ?_); rintro e w3 ⟨rfl, hb3⟩) | (go_at_call 53; (with_reducible refine (cD1 _).mono ?_); rintro e w4 ⟨x4, y4, rfl, HD4, hb4⟩))
    go_ret2
    exact ⟨_, rfl, HD4.out, chain tb (chain hb3 hb4)⟩
  | false =>
  clear cD
  obtain ⟨TB, hTB⟩ : ∃ x, (isTxt a && isTxt b) = x := ⟨_, rfl⟩
  simp only [hTB] at cT
  have HK3 := HK
  cases TB with
  | true =>
    rw [Bool.and_eq_true] at hTB
    have eb := bin17V_text h10 h11 hTB.1 hTB.2
    rw [eb]
    rw [txtP_is hTB.1, txtP_is hTB.2] at cT
    have cE1 := fun W => (cE W).mono (fun e w' (hh : ∃ u, e = .returned u ∧ DoneIs (textB op a.text b.text) u ∧ Below W.heap.size W w') => show ∃ x y, e = .returned (.tuple #[x, y]) ∧ Hid (DoneIs (textB op a.text b.text) (.tuple #[x, y])) ∧ Below W.heap.size W w' by
      obtain ⟨u, e1, e2, e3⟩ := hh
      obtain ⟨x, y, rfl⟩ := e2.pair
      exact ⟨x, y, e1, e2, e3⟩)
    obtain ⟨R, hR⟩ : ∃ R, textB op a.text b.text = R := ⟨_, rfl⟩
    simp only [hR] at cE1 ⊢
    clear cE eb hTB hNB hR HNo h10 h11
    go_enter Tryz.func27, Tryz.ntmps27
    go_upto_region 1 with fail
    rw [HW2.out]
    clear HW2
    go_upto_region 9 with (go_at_call 42; (with_reducible refine (cN _).mono ?_); rintro e w3 ⟨rfl, hb3⟩)
    clear a0 a1 a2 a3 b0 b1 b2 b3 cN
    obtain ⟨⟨a0, a1, a2, a3⟩, b0, b1, b2, b3⟩ := HK.out w3 hb3
    go_wp2_with (first | (go_at_call 54; (with_reducible refine (cT _).mono ?_); rintro e w4 ⟨rfl, hb4⟩) | (go_at_call 55; (with_reducible refine (cE1 _).mono ?_); rintro e w5 ⟨x5, y5, rfl, HD5, hb5⟩))
    go_ret2
    exact ⟨_, rfl, HD5.out, chain tb (chain hb3 (chain hb4 hb5))⟩
  | false =>
    rw [bin17V_no h10 h11 hNB hTB]
    have hbM : ∀ (t : ByteArray) W, (Instr.build 85 #[(0, .string t)]).run Tryz.prog W = .ok (.agg #[.string t]) W := fun t W => run_build W 85 _ _ (by kernel_rfl)
    clear cE hTB hNB h10 h11
    go_enter Tryz.func27, Tryz.ntmps27
    go_upto_region 1 with fail
    rw [HW2.out]
    clear HW2
    go_upto_region 9 with (go_at_call 42; (with_reducible refine (cN _).mono ?_); rintro e w3 ⟨rfl, hb3⟩)
    clear a0 a1 a2 a3 b0 b1 b2 b3 cN
    obtain ⟨⟨a0, a1, a2, a3⟩, b0, b1, b2, b3⟩ := HK.out w3 hb3
    go_wp2_with (go_at_call 54; (with_reducible refine (cT _).mono ?_); rintro e w4 ⟨rfl, hb4⟩)
    go_ret2
    exact ⟨_, rfl, HNo.out, chain tb (chain hb3 hb4)⟩
set_option maxHeartbeats 1000000 in
set_option maxRecDepth 100000 in
theorem iDoBinary_any (op : Int) (a b : PVal) (w : World) (ha : valW a) (hb : valW b) (la : a.text.size ≤ 1048576) (lb : b.text.size ≤ 1048576) (hg : EtOk w) :
    Calls Tryz.prog 10 #[.int .i64 op, .agg #[.int .i64 a.kind, .int .u64 (a.num : Int), .string a.text, .int .i64 a.ref], .agg #[.int .i64 b.kind, .int .u64 (b.num : Int), .string b.text, .int .i64 b.ref]] w fun e w' => e = .returned (pairV (bin17V op a b)) ∧ Below w.heap.size w w' := by
  have cD := fun W => iDone op a b W ha hb la lb
  have hl := hg.lt
  obtain ⟨⟨q, s⟩, hR⟩ : ∃ R, bin17V op a b = R := ⟨_, rfl⟩
  simp only [hR] at cD ⊢
  clear hR ha hb la lb
  have hG : ∀ W, Below w.heap.size w W → EtOk W := fun W hW => hg.below hl hW
  obtain ⟨t0, t1, t2, tz, tb⟩ := three_made w (.cells #[.int .i64 a.kind, .int .u64 (a.num : Int), .string a.text, .int .i64 a.ref] 26) (.cells #[.int .i64 b.kind, .int .u64 (b.num : Int), .string b.text, .int .i64 b.ref] 26) (.cells #[.int .i64 0, .int .u64 0, .string ⟨#[]⟩, .int .i64 0] 26)
  obtain ⟨W3, hW3⟩ : ∃ W, (((w.alloc (.cells #[.int .i64 a.kind, .int .u64 (a.num : Int), .string a.text, .int .i64 a.ref] 26)).alloc (.cells #[.int .i64 b.kind, .int .u64 (b.num : Int), .string b.text, .int .i64 b.ref] 26)).alloc (.cells #[.int .i64 0, .int .u64 0, .string ⟨#[]⟩, .int .i64 0] 26)) = W := ⟨_, rfl⟩
  rw [hW3] at t0 t1 t2 tz tb
  have HW3 : Hid (_ = W3) := hW3
  obtain ⟨a0, a1, a2, a3⟩ := four_cells t0
  obtain ⟨b0, b1, b2, b3⟩ := four_cells t1
  have HT2 : Hid (W3.heap[w.heap.size + 2]? = _ ∧ W3.heap.size = w.heap.size + 3 ∧ Below w.heap.size w W3) := ⟨t2, tz, tb⟩
  have cV : ∀ (u : Value) W, DoneIs (q, s) u → Below w.heap.size w W → ∃ x y, u = .tuple #[x, y] ∧ Calls Tryz.prog 26 #[x, y] W fun e w' => e = .returned (.tuple #[.agg #[.int .i64 q.kind, .int .u64 (q.num : Int), .string q.text, .int .i64 q.ref], .string s]) ∧ Below W.heap.size W w' := fun u W hu hW => by
    rcases hu with ⟨T, v, fv, h1, h2, h3, rfl⟩ | ⟨h1, rfl⟩
    · have c := iValueOrText_ok h1 W
      rw [h2] at c
      simp only at h3
      subst h3
      exact ⟨_, _, rfl, c⟩
    · have c := iValueOrText_no s W (hG W hW)
      simp only at h1
      subst h1
      exact ⟨_, _, rfl, c⟩
  have HV : Hid _ := cV
  clear hW3 t0 t1 t2 tz tb cV hG hg hl
  go_enter Tryz.func10, Tryz.ntmps10
  go_upto_region 1 with fail
  rw [HW3.out]
  clear HW3
  go_wp2_with fail
  refine (cD _).mono ?_
  rintro e w1 ⟨u, rfl, hu, hb1⟩
  obtain ⟨x, y, rfl, cV⟩ := HV.out u w1 hu (chain HT2.out.2.2 hb1)
  clear a0 a1 a2 a3 b0 b1 b2 b3 cD HV hu
  go_wp2_with fail
  refine cV.mono ?_
  rintro e w2 ⟨rfl, hb2⟩
  have hz := HT2.out.2.1
  obtain ⟨⟨c0, c1, c2, c3⟩, fz, ⟨g0, g1, g2, g3⟩, hbe⟩ := four_ready (w := w) (w1 := w2) (G := w.heap.size + 2) (B := w.heap.size) (b0 := .int .i64 q.kind) (b1 := .int .u64 (q.num : Int)) (b2 := .string q.text) (b3 := .int .i64 q.ref) (((chain hb1 hb2).block (w.heap.size + 2) (by omega)).trans HT2.out.1) (chain HT2.out.2.2 (chain hb1 hb2)) (by omega)
  clear hz
  go_wp2
  refine bodyPost_ret (by simp [results, Tryz.results10, go_sem, g0, g1, g2, g3]; try rfl) rfl ?_
  exact ⟨rfl, hbe⟩
end Go.Proofs.YtcdbifcidaafnaaGreatDoor
namespace Go.Proofs.YtcdbifcidaafnaaGreatDoor
open Go.RowKit Go.Sort
set_option linter.unusedVariables false
set_option linter.unusedSimpArgs false
def trueI (p : PVal) : Bool :=
  if p.kind = 0 then false
  else if p.kind = 1 then !decide (p.num = 0)
  else if p.kind = 2 then truthyN p.num
  else if p.kind = 3 then !decide (p.text.size = 0)
  else true
set_option maxRecDepth 100000 in
theorem isTrue_nothing (w : World) :
    Calls Tryz.prog 215 #[.agg #[]] w fun e w' => e = .returned (.bool false) ∧ Below w.heap.size w w' := by
  go_enter Tryz.func215, Tryz.ntmps215
  go_wp2
  go_ret
  exact ⟨rfl, by go_grown⟩
set_option maxRecDepth 100000 in
theorem isTrue_truth (b : Bool) (w : World) :
    Calls Tryz.prog 218 #[.bool b] w fun e w' => e = .returned (.bool b) ∧ Below w.heap.size w w' := by
  go_enter Tryz.func218, Tryz.ntmps218
  go_wp2
  go_ret
  exact ⟨rfl, Below.refl _ _⟩
set_option maxRecDepth 100000 in
theorem isTrue_funRef (r : Int) (w : World) :
    Calls Tryz.prog 226 #[.int .i64 r] w fun e w' => e = .returned (.bool true) ∧ Below w.heap.size w w' := by
  go_enter Tryz.func226, Tryz.ntmps226
  go_wp2
  go_ret
  exact ⟨rfl, Below.refl _ _⟩
set_option maxRecDepth 100000 in
theorem isTrue_odd (w : World) :
    Calls Tryz.prog 229 #[.agg #[]] w fun e w' => e = .returned (.bool true) ∧ Below w.heap.size w w' := by
  go_enter Tryz.func229, Tryz.ntmps229
  go_wp2
  go_ret
  exact ⟨rfl, by go_grown⟩
theorem toList_none (s : ByteArray) : s.toList.isEmpty = decide (s.size = 0) := by
  rw [ByteArray.toList_eq, Bool.eq_iff_iff, List.isEmpty_iff, decide_eq_true_iff, ← List.length_eq_zero_iff]
  rfl
set_option maxRecDepth 100000 in
theorem isTrue_heldText (s : ByteArray) (w : World) :
    Calls Tryz.prog 221 #[.string s] w fun e w' => e = .returned (.bool (!decide (s.size = 0))) ∧ Below w.heap.size w w' := by
  rw [← toList_none]
  obtain ⟨B, hB⟩ : ∃ B, s.toList.isEmpty = B := ⟨_, rfl⟩
  rw [hB]
  go_enter Tryz.func221, Tryz.ntmps221
  go_wp2
  go_ret
  simp only [hB]
  exact ⟨rfl, Below.refl _ _⟩
set_option maxRecDepth 100000 in
theorem isTrue_number (x : Nat) (w : World) (hx : x < 18446744073709551616) :
    Calls Tryz.prog 132 #[.int .u64 (x : Int)] w fun e w' => e = .returned (.bool (truthyN x)) ∧ Below w.heap.size w w' := by
  have cT := fun W => iTruthy x W hx
  obtain ⟨B, hB⟩ : ∃ B, truthyN x = B := ⟨_, rfl⟩
  simp only [hB] at cT ⊢
  clear hx hB
  go_enter Tryz.func132, Tryz.ntmps132
  go_wp2_with (go_at_call 135; (with_reducible refine (cT _).mono ?_); rintro e w2 ⟨rfl, b2⟩)
  go_ret
  exact ⟨rfl, b2⟩
set_option maxRecDepth 100000 in
theorem strings_clone17 (s : ByteArray) (w : World) (hs : s.size ≤ 281474976710656) :
    Calls Tryz.prog 224 #[.string s] w fun e w' => e = .returned (.string s) ∧ Below w.heap.size w w' := by
  have cK := fun W => Tryz.stringslite_Clone s W hs
  go_enter Tryz.func224, Tryz.ntmps224
  go_wp2_with fail
  refine (cK _).mono ?_
  rintro e w1 ⟨rfl, b1⟩
  go_wp2
  go_ret
  exact ⟨rfl, b1⟩
set_option maxRecDepth 100000 in
theorem shown_heldText (s : ByteArray) (w : World) (hs : s.size ≤ 281474976710656) :
    Calls Tryz.prog 222 #[.string s] w fun e w' => e = .returned (.string s) ∧ Below w.heap.size w w' := by
  have cK := fun W => strings_clone17 s W hs
  go_enter Tryz.func222, Tryz.ntmps222
  go_wp2_with (go_at_call 224; (with_reducible refine (cK _).mono ?_); rintro e w1 ⟨rfl, b1⟩)
  go_ret
  exact ⟨rfl, b1⟩
set_option maxHeartbeats 1000000 in
set_option maxRecDepth 100000 in
theorem iIsTrue_any (p : PVal) (w : World) (hp : valW p) :
    Calls Tryz.prog 16 #[.agg #[.int .i64 p.kind, .int .u64 (p.num : Int), .string p.text, .int .i64 p.ref]] w fun e w' => e = .returned (.bool (trueI p)) ∧ Below w.heap.size w w' := by
  obtain ⟨T, v, fv, hc⟩ := cont17_some p
  have cC := fun W => iContentAs hc W
  have b0 : Below w.heap.size w (w.alloc (.cells #[.int .i64 p.kind, .int .u64 (p.num : Int), .string p.text, .int .i64 p.ref] 26)) := (Below.refl _ _).alloc (Nat.le_refl _) _
  obtain ⟨p0, p1, p2, p3⟩ := four_cells (heap_alloc_new w (.cells #[.int .i64 p.kind, .int .u64 (p.num : Int), .string p.text, .int .i64 p.ref] 26))
  obtain ⟨k, x, s, r⟩ := p
  have cN := fun W => isTrue_number x W hp.2.1
  simp only at cC p0 p1 p2 p3 ⊢
  rcases hc with ⟨hk, rfl, rfl, rfl⟩ | ⟨hk, rfl, rfl, rfl⟩ | ⟨hk, rfl, rfl, rfl⟩ | ⟨hk, rfl, rfl, rfl⟩ | ⟨hk, rfl, rfl, rfl⟩ | ⟨hk, rfl, rfl, rfl⟩
  · simp only at hk
    subst hk
    have e : trueI ⟨0, x, s, r⟩ = false := rfl
    rw [e]
    go_enter Tryz.func16, Tryz.ntmps16
    go_wp2_with (first | (go_at_call 25; (with_reducible refine (cC _).mono ?_); rintro e w1 ⟨rfl, b1⟩) | (go_at_call 215; (with_reducible refine (isTrue_nothing _).mono ?_); rintro e w2 ⟨rfl, b2⟩))
    go_ret
    exact ⟨rfl, chain b0 (chain b1 b2)⟩
  · simp only at hk
    subst hk
    have e : trueI ⟨1, x, s, r⟩ = !decide (x = 0) := rfl
    rw [e]
    simp only at cC
    obtain ⟨B, hB⟩ : ∃ B, (!decide (x = 0)) = B := ⟨_, rfl⟩
    simp only [hB] at cC ⊢
    go_enter Tryz.func16, Tryz.ntmps16
    go_wp2_with (first | (go_at_call 25; (with_reducible refine (cC _).mono ?_); rintro e w1 ⟨rfl, b1⟩) | (go_at_call 218; (with_reducible refine (isTrue_truth _ _).mono ?_); rintro e w2 ⟨rfl, b2⟩))
    go_ret
    exact ⟨rfl, chain b0 (chain b1 b2)⟩
  · simp only at hk
    subst hk
    have e : trueI ⟨2, x, s, r⟩ = truthyN x := rfl
    rw [e]
    simp only at cC
    obtain ⟨B, hB⟩ : ∃ B, truthyN x = B := ⟨_, rfl⟩
    simp only [hB] at cN ⊢
    go_enter Tryz.func16, Tryz.ntmps16
    go_wp2_with (first | (go_at_call 25; (with_reducible refine (cC _).mono ?_); rintro e w1 ⟨rfl, b1⟩) | (go_at_call 132; (with_reducible refine (cN _).mono ?_); rintro e w2 ⟨rfl, b2⟩))
    go_ret
    exact ⟨rfl, chain b0 (chain b1 b2)⟩
  · simp only at hk
    subst hk
    have e : trueI ⟨3, x, s, r⟩ = !decide (s.size = 0) := rfl
    rw [e]
    simp only at cC
    have cX := fun W => isTrue_heldText s W
    obtain ⟨B, hB⟩ : ∃ B, (!decide (s.size = 0)) = B := ⟨_, rfl⟩
    simp only [hB] at cX ⊢
    clear hB e
    go_enter Tryz.func16, Tryz.ntmps16
    go_wp2_with (first | (go_at_call 25; (with_reducible refine (cC _).mono ?_); rintro e w1 ⟨rfl, b1⟩) | (go_at_call 221; (with_reducible refine (cX _).mono ?_); rintro e w2 ⟨rfl, b2⟩))
    go_ret
    exact ⟨rfl, chain b0 (chain b1 b2)⟩
  · simp only at hk
    subst hk
    have e : trueI ⟨4, x, s, r⟩ = true := rfl
    rw [e]
    simp only at cC
    go_enter Tryz.func16, Tryz.ntmps16
    go_wp2_with (first | (go_at_call 25; (with_reducible refine (cC _).mono ?_); rintro e w1 ⟨rfl, b1⟩) | (go_at_call 226; (with_reducible refine (isTrue_funRef _ _).mono ?_); rintro e w2 ⟨rfl, b2⟩))
    go_ret
    exact ⟨rfl, chain b0 (chain b1 b2)⟩
  · have e : trueI ⟨k, x, s, r⟩ = true := by simp [trueI, hk]
    rw [e]
    try simp only at cC
    go_enter Tryz.func16, Tryz.ntmps16
    go_wp2_with (first | (go_at_call 25; (with_reducible refine (cC _).mono ?_); rintro e w1 ⟨rfl, b1⟩) | (go_at_call 229; (with_reducible refine (isTrue_odd _).mono ?_); rintro e w2 ⟨rfl, b2⟩))
    go_ret
    exact ⟨rfl, chain b0 (chain b1 b2)⟩
set_option maxHeartbeats 1000000 in
set_option maxRecDepth 100000 in
theorem iShowText (x : Nat) (s : ByteArray) (r : Int) (w : World) (hs : s.size ≤ 1048576) :
    Calls Tryz.prog 15 #[.agg #[.int .i64 3, .int .u64 (x : Int), .string s, .int .i64 r]] w fun e w' => e = .returned (.string s) ∧ Below w.heap.size w w' := by
  have cC := fun W => iContentAs (p := ⟨3, x, s, r⟩) (T := 81) (v := .string s) (fv := 223) (.inr (.inr (.inr (.inl ⟨rfl, rfl, rfl, rfl⟩)))) W
  have cK := fun W => shown_heldText s W (by omega)
  have b0 : Below w.heap.size w (w.alloc (.cells #[.int .i64 3, .int .u64 (x : Int), .string s, .int .i64 r] 26)) := (Below.refl _ _).alloc (Nat.le_refl _) _
  obtain ⟨p0, p1, p2, p3⟩ := four_cells (heap_alloc_new w (.cells #[.int .i64 3, .int .u64 (x : Int), .string s, .int .i64 r] 26))
  simp only at cC
  go_enter Tryz.func15, Tryz.ntmps15
  go_wp2_with (first | (go_at_call 25; (with_reducible refine (cC _).mono ?_); rintro e w1 ⟨rfl, b1⟩) | (go_at_call 222; (with_reducible refine (cK _).mono ?_); rintro e w2 ⟨rfl, b2⟩))
  go_ret
  exact ⟨rfl, chain b0 (chain b1 b2)⟩
end Go.Proofs.YtcdbifcidaafnaaGreatDoor
namespace Go.Proofs.YtcdbifcidaafnaaGreatDoor
open Go.RowKit Go.Sort
set_option linter.unusedVariables false
set_option linter.unusedSimpArgs false
theorem valW_bool (b : Bool) : valW (boolV b) := by
  refine ⟨?_, ?_, ?_, ?_⟩
  · show I64 1; unfold I64; omega
  · show N64 (bitN b); unfold N64; cases b <;> decide
  · show (0 : Nat) ≤ maxLen; exact Nat.zero_le _
  · show I64 0; unfold I64; omega
theorem valW_none : valW noneV := by
  refine ⟨?_, ?_, ?_, ?_⟩
  · show I64 0; unfold I64; omega
  · show N64 0; unfold N64; omega
  · show (0 : Nat) ≤ maxLen; exact Nat.zero_le _
  · show I64 0; unfold I64; omega
end Go.Proofs.YtcdbifcidaafnaaGreatDoor
namespace Go.Proofs.YtcdbifcidaafnaaGreatDoor
theorem quoN_le (m n : Nat) (e : Int) : quoN m n e ≤ 9218868437227405312 := roundN_le _ _ _
theorem sign_lt {u : Nat} (b : Bool) (h : u ≤ 9218868437227405312) : signN b u < 18446744073709551616 := by
  unfold signN
  split <;> omega
theorem mulN_lt (a b : Nat) : mulN a b < 18446744073709551616 := by
  unfold mulN mulP
  split
  · decide
  · split
    · exact sign_lt _ (by omega)
    · split
      · exact sign_lt _ (by omega)
      · exact sign_lt _ (roundN_le _ _ _)
theorem divN_lt (a b : Nat) : divN a b < 18446744073709551616 := by
  unfold divN divP
  split
  · decide
  · split
    · exact sign_lt _ (by omega)
    · split
      · exact sign_lt _ (by omega)
      · exact sign_lt _ (quoN_le _ _ _)
theorem remN_lt {a b : Nat} (ha : a < 18446744073709551616) : remN a b < 18446744073709551616 := by
  unfold remN remP
  split
  · decide
  · split
    · exact ha
    · exact sign_lt _ (roundN_le _ _ _)
end Go.Proofs.YtcdbifcidaafnaaGreatDoor
namespace Go.Proofs.YtcdbifcidaafnaaGreatDoor
open Go.RowKit Go.Sort
set_option linter.unusedVariables false
set_option linter.unusedSimpArgs false
theorem ok_bool (b : Bool) : valOk (boolV b) = true := by cases b <;> rfl
theorem ok_num (n : Nat) : valOk (numV n) = true := rfl
theorem valW_num {n : Nat} (h : n < 18446744073709551616) : valW (numV n) := by
  refine ⟨?_, h, ?_, ?_⟩
  · show I64 2; unfold I64; omega
  · show (0 : Nat) ≤ maxLen; exact Nat.zero_le _
  · show I64 0; unfold I64; omega
theorem valW_text {s : ByteArray} (h : s.size ≤ 200) : valW (textV s) := by
  refine ⟨?_, ?_, ?_, ?_⟩
  · show I64 3; unfold I64; omega
  · show N64 0; unfold N64; omega
  · show s.size ≤ maxLen; unfold maxLen; omega
  · show I64 0; unfold I64; omega
theorem ok_text {s : ByteArray} (h : s.size ≤ 200) : valOk (textV s) = true := by
  unfold valOk textV
  simp [h]
theorem bin_form (op : Int) (p q : PVal) (hp : p.num < 18446744073709551616) (hq : q.num < 18446744073709551616) :
    ((bin17V op p q).2 = ⟨#[]⟩ ∧ valOk (bin17V op p q).1 = true ∧ valW (bin17V op p q).1) ∨ ((bin17V op p q).1 = noneV ∧ ((bin17V op p q).2 = ⟨#[116, 121, 112, 101]⟩ ∨ (bin17V op p q).2 = ⟨#[108, 111, 110, 103]⟩)) := by
  unfold bin17V
  repeat' split
  all_goals
    first
      | exact .inl ⟨rfl, ok_bool _, valW_bool _⟩
      | exact .inr ⟨rfl, .inl rfl⟩
      | exact .inr ⟨rfl, .inr rfl⟩
      | exact .inl ⟨rfl, ok_num _, valW_num (addN_lt hp hq)⟩
      | exact .inl ⟨rfl, ok_num _, valW_num (subN_lt hp hq)⟩
      | exact .inl ⟨rfl, ok_num _, valW_num (mulN_lt _ _)⟩
      | exact .inl ⟨rfl, ok_num _, valW_num (divN_lt _ _)⟩
      | exact .inl ⟨rfl, ok_num _, valW_num (remN_lt hp)⟩
      | (rename_i h; exact .inl ⟨rfl, ok_text (by rw [ByteArray.size_append]; omega), valW_text (by rw [ByteArray.size_append]; omega)⟩)
theorem same_self (p : PVal) : valSame p p = !(decide (p.kind = 2) && decide (kindN p.num = 1)) := by
  unfold valSame equalN
  by_cases h : p.kind = 2
  · by_cases hk : kindN p.num = 1 <;> simp [h, hk]
  · simp [h]
theorem same_comm (p q : PVal) : valSame p q = valSame q p := by
  unfold valSame equalN
  by_cases h : p.kind = q.kind
  · rw [h]
    by_cases h2 : q.kind = 2
    · simp only [h2, decide_true, if_true, Bool.true_and]
      rw [Bool.eq_iff_iff, decide_eq_true_iff, decide_eq_true_iff]
      constructor
      · rintro ⟨a, b, c⟩; exact ⟨b, a, c.symm⟩
      · rintro ⟨a, b, c⟩; exact ⟨b, a, c.symm⟩
    · simp only [if_neg h2, decide_true, Bool.true_and]
      rw [Bool.eq_iff_iff]
      simp only [Bool.and_eq_true, decide_eq_true_eq]
      constructor
      · rintro ⟨a, b, c⟩; exact ⟨a.symm, b.symm, c.symm⟩
      · rintro ⟨a, b, c⟩; exact ⟨a.symm, b.symm, c.symm⟩
  · have h' : ¬ q.kind = p.kind := fun e => h e.symm
    rw [decide_eq_false h, decide_eq_false h', Bool.false_and, Bool.false_and]
theorem true_same {p : PVal} (h : valOk p = true) : trueI p = valTrue p := by
  unfold trueI valTrue
  by_cases h0 : p.kind = 0
  · rw [if_pos h0, if_pos h0]
  · rw [if_neg h0, if_neg h0]
    by_cases h1 : p.kind = 1
    · rw [if_pos h1, if_pos h1]
      unfold valOk at h
      rw [if_neg h0, if_pos h1] at h
      simp only [Bool.and_eq_true, decide_eq_true_eq] at h
      have hx := h.1
      rw [Bool.eq_iff_iff]
      simp only [Bool.not_eq_true', decide_eq_false_iff_not, decide_eq_true_eq]
      omega
    · rw [if_neg h1, if_neg h1]
end Go.Proofs.YtcdbifcidaafnaaGreatDoor
namespace Go.Proofs.YtcdbifcidaafnaaGreatDoor
open Go.RowKit
set_option linter.unusedVariables false
set_option maxHeartbeats 400000 in
set_option maxRecDepth 100000 in
theorem nan_any (x : Nat) (w : World) (hx : x < 18446744073709551616) :
    Calls Tryz.prog 12 #[.int .u64 x] w fun e w' => e = .returned (.bool (decide (kindN x = 1))) ∧ Below w.heap.size w w' := by
  have HX : Hid (Unit → x < 18446744073709551616) := fun _ => hx
  have HK := kindN_cases x
  obtain ⟨k, hk⟩ : ∃ k, kindN x = k := ⟨_, rfl⟩
  have HB : Hid (Unit → partsV x = .agg #[.int .i64 k, .bool (belowN x), .int .u64 (mantN x), .int .i64 (expN x)]) := fun _ => by unfold partsV; rw [hk]
  have HT : Hid (Unit → kindN x = k) := fun _ => hk
  rw [hk] at HK
  clear hk hx
  rcases HK with rfl | rfl | rfl | rfl
  all_goals
    go_enter Tryz.func12, Tryz.ntmps12
    go_wp2_with (go_at_call 41; refine (specParts_any x _ (HX.out ())).mono ?_; rintro e w' ⟨rfl, hb⟩; rw [HB.out ()])
    simp only [Tryz.partsKind]
    go_wp2
    go_ret
    exact ⟨by rw [HT.out ()]; rfl, hb⟩
end Go.Proofs.YtcdbifcidaafnaaGreatDoor
