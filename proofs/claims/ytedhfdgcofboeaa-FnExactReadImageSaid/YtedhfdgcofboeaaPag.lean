/-
  Part 7 of what is proved of drawn right trees.
-/
import Derived.Test.YtedhfdgcofboeaaPac
import Derived.Test.YtedhfdgcofboeaaPaf
import Derived.Deep.RegionHeldLaw

namespace Go.Proofs.Ytedhfdgcofboeaa
open Go.RowKit Go.Sort
set_option linter.unusedVariables false
theorem nums_var (n : Nat) : numsOf (strOfNums (varB n)) = varB n := nums_str _ (varB_bytes n)
theorem eight_bytes (k x : Nat) : BytesL (eightK k x) := by
  induction k generalizing x with
  | zero => intro y hy; cases hy
  | succ k ih =>
    unfold eightK
    refine (ih _).append fun y hy => ?_
    rw [List.mem_singleton] at hy
    subst hy
    omega
theorem nums_short (s : ByteArray) : numsOf (strOfNums (varB s.size) ++ s) = shortB s := by rw [nums_append, nums_var]; rfl
theorem nums_head (p : PImg) (n : Nat) (h : p.consts.length = n) : numsOf ((⟨#[83, 67, 49]⟩ : ByteArray) ++ strOfNums (varB n)) = imgHead p := by
  rw [nums_append, nums_var]
  unfold imgHead
  rw [h]
  rfl
theorem str_size (n : Nat) (h : n ≤ 1000000000) : (strOfNums (varB n)).size ≤ 5 := by rw [strOfNums_size]; exact varB_len5 h
theorem box_cell {w : World} {X : Nat} {cs : Array Value} {t : TypeId} (h : w.heap[X]? = some (.cells cs t (0, 0))) (j : Nat) (u : Value) (hj : cs[j]? = some u) : w.cell? ⟨X, j, none⟩ = some u := by
  rw [cell_of_row _ _ j _ _ _ h]
  exact hj
theorem OwnB.apart {w : World} {B X : Nat} {e : TypeId} {v : Value} {xs : List Int} (h : OwnB w B e v xs) (hX : w.heap.size ≤ X) : v.ownBlock ≠ some X := by
  obtain ⟨g, cap, rfl, h1, h2, h3⟩ := h.slice
  intro e
  simp [Value.ownBlock] at e
  omega
theorem con_more {p : PImg} {k : Nat} {q : PCon} (h : p.consts[k]? = some q) : imgHead p ++ (p.consts.take (k + 1)).flatMap conT = imgHead p ++ (p.consts.take k).flatMap conT ++ conT q := by
  rw [flat_more conT _ _ _ h, List.append_assoc]
theorem conT_num {q : PCon} (h : q.kind = 1) : conT q = [q.kind] ++ eightK 8 q.num := by
  unfold conT
  rw [if_pos h, if_neg (by omega), List.append_nil]
  rfl
theorem conT_text {q : PCon} (h : q.kind = 2) : conT q = [q.kind] ++ shortB q.text := by
  unfold conT
  rw [if_neg (by omega), if_pos h, List.nil_append]
  rfl
theorem conT_none {q : PCon} (h1 : ¬ q.kind = 1) (h2 : ¬ q.kind = 2) : conT q = [q.kind] := by
  unfold conT
  rw [if_neg h1, if_neg h2]
  rfl
structure OutX (W0 : World) (X : Nat) (bx : Obj) (W : World) (y : Value) (ps : List Int) : Prop where
  own : OwnB W W0.heap.size 5 y ps
  bel : Below W0.heap.size W0 W
  box : W.heap[X]? = some bx
  ap : y.ownBlock ≠ some X
  sz : X < W.heap.size
theorem OutX.keep {W0 W W' : World} {X : Nat} {bx : Obj} {y : Value} {ps : List Int} (h : OutX W0 X bx W y ps) (hb : Below W.heap.size W W') : OutX W0 X bx W' y ps :=
  ⟨h.own.keep hb, h.bel.trans (hb.mono h.bel.size), (hb.block X h.sz).trans h.box, h.ap, Nat.lt_of_lt_of_le h.sz hb.size⟩
theorem OutX.more {W0 W W' : World} {X : Nat} {bx : Obj} {y y' : Value} {ps ps' : List Int} (h : OutX W0 X bx W y ps) (o : OwnB W' W0.heap.size 5 y' ps') (hb : Below W0.heap.size W0 W') (bs : Beside W W' y y') : OutX W0 X bx W' y' ps' :=
  ⟨o, hb, (bs.2 X h.sz h.ap).1.trans h.box, (bs.2 X h.sz h.ap).2, Nat.lt_of_lt_of_le h.sz bs.1⟩
theorem nums_cap (q : PCap) (n : Nat) (h : q.index = n) : numsOf ((⟨#[if q.reg then 1 else 0]⟩ : ByteArray) ++ strOfNums (varB n)) = capT q := by
  rw [nums_append, nums_var]
  unfold capT
  rw [h]
  cases q.reg <;> rfl
theorem nums_two (a b : Nat) : numsOf (strOfNums (varB a) ++ strOfNums (varB b)) = varB a ++ varB b := by rw [nums_append, nums_var, nums_var]
theorem nums_three (a b c : Nat) : numsOf (strOfNums (varB a) ++ strOfNums (varB b) ++ strOfNums (varB c)) = varB a ++ varB b ++ varB c := by rw [nums_append, nums_two, nums_var]
set_option maxHeartbeats 4000000 in
set_option maxRecDepth 100000 in
theorem specImageText_any (p : PImg) (fv cv : Value) (w : World) (h : ArgImg w fv cv p) (hw : imgW p) :
    Calls Try.prog 14 #[.agg #[fv, cv]] w fun e w' => e = .returned (if imgTB p then .tuple #[.string (sealedS (strOfNums (imgT p))), .bool true] else .tuple #[.string ⟨#[]⟩, .bool false]) ∧ Below w.heap.size w w' := by
  obtain ⟨i0, hi, hz0, hz1, hz2⟩ := info_parts Try.infoByte
  have hcv : ∀ (W : World) (s : ByteArray), (convert 9 78 (.string s)).run Try.prog W = .ok (.slice (some ⟨W.heap.size, 0, none⟩) s.size (grownCap W s.size 0 5)) (Lib.bytesWorld W 5 s) := fun W s => Lib.run_convert_string_bytes W 9 78 5 s Try.underlying9 Try.underlying78 Try.underlying5
  have cO := fun W (hb : Below w.heap.size w W) => specImageOk_any p fv cv W (h.below hb) hw
  obtain ⟨hF, hC⟩ := h
  obtain ⟨x1, c1, rfl, m1, o1⟩ := hF
  obtain ⟨x2, c2, rfl, m2, o2⟩ := hC.opened conC_len
  have HW : Hid (∀ x ∈ p.consts, conW x) := hw.consts
  clear hC hw
  unfold maxLen at m1 m2
  obtain ⟨n1, e1⟩ : ∃ n, p.funcs.length = n := ⟨_, rfl⟩
  obtain ⟨n2, e2⟩ : ∃ n, p.consts.length = n := ⟨_, rfl⟩
  rw [e1] at m1 o1
  rw [e2] at m2 o2
  simp only [e1, e2] at cO
  rw [e1, e2]
  have H1 : Hid (0 < n1 → ∃ b o, x1 = some ⟨b, o, none⟩ ∧ b < w.heap.size ∧ ∀ j q, p.funcs[j]? = some q → ∃ cv kv hv, FunAt w b (o + j * 5) q cv kv hv) := o1
  have H2 : Hid (0 < n2 → ∃ b o, x2 = some ⟨b, o, none⟩ ∧ b < w.heap.size ∧ ∀ j q, p.consts[j]? = some q → ∀ c u, (conC q)[c]? = some u → w.cell? ⟨b, o + j * 3 + c, none⟩ = some u) := o2
  have E1 : Hid (p.funcs.length = n1) := e1
  have E2 : Hid (p.consts.length = n2) := e2
  clear o1 o2 e1 e2
  obtain ⟨F, hF⟩ : ∃ F, imgOk p = F := ⟨_, rfl⟩
  simp only [hF] at cO
  have HF : Hid (imgOk p = F) := hF
  clear hF
  have b0 : Below w.heap.size w (w.alloc (.cells #[.slice x1 n1 c1, .slice x2 n2 c2] 25)) := (Below.refl _ _).alloc (Nat.le_refl _) _
  have k1 := fun W (h : Below _ _ W) => new_cell (w := w) (cs := #[.slice x1 n1 c1, .slice x2 n2 c2]) (t := 25) h 0 _ rfl
  have k2 := fun W (h : Below _ _ W) => new_cell (w := w) (cs := #[.slice x1 n1 c1, .slice x2 n2 c2]) (t := 25) h 1 _ rfl
  obtain ⟨W0, hW0⟩ : ∃ W, w.alloc (.cells #[.slice x1 n1 c1, .slice x2 n2 c2] 25) = W := ⟨_, rfl⟩
  rw [hW0] at b0 k1 k2
  have HW0 : Hid (w.alloc (.cells #[.slice x1 n1 c1, .slice x2 n2 c2] 25) = W0) := hW0
  clear hW0
  obtain ⟨R, hR⟩ : ∃ R, (if imgTB p then Value.tuple #[.string (sealedS (strOfNums (imgT p))), .bool true] else .tuple #[.string ⟨#[]⟩, .bool false]) = R := ⟨_, rfl⟩
  rw [hR]
  have HR : Hid (_ = R) := hR
  clear hR
  go_enter Try.func14, Try.ntmps14
  go_upto_region 1 with fail
  rw [HW0.out]
  clear HW0
  have s1 := k1 W0 (Below.refl _ _)
  have s2 := k2 W0 (Below.refl _ _)
  go_wp2_with fail
  refine (cO _ b0).mono ?_
  rintro e w1 ⟨rfl, hb1⟩
  clear cO s1 s2
  cases F with
  | false =>
    have hR : Value.tuple #[.string ⟨#[]⟩, .bool false] = R := by
      rw [← HR.out]
      unfold imgTB
      rw [HF.out]
      rfl
    subst hR
    go_wp2
    go_ret2
    exact ⟨rfl, chain b0 hb1⟩
  | true =>
  have HL : Hid (ImgLe p) := imgOk_le HF.out
  have hn1 : n1 ≤ 16 := by rw [← E1.out]; exact HL.out.funcs.2
  have hn2 : n2 ≤ 40 := by rw [← E2.out]; exact HL.out.consts
  have s2 := k2 w1 hb1
  have cV2 := fun W => l01Var_any n2 W (by omega)
  have cV1 := fun W => l01Var_any n1 W (by omega)
  have z2 := str_size n2 (by omega)
  go_wp2_with fail
  refine (cV2 _).mono ?_
  rintro e w2 ⟨rfl, hb2⟩
  have hb12 := chain hb1 hb2
  have ow0 := own_bytes w2 5 ((⟨#[83, 67, 49]⟩ : ByteArray) ++ strOfNums (varB n2)) (by rw [ByteArray.size_append]; unfold maxLen; show 3 + _ ≤ _; omega)
  rw [nums_head p n2 E2.out] at ow0
  have hb3 := chain hb12 (Joins.below_bytesWorld w2.heap.size w2 5 ((⟨#[83, 67, 49]⟩ : ByteArray) ++ strOfNums (varB n2)) (Nat.le_refl _))
  have ow1 := ow0.low hb12.size
  rw [show ((⟨#[83, 67, 49]⟩ : ByteArray) ++ strOfNums (varB n2)).size = 3 + (strOfNums (varB n2)).size by rw [ByteArray.size_append]; rfl] at ow1
  have HO : Hid (OwnB _ _ _ _ _) := ow1
  have HB3 : Hid (Below _ _ _) := hb3
  clear ow0 ow1 hb3 s2 cV2
  go_wp2
  go_loopw [4, 5] (fun y i wr => ∃ k : Nat, k ≤ n2 ∧ i = .int .i64 k ∧ OwnB wr W0.heap.size 5 y (imgHead p ++ (p.consts.take k).flatMap conT) ∧ Below W0.heap.size W0 wr) (fun _ i _ => n2 - (intOf i).toNat)
  case atStart => exact ⟨0, Nat.zero_le _, rfl, by rw [show imgHead p ++ (p.consts.take 0).flatMap conT = imgHead p by simp]; exact HO.out, HB3.out⟩
  case round =>
    clear HO HB3 z2
    obtain ⟨k, hk, rfl, ow, hb⟩ := hrel
    have t2 := k2 wr hb
    by_cases hkn : k < n2
    · obtain ⟨b, o, rfl, hbz, hcell⟩ := H2.out (by omega)
      obtain ⟨q, hq⟩ : ∃ q, p.consts[k]? = some q := ⟨_, List.getElem?_eq_getElem (by have := E2.out; omega)⟩
      have g0 : wr.cell? ⟨b, o + k * 3, none⟩ = some (.int .i64 q.kind) := ((chain b0 hb).cell hbz).trans (hcell k q hq 0 _ rfl)
      have g1 : wr.cell? ⟨b, o + k * 3 + 1, none⟩ = some (.int .u64 (q.num : Int)) := ((chain b0 hb).cell hbz).trans (hcell k q hq 1 _ rfl)
      have g2 : wr.cell? ⟨b, o + k * 3 + 2, none⟩ = some (.string q.text) := ((chain b0 hb).cell hbz).trans (hcell k q hq 2 _ rfl)
      have hki : (k : Int) < (n2 : Int) := by omega
      have hk0 : (0 : Int) ≤ (k : Int) := by omega
      have hqo := HL.out.consOk q (List.mem_iff_getElem?.2 ⟨_, hq⟩)
      have hqw := HW.out q (List.mem_iff_getElem?.2 ⟨_, hq⟩)
      obtain ⟨⟨hk1, hk5⟩, hs40⟩ := conOk_le hqo
      have hnum := hqw.2.1
      unfold N64 at hnum
      have hlen : (imgHead p ++ (p.consts.take k).flatMap conT).length ≤ 10000 := by
        rw [List.length_append]
        have := imgHead_len HL.out
        have := flat_take_le conT 60 k p.consts (fun x hx => conT_len (HL.out.consOk x hx))
        have := E2.out
        omega
      have HM : Hid (imgHead p ++ (p.consts.take (k + 1)).flatMap conT = imgHead p ++ (p.consts.take k).flatMap conT ++ conT q) := con_more hq
      obtain ⟨xs, hxs⟩ : ∃ xs, imgHead p ++ (p.consts.take k).flatMap conT = xs := ⟨_, rfl⟩
      rw [hxs] at ow hlen HM
      have hbx : Below W0.heap.size W0 (wr.alloc (.cells #[.int .i64 q.kind, .int .u64 (q.num : Int), .string q.text] 40)) := hb.alloc hb.size _
      have bx : Below wr.heap.size wr (wr.alloc (.cells #[.int .i64 q.kind, .int .u64 (q.num : Int), .string q.text] 40)) := (Below.refl _ _).alloc (Nat.le_refl _) _
      have owx := ow.keep bx
      have box := heap_alloc_new wr (.cells #[.int .i64 q.kind, .int .u64 (q.num : Int), .string q.text] 40)
      have apx := ow.apart (Nat.le_refl wr.heap.size)
      have szx : wr.heap.size < (wr.alloc (.cells #[.int .i64 q.kind, .int .u64 (q.num : Int), .string q.text] 40)).heap.size := by simp
      obtain ⟨WX, hWX⟩ : ∃ W, wr.alloc (.cells #[.int .i64 q.kind, .int .u64 (q.num : Int), .string q.text] 40) = W := ⟨_, rfl⟩
      rw [hWX] at hbx owx box szx
      have HWX : Hid (_ = WX) := hWX
      obtain ⟨X, hX⟩ : ∃ X, wr.heap.size = X := ⟨_, rfl⟩
      have HX : Hid (wr.heap.size = X) := hX
      rw [hX] at box apx szx
      clear hcell hq hxs ow hqo hqw hX bx hWX
      go_upto_region 8 with fail
      rw [HWX.out, HX.out]
      clear HWX
      have c0 := box_cell box 0 _ rfl
      have c1' := box_cell box 1 _ rfl
      have c2' := box_cell box 2 _ rfl
      have HBOX : Hid (_ = _) := box
      clear box
      go_wp2_with (at_builtin; refine append_byte rfl _ _ 78 rfl W0.heap.size 5 i0 Try.underlying78 hi hz0 hz1 hz2 _ xs rfl owx q.kind rfl (by omega) hbx hbx.size ?_)
      intro v1 w3 ow3 hb3 bs3
      obtain ⟨kb3, ap3⟩ := bs3.2 X szx apx
      have box3 := kb3.trans HBOX.out
      have c0 := box_cell box3 0 _ rfl
      have c1' := box_cell box3 1 _ rfl
      have c2' := box_cell box3 2 _ rfl
      have sz3 : X < w3.heap.size := Nat.lt_of_lt_of_le szx bs3.1
      clear HBOX owx hbx bs3 kb3 apx
      obtain ⟨ys, hys⟩ : ∃ ys, xs ++ [q.kind] = ys := ⟨_, rfl⟩
      rw [hys] at ow3
      have hly : ys.length ≤ 10001 := by rw [← hys, List.length_append]; simp; omega
      have HY : Hid (xs ++ [q.kind] = ys) := hys
      clear hys
      by_cases q1 : q.kind = 1
      · have HT : Hid (ys ++ eightK 8 q.num = imgHead p ++ (p.consts.take (k + 1)).flatMap conT) := by
          show _ = _
          rw [HM.out, conT_num q1, ← List.append_assoc, HY.out]
        have cE := fun W => l15Eight_any q.num W hnum
        have z8 : (strOfNums (eightK 8 q.num)).size = 8 := by rw [strOfNums_size, eightK_len]
        rw [q1] at c0
        go_wp2_with fail
        refine (cE _).mono ?_
        rintro e w4 ⟨rfl, hb4⟩
        have ow4 := ow3.keep hb4
        have hb34 : Below W0.heap.size W0 w4 := hb3.trans (hb4.mono hb3.size)
        have box4 := (hb4.block X sz3).trans box3
        have sz4 : X < w4.heap.size := Nat.lt_of_lt_of_le sz3 hb4.size
        clear c0 c1' c2'
        go_wp2_with (at_builtin; refine append_text rfl _ _ 78 rfl W0.heap.size 5 i0 Try.underlying78 hi hz0 hz1 hz2 _ ys rfl ow4 (strOfNums (eightK 8 q.num)) _ rfl rfl (by rw [z8]; omega) hb34 hb34.size ?_)
        intro v5 w5 ow5 hb5 bs5
        have box5 := (bs5.2 X sz4 ap3).1.trans box4
        have c0 := box_cell box5 0 _ rfl
        rw [q1] at c0
        rw [nums_str _ (eight_bytes 8 _)] at ow5
        have HO5 : Hid (OwnB w5 W0.heap.size 5 v5 (imgHead p ++ (p.consts.take (k + 1)).flatMap conT)) := by rw [← HT.out]; exact ow5
        clear box5 box4 box3 bs5 ow5
        go_wp2
        go_roundw
        case rel => exact ⟨k + 1, by omega, by go_num, HO5.out, hb5⟩
        case measure => simp [intOf]; omega
      · by_cases q2 : q.kind = 2
        · have HT : Hid (ys ++ shortB q.text = imgHead p ++ (p.consts.take (k + 1)).flatMap conT) := by
            show _ = _
            rw [HM.out, conT_text q2, ← List.append_assoc, HY.out]
          have cE := fun W => l15Short_any q.text W (by omega)
          have z8 : (strOfNums (varB q.text.size)).size ≤ 5 := str_size _ (by omega)
          rw [q2] at c0
          go_wp2_with fail
          refine (cE _).mono ?_
          rintro e w4 ⟨rfl, hb4⟩
          have ow4 := ow3.keep hb4
          have hb34 : Below W0.heap.size W0 w4 := hb3.trans (hb4.mono hb3.size)
          clear c0 c1' c2'
          go_wp2_with (at_builtin; refine append_text rfl _ _ 78 rfl W0.heap.size 5 i0 Try.underlying78 hi hz0 hz1 hz2 _ ys rfl ow4 (strOfNums (varB q.text.size) ++ q.text) _ ByteArray.size_append rfl (by rw [ByteArray.size_append]; omega) hb34 hb34.size ?_)
          intro v5 w5 ow5 hb5 bs5
          rw [nums_short] at ow5
          have HO5 : Hid (OwnB w5 W0.heap.size 5 v5 (imgHead p ++ (p.consts.take (k + 1)).flatMap conT)) := by rw [← HT.out]; exact ow5
          clear box3 bs5 ow5
          go_wp2
          go_roundw
          case rel => exact ⟨k + 1, by omega, by go_num, HO5.out, hb5⟩
          case measure => simp [intOf]; omega
        · have HO5 : Hid (OwnB w3 W0.heap.size 5 v1 (imgHead p ++ (p.consts.take (k + 1)).flatMap conT)) := by
            rw [HM.out, conT_none q1 q2, HY.out]
            exact ow3
          have n1' : ¬ q.kind = 1 := q1
          have n2' : ¬ q.kind = 2 := q2
          clear ow3
          go_wp2
          go_roundw
          case rel => exact ⟨k + 1, by omega, by go_num, HO5.out, hb3⟩
          case measure => simp [intOf]; omega
    · have ek : k = n2 := by omega
      subst ek
      have hd2 : decide ((k : Int) < (k : Int)) = false := decide_eq_false (by omega)
      have hall : imgHead p ++ (p.consts.take k).flatMap conT = imgHead p ++ p.consts.flatMap conT := by rw [List.take_of_length_le (by have := E2.out; omega)]
      rw [hall] at ow
      have hlen : (imgHead p ++ p.consts.flatMap conT).length ≤ 10000 := by
        rw [List.length_append]
        have := imgHead_len HL.out
        have := flat_le conT 60 p.consts (fun x hx => conT_len (HL.out.consOk x hx))
        have := E2.out
        omega
      obtain ⟨xs, hxs⟩ : ∃ xs, imgHead p ++ p.consts.flatMap conT = xs := ⟨_, rfl⟩
      rw [hxs] at ow hlen
      have HXS : Hid (imgHead p ++ p.consts.flatMap conT = xs) := hxs
      have t1 := k1 wr hb
      have z1 := str_size n1 (by omega)
      clear hall hxs H2 k2
      go_wp2_with fail
      refine (cV1 _).mono ?_
      rintro e w3 ⟨rfl, hb3⟩
      have ow3 := ow.keep hb3
      have hb33 : Below W0.heap.size W0 w3 := hb.trans (hb3.mono hb.size)
      clear t1 t2 ow
      go_wp2_with (at_builtin; refine append_text rfl _ _ 78 rfl W0.heap.size 5 i0 Try.underlying78 hi hz0 hz1 hz2 _ xs rfl ow3 (strOfNums (varB n1)) _ rfl rfl (by omega) hb33 hb33.size ?_)
      intro v4 w4 ow4 hb4 bs4
      rw [nums_var] at ow4
      have hl4 : (xs ++ varB n1).length ≤ 10005 := by rw [List.length_append]; have := varB_len5 (n := n1) (by omega); omega
      obtain ⟨ps, hps⟩ : ∃ ps, xs ++ varB n1 = ps := ⟨_, rfl⟩
      rw [hps] at ow4 hl4
      have HPS : Hid (xs ++ varB n1 = ps) := hps
      clear hps bs4 hb3 hb33 ow3 hb hd2 cV1
      go_wp2
      go_loopw [4, 7] (fun y i wr => ∃ k : Nat, k ≤ n1 ∧ i = .int .i64 k ∧ OwnB wr W0.heap.size 5 y (ps ++ (p.funcs.take k).flatMap funT) ∧ Below W0.heap.size W0 wr) (fun _ i _ => n1 - (intOf i).toNat)
      case atStart => exact ⟨0, Nat.zero_le _, rfl, by rw [show ps ++ (p.funcs.take 0).flatMap funT = ps by simp]; exact ow4, hb4⟩
      case round =>
        clear ow4 hb4
        obtain ⟨k', hk', rfl, ow, hb⟩ := hrel
        have t1 := k1 _ hb
        by_cases hkn' : k' < n1
        · obtain ⟨b, o, rfl, hbz, hcell⟩ := H1.out (by omega)
          obtain ⟨q, hq⟩ : ∃ q, p.funcs[k']? = some q := ⟨_, List.getElem?_eq_getElem (by have := E1.out; omega)⟩
          obtain ⟨qc, qk, qh, hA⟩ := hcell k' q hq
          have hA' := hA.below (chain b0 hb)
          obtain ⟨y1, d1, rfl, ym1, yo1⟩ := hA.caps.opened capC_len
          obtain ⟨y2, d2, rfl, ym2, yo2⟩ := hA.code.opened insC_len
          obtain ⟨y3, d3, rfl, ym3, yo3⟩ := hA.hnds.opened hndC_len
          have g0 := hA'.c0
          have g1 := hA'.c1
          have g2 := hA'.c2
          have g3 := hA'.c3
          have g4 := hA'.c4
          have hki : (k' : Int) < (n1 : Int) := by omega
          have hk0 : (0 : Int) ≤ (k' : Int) := by omega
          have hqo := HL.out.funsOk q (List.mem_iff_getElem?.2 ⟨_, hq⟩)
          have HQ : Hid (FunLe q) := funOk_le hqo
          have HM : Hid ((p.funcs.take (k' + 1)).flatMap funT = (p.funcs.take k').flatMap funT ++ funT q) := flat_more funT _ _ _ hq
          have hlen2 : (ps ++ (p.funcs.take k').flatMap funT).length ≤ 100000 := by
            rw [List.length_append]
            have := flat_take_le funT 5000 k' p.funcs (fun x hx => funT_len (HL.out.funsOk x hx))
            have := E1.out
            omega
          obtain ⟨P0, hP0⟩ : ∃ P0, ps ++ (p.funcs.take k').flatMap funT = P0 := ⟨_, rfl⟩
          rw [hP0] at ow hlen2
          have HP0 : Hid (ps ++ (p.funcs.take (k' + 1)).flatMap funT = P0 ++ funT q) := by
            show _ = _
            rw [HM.out, ← List.append_assoc, hP0]
          obtain ⟨PP, hPP⟩ : ∃ n : Nat, q.params = n := ⟨q.params.toNat, by have := HQ.out.params; omega⟩
          obtain ⟨RR, hRR⟩ : ∃ n : Nat, q.regs = n := ⟨q.regs.toNat, by have := HQ.out.regs; omega⟩
          obtain ⟨nc, enc⟩ : ∃ n, q.caps.length = n := ⟨_, rfl⟩
          obtain ⟨nk, enk⟩ : ∃ n, q.code.length = n := ⟨_, rfl⟩
          obtain ⟨nh, enh⟩ : ∃ n, q.hnds.length = n := ⟨_, rfl⟩
          have lP : PP ≤ 4 := by have := HQ.out.params; omega
          have lR : RR ≤ 40 := by have := HQ.out.regs; omega
          have lc : nc ≤ 20 := by have := HQ.out.caps; omega
          have lk : nk ≤ 300 := by have := HQ.out.code; omega
          have lh : nh ≤ 40 := by have := HQ.out.hnds; omega
          rw [hPP] at g0
          rw [hRR] at g1
          rw [enc] at g2 yo1
          rw [enk] at g3 yo2
          rw [enh] at g4 yo3
          have HH : Hid (funHead q = varB PP ++ varB RR ++ varB nc) := by
            show _ = _
            unfold funHead
            rw [hPP, hRR, enc]
            rfl
          have Y1 : Hid (0 < nc → ∃ b o, y1 = some ⟨b, o, none⟩ ∧ b < w.heap.size ∧ ∀ j q', q.caps[j]? = some q' → ∀ c u, (capC q')[c]? = some u → w.cell? ⟨b, o + j * 2 + c, none⟩ = some u) := yo1
          have Y2 : Hid (0 < nk → ∃ b o, y2 = some ⟨b, o, none⟩ ∧ b < w.heap.size ∧ ∀ j q', q.code[j]? = some q' → ∀ c u, (insC q')[c]? = some u → w.cell? ⟨b, o + j * 3 + c, none⟩ = some u) := yo2
          have Y3 : Hid (0 < nh → ∃ b o, y3 = some ⟨b, o, none⟩ ∧ b < w.heap.size ∧ ∀ j q', q.hnds[j]? = some q' → ∀ c u, (hndC q')[c]? = some u → w.cell? ⟨b, o + j * 3 + c, none⟩ = some u) := yo3
          have EC : Hid (q.caps.length = nc) := enc
          have EK : Hid (q.code.length = nk) := enk
          have EH : Hid (q.hnds.length = nh) := enh
          clear hcell hq hA hA' hqo hP0 hPP hRR enc enk enh yo1 yo2 yo3 ym1 ym2 ym3 HM
          have hbx : Below W0.heap.size W0 (wr.alloc (.cells #[.int .i64 PP, .int .i64 RR, .slice y1 nc d1, .slice y2 nk d2, .slice y3 nh d3] 46)) := hb.alloc hb.size _
          have bx0 : Below wr.heap.size wr (wr.alloc (.cells #[.int .i64 PP, .int .i64 RR, .slice y1 nc d1, .slice y2 nk d2, .slice y3 nh d3] 46)) := (Below.refl _ _).alloc (Nat.le_refl _) _
          have hox : OutX W0 wr.heap.size (.cells #[.int .i64 PP, .int .i64 RR, .slice y1 nc d1, .slice y2 nk d2, .slice y3 nh d3] 46) (wr.alloc (.cells #[.int .i64 PP, .int .i64 RR, .slice y1 nc d1, .slice y2 nk d2, .slice y3 nh d3] 46)) _ P0 := ⟨ow.keep bx0, hbx, heap_alloc_new wr (.cells #[.int .i64 PP, .int .i64 RR, .slice y1 nc d1, .slice y2 nk d2, .slice y3 nh d3] 46), ow.apart (Nat.le_refl wr.heap.size), by simp⟩
          obtain ⟨WX, hWX⟩ : ∃ W, wr.alloc (.cells #[.int .i64 PP, .int .i64 RR, .slice y1 nc d1, .slice y2 nk d2, .slice y3 nh d3] 46) = W := ⟨_, rfl⟩
          rw [hWX] at hox
          have HWX : Hid (_ = WX) := hWX
          obtain ⟨X, hX⟩ : ∃ X, wr.heap.size = X := ⟨_, rfl⟩
          have HX : Hid (wr.heap.size = X) := hX
          rw [hX] at hox
          have C0 : Hid (∀ W y ps, OutX W0 X (.cells #[.int .i64 PP, .int .i64 RR, .slice y1 nc d1, .slice y2 nk d2, .slice y3 nh d3] 46) W y ps → W.cell? ⟨X, 0, none⟩ = some (.int .i64 PP)) := fun W y ps h => box_cell h.box 0 _ rfl
          have C1 : Hid (∀ W y ps, OutX W0 X (.cells #[.int .i64 PP, .int .i64 RR, .slice y1 nc d1, .slice y2 nk d2, .slice y3 nh d3] 46) W y ps → W.cell? ⟨X, 1, none⟩ = some (.int .i64 RR)) := fun W y ps h => box_cell h.box 1 _ rfl
          have C2 : Hid (∀ W y ps, OutX W0 X (.cells #[.int .i64 PP, .int .i64 RR, .slice y1 nc d1, .slice y2 nk d2, .slice y3 nh d3] 46) W y ps → W.cell? ⟨X, 2, none⟩ = some (.slice y1 nc d1)) := fun W y ps h => box_cell h.box 2 _ rfl
          have C3 : Hid (∀ W y ps, OutX W0 X (.cells #[.int .i64 PP, .int .i64 RR, .slice y1 nc d1, .slice y2 nk d2, .slice y3 nh d3] 46) W y ps → W.cell? ⟨X, 3, none⟩ = some (.slice y2 nk d2)) := fun W y ps h => box_cell h.box 3 _ rfl
          have C4 : Hid (∀ W y ps, OutX W0 X (.cells #[.int .i64 PP, .int .i64 RR, .slice y1 nc d1, .slice y2 nk d2, .slice y3 nh d3] 46) W y ps → W.cell? ⟨X, 4, none⟩ = some (.slice y3 nh d3)) := fun W y ps h => box_cell h.box 4 _ rfl
          clear ow hX bx0 hWX hbx
          go_upto_region 18 with fail
          rw [HWX.out, HX.out]
          clear HWX HX g0 g1 g2 g3 g4 t1 hb
          obtain ⟨bx, hbx⟩ : ∃ bx : Obj, (.cells #[.int .i64 PP, .int .i64 RR, .slice y1 nc d1, .slice y2 nk d2, .slice y3 nh d3] 46) = bx := ⟨_, rfl⟩
          rw [hbx] at hox C0 C1 C2 C3 C4
          have HO : Hid (OutX W0 X bx WX _ P0) := hox
          clear hbx hox
          go_cut [4] from 77 to 91 (fun y wx => OutX W0 X bx wx y (P0 ++ funHead q))
          case first =>
            have HKZ : Hid (∀ W y ps, OutX W0 X bx W y ps → W.cell? ⟨X, 0, none⟩ = some (.int .i64 PP) ∧ W.cell? ⟨X, 1, none⟩ = some (.int .i64 RR) ∧ W.cell? ⟨X, 2, none⟩ = some (.slice y1 nc d1)) := fun W y ps h => ⟨C0.out _ _ _ h, C1.out _ _ _ h, C2.out _ _ _ h⟩
            have HOW : Hid (∀ W, Below WX.heap.size WX W → OutX W0 X bx W _ P0) := fun W hW => HO.out.keep hW
            have cP := fun W => l01Var_any PP W (by omega)
            have zcP := str_size PP (by omega)
            have cR := fun W => l01Var_any RR W (by omega)
            have zcR := str_size RR (by omega)
            have cN := fun W => l01Var_any nc W (by omega)
            have zcN := str_size nc (by omega)
            clear HO
            go_region_held_law (fun W => W.cell? ⟨X, 0, none⟩ = some (.int .i64 PP) ∧ W.cell? ⟨X, 1, none⟩ = some (.int .i64 RR) ∧ W.cell? ⟨X, 2, none⟩ = some (.slice y1 nc d1)) (first | exact HKZ.out _ _ _ (HOW.out _ (Below.refl _ _).drew) | exact HKZ.out _ _ _ (HOW.out _ HMwa.out) | exact HKZ.out _ _ _ (HOW.out _ HMwb.out) | exact HKZ.out _ _ _ (HOW.out _ HMwc1.out) | exact HKZ.out _ _ _ (HOW.out _ (chain HMwc1.out (Joins.below_bytesWorld _ _ _ _ (Nat.le_refl _)))) | exact HKZ.out _ _ _ HZ5.out | go_keep) (first
              | (go_at_call 34; (with_reducible refine (cP _).mono ?_); rintro e wa ⟨rfl, ha⟩; have HMwa : Hid (Below WX.heap.size WX wa) := chain (Below.refl _ _).drew ha)
              | (go_at_call 34; (with_reducible refine (cR _).mono ?_); rintro e wb ⟨rfl, hbb⟩; have HMwb : Hid (Below WX.heap.size WX wb) := chain HMwa.out hbb)
              | (go_at_call 34; (with_reducible refine (cN _).mono ?_); rintro e wc1 ⟨rfl, hbc⟩; have HMwc1 : Hid (Below WX.heap.size WX wc1) := chain HMwb.out hbc)
              | (refine step_append_text rfl _ _ 78 rfl W0.heap.size 5 i0 Try.underlying78 hi hz0 hz1 hz2 _ P0 rfl (HOW.out _ HMwc1.out).own (strOfNums (varB PP) ++ strOfNums (varB RR) ++ strOfNums (varB nc)) _ (by first | (simp only [ByteArray.size_append]; done) | (simp only [ByteArray.size_append]; omega)) rfl (some 91) rfl (by simp only [ByteArray.size_append]; omega) (HOW.out _ HMwc1.out).bel (HOW.out _ HMwc1.out).bel.size ?_; intro v5 w5 ow5 hb5 bs5; have HZ5 : Hid (OutX W0 X bx w5 v5 _) := (HOW.out _ HMwc1.out).more ow5 hb5 bs5))
            all_goals
              go_wp2
              go_meet
              case rel =>
                have hz := HZ5.out
                rw [nums_three, ← HH.out] at hz
                exact hz
          case rest =>
            have hlp1 : (P0 ++ funHead q).length ≤ 100015 := by
              rw [List.length_append]
              have := funHead_len HQ.out
              omega
            obtain ⟨P1, hP1⟩ : ∃ P1, P0 ++ funHead q = P1 := ⟨_, rfl⟩
            rw [hP1] at hcut hlp1
            have HP1 : Hid (P0 ++ funHead q = P1) := hP1
            clear hP1
            go_wp2
            go_loopw [4, 9] (fun y i wr => ∃ j : Nat, j ≤ nc ∧ i = .int .i64 j ∧ OutX W0 X bx wr y (P1 ++ (q.caps.take j).flatMap capT)) (fun _ i _ => nc - (intOf i).toNat)
            case atStart => exact ⟨0, Nat.zero_le _, rfl, by rw [show P1 ++ (q.caps.take 0).flatMap capT = P1 by simp]; exact hcut⟩
            case round =>
              clear hcut
              obtain ⟨j, hj, rfl, hox⟩ := hrel
              have t2 := C2.out _ _ _ hox
              by_cases hjn : j < nc
              · obtain ⟨b1, o1, rfl, hbz1, hcell1⟩ := Y1.out (by omega)
                obtain ⟨r, hr⟩ : ∃ r, q.caps[j]? = some r := ⟨_, List.getElem?_eq_getElem (by have := EC.out; omega)⟩
                have hro := HQ.out.capsOk r (List.mem_iff_getElem?.2 ⟨_, hr⟩)
                have hle := capOk_le hro
                have HM : Hid (P1 ++ (q.caps.take (j + 1)).flatMap capT = P1 ++ (q.caps.take j).flatMap capT ++ capT r) := by
                  show _ = _
                  rw [flat_more capT _ _ _ hr, List.append_assoc]
                have hlq : (P1 ++ (q.caps.take j).flatMap capT).length ≤ 100200 := by
                  rw [List.length_append]
                  have := flat_take_le capT 6 j q.caps (fun x hx => capT_len (HQ.out.capsOk x hx))
                  have := EC.out
                  omega
                obtain ⟨Q0, hQ0⟩ : ∃ Q0, P1 ++ (q.caps.take j).flatMap capT = Q0 := ⟨_, rfl⟩
                rw [hQ0] at hox hlq HM
                have hji : (j : Int) < (nc : Int) := by omega
                have hj0 : (0 : Int) ≤ (j : Int) := by omega
                obtain ⟨I, hI⟩ : ∃ n : Nat, r.index = n := ⟨r.index.toNat, by omega⟩
                have lI : I ≤ 40 := by omega
                have G0 : Hid (∀ W, Below W0.heap.size W0 W → W.cell? ⟨b1, o1 + j * 2, none⟩ = some (.bool r.reg)) := (fun W (hW : Below W0.heap.size W0 W) => ((chain b0 hW).cell (p := ⟨b1, o1 + j * 2, none⟩) hbz1).trans (hcell1 j r hr 0 _ rfl))
                have G1 : Hid (∀ W, Below W0.heap.size W0 W → W.cell? ⟨b1, o1 + j * 2 + 1, none⟩ = some (.int .i64 I)) := by rw [← hI]; exact (fun W (hW : Below W0.heap.size W0 W) => ((chain b0 hW).cell (p := ⟨b1, o1 + j * 2 + 1, none⟩) hbz1).trans (hcell1 j r hr 1 _ rfl))
                have HN0 := nums_cap r I hI
                have cG := fun W => l15Flag_any r.reg W
                have zG : (⟨#[if r.reg then 1 else 0]⟩ : ByteArray).size = 1 := rfl
                obtain ⟨gs, hgs⟩ : ∃ gs : ByteArray, (⟨#[if r.reg then 1 else 0]⟩ : ByteArray) = gs := ⟨_, rfl⟩
                rw [hgs] at HN0 zG
                simp only [hgs] at cG
                have HN : Hid (numsOf (gs ++ strOfNums (varB I)) = capT r) := HN0
                clear hgs HN0
                have HO : Hid (OutX W0 X bx wr _ Q0) := hox
                clear hcell1 hr hro hle hQ0 hI hox
                go_upto_region 22 with fail
                clear t2
                have HKZ : Hid (∀ W y ps, OutX W0 X bx W y ps → W.cell? ⟨X, 2, none⟩ = some (.slice (some ⟨b1, o1, none⟩) nc d1) ∧ W.cell? ⟨b1, o1 + j * 2, none⟩ = some (.bool r.reg) ∧ W.cell? ⟨b1, o1 + j * 2 + 1, none⟩ = some (.int .i64 I)) := fun W y ps h => ⟨C2.out _ _ _ h, G0.out _ h.bel, G1.out _ h.bel⟩
                have HOW : Hid (∀ W, Below wr.heap.size wr W → OutX W0 X bx W _ Q0) := fun W hW => HO.out.keep hW
                have cI := fun W => l01Var_any I W (by omega)
                have zcI := str_size I (by omega)
                clear HO
                go_region_held_law (fun W => W.cell? ⟨X, 2, none⟩ = some (.slice (some ⟨b1, o1, none⟩) nc d1) ∧ W.cell? ⟨b1, o1 + j * 2, none⟩ = some (.bool r.reg) ∧ W.cell? ⟨b1, o1 + j * 2 + 1, none⟩ = some (.int .i64 I)) (first | exact HKZ.out _ _ _ (HOW.out _ (Below.refl _ _).drew) | exact HKZ.out _ _ _ (HOW.out _ HMwb.out) | exact HKZ.out _ _ _ (HOW.out _ (chain HMwb.out (Joins.below_bytesWorld _ _ _ _ (Nat.le_refl _)))) | exact HKZ.out _ _ _ HZ6.out | go_keep) (first
                  | (go_at_call 37; (with_reducible refine (cG _).mono ?_); rintro e wa ⟨rfl, rfl⟩)
                  | (go_at_call 34; (with_reducible refine (cI _).mono ?_); rintro e wb ⟨rfl, hbb⟩; have HMwb : Hid (Below wr.heap.size wr wb) := chain (Below.refl _ _).drew hbb)
                  | (refine step_append_text rfl _ _ 78 rfl W0.heap.size 5 i0 Try.underlying78 hi hz0 hz1 hz2 _ Q0 rfl (HOW.out _ HMwb.out).own (gs ++ strOfNums (varB I)) _ (by first | (simp only [ByteArray.size_append]; done) | (simp only [ByteArray.size_append]; omega)) rfl (some 116) rfl (by simp only [ByteArray.size_append]; omega) (HOW.out _ HMwb.out).bel (HOW.out _ HMwb.out).bel.size ?_; intro v6 w6 ow6 hb6 bs6; have HZ6 : Hid (OutX W0 X bx w6 v6 _) := (HOW.out _ HMwb.out).more ow6 hb6 bs6))
                all_goals
                  have HF5 : Hid (OutX W0 X bx w6 v6 (P1 ++ (q.caps.take (j + 1)).flatMap capT)) := by
                    have hz := HZ6.out
                    rw [HN.out, ← HM.out] at hz
                    exact hz
                  go_wp2
                  go_roundw
                  case rel => exact ⟨j + 1, by omega, by go_num, HF5.out⟩
                  case measure => simp [intOf]; omega
              · have ej : j = nc := by omega
                subst ej
                have hdj : decide ((j : Int) < (j : Int)) = false := decide_eq_false (by omega)
                rw [List.take_of_length_le (by have := EC.out; omega)] at hox
                have hlP2 : (P1 ++ q.caps.flatMap capT).length ≤ 100200 := by
                  rw [List.length_append]
                  have := flat_le capT 6 q.caps (fun x hx => capT_len (HQ.out.capsOk x hx))
                  have := EC.out
                  omega
                obtain ⟨P2, hP2⟩ : ∃ ps, P1 ++ q.caps.flatMap capT = ps := ⟨_, rfl⟩
                rw [hP2] at hox hlP2
                have HP2 : Hid (P1 ++ q.caps.flatMap capT = P2) := hP2
                clear hP2
                have cL := fun W => l01Var_any nk W (by omega)
                have zL := str_size nk (by omega)
                have t2 := C2.out _ _ _ hox
                have t3 := C3.out _ _ _ hox
                go_wp2_with fail
                refine (cL _).mono ?_
                rintro e w3 ⟨rfl, hb3⟩
                have hox3 := hox.keep hb3
                clear t2 t3 hox cL
                go_wp2_with (at_builtin; refine append_text rfl _ _ 78 rfl W0.heap.size 5 i0 Try.underlying78 hi hz0 hz1 hz2 _ P2 rfl hox3.own (strOfNums (varB nk)) _ rfl rfl (by omega) hox3.bel hox3.bel.size ?_)
                intro v4 w4 ow4 hb4 bs4
                have hox4 := hox3.more ow4 hb4 bs4
                rw [nums_var] at hox4
                have hlP3 : (P2 ++ varB nk).length ≤ 100305 := by
                  rw [List.length_append]
                  have := varN_few (x := nk) (by omega)
                  omega
                obtain ⟨P3, hP3⟩ : ∃ ps, P2 ++ varB nk = ps := ⟨_, rfl⟩
                rw [hP3] at hox4 hlP3
                have HP3 : Hid (P2 ++ varB nk = P3) := hP3
                clear hP3 hox3 ow4 hb4 bs4 hb3
                go_wp2
                go_loopw [4, 10] (fun y i wr => ∃ j : Nat, j ≤ nk ∧ i = .int .i64 j ∧ OutX W0 X bx wr y (P3 ++ (q.code.take j).flatMap insT)) (fun _ i _ => nk - (intOf i).toNat)
                case atStart => exact ⟨0, Nat.zero_le _, rfl, by rw [show P3 ++ (q.code.take 0).flatMap insT = P3 by simp]; exact hox4⟩
                case round =>
                  clear hox4
                  obtain ⟨j, hj, rfl, hox⟩ := hrel
                  have t3 := C3.out _ _ _ hox
                  by_cases hjn : j < nk
                  · obtain ⟨b1, o1, rfl, hbz1, hcell1⟩ := Y2.out (by omega)
                    obtain ⟨r, hr⟩ : ∃ r, q.code[j]? = some r := ⟨_, List.getElem?_eq_getElem (by have := EK.out; omega)⟩
                    have hro := HQ.out.codeOk r (List.mem_iff_getElem?.2 ⟨_, hr⟩)
                    have hle := insOk_le hro
                    have HM : Hid (P3 ++ (q.code.take (j + 1)).flatMap insT = P3 ++ (q.code.take j).flatMap insT ++ insT r) := by
                      show _ = _
                      rw [flat_more insT _ _ _ hr, List.append_assoc]
                    have hlq : (P3 ++ (q.code.take j).flatMap insT).length ≤ 104000 := by
                      rw [List.length_append]
                      have := flat_take_le insT 11 j q.code (fun x hx => insT_len (HQ.out.codeOk x hx))
                      have := EK.out
                      omega
                    obtain ⟨Q0, hQ0⟩ : ∃ Q0, P3 ++ (q.code.take j).flatMap insT = Q0 := ⟨_, rfl⟩
                    rw [hQ0] at hox hlq HM
                    have hji : (j : Int) < (nk : Int) := by omega
                    have hj0 : (0 : Int) ≤ (j : Int) := by omega
                    obtain ⟨⟨hp1, hp2⟩, _, _⟩ := hle
                    obtain ⟨AA, hAA⟩ : ∃ n : Nat, r.a = n := ⟨r.a.toNat, by omega⟩
                    obtain ⟨BB, hBB⟩ : ∃ n : Nat, r.b = n := ⟨r.b.toNat, by omega⟩
                    have lA : AA ≤ 300 := by omega
                    have lB : BB ≤ 300 := by omega
                    have g0 : wr.cell? ⟨b1, o1 + j * 3, none⟩ = some (.int .i64 r.op) := (fun W (hW : Below W0.heap.size W0 W) => ((chain b0 hW).cell (p := ⟨b1, o1 + j * 3, none⟩) hbz1).trans (hcell1 j r hr 0 _ rfl)) wr hox.bel
                    have G1 : Hid (∀ W, Below W0.heap.size W0 W → W.cell? ⟨b1, o1 + j * 3 + 1, none⟩ = some (.int .i64 AA)) := by rw [← hAA]; exact (fun W (hW : Below W0.heap.size W0 W) => ((chain b0 hW).cell (p := ⟨b1, o1 + j * 3 + 1, none⟩) hbz1).trans (hcell1 j r hr 1 _ rfl))
                    have G2 : Hid (∀ W, Below W0.heap.size W0 W → W.cell? ⟨b1, o1 + j * 3 + 2, none⟩ = some (.int .i64 BB)) := by rw [← hBB]; exact (fun W (hW : Below W0.heap.size W0 W) => ((chain b0 hW).cell (p := ⟨b1, o1 + j * 3 + 2, none⟩) hbz1).trans (hcell1 j r hr 2 _ rfl))
                    have HE0 : Q0 ++ [r.op] ++ (varB AA ++ varB BB) = P3 ++ (q.code.take (j + 1)).flatMap insT := by
                      rw [HM.out]
                      unfold insT
                      rw [hAA, hBB, List.append_assoc]
                      rfl
                    clear hcell1 hr hro hQ0 hAA hBB
                    go_upto_region 27 with fail
                    go_wp2_with (at_builtin; refine append_byte rfl _ _ 78 rfl W0.heap.size 5 i0 Try.underlying78 hi hz0 hz1 hz2 _ Q0 rfl hox.own r.op rfl (by omega) hox.bel hox.bel.size ?_)
                    intro v5 w5 ow5 hb5 bs5
                    have hox5 := hox.more ow5 hb5 bs5
                    have hlq1 : (Q0 ++ [r.op]).length ≤ 104001 := by rw [List.length_append]; simp; omega
                    obtain ⟨Q1, hQ1⟩ : ∃ Q1, Q0 ++ [r.op] = Q1 := ⟨_, rfl⟩
                    rw [hQ1] at hox5 hlq1 HE0
                    have HE : Hid (Q1 ++ (varB AA ++ varB BB) = P3 ++ (q.code.take (j + 1)).flatMap insT) := HE0
                    have HO : Hid (OutX W0 X bx w5 _ Q1) := hox5
                    have t5 := C3.out _ _ _ hox5
                    clear hQ1 HE0 hox hox5 ow5 hb5 bs5 g0 t3
                    go_upto_region 28 with fail
                    clear t5
                    have HKZ : Hid (∀ W y ps, OutX W0 X bx W y ps → W.cell? ⟨X, 3, none⟩ = some (.slice (some ⟨b1, o1, none⟩) nk d2) ∧ W.cell? ⟨b1, o1 + j * 3 + 1, none⟩ = some (.int .i64 AA) ∧ W.cell? ⟨b1, o1 + j * 3 + 2, none⟩ = some (.int .i64 BB)) := fun W y ps h => ⟨C3.out _ _ _ h, G1.out _ h.bel, G2.out _ h.bel⟩
                    have HOW : Hid (∀ W, Below w5.heap.size w5 W → OutX W0 X bx W _ Q1) := fun W hW => HO.out.keep hW
                    have cA := fun W => l01Var_any AA W (by omega)
                    have zcA := str_size AA (by omega)
                    have cB := fun W => l01Var_any BB W (by omega)
                    have zcB := str_size BB (by omega)
                    clear HO
                    go_region_held_law (fun W => W.cell? ⟨X, 3, none⟩ = some (.slice (some ⟨b1, o1, none⟩) nk d2) ∧ W.cell? ⟨b1, o1 + j * 3 + 1, none⟩ = some (.int .i64 AA) ∧ W.cell? ⟨b1, o1 + j * 3 + 2, none⟩ = some (.int .i64 BB)) (first | exact HKZ.out _ _ _ (HOW.out _ (Below.refl _ _).drew) | exact HKZ.out _ _ _ (HOW.out _ HMwa.out) | exact HKZ.out _ _ _ (HOW.out _ HMwb.out) | exact HKZ.out _ _ _ (HOW.out _ (chain HMwb.out (Joins.below_bytesWorld _ _ _ _ (Nat.le_refl _)))) | exact HKZ.out _ _ _ HZ7.out | go_keep) (first
                      | (go_at_call 34; (with_reducible refine (cA _).mono ?_); rintro e wa ⟨rfl, ha⟩; have HMwa : Hid (Below w5.heap.size w5 wa) := chain (Below.refl _ _).drew ha)
                      | (go_at_call 34; (with_reducible refine (cB _).mono ?_); rintro e wb ⟨rfl, hbb⟩; have HMwb : Hid (Below w5.heap.size w5 wb) := chain HMwa.out hbb)
                      | (refine step_append_text rfl _ _ 78 rfl W0.heap.size 5 i0 Try.underlying78 hi hz0 hz1 hz2 _ Q1 rfl (HOW.out _ HMwb.out).own (strOfNums (varB AA) ++ strOfNums (varB BB)) _ (by first | (simp only [ByteArray.size_append]; done) | (simp only [ByteArray.size_append]; omega)) rfl (some 158) rfl (by simp only [ByteArray.size_append]; omega) (HOW.out _ HMwb.out).bel (HOW.out _ HMwb.out).bel.size ?_; intro v7 w7 ow7 hb7 bs7; have HZ7 : Hid (OutX W0 X bx w7 v7 _) := (HOW.out _ HMwb.out).more ow7 hb7 bs7))
                    all_goals
                      have HF5 : Hid (OutX W0 X bx w7 v7 (P3 ++ (q.code.take (j + 1)).flatMap insT)) := by
                        have hz := HZ7.out
                        rw [nums_two, HE.out] at hz
                        exact hz
                      go_wp2
                      go_roundw
                      case rel => exact ⟨j + 1, by omega, by go_num, HF5.out⟩
                      case measure => simp [intOf]; omega
                  · have ej : j = nk := by omega
                    subst ej
                    have hdj : decide ((j : Int) < (j : Int)) = false := decide_eq_false (by omega)
                    rw [List.take_of_length_le (by have := EK.out; omega)] at hox
                    have hlP4 : (P3 ++ q.code.flatMap insT).length ≤ 104000 := by
                      rw [List.length_append]
                      have := flat_le insT 11 q.code (fun x hx => insT_len (HQ.out.codeOk x hx))
                      have := EK.out
                      omega
                    obtain ⟨P4, hP4⟩ : ∃ ps, P3 ++ q.code.flatMap insT = ps := ⟨_, rfl⟩
                    rw [hP4] at hox hlP4
                    have HP4 : Hid (P3 ++ q.code.flatMap insT = P4) := hP4
                    clear hP4
                    have cL := fun W => l01Var_any nh W (by omega)
                    have zL := str_size nh (by omega)
                    have t3 := C3.out _ _ _ hox
                    have t4 := C4.out _ _ _ hox
                    go_wp2_with fail
                    refine (cL _).mono ?_
                    rintro e w3 ⟨rfl, hb3⟩
                    have hox3 := hox.keep hb3
                    clear t3 t4 hox cL
                    go_wp2_with (at_builtin; refine append_text rfl _ _ 78 rfl W0.heap.size 5 i0 Try.underlying78 hi hz0 hz1 hz2 _ P4 rfl hox3.own (strOfNums (varB nh)) _ rfl rfl (by omega) hox3.bel hox3.bel.size ?_)
                    intro v4 w4 ow4 hb4 bs4
                    have hox4 := hox3.more ow4 hb4 bs4
                    rw [nums_var] at hox4
                    have hlP5 : (P4 ++ varB nh).length ≤ 104505 := by
                      rw [List.length_append]
                      have := varN_few (x := nh) (by omega)
                      omega
                    obtain ⟨P5, hP5⟩ : ∃ ps, P4 ++ varB nh = ps := ⟨_, rfl⟩
                    rw [hP5] at hox4 hlP5
                    have HP5 : Hid (P4 ++ varB nh = P5) := hP5
                    clear hP5 hox3 ow4 hb4 bs4 hb3
                    go_wp2
                    go_loopw [4, 11] (fun y i wr => ∃ j : Nat, j ≤ nh ∧ i = .int .i64 j ∧ OutX W0 X bx wr y (P5 ++ (q.hnds.take j).flatMap hndT)) (fun _ i _ => nh - (intOf i).toNat)
                    case atStart => exact ⟨0, Nat.zero_le _, rfl, by rw [show P5 ++ (q.hnds.take 0).flatMap hndT = P5 by simp]; exact hox4⟩
                    case round =>
                      clear hox4
                      obtain ⟨j, hj, rfl, hox⟩ := hrel
                      have t4 := C4.out _ _ _ hox
                      by_cases hjn : j < nh
                      · obtain ⟨b1, o1, rfl, hbz1, hcell1⟩ := Y3.out (by omega)
                        obtain ⟨r, hr⟩ : ∃ r, q.hnds[j]? = some r := ⟨_, List.getElem?_eq_getElem (by have := EH.out; omega)⟩
                        have hro := HQ.out.hndsOk r (List.mem_iff_getElem?.2 ⟨_, hr⟩)
                        have hle := hndOk_le hro
                        have HM : Hid (P5 ++ (q.hnds.take (j + 1)).flatMap hndT = P5 ++ (q.hnds.take j).flatMap hndT ++ hndT r) := by
                          show _ = _
                          rw [flat_more hndT _ _ _ hr, List.append_assoc]
                        have hlq : (P5 ++ (q.hnds.take j).flatMap hndT).length ≤ 106000 := by
                          rw [List.length_append]
                          have := flat_take_le hndT 15 j q.hnds (fun x hx => hndT_len (HQ.out.hndsOk x hx))
                          have := EH.out
                          omega
                        obtain ⟨Q0, hQ0⟩ : ∃ Q0, P5 ++ (q.hnds.take j).flatMap hndT = Q0 := ⟨_, rfl⟩
                        rw [hQ0] at hox hlq HM
                        have hji : (j : Int) < (nh : Int) := by omega
                        have hj0 : (0 : Int) ≤ (j : Int) := by omega
                        obtain ⟨LL, hLL⟩ : ∃ n : Nat, r.lo = n := ⟨r.lo.toNat, by omega⟩
                        obtain ⟨UU, hUU⟩ : ∃ n : Nat, r.hi = n := ⟨r.hi.toNat, by omega⟩
                        obtain ⟨TT, hTT⟩ : ∃ n : Nat, r.target = n := ⟨r.target.toNat, by omega⟩
                        have lL : LL ≤ 300 := by omega
                        have lU : UU ≤ 300 := by omega
                        have lT : TT ≤ 300 := by omega
                        have g0 : wr.cell? ⟨b1, o1 + j * 3, none⟩ = some (.int .i64 LL) := by rw [← hLL]; exact (hox.bel.cell (p := ⟨b1, o1 + j * 3, none⟩) (Nat.lt_of_lt_of_le hbz1 b0.size)).trans ((b0.cell (p := ⟨b1, o1 + j * 3, none⟩) hbz1).trans (hcell1 j r hr 0 _ rfl))
                        have g1 : wr.cell? ⟨b1, o1 + j * 3 + 1, none⟩ = some (.int .i64 UU) := by rw [← hUU]; exact (hox.bel.cell (p := ⟨b1, o1 + j * 3 + 1, none⟩) (Nat.lt_of_lt_of_le hbz1 b0.size)).trans ((b0.cell (p := ⟨b1, o1 + j * 3 + 1, none⟩) hbz1).trans (hcell1 j r hr 1 _ rfl))
                        have g2 : wr.cell? ⟨b1, o1 + j * 3 + 2, none⟩ = some (.int .i64 TT) := by rw [← hTT]; exact (hox.bel.cell (p := ⟨b1, o1 + j * 3 + 2, none⟩) (Nat.lt_of_lt_of_le hbz1 b0.size)).trans ((b0.cell (p := ⟨b1, o1 + j * 3 + 2, none⟩) hbz1).trans (hcell1 j r hr 2 _ rfl))
                        have HE : Hid (Q0 ++ (varB LL ++ varB UU ++ varB TT) = P5 ++ (q.hnds.take (j + 1)).flatMap hndT) := by
                          show _ = _
                          rw [HM.out]
                          unfold hndT
                          rw [hLL, hUU, hTT]
                          rfl
                        have bY : Below wr.heap.size wr (wr.alloc (.cells #[.int .i64 LL, .int .i64 UU, .int .i64 TT] 77)) := (Below.refl _ _).alloc (Nat.le_refl _) _
                        have hoy : OutX W0 wr.heap.size (.cells #[.int .i64 LL, .int .i64 UU, .int .i64 TT] 77) (wr.alloc (.cells #[.int .i64 LL, .int .i64 UU, .int .i64 TT] 77)) _ Q0 := ⟨hox.own.keep bY, (hox.keep bY).bel, heap_alloc_new wr (.cells #[.int .i64 LL, .int .i64 UU, .int .i64 TT] 77), hox.own.apart (Nat.le_refl wr.heap.size), by simp⟩
                        have hoz := hox.keep bY
                        obtain ⟨WY, hWY⟩ : ∃ W, wr.alloc (.cells #[.int .i64 LL, .int .i64 UU, .int .i64 TT] 77) = W := ⟨_, rfl⟩
                        rw [hWY] at hoy hoz
                        have HWY : Hid (_ = WY) := hWY
                        obtain ⟨Y, hY⟩ : ∃ Y, wr.heap.size = Y := ⟨_, rfl⟩
                        have HY : Hid (wr.heap.size = Y) := hY
                        rw [hY] at hoy
                        have D0 : Hid (∀ W y ps, OutX W0 Y (.cells #[.int .i64 LL, .int .i64 UU, .int .i64 TT] 77) W y ps → W.cell? ⟨Y, 0, none⟩ = some (.int .i64 LL)) := fun W y ps h => box_cell h.box 0 _ rfl
                        have D1 : Hid (∀ W y ps, OutX W0 Y (.cells #[.int .i64 LL, .int .i64 UU, .int .i64 TT] 77) W y ps → W.cell? ⟨Y, 1, none⟩ = some (.int .i64 UU)) := fun W y ps h => box_cell h.box 1 _ rfl
                        have D2 : Hid (∀ W y ps, OutX W0 Y (.cells #[.int .i64 LL, .int .i64 UU, .int .i64 TT] 77) W y ps → W.cell? ⟨Y, 2, none⟩ = some (.int .i64 TT)) := fun W y ps h => box_cell h.box 2 _ rfl
                        clear hcell1 hr hro hle hQ0 hLL hUU hTT hox hWY hY bY
                        go_upto_region 34 with fail
                        rw [HWY.out, HY.out]
                        clear HWY HY g0 g1 g2 t4
                        obtain ⟨by1, hby⟩ : ∃ bx : Obj, (.cells #[.int .i64 LL, .int .i64 UU, .int .i64 TT] 77) = bx := ⟨_, rfl⟩
                        rw [hby] at hoy D0 D1 D2
                        have HO : Hid (OutX W0 Y by1 WY _ Q0) := hoy
                        have HX0 : Hid (OutX W0 X bx WY _ Q0) := hoz
                        clear hby hoy hoz
                        have HKZ : Hid (∀ W y ps, OutX W0 Y by1 W y ps → W.cell? ⟨Y, 0, none⟩ = some (.int .i64 LL) ∧ W.cell? ⟨Y, 1, none⟩ = some (.int .i64 UU) ∧ W.cell? ⟨Y, 2, none⟩ = some (.int .i64 TT)) := fun W y ps h => ⟨D0.out _ _ _ h, D1.out _ _ _ h, D2.out _ _ _ h⟩
                        have HOW : Hid (∀ W, Below WY.heap.size WY W → OutX W0 Y by1 W _ Q0) := fun W hW => HO.out.keep hW
                        have cP := fun W => l01Var_any LL W (by omega)
                        have zcP := str_size LL (by omega)
                        have cR := fun W => l01Var_any UU W (by omega)
                        have zcR := str_size UU (by omega)
                        have cN := fun W => l01Var_any TT W (by omega)
                        have zcN := str_size TT (by omega)
                        have HOX : Hid (∀ W, Below WY.heap.size WY W → OutX W0 X bx W _ Q0) := fun W hW => HX0.out.keep hW
                        clear HO
                        go_region_held_law (fun W => W.cell? ⟨Y, 0, none⟩ = some (.int .i64 LL) ∧ W.cell? ⟨Y, 1, none⟩ = some (.int .i64 UU) ∧ W.cell? ⟨Y, 2, none⟩ = some (.int .i64 TT)) (first | exact HKZ.out _ _ _ (HOW.out _ (Below.refl _ _).drew) | exact HKZ.out _ _ _ (HOW.out _ HMwa.out) | exact HKZ.out _ _ _ (HOW.out _ HMwb.out) | exact HKZ.out _ _ _ (HOW.out _ HMwc1.out) | exact HKZ.out _ _ _ (HOW.out _ (chain HMwc1.out (Joins.below_bytesWorld _ _ _ _ (Nat.le_refl _)))) | exact HKZ.out _ _ _ HZ8.out | go_keep) (first
                          | (go_at_call 34; (with_reducible refine (cP _).mono ?_); rintro e wa ⟨rfl, ha⟩; have HMwa : Hid (Below WY.heap.size WY wa) := chain (Below.refl _ _).drew ha)
                          | (go_at_call 34; (with_reducible refine (cR _).mono ?_); rintro e wb ⟨rfl, hbb⟩; have HMwb : Hid (Below WY.heap.size WY wb) := chain HMwa.out hbb)
                          | (go_at_call 34; (with_reducible refine (cN _).mono ?_); rintro e wc1 ⟨rfl, hbc⟩; have HMwc1 : Hid (Below WY.heap.size WY wc1) := chain HMwb.out hbc)
                          | (refine step_append_text rfl _ _ 78 rfl W0.heap.size 5 i0 Try.underlying78 hi hz0 hz1 hz2 _ Q0 rfl (HOW.out _ HMwc1.out).own (strOfNums (varB LL) ++ strOfNums (varB UU) ++ strOfNums (varB TT)) _ (by first | (simp only [ByteArray.size_append]; done) | (simp only [ByteArray.size_append]; omega)) rfl (some 191) rfl (by simp only [ByteArray.size_append]; omega) (HOW.out _ HMwc1.out).bel (HOW.out _ HMwc1.out).bel.size ?_; intro v8 w8 ow8 hb8 bs8; have HZ8 : Hid (OutX W0 Y by1 w8 v8 _) := (HOW.out _ HMwc1.out).more ow8 hb8 bs8; have HZX : Hid (OutX W0 X bx w8 v8 _) := (HOX.out _ HMwc1.out).more ow8 hb8 bs8))
                        all_goals
                          have HF5 : Hid (OutX W0 X bx w8 v8 (P5 ++ (q.hnds.take (j + 1)).flatMap hndT)) := by
                            have hz := HZX.out
                            rw [nums_three, HE.out] at hz
                            exact hz
                          go_wp2
                          go_roundw
                          case rel => exact ⟨j + 1, by omega, by go_num, HF5.out⟩
                          case measure => simp [intOf]; omega
                      · have ej : j = nh := by omega
                        subst ej
                        have hdj : decide ((j : Int) < (j : Int)) = false := decide_eq_false (by omega)
                        rw [List.take_of_length_le (by have := EH.out; omega)] at hox
                        have eqL : P5 ++ q.hnds.flatMap hndT = ps ++ (p.funcs.take (k' + 1)).flatMap funT := by
                          rw [HP0.out]
                          unfold funT
                          rw [EK.out, EH.out]
                          simp only [← List.append_assoc]
                          rw [HP1.out, HP2.out, HP3.out, HP4.out, HP5.out]
                        have hown := hox.own
                        rw [eqL] at hown
                        have HF6 : Hid (OwnB _ _ _ _ _) := hown
                        clear hown eqL
                        have hbel := hox.bel
                        clear hox
                        go_wp2
                        go_roundw
                        case rel => exact ⟨k' + 1, by omega, by go_num, HF6.out, hbel⟩
                        case measure => simp [intOf]; omega
        · have ek' : k' = n1 := by omega
          subst ek'
          have hd1 : decide ((k' : Int) < (k' : Int)) = false := decide_eq_false (by omega)
          have hall : ps ++ (p.funcs.take k').flatMap funT = imgT p := by
            rw [List.take_of_length_le (by have := E1.out; omega), ← HPS.out, ← HXS.out]
            unfold imgT
            rw [E1.out]
          have hlen3 : (imgT p).length ≤ 100000 := by
            rw [← hall, List.length_append]
            have := flat_take_le funT 5000 k' p.funcs (fun x hx => funT_len (HL.out.funsOk x hx))
            have := E1.out
            omega
          rw [hall] at ow
          have hc := ow.conv (P := Try.prog) Try.underlying78 Try.underlying5 Try.underlying9
          obtain ⟨g, cap, rfl, _, _, _⟩ := ow.slice
          by_cases hlt : (imgT p).length + 4 ≤ 12000
          · have hR : Value.tuple #[.string (sealedS (strOfNums (imgT p))), .bool true] = R := by
              rw [← HR.out]
              unfold imgTB
              rw [HF.out, decide_eq_true hlt]
              rfl
            subst hR
            have cS := fun W => specSealed_in (strOfNums (imgT p)) W (by rw [strOfNums_size]; omega)
            have hn4 : ¬ (12000 : Int) < ((imgT p).length : Int) + 4 := by omega
            have hx : ((imgT p).length : Int) + 4 ≤ 12000 := by omega
            clear hall ow H1
            go_wp2_with (go_at_call 38; refine (cS _).mono ?_; rintro e w' ⟨rfl, hb1⟩)
            go_ret2
            exact ⟨rfl, chain (chain b0 hb) hb1⟩
          · have hR : Value.tuple #[.string ⟨#[]⟩, .bool false] = R := by
              rw [← HR.out]
              unfold imgTB
              rw [HF.out, decide_eq_false hlt]
              rfl
            subst hR
            have hn4 : (12000 : Int) < ((imgT p).length : Int) + 4 := by omega
            clear hall ow H1
            go_wp2
            go_ret2
            exact ⟨rfl, chain b0 hb⟩
end Go.Proofs.Ytedhfdgcofboeaa
