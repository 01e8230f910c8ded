/-
  The draw of figures, and of two great numbers.
-/
import Derived.Test.YtfocaoliadbhcaaDoorDraw1
import Derived.Test.YtfocaoliadbhcaaDoorLimbTxt
namespace Go.Proofs.YtfocaoliadbhcaaDoor
open Go.RowKit
set_option linter.unusedVariables false

/-- figures as numbers of bytes -/
def FigL (xs : List Nat) : Prop := ∀ x ∈ xs, 48 ≤ x ∧ x ≤ 57
theorem figL_nil : FigL [] := fun _ h => by cases h
theorem figL_snoc {xs : List Nat} {x : Nat} (h : FigL xs) (hx : 48 ≤ x ∧ x ≤ 57) : FigL (xs ++ [x]) := by
  intro y hy
  rw [List.mem_append, List.mem_singleton] at hy
  rcases hy with hy | hy
  · exact h y hy
  · subst hy; exact hx
theorem figL_set {xs : List Nat} {i x : Nat} (h : FigL xs) (hx : 48 ≤ x ∧ x ≤ 57) : FigL (xs.set i x) := by
  intro y hy
  rcases List.mem_or_eq_of_mem_set hy with h' | h'
  · exact h y h'
  · subst h'; exact hx
theorem figL_text {xs : List Nat} (h : FigL xs) : Figs (strOfNums (xs.map fun (x : Nat) => (x : Int))).data.toList := by
  intro c hc
  rw [strOfNums_data, List.map_map, List.mem_map] at hc
  obtain ⟨x, hx, rfl⟩ := hc
  have := h x hx
  show 48 ≤ (UInt8.ofNat (x : Int).toNat).toNat ∧ (UInt8.ofNat (x : Int).toNat).toNat ≤ 57
  rw [Int.toNat_natCast, UInt8.toNat_ofNat']
  omega
theorem trimL_figs {l : List UInt8} (h : Figs l) : Figs (trimL l) ∧ 1 ≤ (trimL l).length ∧ (trimL l).length ≤ max l.length 1 := by
  rw [← dec_trim l h]
  obtain ⟨a, b, c⟩ := digV_dec (digV l)
  refine ⟨b, ?_, ?_⟩
  · rcases Nat.eq_zero_or_pos (Lib.decDigits (digV l)).length with h' | h'
    · exact absurd (List.eq_nil_of_length_eq_zero h') c
    · exact h'
  · rw [dec_trim l h]
    clear h a b c
    induction l with
    | nil => simp [trimL]
    | cons p q ih =>
      cases q with
      | nil => simp [trimL]
      | cons p' q' =>
        simp only [trimL]
        split
        · simp only [List.length_cons] at ih ⊢
          omega
        · simp

set_option maxHeartbeats 4000000 in
set_option maxRecDepth 100000 in
theorem l06Figures_any (ac : Option Addr) (len cap g : Nat) (w : World) (hC : Cur ac len cap w g) :
    Calls Tryd.prog 54 #[.pointer (some ⟨g, 0, none⟩)] w fun e w' => ∃ s : ByteArray, (1 ≤ s.size ∧ s.size ≤ 800 ∧ Figs s.data.toList) ∧ e = .returned (.string s) ∧ Cur ac len cap w' g ∧ w.grownBy w' (some g) := by
  obtain ⟨i0, hi, hz0, hz1, hz2⟩ := info_parts Tryd.infoByte
  have hg := hC.2.1
  go_enter Tryd.func54, Tryd.ntmps54
  go_wp2_with fail
  refine (l01Below_nat ac len cap g 30 _ hC (by omega) (by omega)).mono ?_
  rintro e w1 ⟨x, hx, rfl, hC1, gr1⟩
  go_wp2_with fail
  refine (l01Once_any ac len cap g 12 _ hC1 (by omega) (by omega)).mono ?_
  rintro e w2 ⟨b, rfl, hC2, gr2⟩
  have gr12 := gr1.trans gr2
  clear gr1 gr2 hC1
  go_upto_if 11 with fail
  go_cut [3] (fun y wx => ∃ n : Nat, y = .int .i64 n ∧ 1 ≤ n ∧ n ≤ 800 ∧ Cur ac len cap wx g ∧ w.grownBy wx (some g))
  case first =>
    cases b
    · go_wp2
      go_meet
      case rel => exact ⟨1 + x, by go_num, by omega, by omega, hC2, gr12⟩
    · go_wp2_with fail
      refine (l01PickInt_new ac len cap g 8 [1, 9, 10, 18, 19, 800, 401, 400] 3 w2 hC2 rfl (by omega) (by omega)).mono ?_
      rintro e w3 ⟨z, hz, rfl, hC3, gr3⟩
      have hz' : 1 ≤ z ∧ z ≤ 800 := by
        simp only [List.mem_cons, List.not_mem_nil, or_false] at hz
        omega
      obtain ⟨n, rfl⟩ : ∃ n : Nat, z = n := ⟨z.toNat, by omega⟩
      go_wp2
      go_meet
      case rel => exact ⟨n, rfl, by omega, by omega, hC3, gr12.trans gr3⟩
  case rest =>
    obtain ⟨n, rfl, hn1, hn2, hCc, grc⟩ := hcut
    clear hC2 gr12 hx hC
    have hgc := hCc.2.1
    have hsc := grc.size
    go_upto_region 6 with fail
    go_loopw [4, 5] (fun v y wr => ∃ (k : Nat) (xs : List Nat), k ≤ n ∧ y = .int .i64 k ∧ wr.ownsRow wc.heap.size 5 1 v k ((xs.map fun (x : Nat) => (x : Int)).map (Value.int .u8)) ∧ Cur ac len cap wr g ∧ wc.grownBy wr (some g) ∧ Hid (FigL xs ∧ xs.length = k)) (fun _ y _ => n - (intOf y).toNat)
    case atStart => exact ⟨0, [], Nat.zero_le _, rfl, World.ownsRow_made wc #[] 0 (Nat.le_refl _) (Nat.zero_le _) rfl, cur_alloc hCc _, World.grownBy_alloc _ _ _, figL_nil, rfl⟩
    case round =>
      obtain ⟨k, xs, hk, rfl, hown, hCr, gr, HX⟩ := hrel
      have hsz := gr.size
      by_cases hlt : k < n
      · go_wp2_with fail
        refine (l01Below_nat ac len cap g 10 wr hCr (by omega) (by omega)).mono ?_
        rintro e w3 ⟨y, hy, rfl, hC3, gr3⟩
        have hown1 : w3.ownsRow wc.heap.size 5 1 _ k ((xs.map fun (x : Nat) => (x : Int)).map (Value.int .u8)) := hown.kept gr3 (by
          cases hv : Value.ownBlock _ with
          | none => exact .inl rfl
          | some q => exact .inr (by have := (hown.lt q hv).1; simp; omega))
        have hsz1 := gr3.size
        have hy' : (y : Int) < 10 := by omega
        go_wp2_with (at_builtin; refine append_one (w0 := w3) rfl _ _ 31 rfl wc.heap.size 5 i0 (.int .u8 0) 1 Tryd.underlying31 hi hz0 hz1 hz2 rfl _ _ _ rfl hown1 (.int .u8 (48 + (y : Int))) rfl rfl (by omega) (by decide) (Below.refl _ _) (by omega) ?_)
        intro v' w4 hown' hbel'
        have hC4 := cur_below hCc hC3 hbel'
        have gr4 := gr_below (gr.trans gr3) hbel'
        have hrow : w4.ownsRow wc.heap.size 5 1 v' (k + 1) (((xs ++ [48 + y]).map fun (x : Nat) => (x : Int)).map (Value.int .u8)) := by simpa using hown'
        have HN : Hid (FigL (xs ++ [48 + y]) ∧ (xs ++ [48 + y]).length = k + 1) := ⟨figL_snoc HX.out.1 (by omega), by simp [HX.out.2]⟩
        clear hown' hown hown1 gr gr3 hCr
        go_wp2
        go_roundw
        case rel => exact ⟨k + 1, xs ++ [48 + y], by omega, by go_num, hrow, hC4, gr4, HN⟩
        case measure => simp [intOf]; omega
      · have hkn : k = n := by omega
        subst hkn
        have hshape : ∃ q cp, u4 = .slice (some ⟨q, 0, none⟩) k cp ∧ wc.heap.size ≤ q := by
          rcases hown.2 with ⟨_, h⟩ | ⟨q, cp, cur, h, hb, _⟩
          · omega
          · exact ⟨q, cp, h, hb⟩
        obtain ⟨q, cp, rfl, hq⟩ := hshape
        clear hsz hlt hk
        go_wp2_with fail
        refine (l01Once_any ac len cap g 8 wr hCr (by omega) (by omega)).mono ?_
        rintro e w3 ⟨b2, rfl, hC3, gr3⟩
        have hown3 : w3.ownsRow wc.heap.size 5 1 (.slice (some ⟨q, 0, none⟩) k cp) k ((xs.map fun (x : Nat) => (x : Int)).map (Value.int .u8)) := hown.kept gr3 (.inr (by simp [Value.ownBlock]; omega))
        have gr33 := gr.trans gr3
        clear hown gr gr3 hCr
        go_upto_if 29 with fail
        go_cut [] (fun wx => ∃ ys : List Nat, wx.ownsRow wc.heap.size 5 1 (.slice (some ⟨q, 0, none⟩) k cp) k ((ys.map fun (x : Nat) => (x : Int)).map (Value.int .u8)) ∧ Cur ac len cap wx g ∧ wc.grownBy wx (some g) ∧ Hid (FigL ys ∧ ys.length = k))
        case first =>
          cases b2
          · go_wp2
            go_meet
            case rel => exact ⟨xs, hown3, hC3, gr33, HX⟩
          · go_upto_region 11 with fail
            go_loopw [6] (fun y wr => ∃ (j : Nat) (ys : List Nat), y = .int .i64 j ∧ j ≤ k ∧ wr.ownsRow wc.heap.size 5 1 (.slice (some ⟨q, 0, none⟩) k cp) k ((ys.map fun (x : Nat) => (x : Int)).map (Value.int .u8)) ∧ Cur ac len cap wr g ∧ wc.grownBy wr (some g) ∧ Hid (FigL ys ∧ ys.length = k)) (fun y _ => k - (intOf y).toNat)
            case atStart => exact ⟨1, xs, rfl, hn1, hown3, hC3, gr33, HX⟩
            case round =>
              clear hown3 hC3 gr33 HX
              clear xs
              obtain ⟨j, ys, rfl, hj, hown, hCr, gr, HX⟩ := hrel
              have hsz := gr.size
              by_cases hlt : j < k
              · go_wp2_with fail
                refine (l01PickInt_new ac len cap g 2 [48, 57] 3 wr hCr rfl (by omega) (by omega)).mono ?_
                rintro e w4 ⟨z, hz, rfl, hC4, gr4⟩
                have hz' : 48 ≤ z ∧ z ≤ 57 := by
                  simp only [List.mem_cons, List.not_mem_nil, or_false] at hz
                  omega
                obtain ⟨f, rfl⟩ : ∃ f : Nat, z = f := ⟨z.toNat, by omega⟩
                have hown4 : w4.ownsRow wc.heap.size 5 1 (.slice (some ⟨q, 0, none⟩) k cp) k ((ys.map fun (x : Nat) => (x : Int)).map (Value.int .u8)) := hown.kept gr4 (.inr (by simp [Value.ownBlock]; omega))
                have hlen := HX.out.2
                have hcell : ∃ o, w4.cell? ⟨q, j, none⟩ = some (.int .u8 o) := by
                  refine ⟨(ys.getD j 0 : Nat), ?_⟩
                  rw [World.ownsRow.cellAt hown4 j (by omega), List.getElem?_map, List.getElem?_map, List.getElem?_eq_getElem (by omega), List.getD_eq_getElem?_getD, List.getElem?_eq_getElem (by omega)]
                  rfl
                obtain ⟨o, hcell⟩ := hcell
                have hfz := World.ownsRow.frozenAt hown4 j
                have st := World.ownsRow.stored hown4 j (.int .u8 (f : Int))
                have HST : Hid _ := st
                have hf2 : (f : Int) ≤ 57 := by omega
                have hji : (j : Int) < k := by omega
                have hbl : Below wc.heap.size w4 (w4.setCell ⟨q, j, none⟩ (.int .u8 (f : Int))) := (Below.refl _ _).setCell (p := ⟨q, j, none⟩) hq _
                have hC5 := cur_below hCc hC4 hbl
                have gr5 := gr_below (gr.trans gr4) hbl
                have HN : Hid (FigL (ys.set j f) ∧ (ys.set j f).length = k) := ⟨figL_set HX.out.1 (by omega), by rw [List.length_set]; exact hlen⟩
                clear st hown hown4 hCr gr gr4 hz hz' hlen HX
                go_wp2
                go_roundw
                case rel =>
                  refine ⟨j + 1, ys.set j f, by go_num, by omega, ?_, hC5, gr5, HN⟩
                  rw [List.map_set, List.map_set]
                  exact HST.out.1
                case measure => simp [intOf]; omega
              · have hjk : j = k := by omega
                subst hjk
                go_wp2
                go_meet
                case rel => exact ⟨ys, hown, hCr, gr, HX⟩
        case rest =>
          obtain ⟨ys, hown, hCy, gry, HY⟩ := hcut
          clear hown3 hC3 gr33 HX
          clear xs
          go_wp2_with fail
          refine (l01Once_any ac len cap g 30 _ hCy (by omega) (by omega)).mono ?_
          rintro e w5 ⟨b3, rfl, hC5, gr5⟩
          have hown5 := hown.kept gr5 (.inr (by simp [Value.ownBlock]; omega))
          have hcv := conv_own (P := Tryd.prog) _ Tryd.underlying31 Tryd.underlying5 Tryd.underlying9 hown5
          obtain ⟨t, ht⟩ : ∃ t, strOfNums (ys.map fun (x : Nat) => (x : Int)) = t := ⟨_, rfl⟩
          have hts : t.size = k := by rw [← ht, strOfNums_size, List.length_map]; exact HY.out.2
          have htf : Figs t.data.toList := by rw [← ht]; exact figL_text HY.out.1
          rw [ht] at hcv
          have grr := (grc.trans gry).trans gr5
          have HTF : Hid (Figs t.data.toList) := htf
          clear hown hown5 gry gr5 hCy ht HY htf
          cases b3
          · have cT := fun W => l06Trim_any t W (by omega)
            have ft := trimL_figs HTF.out
            rw [size_list] at ft
            obtain ⟨u, hu⟩ : ∃ u, txt (trimL t.data.toList) = u := ⟨_, rfl⟩
            have HU : Hid (1 ≤ u.size ∧ u.size ≤ 800 ∧ Figs u.data.toList) := by
              rw [← hu, txt_size, txt_data]
              exact ⟨ft.2.1, by omega, ft.1⟩
            rw [hu] at cT
            clear ft hu
            go_wp2_with (go_at_call 53; refine (cT _).mono ?_; rintro e w' ⟨rfl, rfl⟩)
            go_ret
            exact ⟨u, HU.out, rfl, hC5, grr⟩
          · go_wp2
            go_ret
            exact ⟨t, ⟨by omega, by omega, HTF.out⟩, rfl, hC5, grr⟩

theorem dec_of_len {n k : Nat} (h : (Lib.decDigits n).length ≤ k) : n < 10 ^ k := by
  obtain ⟨a, b, _⟩ := digV_dec n
  have h1 := digV_lt b
  rw [a] at h1
  exact Nat.lt_of_lt_of_le h1 (Nat.pow_le_pow_right (by decide) h)

/-- figures cut to their last sixty -/
theorem cut_sixty {N : Nat} {A : ByteArray} (hA : A = txt (Lib.decDigits N)) (h : 60 < A.size) : ∃ M, M < 10 ^ 60 ∧ txt (trimL (A.extract (A.size - 60) A.size).data.toList) = txt (Lib.decDigits M) := by
  have hf : Figs A.data.toList := by rw [hA, txt_data]; exact (digV_dec N).2.1
  have e : (A.extract (A.size - 60) A.size).data.toList = A.data.toList.drop (A.size - 60) := by rw [extract_tail, txt_data]
  have hd : Figs (A.data.toList.drop (A.size - 60)) := fun c hc => hf c (List.mem_of_mem_drop hc)
  refine ⟨digV (A.data.toList.drop (A.size - 60)), ?_, by rw [e, dec_trim _ hd]⟩
  have h1 := digV_lt hd
  rw [List.length_drop, size_list, (by omega : A.size - (A.size - 60) = 60)] at h1
  exact h1

set_option maxHeartbeats 1000000 in
set_option maxRecDepth 100000 in
theorem drawGreats_any (ac : Option Addr) (len cap : Nat) (w : World) (hc : CodeIn w ac len w.heap.size) :
    Calls Tryd.prog 25 #[.slice ac len cap] w fun e w' => ∃ m n : Nat, (m < 10 ^ 60 ∧ n < 10 ^ 60) ∧ e = .returned (.tuple #[.string (txt (Lib.decDigits m)), .string (txt (Lib.decDigits n))]) ∧ Below w.heap.size w w' := by
  go_enter Tryd.func25, Tryd.ntmps25
  go_wp2_with fail
  refine (l01New_any ac len cap _ hc).mono ?_
  rintro e w1 ⟨g, rfl, hg, hC1, hb1⟩
  go_wp2_with fail
  refine (l06Figures_any ac len cap g _ hC1).mono ?_
  rintro e w2 ⟨s, hs, rfl, hC2, gr2⟩
  go_wp2_with fail
  refine (l06Trim_any s _ (by omega)).mono ?_
  rintro e w' ⟨rfl, rfl⟩
  go_wp2_with fail
  refine (l06Figures_any ac len cap g _ hC2).mono ?_
  rintro e w3 ⟨t, ht, rfl, hC3, gr3⟩
  go_wp2_with fail
  refine (l06Trim_any t _ (by omega)).mono ?_
  rintro e w' ⟨rfl, rfl⟩
  have hbb : Below w.heap.size w w3 := hb1.grown (gr2.trans gr3) hb1.size (fun k hk => by injection hk with hk; omega)
  have hA0 : txt (trimL s.data.toList) = txt (Lib.decDigits (digV s.data.toList)) := by rw [dec_trim _ hs.2.2]
  have hB0 : txt (trimL t.data.toList) = txt (Lib.decDigits (digV t.data.toList)) := by rw [dec_trim _ ht.2.2]
  have sA := (trimL_figs hs.2.2).2.2
  have sB := (trimL_figs ht.2.2).2.2
  rw [size_list] at sA sB
  obtain ⟨A, hA⟩ : ∃ A, txt (trimL s.data.toList) = A := ⟨_, rfl⟩
  obtain ⟨B, hB⟩ : ∃ B, txt (trimL t.data.toList) = B := ⟨_, rfl⟩
  have zA : A.size ≤ 800 := by rw [← hA, txt_size]; omega
  have zB : B.size ≤ 800 := by rw [← hB, txt_size]; omega
  simp only [hA, hB]
  rw [hA] at hA0
  rw [hB] at hB0
  generalize digV s.data.toList = N at *
  generalize digV t.data.toList = K at *
  have HA : Hid (A = txt (Lib.decDigits N)) := hA0
  have HB : Hid (B = txt (Lib.decDigits K)) := hB0
  clear hA hB sA sB hs ht gr2 gr3 hb1 hC1 hC2 hC3 hA0 hB0
  have cutA : A.size ≤ 60 → N < 10 ^ 60 := fun h => dec_of_len (by rw [HA.out, txt_size] at h; exact h)
  have cutB : B.size ≤ 60 → K < 10 ^ 60 := fun h => dec_of_len (by rw [HB.out, txt_size] at h; exact h)
  have HcA : Hid _ := cutA
  have HcB : Hid _ := cutB
  clear cutA cutB
  by_cases h1 : (60 : Int) < A.size
  · obtain ⟨M1, hM1, eM1⟩ := cut_sixty HA.out (by omega)
    obtain ⟨a, ha⟩ : ∃ a, A.size - 60 = a := ⟨_, rfl⟩
    rw [ha] at eM1
    have ha' : (A.size : Int) - 60 = a := by omega
    have cA := fun W => l06Trim_any (A.extract a A.size) W (by rw [ByteArray.size_extract]; omega)
    rw [eM1] at cA
    have H1 : Hid (M1 < 10 ^ 60) := hM1
    have hale : a ≤ A.size := by omega
    clear hM1 eM1 ha
    by_cases h2 : (60 : Int) < B.size
    · obtain ⟨M2, hM2, eM2⟩ := cut_sixty HB.out (by omega)
      obtain ⟨b, hb⟩ : ∃ b, B.size - 60 = b := ⟨_, rfl⟩
      rw [hb] at eM2
      have hb' : (B.size : Int) - 60 = b := by omega
      have cB := fun W => l06Trim_any (B.extract b B.size) W (by rw [ByteArray.size_extract]; omega)
      rw [eM2] at cB
      have H2 : Hid (M2 < 10 ^ 60) := hM2
      have hble : b ≤ B.size := by omega
      clear hM2 eM2 hb
      go_wp2_with fail
      refine (cA _).mono ?_
      rintro e w' ⟨rfl, rfl⟩
      go_wp2_with fail
      refine (cB _).mono ?_
      rintro e w' ⟨rfl, rfl⟩
      go_wp2
      go_ret2
      exact ⟨M1, M2, ⟨H1.out, H2.out⟩, rfl, hbb⟩
    · have h2' : decide ((60 : Int) < B.size) = false := by simp; omega
      have H2 : Hid (K < 10 ^ 60) := HcB.out (by omega)
      clear h2
      go_wp2_with fail
      refine (cA _).mono ?_
      rintro e w' ⟨rfl, rfl⟩
      go_wp2
      go_ret2
      exact ⟨M1, K, ⟨H1.out, H2.out⟩, by rw [← HB.out]; rfl, hbb⟩
  · have h1' : decide ((60 : Int) < A.size) = false := by simp; omega
    have H1 : Hid (N < 10 ^ 60) := HcA.out (by omega)
    clear h1
    by_cases h2 : (60 : Int) < B.size
    · obtain ⟨M2, hM2, eM2⟩ := cut_sixty HB.out (by omega)
      obtain ⟨b, hb⟩ : ∃ b, B.size - 60 = b := ⟨_, rfl⟩
      rw [hb] at eM2
      have hb' : (B.size : Int) - 60 = b := by omega
      have cB := fun W => l06Trim_any (B.extract b B.size) W (by rw [ByteArray.size_extract]; omega)
      rw [eM2] at cB
      have H2 : Hid (M2 < 10 ^ 60) := hM2
      have hble : b ≤ B.size := by omega
      clear hM2 eM2 hb
      go_wp2_with fail
      refine (cB _).mono ?_
      rintro e w' ⟨rfl, rfl⟩
      go_wp2
      go_ret2
      exact ⟨N, M2, ⟨H1.out, H2.out⟩, by rw [← HA.out]; rfl, hbb⟩
    · have h2' : decide ((60 : Int) < B.size) = false := by simp; omega
      have H2 : Hid (K < 10 ^ 60) := HcB.out (by omega)
      clear h2
      go_wp2
      go_ret2
      exact ⟨N, K, ⟨H1.out, H2.out⟩, by rw [← HA.out, ← HB.out]; rfl, hbb⟩

end Go.Proofs.YtfocaoliadbhcaaDoor
