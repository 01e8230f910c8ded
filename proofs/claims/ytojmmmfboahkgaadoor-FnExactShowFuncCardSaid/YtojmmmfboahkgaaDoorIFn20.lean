/-
  The program's ShowFunc.
-/
import Derived.Test.YtojmmmfboahkgaaDoorIIns20
import Derived.Test.YtojmmmfboahkgaaDoorSFn20
import Derived.Test.YtojmmmfboahkgaaDoorICode20
import Derived.Test.YtojmmmfboahkgaaDoorIBld15
namespace Go.Proofs.YtojmmmfboahkgaaDoor
open Go.RowKit Go.Sort
set_option linter.unusedVariables false

set_option maxHeartbeats 2000000 in
set_option maxRecDepth 100000 in
/-- a byte is written into a builder -/
theorem bld_byte (B b : Nat) (s : ByteArray) (c : UInt8) (w : World) (h : Bld B b s w) (hlen : s.size + 1 ≤ 140737488355328) (hBw : B ≤ w.heap.size) :
    Calls Tryd.prog 24 #[.pointer (some ⟨b, 0, none⟩), .int .u8 (c.toNat : Int)] w fun e w' => e = .returned .nilIface ∧ (Bld B b (s ++ ⟨#[c]⟩) w' ∧ Below B w w') := by
  obtain ⟨i0, hi, hz0, hz1, hz2⟩ := info_parts Tryd.infoByte
  go_enter Tryd.func24, Tryd.ntmps24
  go_wp2_with (go_at_call 38; refine (bld_check B b s _ h).mono ?_)
  rintro e w1 ⟨rfl, h1, hb1⟩
  obtain ⟨hB, v, hbk, hown, hne⟩ := h1
  have c0 : w1.cell? ⟨b, 0, none⟩ = some (.pointer (some ⟨b, 0, none⟩)) := by rw [Lib.cell_of_heap hbk]; rfl
  have c1 : w1.cell? ⟨b, 1, none⟩ = some v := by rw [Lib.cell_of_heap hbk]; rfl
  rw [Lib.strCells_length] at hown
  go_wp2_with (at_builtin; refine wpList_append_own _ rfl _ _ 49 rfl B 5 i0 (.int .u8 0) 1 1 Tryd.underlying49 hi hz0 hz1 hz2 rfl (by decide) _ _ _ rfl (hown.alloc _) ⟨w1.heap.size, 0, none⟩ 1 1 [.int .u8 (c.toNat : Int)] rfl rfl ?c1 ?c2 ?c3 ?c4 ?c5 ?_)
  case c1 =>
    intro j u hj
    match j, hj with
    | 0, hj => simp at hj; subst hj; simp [Addr.add]
  case c2 => intro u hu; simp at hu; subst hu; rfl
  case c3 => unfold maxLen; omega
  case c4 => omega
  case c5 => have := hb1.size; simp; omega
  intro v' w2 hown' hgrow _
  have hlt : b < w1.heap.size := by
    rcases Nat.lt_or_ge b w1.heap.size with h' | h'
    · exact h'
    · simp [Array.getElem?_eq_none h'] at hbk
  have hb2 : w2.heap[b]? = some (.cells #[.pointer (some ⟨b, 0, none⟩), v] 59 (0, 0)) := by
    rw [hgrow.block b (by simp; omega) (fun e => hne e.symm), Lib.alloc_old w1 _ b hlt]
    exact hbk
  have d0 : w2.cell? ⟨b, 0, none⟩ = some (.pointer (some ⟨b, 0, none⟩)) := by rw [Lib.cell_of_heap hb2]; rfl
  have d1 : w2.cell? ⟨b, 1, none⟩ = some v := by rw [Lib.cell_of_heap hb2]; rfl
  have f1 : w2.frozen? ⟨b, 1, none⟩ = false := Lib.frozen_of_heap hb2 1
  obtain ⟨ao, n', cap, rfl⟩ : ∃ ao n' cap, v' = .slice ao n' cap := by
    rcases hown'.2 with ⟨hv, _⟩ | ⟨g, cap, cur, hv, _⟩
    · exact ⟨_, _, _, hv⟩
    · exact ⟨_, _, _, hv⟩
  have e1 : Lib.strCells s ++ [.int .u8 (c.toNat : Int)] = Lib.strCells (s ++ ⟨#[c]⟩) := by rw [← strCells_append]; rfl
  rw [e1] at hown'
  go_wp2
  go_ret
  refine ⟨rfl, ?_, ?_⟩
  · exact .inr (Lib.BuilderAt.put (T := 59) (e := 5) hB hb2 (bs' := Lib.strCells (s ++ ⟨#[c]⟩)) (by rw [Lib.strCells_length, ByteArray.size_append]; exact hown') (by decide))
  · exact ((hb1.alloc (by have := hb1.size; omega) _).grown hgrow (by have := hb1.size; simp; omega) (fun k hk => (hown.lt k hk).1)).setCell (p := ⟨b, 1, none⟩) hB _

theorem strNums_app20 (a b : List Int) : strOfNums (a ++ b) = strOfNums a ++ strOfNums b := by
  unfold strOfNums
  rw [List.map_append]
  apply ByteArray.ext
  simp
theorem str_nums20 (s : ByteArray) : strOfNums (numsOf s) = s := by
  unfold strOfNums numsOf
  apply ByteArray.ext
  rw [List.map_map]
  have e : ((fun (n : Int) => UInt8.ofNat n.toNat) ∘ fun (b : UInt8) => (b.toNat : Int)) = id := by
    funext b
    simp
  rw [e]
  simp

theorem codeL_show {p : PImg} {k : Int} : showF p k = strOfNums (funText20 (codeL p k)) := by
  by_cases h : imgOk p = true ∧ 0 ≤ k ∧ k < (p.funcs.length : Int)
  · unfold showF codeL codeIn20
    rw [if_pos h, if_pos h]
    rfl
  · rw [showF_no h, codeL_no h]
    rfl
theorem codeL_few (p : PImg) (k : Int) : (codeL p k).length ≤ 300 := by
  by_cases h : imgOk p = true ∧ 0 ≤ k ∧ k < (p.funcs.length : Int)
  · obtain ⟨f, hf⟩ : ∃ f, p.funcs[k.toNat]? = some f := ⟨_, List.getElem?_eq_getElem (by omega)⟩
    have e : codeL p k = f.code := by
      unfold codeL
      rw [if_pos h, hf]
    rw [e]
    exact all_code20 h.1 hf
  · rw [codeL_no h]
    exact Nat.zero_le _
theorem codeL_w {p : PImg} {k : Int} (hw : imgW p) : ∀ x ∈ codeL p k, insW x := by
  by_cases h : imgOk p = true ∧ 0 ≤ k ∧ k < (p.funcs.length : Int)
  · obtain ⟨f, hf⟩ : ∃ f, p.funcs[k.toNat]? = some f := ⟨_, List.getElem?_eq_getElem (by omega)⟩
    have e : codeL p k = f.code := by
      unfold codeL
      rw [if_pos h, hf]
    rw [e]
    exact (hw.funcs f (List.mem_of_getElem? hf)).code
  · rw [codeL_no h]
    intro x hx
    cases hx

set_option maxHeartbeats 2000000 in
set_option maxRecDepth 100000 in
theorem iShowFunc_any (p : PImg) (k : Int) (fv cv : Value) (w : World) (h : ArgImg w fv cv p) (hw : imgW p) (ht : Tabs20 w) :
    Calls Tryd.prog 11 #[.agg #[fv, cv], .int .i64 k] w fun e w' => e = .returned (.string (showF p k)) ∧ Below w.heap.size w w' := by
  have HT : Hid (∀ W, Below w.heap.size w W → Tabs20 W) := fun W hW => ht.below hW
  have b0 : Below w.heap.size w (w.alloc (.cells #[fv, cv] 37)) := (Below.refl _ _).alloc (Nat.le_refl _) _
  have hG : (w.alloc (.cells #[fv, cv] 37)).heap[w.heap.size]? = some (.cells #[fv, cv] 37 (0, 0)) := heap_alloc_new w _
  obtain ⟨W0, hW0⟩ : ∃ W, w.alloc (.cells #[fv, cv] 37) = W := ⟨_, rfl⟩
  have lt0 : w.heap.size < W0.heap.size := by rw [← hW0]; simp
  rw [hW0] at b0 hG
  have HW0 : Hid (_ = W0) := hW0
  clear hW0
  have f0 : Hid (Bld W0.heap.size W0.heap.size ⟨#[]⟩ (W0.alloc (.cells #[.pointer none, .slice none 0 0] 59))) := bld_new W0
  have b1 : Below W0.heap.size W0 (W0.alloc (.cells #[.pointer none, .slice none 0 0] 59)) := (Below.refl _ _).alloc (Nat.le_refl _) _
  obtain ⟨W1, hW1⟩ : ∃ W, W0.alloc (.cells #[.pointer none, .slice none 0 0] 59) = W := ⟨_, rfl⟩
  rw [hW1] at f0 b1
  have HW1 : Hid (_ = W1) := hW1
  clear hW1
  obtain ⟨i0, i1⟩ := two_cells20 ((b1.block _ lt0).trans hG)
  have cC := iCodeOf_any p k fv cv w W1 h (chain b0 b1) hw
  obtain ⟨L, hL⟩ : ∃ L, codeL p k = L := ⟨_, rfl⟩
  have hfew : L.length ≤ 300 := by rw [← hL]; exact codeL_few p k
  have HLW : Hid (∀ x ∈ L, insW x) := by rw [← hL]; exact codeL_w hw
  obtain ⟨F, hF⟩ : ∃ F, showF p k = F := ⟨_, rfl⟩
  have HF : Hid (strOfNums (funText20 L) = F) := by rw [← hL, ← hF]; exact codeL_show.symm
  rw [hF]
  rw [hL] at cC
  clear hF hL h hw ht hG
  obtain ⟨G, hGe⟩ : ∃ G, w.heap.size = G := ⟨_, rfl⟩
  have HG : Hid (w.heap.size = G) := hGe
  rw [hGe] at i0 i1
  clear hGe
  obtain ⟨X, hX⟩ : ∃ X, W0.heap.size = X := ⟨_, rfl⟩
  have HX : Hid (W0.heap.size = X) := hX
  rw [hX] at f0
  have bb1 := chain b0 b1
  go_enter Tryd.func11, Tryd.ntmps11
  go_upto_region 1 with fail
  rw [HW0.out]
  try simp only [HG.out]
  go_upto_region 2 with fail
  rw [HW1.out]
  try simp only [HX.out]
  obtain ⟨n, hn⟩ : ∃ n, L.length = n := ⟨_, rfl⟩
  rw [hn] at hfew cC
  have cC' := cC.mono (fun e w' (hh : ∃ v, e = .returned v ∧ ArgFlat w v 3 n (L.flatMap insC) ∧ Below W1.heap.size W1 w') => show ∃ x c, e = .returned (.slice x n c) ∧ n ≤ maxLen ∧ Hid (0 < n → ∃ b o, x = some ⟨b, o, none⟩ ∧ b < w.heap.size ∧ ∀ j q, L[j]? = some q → ∀ c u, (insC q)[c]? = some u → w.cell? ⟨b, o + j * 3 + c, none⟩ = some u) ∧ Below W1.heap.size W1 w' by
    obtain ⟨v, e1, e2, e3⟩ := hh
    rw [← hn] at e2
    obtain ⟨x, c, rfl, hm, ho⟩ := ArgFlat.opened e2 insC_len
    rw [hn] at hm ho e1
    exact ⟨x, c, e1, hm, ho, e3⟩)
  have HN : Hid (L.length = n) := hn
  clear hn cC
  go_upto_region 3 with (go_at_call 22; (with_reducible refine cC'.mono ?_); rintro e w2 ⟨x, c, rfl, hm, HO, hb2⟩)
  unfold maxLen at hm
  have f1 : Hid (Bld X X ⟨#[]⟩ w2) := f0.out.keep hb2
  have hW2 : Below X W0 w2 := by rw [← hX]; exact chain b1 hb2
  have HZ : Hid (∀ j, j ≤ n → (funText20 (L.take j)).length ≤ 52 * j) := fun j hj => funText_len (by rw [List.length_take]; omega) (fun x hx => HLW.out x (List.mem_of_mem_take hx))
  have HB0 : Hid (Below w.heap.size w W0 ∧ W0.heap.size = X) := ⟨b0, hX⟩
  clear f0 cC' hb2 b1 i0 i1 bb1 b0 lt0 hX
  go_loopw [12] (fun i wr => ∃ j : Nat, j ≤ n ∧ i = .int .i64 j ∧ Hid (Bld X X (strOfNums (funText20 (L.take j))) wr) ∧ Below X W0 wr) (fun i _ => n - (intOf i).toNat)
  case atStart => exact ⟨0, Nat.zero_le _, rfl, f1, hW2⟩
  case round =>
    obtain ⟨j, hj, rfl, HB, hb⟩ := hrel
    clear f1 hW2
    have hXr : X ≤ wr.heap.size := HB0.out.2 ▸ hb.size
    have hbw : Below w.heap.size w wr := by
      obtain ⟨h1, h2⟩ := HB0.out
      exact chain h1 (by rw [h2]; exact hb)
    by_cases hjn : j < n
    · obtain ⟨b, o, rfl, hbz, hcell⟩ := HO.out (by omega)
      obtain ⟨q, hq⟩ : ∃ q, L[j]? = some q := ⟨_, List.getElem?_eq_getElem (by have := HN.out; omega)⟩
      have g0 : wr.cell? ⟨b, o + j * 3, none⟩ = some (.int .i64 q.op) := (hbw.cell hbz).trans (hcell j q hq 0 _ rfl)
      have g1 : wr.cell? ⟨b, o + j * 3 + 1, none⟩ = some (.int .i64 q.a) := (hbw.cell hbz).trans (hcell j q hq 1 _ rfl)
      have g2 : wr.cell? ⟨b, o + j * 3 + 2, none⟩ = some (.int .i64 q.b) := (hbw.cell hbz).trans (hcell j q hq 2 _ rfl)
      have hji : (j : Int) < (n : Int) := by omega
      have hj0 : (0 : Int) ≤ (j : Int) := by omega
      have HQW := HLW.out q (List.mem_of_getElem? hq)
      have HQS : Hid ((insText q).size ≤ 51) := insText_size q HQW
      have HM := funText_more hq
      have HZj := HZ.out j hj
      have cI := fun W (hW : Below w.heap.size w W) => iShowIns_any q W HQW (HT.out W hW)
      obtain ⟨U, eU⟩ : ∃ U, insText q = U := ⟨_, rfl⟩
      rw [eU] at HM HQS
      simp only [eU] at cI
      obtain ⟨N, hN⟩ : ∃ N, funText20 (L.take j) = N := ⟨_, rfl⟩
      rw [hN] at HM HZj HB
      have HMM : Hid (strOfNums (funText20 (L.take (j + 1))) = strOfNums N ++ U ++ ⟨#[10]⟩) := by
        show _ = _
        rw [HM, strNums_app20, str_nums20, ByteArray.append_assoc]
      have hNz : (strOfNums N).size ≤ 52 * j := by rw [strOfNums_size]; exact HZj
      have hUz : U.size ≤ 51 := HQS.out
      clear hcell hq eU hN HM HZj HQS
      go_wp2_with (go_at_call 7; (with_reducible refine (cI _ (chain hbw (by repeat (first | exact Below.refl _ _ | refine Below.setCell ?_ (by show wr.heap.size ≤ wr.heap.size; exact Nat.le_refl _) _ | refine Below.alloc ?_ (Nat.le_refl _) _)))).mono ?_); rintro e w3 ⟨rfl, hb3⟩)
      have hY : Below wr.heap.size wr w3 := chain (by repeat (first | exact Below.refl _ _ | refine Below.setCell ?_ (by show wr.heap.size ≤ wr.heap.size; exact Nat.le_refl _) _ | refine Below.alloc ?_ (Nat.le_refl _) _)) hb3
      have hXY : X ≤ w3.heap.size := Nat.le_trans hXr hY.size
      have cW := bld_write X X (strOfNums N) U w3 (HB.out.keep hY) (by omega) hXY
      have h03 : Below X W0 w3 := by
        have h1 : Below W0.heap.size W0 wr := by rw [HB0.out.2]; exact hb
        rw [← HB0.out.2]
        exact chain h1 hY
      clear cI hb3 g0 g1 g2 HQW HB hY
      go_wp2_with (go_at_call 23; (with_reducible refine cW.mono ?_); rintro e w4 ⟨rfl, HB4, hb4⟩)
      have cB := bld_byte X X (strOfNums N ++ U) 10 w4 HB4 (by rw [ByteArray.size_append]; omega) (Nat.le_trans hXY hb4.size)
      rw [show (((10 : UInt8).toNat : Nat) : Int) = 10 from rfl] at cB
      have h04 : Below X W0 w4 := h03.trans hb4
      clear cW HB4 hb4 h03
      go_wp2_with (go_at_call 24; (with_reducible refine cB.mono ?_); rintro e w5 ⟨rfl, HB5, hb5⟩)
      go_roundw
      case rel => exact ⟨j + 1, by omega, by go_num, by rw [HMM.out]; exact HB5, h04.trans hb5⟩
      case measure => simp [intOf]; omega
    · have hd : decide ((j : Int) < (n : Int)) = false := decide_eq_false (by omega)
      have hE : strOfNums (funText20 (L.take j)) = F := by
        rw [List.take_of_length_le (by have := HN.out; omega)]
        exact HF.out
      rw [hE] at HB
      have cS := bld_string X X F wr HB.out hXr
      clear hE HB
      go_wp2_with (go_at_call 25; (with_reducible refine cS.mono ?_); rintro e w5 ⟨rfl, hb5⟩)
      go_ret
      refine ⟨rfl, ?_⟩
      obtain ⟨h1, h2⟩ := HB0.out
      first
        | exact chain h1 (by rw [h2]; exact hb.trans hb5)
        | (rw [← HG.out]; exact chain h1 (by rw [h2]; exact hb.trans hb5))

end Go.Proofs.YtojmmmfboahkgaaDoor
