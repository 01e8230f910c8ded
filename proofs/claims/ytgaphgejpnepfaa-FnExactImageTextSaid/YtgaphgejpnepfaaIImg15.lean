/-
  The program's own ImageText at f6edeae.
-/
import Derived.Test.YtgaphgejpnepfaaITxt15G
import Derived.Test.YtgaphgejpnepfaaISeal
import Derived.Test.YtgaphgejpnepfaaIImg13
import Derived.Test.YtgaphgejpnepfaaSeal
namespace Go.Proofs.Ytgaphgejpnepfaa
open Go.RowKit Go.Sort
set_option linter.unusedVariables false

theorem imgT_str (p : PImg) : (⟨#[83, 67, 49]⟩ : ByteArray) ++ strOfNums (varB p.consts.length ++ p.consts.flatMap conT) ++ strOfNums (varB p.funcs.length ++ p.funcs.flatMap funT) = strOfNums (imgT p) := by
  rw [show (⟨#[83, 67, 49]⟩ : ByteArray) = strOfNums [83, 67, 49] from rfl]
  unfold imgT imgHead
  simp only [← strNums_append, List.append_assoc]

set_option maxHeartbeats 2000000 in
set_option maxRecDepth 100000 in
theorem iImageText_ok (p : PImg) (fv cv : Value) (w : World) (h : ArgImg w fv cv p) (hw : imgW p) (hp : imgOk p = true) (R : ByteArray) (B : Bool) (V : Value)
    (hV : (B = true ∧ R.size ≤ 12000 ∧ V = .tuple #[.string R, .bool true]) ∨ (B = true ∧ 12000 < R.size ∧ V = .tuple #[.string ⟨#[]⟩, .bool false]) ∨ (B = false ∧ V = .tuple #[.string ⟨#[]⟩, .bool false]))
    (cS : ∀ W, Calls Try.prog 48 #[.string (strOfNums (imgT p))] W fun e w' => e = .returned (.tuple #[.string R, .bool B]) ∧ Below W.heap.size W w') :
    Calls Try.prog 16 #[.agg #[fv, cv]] w fun e w' => e = .returned V ∧ Below w.heap.size w w' := by
  have hle := imgOk_le hp
  have q1 := hle.funcs
  have q2 := hle.consts
  have cI0 := fun W (hb : Below w.heap.size w W) => iImageOk_any p fv cv W (h.below hb) hw
  have cC0 := fun W (hb : Below w.heap.size w W) => iListConst p.consts cv W (h.2.below hb) hle.consOk (by omega) hw.consts
  have cF0 := fun W (hb : Below w.heap.size w W) => iListFunc p.funcs fv W (h.1.below hb) hle.funsOk (by omega)
  have s1 : (strOfNums (varB p.consts.length ++ p.consts.flatMap conT)).size ≤ 3000 := by
    rw [strOfNums_size, List.length_append]
    have := varN_few (x := p.consts.length) (by omega)
    have := flat_le conT 60 p.consts (fun q hq => conT_len (hle.consOk q hq))
    omega
  have s2 : (strOfNums (varB p.funcs.length ++ p.funcs.flatMap funT)).size ≤ 90000 := by
    rw [strOfNums_size, List.length_append]
    have := varN_few (x := p.funcs.length) (by omega)
    have := flat_le funT 5000 p.funcs (fun q hq => funT_len (hle.funsOk q hq))
    omega
  have hT := imgT_str p
  obtain ⟨C, eC⟩ : ∃ T, strOfNums (imgT p) = T := ⟨_, rfl⟩
  obtain ⟨T1, e1⟩ : ∃ T, strOfNums (varB p.consts.length ++ p.consts.flatMap conT) = T := ⟨_, rfl⟩
  obtain ⟨T2, e2⟩ : ∃ T, strOfNums (varB p.funcs.length ++ p.funcs.flatMap funT) = T := ⟨_, rfl⟩
  rw [e1, e2, eC] at hT
  simp only [hp] at cI0
  simp only [e1] at cC0 s1
  simp only [e2] at cF0 s2
  simp only [eC, ← hT] at cS
  obtain ⟨x1, c1, rfl, m1, _⟩ := h.1
  obtain ⟨x2, c2, rfl, m2, _⟩ := h.2
  obtain ⟨n1, f1⟩ : ∃ n, p.funcs.length = n := ⟨_, rfl⟩
  obtain ⟨n2, f2⟩ : ∃ n, p.consts.length = n := ⟨_, rfl⟩
  simp only [f1, f2] at cI0 cC0 cF0 ⊢
  clear hT eC e1 e2 f1 f2 m1 m2 q1 q2 hle hp hw h
  have b0 : Below w.heap.size w (w.alloc (.cells #[.slice x1 n1 c1, .slice x2 n2 c2] 41)) := (Below.refl _ _).alloc (Nat.le_refl _) _
  go_enter Try.func16, Try.ntmps16
  go_upto_region 3 with (go_at_call 47; (refine (cI0 _ b0).mono ?_); rintro e w1 ⟨rfl, hb1⟩)
  have k0 := new_cell hb1 0 _ rfl
  have k1 := new_cell hb1 1 _ rfl
  have lt : w.heap.size < w1.heap.size := Nat.lt_of_lt_of_le (by simp) hb1.size
  have hY : Below w.heap.size w w1 := chain b0 hb1
  have HK0 : ∀ W, Below w1.heap.size w1 W → W.cell? ⟨w.heap.size, 0, none⟩ = some (.slice x1 n1 c1) ∧ W.cell? ⟨w.heap.size, 1, none⟩ = some (.slice x2 n2 c2) := fun W hW => ⟨(hW.cell (p := ⟨w.heap.size, 0, none⟩) lt).trans k0, (hW.cell (p := ⟨w.heap.size, 1, none⟩) lt).trans k1⟩
  have cC := fun W (h : Below w1.heap.size w1 W) => cC0 W (chain hY h)
  have cF := fun W (h : Below w1.heap.size w1 W) => cF0 W (chain hY h)
  have HE : Hid (∀ V, Below w1.heap.size w1 V → Below w.heap.size w V) := fun V h => chain hY h
  have HK : Hid _ := HK0
  have HV : Hid _ := hV
  clear hV
  have hA : ∀ {W V}, Below w1.heap.size w1 W → Below W.heap.size W V → Hid (Below w1.heap.size w1 V) := fun h k => chain h k
  clear cC0 cF0 cI0 b0 hb1 k0 k1 lt hY HK0
  go_region_held_law (fun W => W.cell? ⟨w.heap.size, 0, none⟩ = some (.slice x1 n1 c1) ∧ W.cell? ⟨w.heap.size, 1, none⟩ = some (.slice x2 n2 c2))
    (exact HK.out _ (by first | with_reducible exact Below.refl _ _ | with_reducible exact (Below.refl _ _).drew | with_reducible exact HB4.out | with_reducible exact RowKit.Below.drew HB4.out | with_reducible exact HB3.out | with_reducible exact RowKit.Below.drew HB3.out | with_reducible exact HB2.out | with_reducible exact RowKit.Below.drew HB2.out))
    (first
      | (go_at_call 49; (with_reducible refine (cC _ (by first | with_reducible exact Below.refl _ _ | with_reducible exact (Below.refl _ _).drew)).mono ?_); rintro e w2 ⟨rfl, hb2⟩; have HB2 := hA (by first | with_reducible exact Below.refl _ _ | with_reducible exact (Below.refl _ _).drew) hb2)
      | (go_at_call 51; (with_reducible refine (cF _ (by first | with_reducible exact HB2.out | with_reducible exact RowKit.Below.drew HB2.out)).mono ?_); rintro e w3 ⟨rfl, hb3⟩; have HB3 := hA (by first | with_reducible exact HB2.out | with_reducible exact RowKit.Below.drew HB2.out) hb3)
      | (go_at_call 48; (with_reducible refine (cS _).mono ?_); rintro e w4 ⟨rfl, hb4⟩; have HB4 := hA (by first | with_reducible exact HB3.out | with_reducible exact RowKit.Below.drew HB3.out) hb4))
  all_goals
    rcases HV.out with ⟨rfl, hs, rfl⟩ | ⟨rfl, hs, rfl⟩ | ⟨rfl, rfl⟩
  all_goals
    clear HV
    go_wp2
    go_ret2
    exact ⟨rfl, by first | exact HE.out _ HB4.out | exact HE.out _ (RowKit.Below.drew HB4.out)⟩

set_option maxHeartbeats 1000000 in
set_option maxRecDepth 100000 in
theorem iImageText_no (p : PImg) (fv cv : Value) (w : World) (h : ArgImg w fv cv p) (hw : imgW p) (hp : imgOk p = false) :
    Calls Try.prog 16 #[.agg #[fv, cv]] w fun e w' => e = .returned (.tuple #[.string ⟨#[]⟩, .bool false]) ∧ Below w.heap.size w w' := by
  have cI0 := fun W (hb : Below w.heap.size w W) => iImageOk_any p fv cv W (h.below hb) hw
  simp only [hp] at cI0
  obtain ⟨x1, c1, rfl, m1, _⟩ := h.1
  obtain ⟨x2, c2, rfl, m2, _⟩ := h.2
  clear h hp hw
  have b0 : Below w.heap.size w (w.alloc (.cells #[.slice x1 p.funcs.length c1, .slice x2 p.consts.length c2] 41)) := (Below.refl _ _).alloc (Nat.le_refl _) _
  go_enter Try.func16, Try.ntmps16
  go_wp2_with (go_at_call 47; (refine (cI0 _ b0).mono ?_); rintro e w1 ⟨rfl, hb1⟩)
  go_ret2
  exact ⟨rfl, chain b0 hb1⟩

theorem iImageText_any (p : PImg) (fv cv : Value) (w : World) (h : ArgImg w fv cv p) (hw : imgW p) :
    Calls Try.prog 16 #[.agg #[fv, cv]] w fun e w' => e = .returned (if imgTB p then .tuple #[.string (sealedS (strOfNums (imgT p))), .bool true] else .tuple #[.string ⟨#[]⟩, .bool false]) ∧ Below w.heap.size w w' := by
  cases hp : imgOk p with
  | false =>
    have e : imgTB p = false := by unfold imgTB; rw [hp]; rfl
    rw [e]
    exact iImageText_no p fv cv w h hw hp
  | true =>
    have hz : (strOfNums (imgT p)).size = (imgT p).length := strOfNums_size _
    have hz2 := sealedS_size (strOfNums (imgT p))
    rcases Nat.lt_or_ge 12000 (strOfNums (imgT p)).size with h1 | h1
    · have e : imgTB p = false := by
        unfold imgTB; rw [hp, Bool.true_and]; exact decide_eq_false (by omega)
      rw [e]
      exact iImageText_ok p fv cv w h hw hp ⟨#[]⟩ false _ (.inr (.inr ⟨rfl, rfl⟩)) (fun W => iSealed_out _ W h1)
    · rcases Nat.lt_or_ge 12000 (sealedS (strOfNums (imgT p))).size with h2 | h2
      · have e : imgTB p = false := by
          unfold imgTB; rw [hp, Bool.true_and]; exact decide_eq_false (by omega)
        rw [e]
        exact iImageText_ok p fv cv w h hw hp _ true _ (.inr (.inl ⟨rfl, h2, rfl⟩)) (fun W => iSealed_in _ W h1)
      · have e : imgTB p = true := by
          unfold imgTB; rw [hp, Bool.true_and]; exact decide_eq_true (by omega)
        rw [e]
        exact iImageText_ok p fv cv w h hw hp _ true _ (.inl ⟨rfl, h2, rfl⟩) (fun W => iSealed_in _ W h1)

end Go.Proofs.Ytgaphgejpnepfaa
