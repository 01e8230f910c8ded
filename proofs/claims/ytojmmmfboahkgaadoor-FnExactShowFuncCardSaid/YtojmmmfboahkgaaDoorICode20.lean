/-
  The program's codeOf.
-/
import Derived.Test.YtojmmmfboahkgaaDoorIImg13
import Derived.Test.YtojmmmfboahkgaaDoorImg13E
namespace Go.Proofs.YtojmmmfboahkgaaDoor
open Go.RowKit Go.Sort
set_option linter.unusedVariables false

theorem two_cells20 {W : World} {G : Nat} {a b : Value} {t : TypeId} {r : Nat × Nat} (h : W.heap[G]? = some (.cells #[a, b] t r)) : W.cell? ⟨G, 0, none⟩ = some a ∧ W.cell? ⟨G, 1, none⟩ = some b := by
  refine ⟨?_, ?_⟩ <;> (rw [cell_of_row _ _ _ _ _ _ h]; rfl)

set_option maxHeartbeats 400000 in
set_option maxRecDepth 100000 in
theorem iIsIn20 (x : Option Addr) (n c : Nat) (k : Int) (w : World) (hn : n ≤ maxLen) :
    Calls Tryd.prog 37 #[.slice x n c, .int .i64 k] w fun e w' => e = .returned (.bool (inB k 0 ((n : Int) - 1))) ∧ w = w' := by
  unfold maxLen at hn
  obtain ⟨F, hF⟩ : ∃ F, inB k 0 ((n : Int) - 1) = F := ⟨_, rfl⟩
  rw [hF]
  have HF : Hid (inB k 0 ((n : Int) - 1) = F) := hF
  clear hF
  by_cases h0 : 0 ≤ k
  case neg =>
    have e : F = false := by rw [← HF.out]; unfold inB; rw [decide_eq_false h0]; rfl
    subst e
    go_enter Tryd.func37, Tryd.ntmps37
    go_wp2
    go_ret
    exact ⟨rfl, rfl⟩
  case pos =>
    by_cases h1 : k < (n : Int)
    · have e : F = true := by rw [← HF.out]; unfold inB; rw [decide_eq_true h0, decide_eq_true (p := k ≤ (n : Int) - 1) (by omega)]; rfl
      subst e
      go_enter Tryd.func37, Tryd.ntmps37
      go_wp2
      go_ret
      exact ⟨rfl, rfl⟩
    · have e : F = false := by rw [← HF.out]; unfold inB; rw [decide_eq_true h0, decide_eq_false (p := k ≤ (n : Int) - 1) (by omega)]; rfl
      subst e
      go_enter Tryd.func37, Tryd.ntmps37
      go_wp2
      go_ret
      exact ⟨rfl, rfl⟩

/-- the code of a function of a right image; nothing where there is none -/
def codeL (p : PImg) (k : Int) : List PIns := if imgOk p = true ∧ 0 ≤ k ∧ k < (p.funcs.length : Int) then (match p.funcs[k.toNat]? with | some f => f.code | none => []) else []
theorem codeL_no {p : PImg} {k : Int} (h : ¬ (imgOk p = true ∧ 0 ≤ k ∧ k < (p.funcs.length : Int))) : codeL p k = [] := if_neg h
theorem codeL_yes {p : PImg} {k : Nat} {f : PFun} (h1 : imgOk p = true) (h2 : p.funcs[k]? = some f) : codeL p (k : Int) = f.code := by
  have h3 : k < p.funcs.length := (List.getElem?_eq_some_iff.1 h2).1
  unfold codeL
  rw [if_pos ⟨h1, by omega, by omega⟩, Int.toNat_natCast, h2]

set_option maxHeartbeats 1000000 in
set_option maxRecDepth 100000 in
theorem iCodeOf_any (p : PImg) (k : Int) (fv cv : Value) (u w : World) (h : ArgImg u fv cv p) (hu : Below u.heap.size u w) (hw : imgW p) :
    Calls Tryd.prog 22 #[.agg #[fv, cv], .int .i64 k] w fun e w' => ∃ v, e = .returned v ∧ ArgFlat u v 3 (codeL p k).length ((codeL p k).flatMap insC) ∧ Below w.heap.size w w' := by
  have HI : Hid (ArgImg w fv cv p) := h.below hu
  obtain ⟨hF, hC⟩ := h
  obtain ⟨x1, c1, rfl, m1, o1⟩ := hF
  obtain ⟨x2, c2, rfl, m2, _⟩ := hC.opened conC_len
  clear hC
  unfold maxLen at m1 m2
  obtain ⟨n1, e1⟩ : ∃ n, p.funcs.length = n := ⟨_, rfl⟩
  obtain ⟨n2, e2⟩ : ∃ n, p.consts.length = n := ⟨_, rfl⟩
  simp only [e1, e2] at m1 m2 o1 HI ⊢
  have HL : Hid (p.funcs.length = n1) := e1
  have HO : Hid (0 < n1 → ∃ b o, x1 = some ⟨b, o, none⟩ ∧ b < u.heap.size ∧ ∀ j p1, p.funcs[j]? = some p1 → ∃ cv kv hv, FunAt u b (o + j * 5) p1 cv kv hv) := o1
  clear e1 e2 o1
  have b0 : Below w.heap.size w (w.alloc (.cells #[.slice x1 n1 c1, .slice x2 n2 c2] 37)) := (Below.refl _ _).alloc (Nat.le_refl _) _
  have hG : (w.alloc (.cells #[.slice x1 n1 c1, .slice x2 n2 c2] 37)).heap[w.heap.size]? = some (.cells #[.slice x1 n1 c1, .slice x2 n2 c2] 37 (0, 0)) := heap_alloc_new w _
  obtain ⟨W0, hW0⟩ : ∃ W, w.alloc (.cells #[.slice x1 n1 c1, .slice x2 n2 c2] 37) = W := ⟨_, rfl⟩
  have lt0 : w.heap.size < W0.heap.size := by rw [← hW0]; simp
  rw [hW0] at b0 hG
  have HW0 : Hid (_ = W0) := hW0
  clear hW0
  have cO := iImageOk_any p _ _ W0 (HI.out.below b0) hw
  obtain ⟨OK, hOK⟩ : ∃ b, imgOk p = b := ⟨_, rfl⟩
  simp only [hOK] at cO
  have HOK : Hid (imgOk p = OK) := hOK
  clear hOK
  obtain ⟨i0, i1⟩ := two_cells20 hG
  obtain ⟨L, hL⟩ : ∃ L, codeL p k = L := ⟨_, rfl⟩
  have HLL : Hid (codeL p k = L) := hL
  rw [hL]
  clear hL
  have hNil : ∀ W, L = [] → ArgFlat W (.slice none 0 0) 3 L.length (L.flatMap insC) := fun W e => by
    subst e
    exact ⟨none, 0, rfl, Nat.zero_le _, rfl, fun h => absurd h (by decide)⟩
  cases OK with
  | false =>
    have hE : L = [] := by rw [← HLL.out]; exact codeL_no (fun h => by rw [HOK.out] at h; cases h.1)
    have HN : Hid (∀ W, ArgFlat W (.slice none 0 0) 3 L.length (L.flatMap insC)) := fun W => hNil W hE
    clear hNil hE HLL
    go_enter Tryd.func22, Tryd.ntmps22
    go_upto_region 1 with fail
    rw [HW0.out]
    clear HW0
    go_wp2_with (go_at_call 36; (with_reducible refine cO.mono ?_); rintro e w4 ⟨rfl, hb4⟩)
    go_ret
    exact ⟨_, rfl, HN.out _, chain b0 hb4⟩
  | true =>
  have cL := fun W => iIsIn20 x1 n1 c1 k W (by unfold maxLen; omega)
  obtain ⟨PK, hPK⟩ : ∃ b, inB k 0 ((n1 : Int) - 1) = b := ⟨_, rfl⟩
  simp only [hPK] at cL
  have HPK : Hid (inB k 0 ((n1 : Int) - 1) = PK) := hPK
  clear hPK
  have hX4 : ∀ W, Below W0.heap.size W0 W → W.cell? ⟨w.heap.size, 0, none⟩ = some (.slice x1 n1 c1) ∧ W.cell? ⟨w.heap.size, 1, none⟩ = some (.slice x2 n2 c2) := fun W hW => two_cells20 ((hW.block _ lt0).trans hG)
  cases PK with
  | false =>
    have hE : L = [] := by
      rw [← HLL.out]
      refine codeL_no (fun h => ?_)
      have h1 := HPK.out
      unfold inB at h1
      rw [HL.out] at h
      rw [decide_eq_true h.2.1, decide_eq_true (by omega)] at h1
      cases h1
    have HN : Hid (∀ W, ArgFlat W (.slice none 0 0) 3 L.length (L.flatMap insC)) := fun W => hNil W hE
    clear hNil hE HLL
    go_enter Tryd.func22, Tryd.ntmps22
    go_upto_region 1 with fail
    rw [HW0.out]
    clear HW0
    go_wp2_with (first | (go_at_call 36; (with_reducible refine cO.mono ?_); rintro e w4 ⟨rfl, hb4⟩; have y0 := (hX4 _ hb4).1; have y1 := (hX4 _ hb4).2; have HB4 : Hid (Below W0.heap.size W0 w4) := hb4; clear hb4) | (go_at_call 37; (with_reducible refine (cL _).mono ?_); rintro e w' ⟨rfl, rfl⟩))
    go_ret
    exact ⟨_, rfl, HN.out _, chain b0 HB4.out⟩
  | true =>
  have hin := HPK.out
  unfold inB at hin
  simp only [Bool.and_eq_true, decide_eq_true_eq] at hin
  obtain ⟨K, rfl⟩ : ∃ K : Nat, k = (K : Int) := ⟨k.toNat, by omega⟩
  have hK1 : (K : Int) < (n1 : Int) := by omega
  have hK0 : (0 : Int) ≤ (K : Int) := by omega
  obtain ⟨f, hf⟩ : ∃ f, p.funcs[K]? = some f := ⟨_, List.getElem?_eq_getElem (by have := HL.out; omega)⟩
  have hE : L = f.code := by rw [← HLL.out]; exact codeL_yes HOK.out hf
  subst hE
  obtain ⟨b, o, rfl, hbl, hcell⟩ := HO.out (by omega)
  obtain ⟨qc, qk, qh, hFA⟩ := hcell K f hf
  have HA : Hid (ArgFlat u qk 3 f.code.length (f.code.flatMap insC)) := hFA.code
  have hg3 : ∀ W, Below W0.heap.size W0 W → W.cell? ⟨b, o + K * 5 + 3, none⟩ = some qk := fun W hW => ((chain hu (chain b0 hW)).cell hbl).trans hFA.c3
  have hX5 : ∀ W, Below W0.heap.size W0 W → (W.cell? ⟨w.heap.size, 0, none⟩ = some (.slice (some ⟨b, o, none⟩) n1 c1) ∧ W.cell? ⟨w.heap.size, 1, none⟩ = some (.slice x2 n2 c2)) ∧ W.cell? ⟨b, o + K * 5 + 3, none⟩ = some qk := fun W hW => ⟨hX4 W hW, hg3 W hW⟩
  clear hcell hFA hNil hX4 hg3 hin hf
  go_enter Tryd.func22, Tryd.ntmps22
  go_upto_region 1 with fail
  rw [HW0.out]
  clear HW0
  go_wp2_with (first | (go_at_call 36; (with_reducible refine cO.mono ?_); rintro e w4 ⟨rfl, hb4⟩; have y0 := (hX5 _ hb4).1.1; have y1 := (hX5 _ hb4).1.2; have y2 := (hX5 _ hb4).2; have HB4 : Hid (Below W0.heap.size W0 w4) := hb4; clear hb4) | (go_at_call 37; (with_reducible refine (cL _).mono ?_); rintro e w' ⟨rfl, rfl⟩))
  go_ret
  exact ⟨_, rfl, HA.out, chain b0 HB4.out⟩

end Go.Proofs.YtojmmmfboahkgaaDoor
