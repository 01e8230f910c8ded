/-
  The specification's CodeSize.
-/
import Derived.Test.YthhjgkajakcheaaImg13F
namespace Go.Proofs.Ythhjgkajakcheaa
open Go.RowKit Go.Sort
set_option linter.unusedVariables false

theorem sum_take (l : List PFun) (k : Nat) (q : PFun) (h : l[k]? = some q) : ((l.take (k + 1)).map (fun f => f.code.length)).sum = ((l.take k).map (fun f => f.code.length)).sum + q.code.length := by
  rw [List.take_add_one, h]
  simp
theorem fun_few {q : PFun} (h : funOk q = true) : q.code.length ≤ 300 := by
  unfold funOk at h
  simp only [Bool.and_eq_true] at h
  have := h.2.2.2.1
  unfold inB at this
  simp only [Bool.and_eq_true, decide_eq_true_eq] at this
  omega
theorem img_few {p : PImg} (h : imgOk p = true) : p.funcs.length ≤ 16 ∧ ∀ q ∈ p.funcs, q.code.length ≤ 300 := by
  unfold imgOk at h
  simp only [Bool.and_eq_true] at h
  have h1 := h.1
  have h2 := h.2.2.2.1
  unfold inB at h1
  simp only [Bool.and_eq_true, decide_eq_true_eq] at h1
  rw [List.all_eq_true] at h2
  exact ⟨by omega, fun q hq => fun_few (h2 q hq)⟩

set_option maxHeartbeats 1000000 in
set_option maxRecDepth 100000 in
theorem specCodeSize_any (p : PImg) (fv cv : Value) (w : World) (h : ArgImg w fv cv p) (hw : imgW p) :
    Calls Try.prog 15 #[.agg #[fv, cv]] w fun e w' => e = .returned (.int .i64 (imgSize p)) ∧ Below w.heap.size w w' := by
  have cO := fun W (hb : Below w.heap.size w W) => specImageOk_any p fv cv W (h.below hb) hw
  obtain ⟨hF, hC⟩ := h
  obtain ⟨x1, c1, rfl, m1, o1⟩ := hF
  clear hC hw
  unfold maxLen at m1
  obtain ⟨n1, e1⟩ : ∃ n, p.funcs.length = n := ⟨_, rfl⟩
  have H1 : Hid (0 < n1 → ∃ b o, x1 = some ⟨b, o, none⟩ ∧ b < w.heap.size ∧ ∀ j q, p.funcs[j]? = some q → ∃ cv kv hv, FunAt w b (o + j * 5) q cv kv hv) := by rw [e1] at o1; exact o1
  have E1 : Hid (p.funcs.length = n1) := e1
  rw [e1] at m1 ⊢
  simp only [e1] at cO
  have b0 : Below w.heap.size w (w.alloc (.cells #[.slice x1 n1 c1, cv] 39)) := (Below.refl _ _).alloc (Nat.le_refl _) _
  have k0 := fun W (h : Below _ _ W) => new_cell (w := w) (cs := #[.slice x1 n1 c1, cv]) (t := 39) h 0 _ rfl
  have k1 := fun W (h : Below _ _ W) => new_cell (w := w) (cs := #[.slice x1 n1 c1, cv]) (t := 39) h 1 _ rfl
  obtain ⟨W0, hW0⟩ : ∃ W, w.alloc (.cells #[.slice x1 n1 c1, cv] 39) = W := ⟨_, rfl⟩
  rw [hW0] at b0 k0 k1
  have HW0 : Hid (w.alloc (.cells #[.slice x1 n1 c1, cv] 39) = W0) := hW0
  obtain ⟨F, hF⟩ : ∃ F, imgOk p = F := ⟨_, rfl⟩
  simp only [hF] at cO
  have HF : Hid (imgOk p = F) := hF
  obtain ⟨Z, hZ⟩ : ∃ z, imgSize p = z := ⟨_, rfl⟩
  rw [hZ]
  have HZ : Hid (imgSize p = Z) := hZ
  clear hW0 o1 e1 hF hZ
  go_enter Try.func15, Try.ntmps15
  go_upto_region 1 with fail
  rw [HW0.out]
  clear HW0
  go_wp2
  go_loopw [3, 4] (fun y i wr => ∃ (k s : Nat), y = .int .i64 s ∧ i = .int .i64 k ∧ k ≤ n1 ∧ s ≤ 300 * k ∧ (F = false → k = 0) ∧ Hid (s = ((p.funcs.take k).map (fun f => f.code.length)).sum) ∧ Below W0.heap.size W0 wr) (fun _ i _ => n1 - (intOf i).toNat)
  case atStart => exact ⟨0, 0, rfl, rfl, Nat.zero_le _, by omega, fun _ => rfl, by show 0 = _; simp, Below.refl _ _⟩
  case round =>
    obtain ⟨k, s, rfl, rfl, hk, hs, h0, HS, hb⟩ := hrel
    have s0 := k0 wr hb
    have s1 := k1 wr hb
    by_cases hkn : k < n1
    · have hki : (k : Int) < (n1 : Int) := by omega
      have hk0 : (0 : Int) ≤ (k : Int) := by omega
      have cI := cO wr (chain b0 hb)
      cases F with
      | false =>
        have z := h0 rfl
        subst z
        have hz : s = Z := by
          rw [← HZ.out, HS.out]
          unfold imgSize
          rw [HF.out]
          simp
        subst hz
        clear cO H1 HS h0 k0 k1
        go_wp2_with (go_at_call 11; with_reducible refine cI.mono ?_; rintro e w' ⟨rfl, hb1⟩)
        go_ret
        exact ⟨rfl, chain (chain b0 hb) hb1⟩
      | true =>
        obtain ⟨b, o, rfl, hbz, hcell⟩ := H1.out (by omega)
        obtain ⟨q, hq⟩ : ∃ q, p.funcs[k]? = some q := ⟨_, List.getElem?_eq_getElem (by have := E1.out; omega)⟩
        obtain ⟨qc, kv, hv, hA⟩ := hcell k q hq
        obtain ⟨kx, kc, rfl, km, _⟩ := hA.code.opened insC_len
        have hfew : q.code.length ≤ 300 := (img_few HF.out).2 q (List.mem_iff_getElem?.2 ⟨_, hq⟩)
        have hn16 : n1 ≤ 16 := by rw [← E1.out]; exact (img_few HF.out).1
        have g3 := fun W (hb1 : Below wr.heap.size wr W) => (hA.below (chain (chain b0 hb) hb1)).c3
        have HS2 : Hid (s + q.code.length = ((p.funcs.take (k + 1)).map (fun f => f.code.length)).sum) := by show s + _ = _; rw [sum_take _ _ _ hq, ← HS.out]
        obtain ⟨m, hm⟩ : ∃ m, q.code.length = m := ⟨_, rfl⟩
        rw [hm] at HS2 hfew km
        simp only [hm] at g3
        clear hcell hA hq hm HS cO H1 h0
        go_wp2_with (go_at_call 11; with_reducible refine cI.mono ?_; rintro e w' ⟨rfl, hb1⟩; have g := g3 w' hb1; have t0 := k0 w' (chain hb hb1))
        go_roundw
        case rel => exact ⟨k + 1, s + m, by go_num, by go_num, by omega, by omega, fun h => (by cases h), HS2, chain hb hb1⟩
        case measure => simp [intOf]; omega
    · have hz : s = Z := by
        rw [← HZ.out, HS.out]
        unfold imgSize
        have e : p.funcs.take k = p.funcs := List.take_of_length_le (by have := E1.out; omega)
        rw [e]
        cases hf : F with
        | true => rw [if_pos (HF.out.trans hf)]
        | false =>
          have z := h0 hf
          have e2 : p.funcs = [] := List.length_eq_zero_iff.1 (by have := E1.out; omega)
          rw [e2]
          simp
      subst hz
      have hd : decide ((k : Int) < (n1 : Int)) = false := decide_eq_false (by omega)
      clear cO H1 HS k1 h0
      go_wp2
      go_ret
      exact ⟨rfl, chain b0 hb⟩

end Go.Proofs.Ythhjgkajakcheaa
