/-
  Part 25 of what is proved of drawn right trees.
-/
import Derived.Test.YtbgdapdenbldmaaPav
import Derived.Laws.LoneSync
import Derived.RegionCalls
import Derived.Test.YtbgdapdenbldmaaPaw
import Derived.Test.YtbgdapdenbldmaaPax

namespace Go.Proofs.Ytbgdapdenbldmaa
open Go.RowKit Go.Sort
set_option linter.unusedVariables false
theorem add_plain (x : Int) (w : World) (h0 : 0 ≤ x) (h1 : x < 1000) : (Op.intArith .add .i64 x 1).run Try.prog w = .ok (.int .i64 (x + 1)) w := by
  have e : IntKind.i64.wrap (x + 1) = x + 1 := by rw [IntKind.wrap_i64]; omega
  show Result.ok (Value.int .i64 (IntKind.i64.wrap (x + 1))) w = _
  rw [e]
set_option maxHeartbeats 1000000 in
set_option maxRecDepth 100000 in
theorem iAtomAdd (X : Nat) (x : Int) (w : World) (hc : w.cell? ⟨X, 0, none⟩ = some (.int .i64 x)) (hz : w.frozen? ⟨X, 0, none⟩ = false) (h0 : 0 ≤ x) (h1 : x < 1000) :
    Calls Try.prog 28 #[.pointer (some ⟨X, 0, none⟩), .int .i64 1] w fun e w' => e = .returned (.int .i64 (x + 1)) ∧ (w' = w.setCell ⟨X, 0, none⟩ (.int .i64 (x + 1)) ∨ w' = w.drew.setCell ⟨X, 0, none⟩ (.int .i64 (x + 1))) := by
  have hc2 : w.drew.cell? ⟨X, 0, none⟩ = some (.int .i64 x) := by rw [← hc]; rfl
  have hz2 : w.drew.frozen? ⟨X, 0, none⟩ = false := by rw [← hz]; rfl
  have hadd0 := run_call_add (P := Try.prog) Try.func53 (by kernel_rfl) (by kernel_rfl) (by kernel_rfl) .i64 (by kernel_rfl) (y := 1) hc hz (add_plain x w h0 h1)
  have hadd1 := run_call_add (P := Try.prog) Try.func53 (by kernel_rfl) (by kernel_rfl) (by kernel_rfl) .i64 (by kernel_rfl) (y := 1) hc2 hz2 (add_plain x w.drew h0 h1)
  go_enter Try.func28, Try.ntmps28
  go_wp2
  go_ret
  exact ⟨rfl, by first | exact .inl rfl | exact .inr rfl⟩
set_option maxHeartbeats 1000000 in
set_option maxRecDepth 100000 in
theorem iAtomLoad (X : Nat) (x : Int) (w : World) (hc : w.cell? ⟨X, 0, none⟩ = some (.int .i64 x)) :
    Calls Try.prog 29 #[.pointer (some ⟨X, 0, none⟩)] w fun e w' => e = .returned (.int .i64 x) ∧ (w' = w ∨ w' = w.drew) := by
  have hc2 : w.drew.cell? ⟨X, 0, none⟩ = some (.int .i64 x) := by rw [← hc]; rfl
  have hadd0 := run_call_load (P := Try.prog) Try.func54 (by kernel_rfl) (by kernel_rfl) (by kernel_rfl) .i64 (by kernel_rfl) hc
  have hadd1 := run_call_load (P := Try.prog) Try.func54 (by kernel_rfl) (by kernel_rfl) (by kernel_rfl) .i64 (by kernel_rfl) hc2
  go_enter Try.func29, Try.ntmps29
  go_wp2
  go_ret
  exact ⟨rfl, by first | exact .inl rfl | exact .inr rfl⟩
end Go.Proofs.Ytbgdapdenbldmaa
namespace Go.Proofs.Ytbgdapdenbldmaa
open Go.RowKit Go.Sort
set_option linter.unusedVariables false
theorem ISta.res {p : PImg} {k : Int} {lv hv : Value} {w w' : World} (h : ISta p k (stB p k) lv hv w w') : ∃ L H, IsRes p k L H ∧ ArgBo w' hv H := by
  have h' := h
  obtain ⟨hb, h1, h2⟩ := h
  cases e : stB p k with
  | false =>
    have hr : IsRes p k [] [] := .inl ⟨e, rfl, rfl⟩
    exact ⟨[], [], hr, (ISta.lists hr h').2.arg⟩
  | true =>
    obtain ⟨K, f, r, g, hh, n, rv, st, e1, e2, I, t, bb, _⟩ := h2 e
    have hr : IsRes p k r.list r.hit := .inr ⟨e, K, f, r, e1, e2, I, t, bb, rfl, rfl⟩
    exact ⟨r.list, r.hit, hr, (ISta.lists hr h').2.arg⟩
theorem atom_next {w2 wr w5 : World} {X N : Nat} {T : TypeId} (hX : w2.heap.size = X) (h : w5 = wr.setCell ⟨X, 0, none⟩ (.int .i64 ((N : Int) + 1)) ∨ w5 = wr.drew.setCell ⟨X, 0, none⟩ (.int .i64 ((N : Int) + 1))) (hH : Below w2.heap.size w2 wr ∧ wr.heap[X]? = some (.cells #[.int .i64 (N : Int)] T (0, 0))) :
    Below w2.heap.size w2 w5 ∧ w5.heap[X]? = some (.cells #[.int .i64 ((N + 1 : Nat) : Int)] T (0, 0)) := by
  subst hX
  rcases h with rfl | rfl
  · exact ⟨hH.1.setCell (p := ⟨w2.heap.size, 0, none⟩) (Nat.le_refl _) _, by rw [heap_setCell_same _ _ 0 _ _ _ hH.2]; rfl⟩
  · exact ⟨(Below.drew hH.1).setCell (p := ⟨w2.heap.size, 0, none⟩) (Nat.le_refl _) _, by rw [heap_setCell_same wr.drew _ 0 _ _ _ hH.2]; rfl⟩
set_option maxHeartbeats 2000000 in
set_option maxRecDepth 100000 in
theorem iReached_any (p : PImg) (k : Int) (fv cv : Value) (w : World) (h : ArgImg w fv cv p) (hw : imgW p) :
    Calls Try.prog 9 #[.agg #[fv, cv], .int .i64 k] w fun e w' => ∃ r : Int, e = .returned (.int .i64 r) ∧ ReachIs p k r ∧ Below w.heap.size w w' := by
  have b0 : Below w.heap.size w (w.alloc (.cells #[fv, cv] 31)) := (Below.refl _ _).alloc (Nat.le_refl _) _
  have z0 := heap_alloc_new w (.cells #[fv, cv] 31)
  have cS := (iStates_any p k fv cv _ (h.below b0) hw).mono (fun e w' (hh : ∃ lv hv, e = .returned (.tuple #[lv, hv, .bool (stB p k)]) ∧ ISta p k (stB p k) lv hv _ w') => show ∃ (lv hv : Value) (L : List PSta) (Hh : List Bool), e = .returned (.tuple #[lv, hv, .bool (stB p k)]) ∧ Hid (IsRes p k L Hh) ∧ Hid (ArgBo w' hv Hh) ∧ Below _ _ w' by
    obtain ⟨lv, hv, e1, e2⟩ := hh
    obtain ⟨L, Hh, a, c⟩ := e2.res
    exact ⟨lv, hv, L, Hh, e1, a, c, e2.1⟩)
  obtain ⟨SB, eSB⟩ : ∃ x, stB p k = x := ⟨_, rfl⟩
  have HSB : Hid (stB p k = SB) := eSB
  rw [eSB] at cS
  clear eSB h hw
  obtain ⟨W0, hW0⟩ : ∃ W, w.alloc (.cells #[fv, cv] 31) = W := ⟨_, rfl⟩
  rw [hW0] at b0 z0 cS
  have HW0 : Hid (_ = W0) := hW0
  clear hW0
  obtain ⟨G, hG⟩ : ∃ G, w.heap.size = G := ⟨_, rfl⟩
  rw [hG] at z0
  obtain ⟨p0, p1⟩ := two_cells_of z0
  go_enter Try.func9, Try.ntmps9
  go_upto_region 1 with fail
  rw [HW0.out]
  clear HW0
  try simp only [hG]
  cases SB with
  | false =>
    go_wp2_with (go_at_call 27; (with_reducible refine cS.mono ?_); rintro e w2 ⟨lv, hv, L, Hh, rfl, HR, HHa, b2⟩)
    go_ret
    exact ⟨-1, rfl, .inl ⟨HSB.out, rfl⟩, chain b0 b2⟩
  | true =>
    go_upto_region 4 with (go_at_call 27; (with_reducible refine cS.mono ?_); rintro e w2 ⟨lv, hv, L, Hh, rfl, HR, HHa, b2⟩)
    obtain ⟨hx, hc, rfl, hm, ho⟩ := HHa.out.opened
    obtain ⟨n, hn⟩ : ∃ n, Hh.length = n := ⟨_, rfl⟩
    have hfew : n ≤ 300 := by rw [← hn]; exact HR.out.few.2.1
    rw [hn] at ho hm ⊢
    have HN : Hid (Hh.length = n) := hn
    have HO : Hid (∀ W, Below w2.heap.size w2 W → 0 < n → ∃ b o, hx = some ⟨b, o, none⟩ ∧ b < w2.heap.size ∧ ∀ (j : Nat) (z : Bool), Hh[j]? = some z → W.cell? ⟨b, o + j, none⟩ = some (.bool z)) := fun W hb h0 => by
      obtain ⟨b, o, e, hl, hc⟩ := ho h0
      exact ⟨b, o, e, hl, fun j z hz => (hb.cell hl).trans (hc j z hz)⟩
    have B2 : Below w.heap.size w w2 := chain b0 b2
    have bA : Below w2.heap.size w2 (w2.alloc (.cells #[.int .i64 0] 59)) := (Below.refl _ _).alloc (Nat.le_refl _) _
    have zA := heap_alloc_new w2 (.cells #[.int .i64 0] 59)
    clear ho hn p0 p1 cS b2 z0 HHa hm
    obtain ⟨WA, hWA⟩ : ∃ W, w2.alloc (.cells #[.int .i64 0] 59) = W := ⟨_, rfl⟩
    have HWA : Hid (_ = WA) := hWA
    rw [hWA] at bA zA
    clear hWA
    obtain ⟨X, hX⟩ : ∃ X, w2.heap.size = X := ⟨_, rfl⟩
    have HX : Hid (w2.heap.size = X) := hX
    rw [hX] at zA
    have HZA : Hid (Below w2.heap.size w2 WA ∧ WA.heap[X]? = some (.cells #[.int .i64 0] 59 (0, 0))) := ⟨bA, zA⟩
    clear hX
    go_upto_region 5 with fail
    rw [HWA.out]
    try simp only [HX.out]
    go_upto_region 6 with fail
    have HCT : Hid (∀ (j : Nat), j < n → ∃ q, Hh[j]? = some q) := fun j hj => ⟨_, List.getElem?_eq_getElem (by have := HN.out; omega)⟩
    clear zA
    go_loopw [22] (fun i wr => ∃ j : Nat, j ≤ n ∧ i = .int .i64 j ∧ Hid (Below w2.heap.size w2 wr ∧ wr.heap[X]? = some (.cells #[.int .i64 (((Hh.take j).count true : Nat) : Int)] 59 (0, 0)))) (fun i _ => n - (intOf i).toNat)
    case atStart => exact ⟨0, Nat.zero_le _, rfl, show _ ∧ _ from HZA.out⟩
    case round =>
      obtain ⟨j, hj, rfl, HH⟩ := hrel
      by_cases hjn : j < n
      · obtain ⟨b, o, rfl, hb, hcc⟩ := HO.out wr HH.out.1 (by omega)
        obtain ⟨q, hq⟩ := HCT.out j hjn
        have g0 : wr.cell? ⟨b, o + j, none⟩ = some (.bool q) := hcc j q hq
        have hji : (j : Int) < (n : Int) := by omega
        have hj0 : (0 : Int) ≤ (j : Int) := by omega
        have HT := count_more hq
        obtain ⟨N, hN⟩ : ∃ N, (Hh.take j).count true = N := ⟨_, rfl⟩
        have hNj : N ≤ j := by
          rw [← hN]
          refine Nat.le_trans List.count_le_length ?_
          rw [List.length_take]
          omega
        rw [hN] at HT HH
        have HT2 : Hid ((Hh.take (j + 1)).count true = N + if q then 1 else 0) := HT
        clear HT hN hcc hq
        cases q with
        | true =>
          have cA := iAtomAdd X (N : Int) wr (cell_of_row _ _ 0 _ _ _ HH.out.2) (frozen_of_row wr X 0 _ _ HH.out.2) (by omega) (by omega)
          go_wp2_with (go_at_call 28; (with_reducible refine cA.mono ?_); rintro e w5 ⟨rfl, HS5⟩)
          go_roundw
          case rel => exact ⟨j + 1, by omega, by go_num, by rw [HT2.out]; exact atom_next HX.out HS5 HH.out⟩
          case measure => simp [intOf]; omega
        | false =>
          go_wp2
          go_roundw
          case rel => exact ⟨j + 1, by omega, by go_num, by rw [HT2.out]; exact HH.out⟩
          case measure => simp [intOf]; omega
      · have hje : j = n := by omega
        subst hje
        have cL := iAtomLoad X _ wr (cell_of_row _ _ 0 _ _ _ HH.out.2)
        go_wp2_with (go_at_call 29; (with_reducible refine cL.mono ?_); rintro e w5 ⟨rfl, HS5⟩)
        go_ret
        refine ⟨_, rfl, .inr ⟨HSB.out, L, Hh, HR.out, by rw [← HN.out, List.take_length]⟩, ?_⟩
        rcases HS5 with rfl | rfl
        · exact chain B2 HH.out.1
        · exact (chain B2 HH.out.1).drew
end Go.Proofs.Ytbgdapdenbldmaa
