/-
  Part 9 of what is proved of drawn right trees.
-/
import Derived.Test.YtkmmojpfcklocaaPag
import Derived.Test.YtkmmojpfcklocaaPah
import Derived.Test.YtkmmojpfcklocaaPad
import Derived.Lib.SlicesCompact
import Derived.Lib.OwnBridge
import Derived.Sort.Grow
import Derived.Shelf.Small.Bits
import Derived.Shelf.Strconv.Itoa0
import Derived.Shelf.Sort.Plain
import Derived.Ground.Names2Prog
import Derived.Shelf.Slices.CompactI
import Derived.Test.YtkmmojpfcklocaaProg

namespace Go.Proofs.Ytkmmojpfcklocaa
open Go.RowKit Go.Sort
set_option linter.unusedVariables false
theorem two_cells20 {W : World} {G : Nat} {a b : Value} {t : TypeId} {r : Nat × Nat} (h : W.heap[G]? = some (.cells #[a, b] t r)) : W.cell? ⟨G, 0, none⟩ = some a ∧ W.cell? ⟨G, 1, none⟩ = some b := by
  refine ⟨?_, ?_⟩ <;> (rw [cell_of_row _ _ _ _ _ _ h]; rfl)
set_option maxHeartbeats 400000 in
set_option maxRecDepth 100000 in
theorem iIsIn20 (x : Option Addr) (n c : Nat) (k : Int) (w : World) (hn : n ≤ maxLen) :
    Calls Try.prog 34 #[.slice x n c, .int .i64 k] w fun e w' => e = .returned (.bool (inB k 0 ((n : Int) - 1))) ∧ w = w' := by
  unfold maxLen at hn
  obtain ⟨F, hF⟩ : ∃ F, inB k 0 ((n : Int) - 1) = F := ⟨_, rfl⟩
  rw [hF]
  have HF : Hid (inB k 0 ((n : Int) - 1) = F) := hF
  clear hF
  by_cases h0 : 0 ≤ k
  case neg =>
    have e : F = false := by rw [← HF.out]; unfold inB; rw [decide_eq_false h0]; rfl
    subst e
    go_enter Try.func34, Try.ntmps34
    go_wp2
    go_ret
    exact ⟨rfl, rfl⟩
  case pos =>
    by_cases h1 : k < (n : Int)
    · have e : F = true := by rw [← HF.out]; unfold inB; rw [decide_eq_true h0, decide_eq_true (p := k ≤ (n : Int) - 1) (by omega)]; rfl
      subst e
      go_enter Try.func34, Try.ntmps34
      go_wp2
      go_ret
      exact ⟨rfl, rfl⟩
    · have e : F = false := by rw [← HF.out]; unfold inB; rw [decide_eq_true h0, decide_eq_false (p := k ≤ (n : Int) - 1) (by omega)]; rfl
      subst e
      go_enter Try.func34, Try.ntmps34
      go_wp2
      go_ret
      exact ⟨rfl, rfl⟩
def codeL (p : PImg) (k : Int) : List PIns := if imgOk p = true ∧ 0 ≤ k ∧ k < (p.funcs.length : Int) then (match p.funcs[k.toNat]? with | some f => f.code | none => []) else []
theorem codeL_no {p : PImg} {k : Int} (h : ¬ (imgOk p = true ∧ 0 ≤ k ∧ k < (p.funcs.length : Int))) : codeL p k = [] := if_neg h
theorem codeL_yes {p : PImg} {k : Nat} {f : PFun} (h1 : imgOk p = true) (h2 : p.funcs[k]? = some f) : codeL p (k : Int) = f.code := by
  have h3 : k < p.funcs.length := (List.getElem?_eq_some_iff.1 h2).1
  unfold codeL
  rw [if_pos ⟨h1, by omega, by omega⟩, Int.toNat_natCast, h2]
set_option maxHeartbeats 1000000 in
set_option maxRecDepth 100000 in
theorem iCodeOf_any (p : PImg) (k : Int) (fv cv : Value) (u w : World) (h : ArgImg u fv cv p) (hu : Below u.heap.size u w) (hw : imgW p) :
    Calls Try.prog 19 #[.agg #[fv, cv], .int .i64 k] w fun e w' => ∃ v, e = .returned v ∧ ArgFlat u v 3 (codeL p k).length ((codeL p k).flatMap insC) ∧ Below w.heap.size w w' := by
  have HI : Hid (ArgImg w fv cv p) := h.below hu
  obtain ⟨hF, hC⟩ := h
  obtain ⟨x1, c1, rfl, m1, o1⟩ := hF
  obtain ⟨x2, c2, rfl, m2, _⟩ := hC.opened conC_len
  clear hC
  unfold maxLen at m1 m2
  obtain ⟨n1, e1⟩ : ∃ n, p.funcs.length = n := ⟨_, rfl⟩
  obtain ⟨n2, e2⟩ : ∃ n, p.consts.length = n := ⟨_, rfl⟩
  simp only [e1, e2] at m1 m2 o1 HI ⊢
  have HL : Hid (p.funcs.length = n1) := e1
  have HO : Hid (0 < n1 → ∃ b o, x1 = some ⟨b, o, none⟩ ∧ b < u.heap.size ∧ ∀ j p1, p.funcs[j]? = some p1 → ∃ cv kv hv, FunAt u b (o + j * 5) p1 cv kv hv) := o1
  clear e1 e2 o1
  have b0 : Below w.heap.size w (w.alloc (.cells #[.slice x1 n1 c1, .slice x2 n2 c2] 32)) := (Below.refl _ _).alloc (Nat.le_refl _) _
  have hG : (w.alloc (.cells #[.slice x1 n1 c1, .slice x2 n2 c2] 32)).heap[w.heap.size]? = some (.cells #[.slice x1 n1 c1, .slice x2 n2 c2] 32 (0, 0)) := heap_alloc_new w _
  obtain ⟨W0, hW0⟩ : ∃ W, w.alloc (.cells #[.slice x1 n1 c1, .slice x2 n2 c2] 32) = W := ⟨_, rfl⟩
  have lt0 : w.heap.size < W0.heap.size := by rw [← hW0]; simp
  rw [hW0] at b0 hG
  have HW0 : Hid (_ = W0) := hW0
  clear hW0
  have cO := iImageOk_any p _ _ W0 (HI.out.below b0) hw
  obtain ⟨OK, hOK⟩ : ∃ b, imgOk p = b := ⟨_, rfl⟩
  simp only [hOK] at cO
  have HOK : Hid (imgOk p = OK) := hOK
  clear hOK
  obtain ⟨i0, i1⟩ := two_cells20 hG
  obtain ⟨L, hL⟩ : ∃ L, codeL p k = L := ⟨_, rfl⟩
  have HLL : Hid (codeL p k = L) := hL
  rw [hL]
  clear hL
  have hNil : ∀ W, L = [] → ArgFlat W (.slice none 0 0) 3 L.length (L.flatMap insC) := fun W e => by
    subst e
    exact ⟨none, 0, rfl, Nat.zero_le _, rfl, fun h => absurd h (by decide)⟩
  cases OK with
  | false =>
    have hE : L = [] := by rw [← HLL.out]; exact codeL_no (fun h => by rw [HOK.out] at h; cases h.1)
    have HN : Hid (∀ W, ArgFlat W (.slice none 0 0) 3 L.length (L.flatMap insC)) := fun W => hNil W hE
    clear hNil hE HLL
    go_enter Try.func19, Try.ntmps19
    go_upto_region 1 with fail
    rw [HW0.out]
    clear HW0
    go_wp2_with (go_at_call 33; (with_reducible refine cO.mono ?_); rintro e w4 ⟨rfl, hb4⟩)
    go_ret
    exact ⟨_, rfl, HN.out _, chain b0 hb4⟩
  | true =>
  have cL := fun W => iIsIn20 x1 n1 c1 k W (by unfold maxLen; omega)
  obtain ⟨PK, hPK⟩ : ∃ b, inB k 0 ((n1 : Int) - 1) = b := ⟨_, rfl⟩
  simp only [hPK] at cL
  have HPK : Hid (inB k 0 ((n1 : Int) - 1) = PK) := hPK
  clear hPK
  have hX4 : ∀ W, Below W0.heap.size W0 W → W.cell? ⟨w.heap.size, 0, none⟩ = some (.slice x1 n1 c1) ∧ W.cell? ⟨w.heap.size, 1, none⟩ = some (.slice x2 n2 c2) := fun W hW => two_cells20 ((hW.block _ lt0).trans hG)
  cases PK with
  | false =>
    have hE : L = [] := by
      rw [← HLL.out]
      refine codeL_no (fun h => ?_)
      have h1 := HPK.out
      unfold inB at h1
      rw [HL.out] at h
      rw [decide_eq_true h.2.1, decide_eq_true (by omega)] at h1
      cases h1
    have HN : Hid (∀ W, ArgFlat W (.slice none 0 0) 3 L.length (L.flatMap insC)) := fun W => hNil W hE
    clear hNil hE HLL
    go_enter Try.func19, Try.ntmps19
    go_upto_region 1 with fail
    rw [HW0.out]
    clear HW0
    go_wp2_with (first | (go_at_call 33; (with_reducible refine cO.mono ?_); rintro e w4 ⟨rfl, hb4⟩; have y0 := (hX4 _ hb4).1; have y1 := (hX4 _ hb4).2; have HB4 : Hid (Below W0.heap.size W0 w4) := hb4; clear hb4) | (go_at_call 34; (with_reducible refine (cL _).mono ?_); rintro e w' ⟨rfl, rfl⟩))
    go_ret
    exact ⟨_, rfl, HN.out _, chain b0 HB4.out⟩
  | true =>
  have hin := HPK.out
  unfold inB at hin
  simp only [Bool.and_eq_true, decide_eq_true_eq] at hin
  obtain ⟨K, rfl⟩ : ∃ K : Nat, k = (K : Int) := ⟨k.toNat, by omega⟩
  have hK1 : (K : Int) < (n1 : Int) := by omega
  have hK0 : (0 : Int) ≤ (K : Int) := by omega
  obtain ⟨f, hf⟩ : ∃ f, p.funcs[K]? = some f := ⟨_, List.getElem?_eq_getElem (by have := HL.out; omega)⟩
  have hE : L = f.code := by rw [← HLL.out]; exact codeL_yes HOK.out hf
  subst hE
  obtain ⟨b, o, rfl, hbl, hcell⟩ := HO.out (by omega)
  obtain ⟨qc, qk, qh, hFA⟩ := hcell K f hf
  have HA : Hid (ArgFlat u qk 3 f.code.length (f.code.flatMap insC)) := hFA.code
  have hg3 : ∀ W, Below W0.heap.size W0 W → W.cell? ⟨b, o + K * 5 + 3, none⟩ = some qk := fun W hW => ((chain hu (chain b0 hW)).cell hbl).trans hFA.c3
  have hX5 : ∀ W, Below W0.heap.size W0 W → (W.cell? ⟨w.heap.size, 0, none⟩ = some (.slice (some ⟨b, o, none⟩) n1 c1) ∧ W.cell? ⟨w.heap.size, 1, none⟩ = some (.slice x2 n2 c2)) ∧ W.cell? ⟨b, o + K * 5 + 3, none⟩ = some qk := fun W hW => ⟨hX4 W hW, hg3 W hW⟩
  clear hcell hFA hNil hX4 hg3 hin hf
  go_enter Try.func19, Try.ntmps19
  go_upto_region 1 with fail
  rw [HW0.out]
  clear HW0
  go_wp2_with (first | (go_at_call 33; (with_reducible refine cO.mono ?_); rintro e w4 ⟨rfl, hb4⟩; have y0 := (hX5 _ hb4).1.1; have y1 := (hX5 _ hb4).1.2; have y2 := (hX5 _ hb4).2; have HB4 : Hid (Below W0.heap.size W0 w4) := hb4; clear hb4) | (go_at_call 34; (with_reducible refine (cL _).mono ?_); rintro e w' ⟨rfl, rfl⟩))
  go_ret
  exact ⟨_, rfl, HA.out, chain b0 HB4.out⟩
end Go.Proofs.Ytkmmojpfcklocaa
namespace Go.Proofs.Ytkmmojpfcklocaa
open Go.RowKit
set_option linter.unusedVariables false
def isJ20 (i : PIns) : Bool := decide (12 ≤ i.op) && decide (i.op ≤ 14)
def tellJ (l : List PIns) : List Int := (l.filter isJ20).map (·.a)
theorem tellJ_yes {l : List PIns} {j : Nat} {q : PIns} (h : l[j]? = some q) (hq : isJ20 q = true) : tellJ (l.take (j + 1)) = tellJ (l.take j) ++ [q.a] := by
  unfold tellJ
  rw [List.take_add_one, h, List.filter_append, List.map_append]
  show _ ++ List.map _ (List.filter isJ20 [q]) = _
  rw [List.filter_cons_of_pos hq]
  rfl
theorem tellJ_no {l : List PIns} {j : Nat} {q : PIns} (h : l[j]? = some q) (hq : isJ20 q = false) : tellJ (l.take (j + 1)) = tellJ (l.take j) := by
  unfold tellJ
  rw [List.take_add_one, h, List.filter_append, List.map_append]
  show _ ++ List.map _ (List.filter isJ20 [q]) = _
  rw [List.filter_cons_of_neg (by rw [hq]; decide)]
  exact List.append_nil _
theorem tellJ_len (l : List PIns) : (tellJ l).length ≤ l.length := by
  unfold tellJ
  rw [List.length_map]
  exact List.length_filter_le _ _
theorem asc_unique20 : ∀ (a b : List Int), a.Pairwise (· < ·) → b.Pairwise (· < ·) → (∀ x, x ∈ a ↔ x ∈ b) → a = b
  | [], [], _, _, _ => rfl
  | [], y :: b, _, _, h => absurd ((h y).2 List.mem_cons_self) (by simp)
  | x :: a, [], _, _, h => absurd ((h x).1 List.mem_cons_self) (by simp)
  | x :: a, y :: b, ha, hb, h => by
    rw [List.pairwise_cons] at ha hb
    have e : x = y := by
      rcases List.mem_cons.1 ((h x).1 List.mem_cons_self) with e | e
      · exact e
      · rcases List.mem_cons.1 ((h y).2 List.mem_cons_self) with e2 | e2
        · exact e2.symm
        · have h1 := hb.1 x e
          have h2 := ha.1 y e2
          omega
    subst e
    rw [asc_unique20 a b ha.2 hb.2 (fun z => ?_)]
    constructor
    · intro hz
      rcases List.mem_cons.1 ((h z).1 (List.mem_cons_of_mem _ hz)) with e | e
      · have := ha.1 z hz
        omega
      · exact e
    · intro hz
      rcases List.mem_cons.1 ((h z).2 (List.mem_cons_of_mem _ hz)) with e | e
      · have := hb.1 z hz
        omega
      · exact e
theorem upTo_inv20 (d : Array Int) (hs : ∀ i j, i ≤ j → j < d.size → d[i]! ≤ d[j]!) : ∀ m, m ≤ d.size →
    (Lib.compactUpTo d m).Pairwise (· < ·) ∧ (∀ x ∈ Lib.compactUpTo d m, ∃ j, j < m ∧ d[j]! = x) ∧ (∀ j, j < m → d[j]! ∈ Lib.compactUpTo d m)
  | 0, _ => ⟨List.Pairwise.nil, fun x (hx : x ∈ ([] : List Int)) => (by cases hx), fun j hj => absurd hj (by omega)⟩
  | m + 1, hm => by
    obtain ⟨h1, h2, h3⟩ := upTo_inv20 d hs m (by omega)
    rw [Lib.compactUpTo_succ]
    by_cases hk : Lib.keeps d m = true
    · rw [if_pos hk]
      refine ⟨?_, ?_, ?_⟩
      · refine List.pairwise_append.2 ⟨h1, List.pairwise_singleton _ _, fun x hx y hy => ?_⟩
        obtain ⟨j, hj, rfl⟩ := h2 x hx
        rw [List.mem_singleton.1 hy]
        unfold Lib.keeps at hk
        have hk := of_decide_eq_true hk
        rcases hk with hk | hk
        · omega
        · have a1 := hs j (m - 1) (by omega) (by omega)
          have a2 := hs (m - 1) m (by omega) (by omega)
          omega
      · intro x hx
        rcases List.mem_append.1 hx with hx | hx
        · obtain ⟨j, hj, e⟩ := h2 x hx
          exact ⟨j, by omega, e⟩
        · exact ⟨m, by omega, (List.mem_singleton.1 hx).symm⟩
      · intro j hj
        by_cases e : j = m
        · subst e
          exact List.mem_append_right _ List.mem_cons_self
        · exact List.mem_append_left _ (h3 j (by omega))
    · rw [if_neg hk, List.append_nil]
      refine ⟨h1, fun x hx => ?_, fun j hj => ?_⟩
      · obtain ⟨j, hj, e⟩ := h2 x hx
        exact ⟨j, by omega, e⟩
      · by_cases e : j = m
        · subst e
          have hn : ¬ (j = 0 ∨ d[j]! ≠ d[j - 1]!) := fun h => hk (decide_eq_true h)
          have h0 : j ≠ 0 := fun h => hn (.inl h)
          have he : d[j]! = d[j - 1]! := by
            rcases Int.lt_trichotomy d[j]! d[j - 1]! with h | h | h
            · exact absurd (.inr (by omega)) hn
            · exact h
            · exact absurd (.inr (by omega)) hn
          rw [he]
          exact h3 (j - 1) (by omega)
        · exact h3 j (by omega)
def sortJ (zs : List Int) : List Int := zs.mergeSort fun x y => decide (x ≤ y)
theorem sortJ_len (zs : List Int) : (sortJ zs).length = zs.length := List.length_mergeSort zs
theorem compact_is20 (zs : List Int) : (Lib.compact (sortJ zs)).Pairwise (· < ·) ∧ (∀ x, x ∈ Lib.compact (sortJ zs) ↔ x ∈ zs) := by
  have hp : (sortJ zs).Pairwise (fun x y => decide (x ≤ y) = true) := List.pairwise_mergeSort (le := fun x y => decide (x ≤ y)) (fun a b c h1 h2 => decide_eq_true (by have := of_decide_eq_true h1; have := of_decide_eq_true h2; omega)) (fun a b => by
    rcases Int.le_total a b with h | h
    · rw [decide_eq_true h]; rfl
    · rw [decide_eq_true h, Bool.or_true]) zs
  have hm : ∀ x, x ∈ sortJ zs ↔ x ∈ zs := fun x => (List.mergeSort_perm zs _).mem_iff
  obtain ⟨L, hL⟩ : ∃ L, sortJ zs = L := ⟨_, rfl⟩
  rw [hL] at hp hm ⊢
  have hg : ∀ j (h : j < L.length), L.toArray[j]! = L[j] := fun j h => by
    rw [getElem!_pos L.toArray j (by simpa using h)]
    simp
  have hs : ∀ i j, i ≤ j → j < L.toArray.size → L.toArray[i]! ≤ L.toArray[j]! := fun i j hij hj => by
    have hj' : j < L.length := by simpa using hj
    rw [hg i (by omega), hg j hj']
    rcases Nat.lt_or_ge i j with h | h
    · exact of_decide_eq_true (List.pairwise_iff_getElem.1 hp i j (by omega) hj' h)
    · have e : i = j := by omega
      subst e
      exact Int.le_refl _
  obtain ⟨h1, h2, h3⟩ := upTo_inv20 L.toArray hs L.length (by simp)
  refine ⟨h1, fun x => ⟨fun hx => ?_, fun hx => ?_⟩⟩
  · obtain ⟨j, hj, e⟩ := h2 x hx
    rw [hg j hj] at e
    rw [← hm x, ← e]
    exact List.getElem_mem hj
  · obtain ⟨j, hj, e⟩ := List.getElem_of_mem ((hm x).2 hx)
    have := h3 j hj
    rw [hg j hj, e] at this
    exact this
theorem hasJ_iff20 (l : List PIns) (t : Nat) : hasJ l t = true ↔ (t : Int) ∈ tellJ l := by
  unfold hasJ tellJ
  rw [List.any_eq_true, List.mem_map]
  constructor
  · rintro ⟨i, hi, h⟩
    unfold jumpsTo at h
    rw [Bool.and_eq_true] at h
    exact ⟨i, List.mem_filter.2 ⟨hi, h.1⟩, of_decide_eq_true h.2⟩
  · rintro ⟨i, hi, h⟩
    obtain ⟨h1, h2⟩ := List.mem_filter.1 hi
    exact ⟨i, h1, by unfold jumpsTo; rw [Bool.and_eq_true]; exact ⟨h2, decide_eq_true h⟩⟩
theorem jumps_sorted20 (l : List PIns) (h : ∀ i ∈ l, isJ20 i = true → 0 ≤ i.a ∧ i.a ≤ 300) : Lib.compact (sortJ (tellJ l)) = jumpsN l 301 := by
  obtain ⟨h1, h2⟩ := compact_is20 (tellJ l)
  refine asc_unique20 _ _ h1 ?_ fun x => ?_
  · unfold jumpsN
    rw [List.pairwise_map]
    exact (List.pairwise_lt_range.filter _).imp (fun hxy => Int.ofNat_lt.2 hxy)
  · rw [h2 x]
    unfold jumpsN
    rw [List.mem_map]
    constructor
    · intro hx
      obtain ⟨i, hi, e⟩ := List.mem_map.1 hx
      obtain ⟨i1, i2⟩ := List.mem_filter.1 hi
      have hb := h i i1 i2
      refine ⟨x.toNat, List.mem_filter.2 ⟨List.mem_range.2 (by omega), (hasJ_iff20 l _).2 ?_⟩, by omega⟩
      rw [show ((x.toNat : Nat) : Int) = x by omega]
      exact hx
    · rintro ⟨t, ht, rfl⟩
      exact (hasJ_iff20 l t).1 (List.mem_filter.1 ht).2
theorem code_jumps20 (p : PImg) (k : Int) : ∀ i ∈ codeL p k, isJ20 i = true → 0 ≤ i.a ∧ i.a ≤ 300 := by
  by_cases h : imgOk p = true ∧ 0 ≤ k ∧ k < (p.funcs.length : Int)
  · obtain ⟨f, hf⟩ : ∃ f, p.funcs[k.toNat]? = some f := ⟨_, List.getElem?_eq_getElem (by omega)⟩
    have e : codeL p k = f.code := by
      unfold codeL
      rw [if_pos h, hf]
    rw [e]
    intro i hi _
    have hm : f ∈ p.funcs := List.mem_of_getElem? hf
    have h1 := h.1
    unfold imgOk at h1
    simp only [Bool.and_eq_true, List.all_eq_true] at h1
    have h2 := h1.2.2.2.1 f hm
    unfold funOk at h2
    simp only [Bool.and_eq_true, List.all_eq_true] at h2
    have h3 := h2.2.2.2.2.2.2.1 i hi
    unfold insOk inB at h3
    simp only [Bool.and_eq_true, decide_eq_true_eq] at h3
    omega
  · rw [codeL_no h]
    intro i hi
    cases hi
theorem jumps_of20 (p : PImg) (k : Int) : Lib.compact (sortJ (tellJ (codeL p k))) = jumpsL p k := by
  rw [jumps_sorted20 _ (code_jumps20 p k)]
  by_cases h : imgOk p = true ∧ 0 ≤ k ∧ k < (p.funcs.length : Int)
  · obtain ⟨f, hf⟩ : ∃ f, p.funcs[k.toNat]? = some f := ⟨_, List.getElem?_eq_getElem (by omega)⟩
    unfold codeL jumpsL codeIn
    rw [if_pos h, if_pos h, hf]
  · rw [codeL_no h, jumpsL_no h]
    unfold jumpsN
    have e : (List.range 301).filter (hasJ []) = [] := List.filter_eq_nil_iff.2 fun x _ hx => by cases hx
    rw [e]
    rfl
theorem jump_few20 (p : PImg) (k : Int) : (codeL p k).length ≤ 300 := by
  by_cases h : imgOk p = true ∧ 0 ≤ k ∧ k < (p.funcs.length : Int)
  · obtain ⟨f, hf⟩ : ∃ f, p.funcs[k.toNat]? = some f := ⟨_, List.getElem?_eq_getElem (by omega)⟩
    have e : codeL p k = f.code := by
      unfold codeL
      rw [if_pos h, hf]
    rw [e]
    have hm : f ∈ p.funcs := List.mem_of_getElem? hf
    have h1 := h.1
    unfold imgOk at h1
    simp only [Bool.and_eq_true, List.all_eq_true] at h1
    have h2 := h1.2.2.2.1 f hm
    unfold funOk inB at h2
    simp only [Bool.and_eq_true, decide_eq_true_eq] at h2
    omega
  · rw [codeL_no h]
    exact Nat.zero_le _
end Go.Proofs.Ytkmmojpfcklocaa
namespace Go.Proofs.Ytkmmojpfcklocaa
open Go.RowKit Go.Sort
set_option linter.unusedVariables false
theorem flat_intC20 : ∀ (l : List Int), l.flatMap intC = l.map (Value.int .i64)
  | [] => rfl
  | x :: l => by
    rw [List.flatMap_cons, List.map_cons, flat_intC20 l]
    rfl
theorem ownsRow_grow20 {w : World} {B : Nat} {e : TypeId} {size : Nat} {v : Value} {n : Nat} {xs : List Value} (os : Array Obj) (h : w.ownsRow B e size v n xs) : (grow w os).ownsRow B e size v n xs := by
  obtain ⟨h1, h2⟩ := h
  refine ⟨h1, ?_⟩
  rcases h2 with h2 | ⟨g, cap, cur, e2, hb, hg, rest⟩
  · exact .inl h2
  · refine .inr ⟨g, cap, cur, e2, hb, ?_, rest⟩
    have hlt : g < w.heap.size := by
      rcases Nat.lt_or_ge g w.heap.size with h' | h'
      · exact h'
      · rw [Array.getElem?_eq_none h'] at hg
        cases hg
    rw [heap_grow_old _ _ hlt]
    exact hg
theorem below_grow20 {B : Nat} {w0 w : World} (os : Array Obj) (h : Below B w0 w) (hB : B ≤ w.heap.size) : Below B w0 (grow w os) :=
  ⟨h.os, h.tape, h.output, Nat.le_trans h.size (by rw [size_grow]; omega), fun k hk => by
    rw [heap_grow_old _ _ (by omega)]
    exact h.block k hk⟩
theorem own_at_row20 {w : World} {B : Nat} {v : Value} {l : List Int} (h : OwnI w B v l) (hv : v ≠ .slice none 0 0) :
    ∃ g cap, v = .slice (some ⟨g, 0, none⟩) l.length cap ∧ B ≤ g ∧ g < w.heap.size ∧ l.length ≤ cap ∧ Holds (Value.int .i64) w g 0 l.toArray := by
  unfold OwnI at h
  rw [flat_intC20] at h
  obtain ⟨g, cap, e, h1, h2, h3, _, _, h4⟩ := Lib.holds_of_ownsRow h hv
  exact ⟨g, cap, e, h1, h2, h3, h4⟩
theorem own_sorted20 {w : World} {B g cap q : Nat} {l : List Int} {os : Array Obj} (h : OwnI w B (.slice (some ⟨g, 0, none⟩) l.length cap) l) (hg : g < w.heap.size) (hh : Holds (Value.int .i64) w g 0 l.toArray) :
    OwnI (grow (putRow (Value.int .i64) (Sort.ahead w q) g 0 (sortJ l).toArray) os) B (.slice (some ⟨g, 0, none⟩) (sortJ l).length cap) (sortJ l) ∧
    Holds (Value.int .i64) (grow (putRow (Value.int .i64) (Sort.ahead w q) g 0 (sortJ l).toArray) os) g 0 (sortJ l).toArray ∧
    g < (grow (putRow (Value.int .i64) (Sort.ahead w q) g 0 (sortJ l).toArray) os).heap.size := by
  refine ⟨?_, ?_, ?_⟩
  · unfold OwnI at h ⊢
    rw [flat_intC20] at h ⊢
    have h2 := Lib.ownsRow_putRow (q := q) (k := l.length) (ys := sortJ l) h (sortJ_len l) (Nat.le_refl _)
    rw [List.take_of_length_le (by rw [sortJ_len]; exact Nat.le_refl _)] at h2
    rw [sortJ_len]
    exact ownsRow_grow20 os h2
  · exact holds_grow _ _ os g 0 _ (by simpa [putRow, mapBlock, Sort.ahead] using hg) (holds_putRow _ _ g 0 _ _ (holds_ahead _ w q g 0 _ hh) (by simp [sortJ_len]))
  · rw [size_grow]
    simp [putRow, mapBlock, Sort.ahead]
    omega
theorem below_sorted20 {w w0 : World} {B g q : Nat} {d : Array Int} {os : Array Obj} (h : Below B w0 w) (hg : B ≤ g) (hw : B ≤ w.heap.size) : Below B w0 (grow (putRow (Value.int .i64) (Sort.ahead w q) g 0 d) os) :=
  below_grow20 os (Lib.below_putRow h hg) (by simpa [putRow, mapBlock, Sort.ahead] using hw)
theorem own_compact20 {w : World} {B g cap q : Nat} {l : List Int} (h : OwnI w B (.slice (some ⟨g, 0, none⟩) l.length cap) l) :
    OwnI (putRow (Value.int .i64) (Sort.ahead w q) g 0 (Lib.compact l ++ List.replicate (l.length - (Lib.compact l).length) 0).toArray) B (.slice (some ⟨g, 0, none⟩) (Lib.compact l).length cap) (Lib.compact l) := by
  unfold OwnI at h ⊢
  rw [flat_intC20] at h ⊢
  have hle : (Lib.compact l).length ≤ l.length := by
    unfold Lib.compact Lib.compactUpTo
    rw [List.length_map]
    exact Nat.le_trans (List.length_filter_le _ _) (by rw [List.length_range]; exact Nat.le_refl _)
  have h2 := Lib.ownsRow_putRow (q := q) (k := (Lib.compact l).length) (ys := Lib.compact l ++ List.replicate (l.length - (Lib.compact l).length) 0) h (by rw [List.length_append, List.length_replicate]; omega) hle
  rw [List.take_left] at h2
  exact h2
theorem own_snoc20 {w : World} {B : Nat} {v : Value} {n : Nat} {xs : List Value} (h : w.ownsRow B 3 1 v (n + 1) xs) : v ≠ .slice none 0 0 := by
  rcases h.2 with ⟨_, h0⟩ | ⟨g, cap, cur, e2, _⟩
  · omega
  · rw [e2]
    intro e
    cases e
end Go.Proofs.Ytkmmojpfcklocaa
namespace Go.Proofs
open Go.Shelf
def Try.lays189_ren : Go.Shelf.Ren := ⟨fun | 189 => 21 | 125 => 36 | 257 => 35 | 128 => 65 | 129 => 66 | 294 => 56 | 295 => 57 | 296 => 58 | 297 => 59 | 298 => 60 | 299 => 61 | 216 => 62 | 300 => 63 | 301 => 64 | 328 => 82 | 329 => 83 | 330 => 84 | 331 => 85 | 332 => 86 | 215 => 87 | 343 => 93 | n => n, fun | 28 => 27 | 3 => 3 | 46 => 78 | 0 => 0 | 51 => 111 | 53 => 67 | 4 => 4 | 183 => 103 | 182 => 102 | 131 => 108 | 5 => 5 | 9 => 9 | 218 => 134 | 222 => 138 | 228 => 146 | 229 => 147 | n => n, fun | n => n⟩
theorem Try.lays189 : Go.Proofs.Lays.n189 Try.prog Try.lays189_ren := {
  mixed := by kernel_rfl
  f125 := Try.func36.trans (congrArg some (by kernel_rfl))
  f128 := Try.func65.trans (congrArg some (by kernel_rfl))
  f129 := Try.func66.trans (congrArg some (by kernel_rfl))
  f189 := Try.func21.trans (congrArg some (by kernel_rfl))
  f215 := Try.func87.trans (congrArg some (by kernel_rfl))
  f216 := Try.func62.trans (congrArg some (by kernel_rfl))
  f257 := Try.func35.trans (congrArg some (by kernel_rfl))
  f294 := Try.func56.trans (congrArg some (by kernel_rfl))
  f295 := Try.func57.trans (congrArg some (by kernel_rfl))
  f296 := Try.func58.trans (congrArg some (by kernel_rfl))
  f297 := Try.func59.trans (congrArg some (by kernel_rfl))
  f298 := Try.func60.trans (congrArg some (by kernel_rfl))
  f299 := Try.func61.trans (congrArg some (by kernel_rfl))
  f300 := Try.func63.trans (congrArg some (by kernel_rfl))
  f301 := Try.func64.trans (congrArg some (by kernel_rfl))
  f328 := Try.func82.trans (congrArg some (by kernel_rfl))
  f329 := Try.func83.trans (congrArg some (by kernel_rfl))
  f330 := Try.func84.trans (congrArg some (by kernel_rfl))
  f331 := Try.func85.trans (congrArg some (by kernel_rfl))
  f332 := Try.func86.trans (congrArg some (by kernel_rfl))
  f343 := Try.func93.trans (congrArg some (by kernel_rfl))
  t0 := Try.underlying0
  a0 := Try.isAgg0
  z0 := Try.sizeOf0
  v0 := Try.zeroValue0
  t3 := Try.underlying3
  a3 := Try.isAgg3
  z3 := Try.sizeOf3
  v3 := Try.zeroValue3
  t4 := Try.underlying4
  a4 := Try.isAgg4
  z4 := Try.sizeOf4
  v4 := Try.zeroValue4
  t5 := Try.underlying5
  a5 := Try.isAgg5
  z5 := Try.sizeOf5
  v5 := Try.zeroValue5
  t9 := Try.underlying9
  a9 := Try.isAgg9
  z9 := Try.sizeOf9
  v9 := Try.zeroValue9
  t28 := Try.underlying27
  a28 := Try.isAgg27
  z28 := Try.sizeOf27
  v28 := Try.zeroValue27
  t46 := Try.underlying78
  a46 := Try.isAgg78
  z46 := Try.sizeOf78
  v46 := Try.zeroValue78
  t51 := Try.underlying111
  a51 := Try.isAgg111
  z51 := Try.sizeOf111
  v51 := Try.zeroValue111
  t53 := Try.underlying67
  a53 := Try.isAgg67
  z53 := Try.sizeOf67
  v53 := Try.zeroValue67
  t131 := Try.underlying108
  a131 := Try.isAgg108
  z131 := Try.sizeOf108
  v131 := Try.zeroValue108
  t182 := Try.underlying102
  a182 := Try.isAgg102
  z182 := Try.sizeOf102
  v182 := Try.zeroValue102
  t183 := Try.underlying103
  a183 := Try.isAgg103
  z183 := Try.sizeOf103
  v183 := Try.zeroValue103
  t218 := Try.underlying134
  a218 := Try.isAgg134
  z218 := Try.sizeOf134
  v218 := Try.zeroValue134
  t222 := Try.underlying138
  a222 := Try.isAgg138
  z222 := Try.sizeOf138
  v222 := Try.zeroValue138
  t228 := Try.underlying146
  a228 := Try.isAgg146
  z228 := Try.sizeOf146
  v228 := Try.zeroValue146
  t229 := Try.underlying147
  a229 := Try.isAgg147
  z229 := Try.sizeOf147
  v229 := Try.zeroValue147 }
open Go.Sort Go.RowKit in
theorem Try.slices_Sort_int (blk off cap : Nat) (zs : List Int) (w : World) (hH : Holds (Value.int .i64) w blk off zs.toArray) (hblk : blk < w.heap.size) (hsz : zs.length < 4611686018427387904) :
    Calls Try.prog 21 #[.slice (some ⟨blk, off, none⟩) zs.length cap] w fun e w' =>
      e = .returned (.tuple #[]) ∧ ∃ n os, w' = grow (putRow (Value.int .i64) (Sort.ahead w n) blk off (zs.mergeSort fun x y => decide (x ≤ y)).toArray) os := Any.slices_Sort_int Try.lays189 blk off cap zs w hH hblk hsz
def Try.laysNm220_ren : Go.Shelf.Ren := ⟨fun | 20 => 22 | n => n, fun | 22 => 27 | 3 => 3 | 4 => 4 | 0 => 0 | n => n, fun | n => n⟩
theorem Try.laysNm220 : Go.Proofs.Lays2.n20 Try.prog Try.laysNm220_ren := {
  mixed := by kernel_rfl
  f20 := Try.func22.trans (congrArg some (by kernel_rfl))
  t0 := Try.underlying0
  a0 := Try.isAgg0
  z0 := Try.sizeOf0
  v0 := Try.zeroValue0
  t3 := Try.underlying3
  a3 := Try.isAgg3
  z3 := Try.sizeOf3
  v3 := Try.zeroValue3
  t4 := Try.underlying4
  a4 := Try.isAgg4
  z4 := Try.sizeOf4
  v4 := Try.zeroValue4
  t22 := Try.underlying27
  a22 := Try.isAgg27
  z22 := Try.sizeOf27
  v22 := Try.zeroValue27
  i3 := by kernel_rfl }
open Go.RowKit Go.Lib Go.Sort in
theorem Try.slices_Compact_int (blk off cap : Nat) (zs : List Int) (w : World) (hH : Holds (Value.int .i64) w blk off zs.toArray) (hsz : zs.length ≤ 9223372036854775807) (hcap : zs.length ≤ cap) :
    Calls Try.prog 22 #[.slice (some ⟨blk, off, none⟩) zs.length cap] w fun e w' => e = .returned (.slice (some ⟨blk, off, none⟩) (Lib.compact zs).length cap) ∧ ∃ q, w' = putRow (Value.int .i64) (Sort.ahead w q) blk off (Lib.compact zs ++ List.replicate (zs.length - (Lib.compact zs).length) 0).toArray := Any.slices_Compact_int Try.laysNm220 blk off cap zs w hH hsz hcap
end Go.Proofs
