/-
  The law's own helpers that count how much came in: rows of an image, functions, constants, an image.
-/
import Derived.Test.YtojmmmfboahkgaaDoorRows
import Derived.Test.YtojmmmfboahkgaaDoorImg13B
import Derived.Test.YtojmmmfboahkgaaDoorInfo
namespace Go.Proofs.YtojmmmfboahkgaaDoor
open Go.RowKit
set_option linter.unusedVariables false

/-- what is left of a count: too little, or all that was counted is few -/
def LeftFew (r left n : Int) : Prop := r = -1 ∨ (0 ≤ r ∧ r ≤ left ∧ n ≤ left)
def funFew (p : PFun) (left : Int) : Prop := (p.caps.length : Int) ≤ left ∧ (p.code.length : Int) ≤ left ∧ (p.hnds.length : Int) ≤ left
def imgFew (p : PImg) (left : Int) : Prop := (p.funcs.length : Int) ≤ left ∧ (∀ q ∈ p.funcs, funFew q left) ∧ (p.consts.length : Int) ≤ left ∧ ∀ q ∈ p.consts, (q.text.size : Int) ≤ left

set_option maxHeartbeats 400000 in
set_option maxRecDepth 100000 in
theorem szCapS_any (v : Value) (k n : Nat) (xs : List Value) (left : Int) (w : World) (hv : ArgFlat w v k n xs) (h0 : 0 ≤ left) (h1 : left ≤ 1048576) :
    Calls Tryd.prog 42 #[v, .int .i64 left] w fun e w' => ∃ r : Int, e = .returned (.int .i64 r) ∧ LeftFew r left n ∧ w = w' := by
  obtain ⟨x, c, rfl, hm, _, _⟩ := hv
  unfold maxLen at hm
  by_cases h : left < n
  · have hlt : left - (n : Int) < 0 := by omega
    go_enter Tryd.func42, Tryd.ntmps42
    go_wp2
    go_ret
    exact ⟨_, rfl, .inl rfl, rfl⟩
  · have hlt : ¬ left - (n : Int) < 0 := by omega
    go_enter Tryd.func42, Tryd.ntmps42
    go_wp2
    go_ret
    exact ⟨_, rfl, .inr ⟨by omega, by omega, by omega⟩, rfl⟩

set_option maxHeartbeats 400000 in
set_option maxRecDepth 100000 in
theorem szInsS_any (v : Value) (k n : Nat) (xs : List Value) (left : Int) (w : World) (hv : ArgFlat w v k n xs) (h0 : 0 ≤ left) (h1 : left ≤ 1048576) :
    Calls Tryd.prog 43 #[v, .int .i64 left] w fun e w' => ∃ r : Int, e = .returned (.int .i64 r) ∧ LeftFew r left n ∧ w = w' := by
  obtain ⟨x, c, rfl, hm, _, _⟩ := hv
  unfold maxLen at hm
  by_cases h : left < n
  · have hlt : left - (n : Int) < 0 := by omega
    go_enter Tryd.func43, Tryd.ntmps43
    go_wp2
    go_ret
    exact ⟨_, rfl, .inl rfl, rfl⟩
  · have hlt : ¬ left - (n : Int) < 0 := by omega
    go_enter Tryd.func43, Tryd.ntmps43
    go_wp2
    go_ret
    exact ⟨_, rfl, .inr ⟨by omega, by omega, by omega⟩, rfl⟩

set_option maxHeartbeats 400000 in
set_option maxRecDepth 100000 in
theorem szHandlerS_any (v : Value) (k n : Nat) (xs : List Value) (left : Int) (w : World) (hv : ArgFlat w v k n xs) (h0 : 0 ≤ left) (h1 : left ≤ 1048576) :
    Calls Tryd.prog 44 #[v, .int .i64 left] w fun e w' => ∃ r : Int, e = .returned (.int .i64 r) ∧ LeftFew r left n ∧ w = w' := by
  obtain ⟨x, c, rfl, hm, _, _⟩ := hv
  unfold maxLen at hm
  by_cases h : left < n
  · have hlt : left - (n : Int) < 0 := by omega
    go_enter Tryd.func44, Tryd.ntmps44
    go_wp2
    go_ret
    exact ⟨_, rfl, .inl rfl, rfl⟩
  · have hlt : ¬ left - (n : Int) < 0 := by omega
    go_enter Tryd.func44, Tryd.ntmps44
    go_wp2
    go_ret
    exact ⟨_, rfl, .inr ⟨by omega, by omega, by omega⟩, rfl⟩

set_option maxHeartbeats 400000 in
set_option maxRecDepth 100000 in
theorem szConst_any (p : PCon) (left : Int) (w : World) (hp : p.text.size ≤ maxLen) (h0 : 0 ≤ left) (h1 : left ≤ 1048576) :
    Calls Tryd.prog 31 #[.agg #[.int .i64 p.kind, .int .u64 (p.num : Int), .string p.text], .int .i64 left] w fun e w' => ∃ r : Int, e = .returned (.int .i64 r) ∧ LeftFew r left p.text.size ∧ Below w.heap.size w w' := by
  obtain ⟨s, hs⟩ : ∃ s, p.text = s := ⟨_, rfl⟩
  rw [hs] at hp ⊢
  clear hs
  unfold maxLen at hp
  by_cases h : left < s.size
  · have hlt : left - (s.size : Int) < 0 := by omega
    go_enter Tryd.func31, Tryd.ntmps31
    go_wp2
    go_ret
    exact ⟨_, rfl, .inl rfl, (Below.refl _ _).alloc (Nat.le_refl _) _⟩
  · have hlt : ¬ left - (s.size : Int) < 0 := by omega
    go_enter Tryd.func31, Tryd.ntmps31
    go_wp2
    go_ret
    exact ⟨_, rfl, .inr ⟨by omega, by omega, by omega⟩, (Below.refl _ _).alloc (Nat.le_refl _) _⟩

set_option maxHeartbeats 1000000 in
set_option maxRecDepth 100000 in
theorem szConstS_any (v : Value) (l : List PCon) (left : Int) (w : World) (hv : ArgFlat w v 3 l.length (l.flatMap conC)) (hl : ∀ p ∈ l, conW p) (h0 : 0 ≤ left) (h1 : left ≤ 1048576) :
    Calls Tryd.prog 18 #[v, .int .i64 left] w fun e w' => ∃ r : Int, e = .returned (.int .i64 r) ∧ (r = -1 ∨ (0 ≤ r ∧ r ≤ left ∧ (l.length : Int) ≤ left ∧ ∀ p ∈ l, (p.text.size : Int) ≤ left)) ∧ Below w.heap.size w w' := by
  obtain ⟨x, c, rfl, hm, hc⟩ := hv.opened conC_len
  clear hv
  obtain ⟨n, hn⟩ : ∃ n, l.length = n := ⟨_, rfl⟩
  have HN : Hid (l.length = n) := hn
  rw [hn] at hm hc ⊢
  clear hn
  unfold maxLen at hm
  by_cases h : left < n
  · have hlt : left - (n : Int) < 0 := by omega
    clear hc hl
    go_enter Tryd.func18, Tryd.ntmps18
    go_wp2
    go_ret
    exact ⟨_, rfl, .inl rfl, Below.refl _ _⟩
  · have hlt : ¬ left - (n : Int) < 0 := by omega
    have HC : Hid (0 < n → ∃ b o, x = some ⟨b, o, none⟩ ∧ b < w.heap.size ∧ ∀ j p, l[j]? = some p → ∀ c u, (conC p)[c]? = some u → w.cell? ⟨b, o + j * 3 + c, none⟩ = some u) := hc
    have HL : Hid (∀ p ∈ l, conW p) := hl
    clear hc hl
    go_enter Tryd.func18, Tryd.ntmps18
    go_wp2
    go_loopw [1, 5] (fun y i wr => ∃ (k : Nat) (L : Int), y = .int .i64 L ∧ i = .int .i64 k ∧ k ≤ n ∧ 0 ≤ L ∧ L ≤ left ∧ Hid (∀ j p, j < k → l[j]? = some p → (p.text.size : Int) ≤ left) ∧ Below w.heap.size w wr) (fun _ i _ => n - (intOf i).toNat)
    case atStart => exact ⟨0, _, rfl, rfl, Nat.zero_le _, by omega, by omega, fun j p hj _ => absurd hj (Nat.not_lt_zero _), Below.refl _ _⟩
    case round =>
      obtain ⟨k, L, rfl, rfl, hk, hL0, hL1, HF, hbel⟩ := hrel
      by_cases hkn : k < n
      · obtain ⟨b, o, rfl, hb, hcell⟩ := HC.out (by omega)
        obtain ⟨p, hp⟩ : ∃ p, l[k]? = some p := ⟨_, List.getElem?_eq_getElem (by have := HN.out; omega)⟩
        have c0 : wr.cell? ⟨b, o + k * 3, none⟩ = some (.int .i64 p.kind) := (hbel.cell hb).trans (hcell k p hp 0 _ rfl)
        have c1 : wr.cell? ⟨b, o + k * 3 + 1, none⟩ = some (.int .u64 (p.num : Int)) := (hbel.cell hb).trans (hcell k p hp 1 _ rfl)
        have c2 : wr.cell? ⟨b, o + k * 3 + 2, none⟩ = some (.string p.text) := (hbel.cell hb).trans (hcell k p hp 2 _ rfl)
        have cN := szConst_any p L wr (HL.out p (List.mem_iff_getElem?.2 ⟨_, hp⟩)).2.2 hL0 (by omega)
        have HP : Hid (l[k]? = some p) := hp
        clear hcell HC hp
        have hki : (k : Int) < (n : Int) := by omega
        have hk0 : (0 : Int) ≤ (k : Int) := by omega
        go_wp2_with fail
        refine cN.mono ?_
        rintro e w1 ⟨r, rfl, hr, b1⟩
        rcases hr with rfl | ⟨r0, r1, r2⟩
        · go_wp2
          go_ret
          exact ⟨_, rfl, .inl rfl, chain hbel b1⟩
        · have hneg : ¬ r < 0 := by omega
          go_wp2
          go_roundw
          case rel =>
            refine ⟨k + 1, r, rfl, by go_num, by omega, r0, by omega, fun j q hj hq => ?_, chain hbel b1⟩
            rcases Nat.lt_or_ge j k with h' | h'
            · exact HF.out j q h' hq
            · have e : j = k := by omega
              subst e
              rw [HP.out] at hq
              injection hq with hq
              subst hq
              omega
          case measure => simp [intOf]; omega
      · go_wp2
        go_ret
        refine ⟨_, rfl, .inr ⟨by omega, by omega, by omega, fun p hp => ?_⟩, hbel⟩
        obtain ⟨j, hj⟩ := List.mem_iff_getElem?.1 hp
        have hjl : j < l.length := (List.getElem?_eq_some_iff.1 hj).1
        have := HN.out
        exact HF.out j p (by omega) hj

set_option maxHeartbeats 1000000 in
set_option maxRecDepth 100000 in
theorem szFunc_any (k0 k1 cv kv hv : Value) (p : PFun) (left : Int) (w : World) (h2 : ArgFlat w cv 2 p.caps.length (p.caps.flatMap capC)) (h3 : ArgFlat w kv 3 p.code.length (p.code.flatMap insC)) (h4 : ArgFlat w hv 3 p.hnds.length (p.hnds.flatMap hndC)) (h0 : 0 ≤ left) (h1 : left ≤ 1048576) :
    Calls Tryd.prog 30 #[.agg #[k0, k1, cv, kv, hv], .int .i64 left] w fun e w' => ∃ r : Int, e = .returned (.int .i64 r) ∧ (r = -1 ∨ (0 ≤ r ∧ r ≤ left ∧ funFew p left)) ∧ Below w.heap.size w w' := by
  have b0 : Below w.heap.size w (w.alloc (.cells #[k0, k1, cv, kv, hv] 75)) := (Below.refl _ _).alloc (Nat.le_refl _) _
  have d2 := h2.below b0
  have d3 := h3.below b0
  have d4 := h4.below b0
  clear h2 h3 h4
  go_enter Tryd.func30, Tryd.ntmps30
  go_wp2_with fail
  refine (szCapS_any cv _ _ _ left _ d2 h0 h1).mono ?_
  rintro e w1 ⟨r, rfl, hr, rfl⟩
  rcases hr with rfl | ⟨r0, r1, r2⟩
  · go_wp2
    go_ret
    exact ⟨_, rfl, .inl rfl, b0⟩
  have hneg : ¬ r < 0 := by omega
  go_wp2_with fail
  refine (szInsS_any kv _ _ _ r _ d3 r0 (by omega)).mono ?_
  rintro e w1 ⟨q, rfl, hq, rfl⟩
  rcases hq with rfl | ⟨q0, q1, q2⟩
  · go_wp2
    go_ret
    exact ⟨_, rfl, .inl rfl, b0⟩
  have hneg2 : ¬ q < 0 := by omega
  go_wp2_with fail
  refine (szHandlerS_any hv _ _ _ q _ d4 q0 (by omega)).mono ?_
  rintro e w1 ⟨t, rfl, ht, rfl⟩
  rcases ht with rfl | ⟨t0, t1, t2⟩
  · go_wp2
    go_ret
    exact ⟨_, rfl, .inl rfl, b0⟩
  have hneg3 : ¬ t < 0 := by omega
  go_wp2
  go_ret
  exact ⟨_, rfl, .inr ⟨t0, by omega, r2, by omega, by omega⟩, b0⟩

theorem funFew.mono {p : PFun} {a b : Int} (h : funFew p a) (hab : a ≤ b) : funFew p b := ⟨Int.le_trans h.1 hab, Int.le_trans h.2.1 hab, Int.le_trans h.2.2 hab⟩

set_option maxHeartbeats 1000000 in
set_option maxRecDepth 100000 in
theorem szFuncS_any (v : Value) (l : List PFun) (left : Int) (w : World) (hv : ArgFuns w v l) (h0 : 0 ≤ left) (h1 : left ≤ 1048576) :
    Calls Tryd.prog 17 #[v, .int .i64 left] w fun e w' => ∃ r : Int, e = .returned (.int .i64 r) ∧ (r = -1 ∨ (0 ≤ r ∧ r ≤ left ∧ (l.length : Int) ≤ left ∧ ∀ p ∈ l, funFew p left)) ∧ Below w.heap.size w w' := by
  obtain ⟨x, c, rfl, hm, hc⟩ := hv
  obtain ⟨n, hn⟩ : ∃ n, l.length = n := ⟨_, rfl⟩
  rw [hn] at hm hc ⊢
  have HN : Hid (l.length = n) := hn
  clear hn
  unfold maxLen at hm
  by_cases h : left < n
  · have hlt : left - (n : Int) < 0 := by omega
    clear hc
    go_enter Tryd.func17, Tryd.ntmps17
    go_wp2
    go_ret
    exact ⟨_, rfl, .inl rfl, Below.refl _ _⟩
  · have hlt : ¬ left - (n : Int) < 0 := by omega
    have HC : Hid (0 < n → ∃ b o, x = some ⟨b, o, none⟩ ∧ b < w.heap.size ∧ ∀ j p, l[j]? = some p → ∃ cv kv hv, FunAt w b (o + j * 5) p cv kv hv) := hc
    clear hc
    go_enter Tryd.func17, Tryd.ntmps17
    go_wp2
    go_loopw [1, 5] (fun y i wr => ∃ (k : Nat) (L : Int), y = .int .i64 L ∧ i = .int .i64 k ∧ k ≤ n ∧ 0 ≤ L ∧ L ≤ left ∧ Hid (∀ j p, j < k → l[j]? = some p → funFew p left) ∧ Below w.heap.size w wr) (fun _ i _ => n - (intOf i).toNat)
    case atStart => exact ⟨0, _, rfl, rfl, Nat.zero_le _, by omega, by omega, fun j p hj _ => absurd hj (Nat.not_lt_zero _), Below.refl _ _⟩
    case round =>
      obtain ⟨k, L, rfl, rfl, hk, hL0, hL1, HF, hbel⟩ := hrel
      by_cases hkn : k < n
      · obtain ⟨b, o, rfl, _, hcell⟩ := HC.out (by omega)
        obtain ⟨p, hp⟩ : ∃ p, l[k]? = some p := ⟨_, List.getElem?_eq_getElem (by have := HN.out; omega)⟩
        obtain ⟨cv, kv, hv, hA⟩ := hcell k p hp
        have hA' := hA.below hbel
        have c0 := hA'.c0
        have c1 := hA'.c1
        have c2 := hA'.c2
        have c3 := hA'.c3
        have c4 := hA'.c4
        have cN := fun k0 k1 => szFunc_any k0 k1 cv kv hv p L wr hA'.caps hA'.code hA'.hnds hL0 (by omega)
        have HP : Hid (l[k]? = some p) := hp
        clear hA hA' hcell HC hp
        have hki : (k : Int) < (n : Int) := by omega
        have hk0 : (0 : Int) ≤ (k : Int) := by omega
        go_wp2_with fail
        refine (cN _ _).mono ?_
        rintro e w1 ⟨r, rfl, hr, b1⟩
        rcases hr with rfl | ⟨r0, r1, r2⟩
        · go_wp2
          go_ret
          exact ⟨_, rfl, .inl rfl, chain hbel b1⟩
        · have hneg : ¬ r < 0 := by omega
          go_wp2
          go_roundw
          case rel =>
            refine ⟨k + 1, r, rfl, by go_num, by omega, r0, by omega, fun j q hj hq => ?_, chain hbel b1⟩
            rcases Nat.lt_or_ge j k with h' | h'
            · exact HF.out j q h' hq
            · have e : j = k := by omega
              subst e
              rw [HP.out] at hq
              injection hq with hq
              subst hq
              exact r2.mono hL1
          case measure => simp [intOf]; omega
      · go_wp2
        go_ret
        refine ⟨_, rfl, .inr ⟨by omega, by omega, by omega, fun p hp => ?_⟩, hbel⟩
        obtain ⟨j, hj⟩ := List.mem_iff_getElem?.1 hp
        have hjl : j < l.length := (List.getElem?_eq_some_iff.1 hj).1
        have := HN.out
        exact HF.out j p (by omega) hj

set_option maxHeartbeats 1000000 in
set_option maxRecDepth 100000 in
theorem szImage_any (fv cv : Value) (p : PImg) (left : Int) (w : World) (hv : ArgImg w fv cv p) (hw : imgW p) (h0 : 0 ≤ left) (h1 : left ≤ 1048576) :
    Calls Tryd.prog 8 #[.agg #[fv, cv], .int .i64 left] w fun e w' => ∃ r : Int, e = .returned (.int .i64 r) ∧ (r = -1 ∨ (0 ≤ r ∧ r ≤ left ∧ imgFew p left)) ∧ Below w.heap.size w w' := by
  obtain ⟨hF, hC⟩ := hv
  have b0 : Below w.heap.size w (w.alloc (.cells #[fv, cv] 31)) := (Below.refl _ _).alloc (Nat.le_refl _) _
  have HL : Hid (∀ x ∈ p.consts, conW x) := hw.consts
  have cF := szFuncS_any fv p.funcs left _ (hF.below b0) h0 h1
  go_enter Tryd.func8, Tryd.ntmps8
  go_wp2_with fail
  refine cF.mono ?_
  rintro e w1 ⟨r, rfl, hr, b1⟩
  have bb1 := chain b0 b1
  have q1 := new_cell b1 1 cv rfl
  rcases hr with rfl | ⟨r0, r1, r2, r3⟩
  · go_wp2
    go_ret
    exact ⟨_, rfl, .inl rfl, bb1⟩
  have hneg : ¬ r < 0 := by omega
  have cC := szConstS_any cv p.consts r w1 (hC.below bb1) HL.out r0 (by omega)
  clear b1 cF hF hC
  go_wp2_with fail
  refine cC.mono ?_
  rintro e w2 ⟨q, rfl, hq, b2⟩
  have bb2 := chain bb1 b2
  rcases hq with rfl | ⟨q0, q1, q2, q3⟩
  · go_wp2
    go_ret
    exact ⟨_, rfl, .inl rfl, bb2⟩
  have hneg2 : ¬ q < 0 := by omega
  go_wp2
  go_ret
  exact ⟨_, rfl, .inr ⟨q0, by omega, r2, r3, by omega, fun x hx => by have := q3 x hx; omega⟩, bb2⟩

end Go.Proofs.YtojmmmfboahkgaaDoor
