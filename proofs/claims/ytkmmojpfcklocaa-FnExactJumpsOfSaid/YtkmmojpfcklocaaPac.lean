/-
  Part 3 of what is proved of drawn right trees.
-/
import Derived.Test.YtkmmojpfcklocaaRows
import Derived.Test.YtkmmojpfcklocaaPaa
import Derived.Laws.OwnMore
import Derived.Handy

namespace Go.Proofs.Ytkmmojpfcklocaa
open Go.RowKit
set_option linter.unusedVariables false
theorem info_in {P : Program} {t : TypeId} {z : Value} {n b : Nat} (h : (P.info? t).map (fun i => (i.zero, i.size, i.bytes)) = some (some z, n, b)) : ∃ i, P.info? t = some i ∧ i.zero = some z ∧ i.size = n ∧ i.bytes = b := by
  cases hi : P.info? t with
  | none => rw [hi] at h; cases h
  | some i =>
    rw [hi] at h
    simp only [Option.map_some, Option.some.injEq, Prod.mk.injEq] at h
    exact ⟨i, rfl, h.1, h.2.1, h.2.2⟩
def layL (xs : List Value) (o : Nat) : List Value → List Value
  | [] => xs
  | v :: r => layL (xs.set o v) (o + 1) r
def layW (w : World) (g o : Nat) : List Value → World
  | [] => w
  | v :: r => layW (w.setCell ⟨g, o, none⟩ v) g (o + 1) r
theorem layL_other : ∀ (vs xs : List Value) (o j : Nat), (j < o ∨ o + vs.length ≤ j) → (layL xs o vs)[j]? = xs[j]?
  | [], xs, o, j, h => rfl
  | v :: r, xs, o, j, h => by
    rw [List.length_cons] at h
    rw [layL, layL_other r _ _ _ (by omega), List.getElem?_set_ne (by omega)]
theorem layL_here : ∀ (vs xs : List Value) (o c : Nat) (u : Value), vs[c]? = some u → o + vs.length ≤ xs.length → (layL xs o vs)[o + c]? = some u
  | [], xs, o, c, u, h, hl => by simp at h
  | v :: r, xs, o, c, u, h, hl => by
    rw [List.length_cons] at hl
    rw [layL]
    match c, h with
    | 0, h =>
      simp at h
      subst h
      rw [layL_other r _ _ _ (by omega), Nat.add_zero, List.getElem?_set_self (by omega)]
    | c + 1, h =>
      rw [List.getElem?_cons_succ] at h
      have := layL_here r (xs.set o v) (o + 1) c u h (by rw [List.length_set]; omega)
      rw [← this]
      congr 1
      omega
theorem layW_own {H : Nat} {e : TypeId} {size g n c : Nat} : ∀ (vs xs : List Value) (w : World) (o : Nat), w.ownsRow H e size (.slice (some ⟨g, 0, none⟩) n c) n xs → (layW w g o vs).ownsRow H e size (.slice (some ⟨g, 0, none⟩) n c) n (layL xs o vs)
  | [], xs, w, o, h => h
  | v :: r, xs, w, o, h => layW_own r _ _ _ (h.stored o v).1
theorem layW_below {w0 : World} {B g : Nat} (hg : B ≤ g) : ∀ (vs : List Value) (w : World) (o : Nat), Below B w0 w → Below B w0 (layW w g o vs)
  | [], w, o, h => h
  | v :: r, w, o, h => layW_below hg r _ _ (h.setCell (p := ⟨g, o, none⟩) hg v)
theorem layW_row {B g : Nat} {e : TypeId} {v : Value} {k n : Nat} {xs : List Value} (hg : g < B) : ∀ (vs : List Value) (w : World) (o : Nat), w.ownsRow B e k v n xs → (layW w g o vs).ownsRow B e k v n xs
  | [], w, o, h => h
  | u :: r, w, o, h => layW_row hg r _ _ (ownsRow_setCell_below h (a := ⟨g, o, none⟩) hg u)
theorem layW_size (g : Nat) : ∀ (vs : List Value) (w : World) (o : Nat), (layW w g o vs).heap.size = w.heap.size
  | [], w, o => rfl
  | v :: r, w, o => by rw [layW, layW_size g r]; simp
theorem row_keep {w w' : World} {B : Nat} {e : TypeId} {size : Nat} {v : Value} {n : Nat} {xs : List Value} (h : w.ownsRow B e size v n xs) (hb : Below w.heap.size w w') : w'.ownsRow B e size v n xs :=
  h.kept (row := none) ⟨hb.os, hb.tape, hb.output, hb.size, fun k hk _ => hb.block k hk⟩ (by cases h2 : v.ownBlock <;> simp)
theorem row_low {w : World} {B B' : Nat} {e : TypeId} {size : Nat} {v : Value} {n : Nat} {xs : List Value} (h : w.ownsRow B e size v n xs) (hb : B' ≤ B) : w.ownsRow B' e size v n xs := by
  obtain ⟨e1, e2⟩ := h
  refine ⟨e1, e2.imp id ?_⟩
  rintro ⟨g, cap, cur, h1, h2, h3⟩
  exact ⟨g, cap, cur, h1, Nat.le_trans hb h2, h3⟩
theorem row_slice {w : World} {B : Nat} {e : TypeId} {size : Nat} {v : Value} {n : Nat} {xs : List Value} (h : w.ownsRow B e size v n xs) : ∃ x c, v = .slice x n c := by
  obtain ⟨_, ⟨rfl, rfl⟩ | ⟨g, cap, cur, rfl, _⟩⟩ := h
  · exact ⟨_, _, rfl⟩
  · exact ⟨_, _, rfl⟩
theorem row_cell {w : World} {H : Nat} {e : TypeId} {size g n c : Nat} {xs : List Value} (h : w.ownsRow H e size (.slice (some ⟨g, 0, none⟩) n c) n xs) (j : Nat) (hj : j < n * size) : (∃ u, w.cell? ⟨g, j, none⟩ = some u) ∧ w.frozen? ⟨g, j, none⟩ = false :=
  ⟨⟨_, (h.cellAt j hj).trans (List.getElem?_eq_getElem (by rw [h.1]; exact hj))⟩, h.frozenAt j⟩
theorem flat_ext {α : Type} {f : α → List Value} {k : Nat} (hk : ∀ p, (f p).length = k) (hk0 : 0 < k) (l : List α) (xs : List Value) (hl : xs.length = l.length * k) (h : ∀ j p c u, l[j]? = some p → (f p)[c]? = some u → xs[j * k + c]? = some u) : xs = l.flatMap f := by
  apply List.ext_getElem?
  intro j
  by_cases hj : j < l.length * k
  · have hq : j / k < l.length := Nat.div_lt_of_lt_mul (by rw [Nat.mul_comm]; exact hj)
    have hr : j % k < k := Nat.mod_lt _ hk0
    have hd : j / k * k + j % k = j := by rw [Nat.mul_comm]; exact Nat.div_add_mod j k
    have e1 : l[j / k]? = some l[j / k] := List.getElem?_eq_getElem hq
    have e2 : (f l[j / k])[j % k]? = some ((f l[j / k])[j % k]'(by rw [hk]; exact hr)) := List.getElem?_eq_getElem (by rw [hk]; exact hr)
    have a := h _ _ _ _ e1 e2
    have b := flat_at hk l _ _ _ _ e1 e2
    rw [hd] at a b
    rw [a, b]
  · rw [List.getElem?_eq_none (by omega), List.getElem?_eq_none (by rw [flat_len hk]; omega)]
set_option maxHeartbeats 400000 in
set_option maxRecDepth 100000 in
theorem toIns_any (p : PIns) (w : World) :
    Calls Try.prog 72 #[.agg #[.int .i64 p.op, .int .i64 p.a, .int .i64 p.b]] w fun e w' => e = .returned (.agg #[.int .i64 p.op, .int .i64 p.a, .int .i64 p.b]) ∧ Below w.heap.size w w' := by
  go_enter Try.func72, Try.ntmps72
  go_wp2
  go_returns
  exact ⟨rfl, by go_grown⟩
theorem Try.infoIns13 : (Try.prog.info? 49).map (fun i => (i.zero, i.size, i.bytes)) = some (some (.agg #[.int .i64 0, .int .i64 0, .int .i64 0]), 3, 24) := by kernel_rfl
theorem made_Ins (w : World) (n : Nat) (hn : n ≤ 1048576) : ∃ W1 : World, (Instr.makeSlice 44 (.int .i64 (n : Int)) (.int .i64 (n : Int))).run Try.prog w = .ok (.slice (some ⟨w.heap.size, 0, none⟩) n n) W1 ∧
    (∃ xs, W1.ownsRow w.heap.size 49 3 (.slice (some ⟨w.heap.size, 0, none⟩) n n) n xs) ∧ Below w.heap.size w W1 := by
  obtain ⟨i0, hi, hz0, hz1, hz2⟩ := info_in Try.infoIns13
  obtain ⟨W, h1, h2, h3⟩ := run_make_full (P := Try.prog) w w.heap.size 44 49 i0 _ 3 Try.underlying44 hi hz0 hz1 .i64 .i64 n (by rw [hz2]; omega) (by unfold maxLen; omega) (Nat.le_refl _)
  exact ⟨W, h1, ⟨_, h2⟩, ⟨h3.os, h3.tape, h3.output, h3.size, fun k hk => h3.block k hk (by simp)⟩⟩
set_option maxHeartbeats 1000000 in
set_option maxRecDepth 100000 in
theorem toInsS_any (v : Value) (l : List PIns) (w : World) (hv : ArgFlat w v 3 l.length (l.flatMap insC)) (hfew : l.length ≤ 1048576) :
    Calls Try.prog 48 #[v] w fun e w' => ∃ v', e = .returned v' ∧ w'.ownsRow w.heap.size 49 3 v' l.length (l.flatMap insC) ∧ Below w.heap.size w w' := by
  obtain ⟨x, c, rfl, hm, hc⟩ := hv.opened insC_len
  clear hv
  obtain ⟨n, hn⟩ : ∃ n, l.length = n := ⟨_, rfl⟩
  have HN : Hid (l.length = n) := hn
  have HE : Hid (∀ xs : List Value, xs.length = n * 3 → (∀ q p c u, l[q]? = some p → (insC p)[c]? = some u → xs[q * 3 + c]? = some u) → xs = l.flatMap insC) := fun xs h1 h2 => flat_ext insC_len (by decide) l xs (by rw [hn]; exact h1) h2
  rw [hn] at hm hc hfew ⊢
  clear hn
  unfold maxLen at hm
  obtain ⟨W1, hmk, ⟨xs0, hrow⟩, hbel⟩ := made_Ins w n hfew
  obtain ⟨g, hg⟩ : ∃ g, w.heap.size = g := ⟨_, rfl⟩
  have hge : w.heap.size ≤ g := by omega
  rw [hg] at hmk
  have HR : Hid (W1.ownsRow w.heap.size 49 3 (.slice (some ⟨g, 0, none⟩) n n) n xs0) := by rw [hg]; rw [hg] at hrow; exact hrow
  have HC : Hid (0 < n → ∃ b o, x = some ⟨b, o, none⟩ ∧ b < w.heap.size ∧ ∀ j p, l[j]? = some p → ∀ c u, (insC p)[c]? = some u → w.cell? ⟨b, o + j * 3 + c, none⟩ = some u) := hc
  clear hrow hg hc
  go_enter Try.func48, Try.ntmps48
  go_wp2
  clear hmk
  go_loopw [4] (fun i wr => ∃ (k : Nat) (xs : List Value), i = .int .i64 k ∧ k ≤ n ∧ Hid (wr.ownsRow w.heap.size 49 3 (.slice (some ⟨g, 0, none⟩) n n) n xs) ∧ Below w.heap.size w wr ∧ Hid (∀ q p c u, q < k → l[q]? = some p → (insC p)[c]? = some u → xs[q * 3 + c]? = some u)) (fun i _ => n - (intOf i).toNat)
  case atStart => exact ⟨0, xs0, rfl, Nat.zero_le _, HR, hbel, fun q _ _ _ hq => absurd hq (Nat.not_lt_zero _)⟩
  case round =>
    clear HR hbel
    obtain ⟨k, xs, rfl, hk, HO, hbw, HQ⟩ := hrel
    by_cases hkn : k < n
    · obtain ⟨b, o, rfl, hb, hcell⟩ := HC.out (by omega)
      obtain ⟨p, hp⟩ : ∃ p, l[k]? = some p := ⟨_, List.getElem?_eq_getElem (by have := HN.out; omega)⟩
      have c0 : wr.cell? ⟨b, o + k * 3, none⟩ = some (.int .i64 p.op) := (hbw.cell hb).trans (hcell k p hp 0 _ rfl)
      have c1 : wr.cell? ⟨b, o + k * 3 + 1, none⟩ = some (.int .i64 p.a) := (hbw.cell hb).trans (hcell k p hp 1 _ rfl)
      have c2 : wr.cell? ⟨b, o + k * 3 + 2, none⟩ = some (.int .i64 p.b) := (hbw.cell hb).trans (hcell k p hp 2 _ rfl)
      have cN := toIns_any p wr
      have HP : Hid (l[k]? = some p) := hp
      clear hcell HC hp
      have hki : (k : Int) < (n : Int) := by omega
      have hk0 : (0 : Int) ≤ (k : Int) := by omega
      go_wp2_with fail
      refine cN.mono ?_
      rintro e w1 ⟨rfl, b1⟩
      have HO1 : Hid (w1.ownsRow w.heap.size 49 3 (.slice (some ⟨g, 0, none⟩) n n) n xs) := row_keep HO.out b1
      obtain ⟨⟨u0, o0⟩, f0⟩ := row_cell HO1.out (k * 3) (by omega)
      obtain ⟨⟨u1, o1⟩, f1⟩ := row_cell HO1.out (k * 3 + 1) (by omega)
      obtain ⟨⟨u2, o2⟩, f2⟩ := row_cell HO1.out (k * 3 + 2) (by omega)
      have HW : Hid ((layW w1 g (k * 3) (insC p)).ownsRow w.heap.size 49 3 (.slice (some ⟨g, 0, none⟩) n n) n (layL xs (k * 3) (insC p))
          ∧ Below w.heap.size w (layW w1 g (k * 3) (insC p))
          ∧ ∀ q p' c u, q < k + 1 → l[q]? = some p' → (insC p')[c]? = some u → (layL xs (k * 3) (insC p))[q * 3 + c]? = some u) := by
        have hxl : xs.length = n * 3 := HO.out.1
        refine ⟨layW_own _ _ _ _ HO1.out, layW_below hge _ _ _ (chain hbw b1), fun q p' c u hq hp' hu => ?_⟩
        have hc8 : c < 3 := (List.getElem?_eq_some_iff.1 hu).1
        rcases Nat.lt_or_ge q k with h' | h'
        · rw [layL_other _ _ _ _ (by left; omega)]
          exact HQ.out q p' c u h' hp' hu
        · have e : q = k := by omega
          subst e
          have e2 := HP.out
          rw [hp'] at e2
          injection e2 with e2
          subst e2
          exact layL_here _ _ _ _ _ hu (by rw [hxl]; show q * 3 + 3 ≤ _; omega)
      clear HO HQ HO1 b1 cN HE HP
      unfold insC at HW
      go_wp2
      go_roundw
      case rel => exact ⟨k + 1, _, by go_num, by omega, HW.out.1, HW.out.2.1, HW.out.2.2⟩
      case measure => simp [intOf]; omega
    · have hkn' : k = n := by omega
      subst hkn'
      have hx := HE.out xs HO.out.1 (fun q p c u hp hu => HQ.out q p c u (by have := (List.getElem?_eq_some_iff.1 hp).1; have := HN.out; omega) hp hu)
      subst hx
      go_wp2
      go_ret
      exact ⟨_, rfl, HO.out, hbw⟩
set_option maxHeartbeats 400000 in
set_option maxRecDepth 100000 in
theorem toCap_any (p : PCap) (w : World) :
    Calls Try.prog 71 #[.agg #[.bool p.reg, .int .i64 p.index]] w fun e w' => e = .returned (.agg #[.bool p.reg, .int .i64 p.index]) ∧ Below w.heap.size w w' := by
  go_enter Try.func71, Try.ntmps71
  go_wp2
  go_returns
  exact ⟨rfl, by go_grown⟩
theorem Try.infoCap13 : (Try.prog.info? 90).map (fun i => (i.zero, i.size, i.bytes)) = some (some (.agg #[.bool false, .int .i64 0]), 2, 16) := by kernel_rfl
theorem made_Cap (w : World) (n : Nat) (hn : n ≤ 1048576) : ∃ W1 : World, (Instr.makeSlice 43 (.int .i64 (n : Int)) (.int .i64 (n : Int))).run Try.prog w = .ok (.slice (some ⟨w.heap.size, 0, none⟩) n n) W1 ∧
    (∃ xs, W1.ownsRow w.heap.size 90 2 (.slice (some ⟨w.heap.size, 0, none⟩) n n) n xs) ∧ Below w.heap.size w W1 := by
  obtain ⟨i0, hi, hz0, hz1, hz2⟩ := info_in Try.infoCap13
  obtain ⟨W, h1, h2, h3⟩ := run_make_full (P := Try.prog) w w.heap.size 43 90 i0 _ 2 Try.underlying43 hi hz0 hz1 .i64 .i64 n (by rw [hz2]; omega) (by unfold maxLen; omega) (Nat.le_refl _)
  exact ⟨W, h1, ⟨_, h2⟩, ⟨h3.os, h3.tape, h3.output, h3.size, fun k hk => h3.block k hk (by simp)⟩⟩
set_option maxHeartbeats 1000000 in
set_option maxRecDepth 100000 in
theorem toCapS_any (v : Value) (l : List PCap) (w : World) (hv : ArgFlat w v 2 l.length (l.flatMap capC)) (hfew : l.length ≤ 1048576) :
    Calls Try.prog 47 #[v] w fun e w' => ∃ v', e = .returned v' ∧ w'.ownsRow w.heap.size 90 2 v' l.length (l.flatMap capC) ∧ Below w.heap.size w w' := by
  obtain ⟨x, c, rfl, hm, hc⟩ := hv.opened capC_len
  clear hv
  obtain ⟨n, hn⟩ : ∃ n, l.length = n := ⟨_, rfl⟩
  have HN : Hid (l.length = n) := hn
  have HE : Hid (∀ xs : List Value, xs.length = n * 2 → (∀ q p c u, l[q]? = some p → (capC p)[c]? = some u → xs[q * 2 + c]? = some u) → xs = l.flatMap capC) := fun xs h1 h2 => flat_ext capC_len (by decide) l xs (by rw [hn]; exact h1) h2
  rw [hn] at hm hc hfew ⊢
  clear hn
  unfold maxLen at hm
  obtain ⟨W1, hmk, ⟨xs0, hrow⟩, hbel⟩ := made_Cap w n hfew
  obtain ⟨g, hg⟩ : ∃ g, w.heap.size = g := ⟨_, rfl⟩
  have hge : w.heap.size ≤ g := by omega
  rw [hg] at hmk
  have HR : Hid (W1.ownsRow w.heap.size 90 2 (.slice (some ⟨g, 0, none⟩) n n) n xs0) := by rw [hg]; rw [hg] at hrow; exact hrow
  have HC : Hid (0 < n → ∃ b o, x = some ⟨b, o, none⟩ ∧ b < w.heap.size ∧ ∀ j p, l[j]? = some p → ∀ c u, (capC p)[c]? = some u → w.cell? ⟨b, o + j * 2 + c, none⟩ = some u) := hc
  clear hrow hg hc
  go_enter Try.func47, Try.ntmps47
  go_wp2
  clear hmk
  go_loopw [4] (fun i wr => ∃ (k : Nat) (xs : List Value), i = .int .i64 k ∧ k ≤ n ∧ Hid (wr.ownsRow w.heap.size 90 2 (.slice (some ⟨g, 0, none⟩) n n) n xs) ∧ Below w.heap.size w wr ∧ Hid (∀ q p c u, q < k → l[q]? = some p → (capC p)[c]? = some u → xs[q * 2 + c]? = some u)) (fun i _ => n - (intOf i).toNat)
  case atStart => exact ⟨0, xs0, rfl, Nat.zero_le _, HR, hbel, fun q _ _ _ hq => absurd hq (Nat.not_lt_zero _)⟩
  case round =>
    clear HR hbel
    obtain ⟨k, xs, rfl, hk, HO, hbw, HQ⟩ := hrel
    by_cases hkn : k < n
    · obtain ⟨b, o, rfl, hb, hcell⟩ := HC.out (by omega)
      obtain ⟨p, hp⟩ : ∃ p, l[k]? = some p := ⟨_, List.getElem?_eq_getElem (by have := HN.out; omega)⟩
      have c0 : wr.cell? ⟨b, o + k * 2, none⟩ = some (.bool p.reg) := (hbw.cell hb).trans (hcell k p hp 0 _ rfl)
      have c1 : wr.cell? ⟨b, o + k * 2 + 1, none⟩ = some (.int .i64 p.index) := (hbw.cell hb).trans (hcell k p hp 1 _ rfl)
      have cN := toCap_any p wr
      have HP : Hid (l[k]? = some p) := hp
      clear hcell HC hp
      have hki : (k : Int) < (n : Int) := by omega
      have hk0 : (0 : Int) ≤ (k : Int) := by omega
      go_wp2_with fail
      refine cN.mono ?_
      rintro e w1 ⟨rfl, b1⟩
      have HO1 : Hid (w1.ownsRow w.heap.size 90 2 (.slice (some ⟨g, 0, none⟩) n n) n xs) := row_keep HO.out b1
      obtain ⟨⟨u0, o0⟩, f0⟩ := row_cell HO1.out (k * 2) (by omega)
      obtain ⟨⟨u1, o1⟩, f1⟩ := row_cell HO1.out (k * 2 + 1) (by omega)
      have HW : Hid ((layW w1 g (k * 2) (capC p)).ownsRow w.heap.size 90 2 (.slice (some ⟨g, 0, none⟩) n n) n (layL xs (k * 2) (capC p))
          ∧ Below w.heap.size w (layW w1 g (k * 2) (capC p))
          ∧ ∀ q p' c u, q < k + 1 → l[q]? = some p' → (capC p')[c]? = some u → (layL xs (k * 2) (capC p))[q * 2 + c]? = some u) := by
        have hxl : xs.length = n * 2 := HO.out.1
        refine ⟨layW_own _ _ _ _ HO1.out, layW_below hge _ _ _ (chain hbw b1), fun q p' c u hq hp' hu => ?_⟩
        have hc8 : c < 2 := (List.getElem?_eq_some_iff.1 hu).1
        rcases Nat.lt_or_ge q k with h' | h'
        · rw [layL_other _ _ _ _ (by left; omega)]
          exact HQ.out q p' c u h' hp' hu
        · have e : q = k := by omega
          subst e
          have e2 := HP.out
          rw [hp'] at e2
          injection e2 with e2
          subst e2
          exact layL_here _ _ _ _ _ hu (by rw [hxl]; show q * 2 + 2 ≤ _; omega)
      clear HO HQ HO1 b1 cN HE HP
      unfold capC at HW
      go_wp2
      go_roundw
      case rel => exact ⟨k + 1, _, by go_num, by omega, HW.out.1, HW.out.2.1, HW.out.2.2⟩
      case measure => simp [intOf]; omega
    · have hkn' : k = n := by omega
      subst hkn'
      have hx := HE.out xs HO.out.1 (fun q p c u hp hu => HQ.out q p c u (by have := (List.getElem?_eq_some_iff.1 hp).1; have := HN.out; omega) hp hu)
      subst hx
      go_wp2
      go_ret
      exact ⟨_, rfl, HO.out, hbw⟩
set_option maxHeartbeats 400000 in
set_option maxRecDepth 100000 in
theorem toHandler_any (p : PHnd) (w : World) :
    Calls Try.prog 73 #[.agg #[.int .i64 p.lo, .int .i64 p.hi, .int .i64 p.target]] w fun e w' => e = .returned (.agg #[.int .i64 p.lo, .int .i64 p.hi, .int .i64 p.target]) ∧ Below w.heap.size w w' := by
  go_enter Try.func73, Try.ntmps73
  go_wp2
  go_returns
  exact ⟨rfl, by go_grown⟩
theorem Try.infoHandler13 : (Try.prog.info? 92).map (fun i => (i.zero, i.size, i.bytes)) = some (some (.agg #[.int .i64 0, .int .i64 0, .int .i64 0]), 3, 24) := by kernel_rfl
theorem made_Handler (w : World) (n : Nat) (hn : n ≤ 1048576) : ∃ W1 : World, (Instr.makeSlice 45 (.int .i64 (n : Int)) (.int .i64 (n : Int))).run Try.prog w = .ok (.slice (some ⟨w.heap.size, 0, none⟩) n n) W1 ∧
    (∃ xs, W1.ownsRow w.heap.size 92 3 (.slice (some ⟨w.heap.size, 0, none⟩) n n) n xs) ∧ Below w.heap.size w W1 := by
  obtain ⟨i0, hi, hz0, hz1, hz2⟩ := info_in Try.infoHandler13
  obtain ⟨W, h1, h2, h3⟩ := run_make_full (P := Try.prog) w w.heap.size 45 92 i0 _ 3 Try.underlying45 hi hz0 hz1 .i64 .i64 n (by rw [hz2]; omega) (by unfold maxLen; omega) (Nat.le_refl _)
  exact ⟨W, h1, ⟨_, h2⟩, ⟨h3.os, h3.tape, h3.output, h3.size, fun k hk => h3.block k hk (by simp)⟩⟩
set_option maxHeartbeats 1000000 in
set_option maxRecDepth 100000 in
theorem toHandlerS_any (v : Value) (l : List PHnd) (w : World) (hv : ArgFlat w v 3 l.length (l.flatMap hndC)) (hfew : l.length ≤ 1048576) :
    Calls Try.prog 49 #[v] w fun e w' => ∃ v', e = .returned v' ∧ w'.ownsRow w.heap.size 92 3 v' l.length (l.flatMap hndC) ∧ Below w.heap.size w w' := by
  obtain ⟨x, c, rfl, hm, hc⟩ := hv.opened hndC_len
  clear hv
  obtain ⟨n, hn⟩ : ∃ n, l.length = n := ⟨_, rfl⟩
  have HN : Hid (l.length = n) := hn
  have HE : Hid (∀ xs : List Value, xs.length = n * 3 → (∀ q p c u, l[q]? = some p → (hndC p)[c]? = some u → xs[q * 3 + c]? = some u) → xs = l.flatMap hndC) := fun xs h1 h2 => flat_ext hndC_len (by decide) l xs (by rw [hn]; exact h1) h2
  rw [hn] at hm hc hfew ⊢
  clear hn
  unfold maxLen at hm
  obtain ⟨W1, hmk, ⟨xs0, hrow⟩, hbel⟩ := made_Handler w n hfew
  obtain ⟨g, hg⟩ : ∃ g, w.heap.size = g := ⟨_, rfl⟩
  have hge : w.heap.size ≤ g := by omega
  rw [hg] at hmk
  have HR : Hid (W1.ownsRow w.heap.size 92 3 (.slice (some ⟨g, 0, none⟩) n n) n xs0) := by rw [hg]; rw [hg] at hrow; exact hrow
  have HC : Hid (0 < n → ∃ b o, x = some ⟨b, o, none⟩ ∧ b < w.heap.size ∧ ∀ j p, l[j]? = some p → ∀ c u, (hndC p)[c]? = some u → w.cell? ⟨b, o + j * 3 + c, none⟩ = some u) := hc
  clear hrow hg hc
  go_enter Try.func49, Try.ntmps49
  go_wp2
  clear hmk
  go_loopw [4] (fun i wr => ∃ (k : Nat) (xs : List Value), i = .int .i64 k ∧ k ≤ n ∧ Hid (wr.ownsRow w.heap.size 92 3 (.slice (some ⟨g, 0, none⟩) n n) n xs) ∧ Below w.heap.size w wr ∧ Hid (∀ q p c u, q < k → l[q]? = some p → (hndC p)[c]? = some u → xs[q * 3 + c]? = some u)) (fun i _ => n - (intOf i).toNat)
  case atStart => exact ⟨0, xs0, rfl, Nat.zero_le _, HR, hbel, fun q _ _ _ hq => absurd hq (Nat.not_lt_zero _)⟩
  case round =>
    clear HR hbel
    obtain ⟨k, xs, rfl, hk, HO, hbw, HQ⟩ := hrel
    by_cases hkn : k < n
    · obtain ⟨b, o, rfl, hb, hcell⟩ := HC.out (by omega)
      obtain ⟨p, hp⟩ : ∃ p, l[k]? = some p := ⟨_, List.getElem?_eq_getElem (by have := HN.out; omega)⟩
      have c0 : wr.cell? ⟨b, o + k * 3, none⟩ = some (.int .i64 p.lo) := (hbw.cell hb).trans (hcell k p hp 0 _ rfl)
      have c1 : wr.cell? ⟨b, o + k * 3 + 1, none⟩ = some (.int .i64 p.hi) := (hbw.cell hb).trans (hcell k p hp 1 _ rfl)
      have c2 : wr.cell? ⟨b, o + k * 3 + 2, none⟩ = some (.int .i64 p.target) := (hbw.cell hb).trans (hcell k p hp 2 _ rfl)
      have cN := toHandler_any p wr
      have HP : Hid (l[k]? = some p) := hp
      clear hcell HC hp
      have hki : (k : Int) < (n : Int) := by omega
      have hk0 : (0 : Int) ≤ (k : Int) := by omega
      go_wp2_with fail
      refine cN.mono ?_
      rintro e w1 ⟨rfl, b1⟩
      have HO1 : Hid (w1.ownsRow w.heap.size 92 3 (.slice (some ⟨g, 0, none⟩) n n) n xs) := row_keep HO.out b1
      obtain ⟨⟨u0, o0⟩, f0⟩ := row_cell HO1.out (k * 3) (by omega)
      obtain ⟨⟨u1, o1⟩, f1⟩ := row_cell HO1.out (k * 3 + 1) (by omega)
      obtain ⟨⟨u2, o2⟩, f2⟩ := row_cell HO1.out (k * 3 + 2) (by omega)
      have HW : Hid ((layW w1 g (k * 3) (hndC p)).ownsRow w.heap.size 92 3 (.slice (some ⟨g, 0, none⟩) n n) n (layL xs (k * 3) (hndC p))
          ∧ Below w.heap.size w (layW w1 g (k * 3) (hndC p))
          ∧ ∀ q p' c u, q < k + 1 → l[q]? = some p' → (hndC p')[c]? = some u → (layL xs (k * 3) (hndC p))[q * 3 + c]? = some u) := by
        have hxl : xs.length = n * 3 := HO.out.1
        refine ⟨layW_own _ _ _ _ HO1.out, layW_below hge _ _ _ (chain hbw b1), fun q p' c u hq hp' hu => ?_⟩
        have hc8 : c < 3 := (List.getElem?_eq_some_iff.1 hu).1
        rcases Nat.lt_or_ge q k with h' | h'
        · rw [layL_other _ _ _ _ (by left; omega)]
          exact HQ.out q p' c u h' hp' hu
        · have e : q = k := by omega
          subst e
          have e2 := HP.out
          rw [hp'] at e2
          injection e2 with e2
          subst e2
          exact layL_here _ _ _ _ _ hu (by rw [hxl]; show q * 3 + 3 ≤ _; omega)
      clear HO HQ HO1 b1 cN HE HP
      unfold hndC at HW
      go_wp2
      go_roundw
      case rel => exact ⟨k + 1, _, by go_num, by omega, HW.out.1, HW.out.2.1, HW.out.2.2⟩
      case measure => simp [intOf]; omega
    · have hkn' : k = n := by omega
      subst hkn'
      have hx := HE.out xs HO.out.1 (fun q p c u hp hu => HQ.out q p c u (by have := (List.getElem?_eq_some_iff.1 hp).1; have := HN.out; omega) hp hu)
      subst hx
      go_wp2
      go_ret
      exact ⟨_, rfl, HO.out, hbw⟩
set_option maxHeartbeats 400000 in
set_option maxRecDepth 100000 in
theorem toConst_any (p : PCon) (w : World) :
    Calls Try.prog 32 #[.agg #[.int .i64 p.kind, .int .u64 (p.num : Int), .string p.text]] w fun e w' => e = .returned (.agg #[.int .i64 p.kind, .int .u64 (p.num : Int), .string p.text]) ∧ Below w.heap.size w w' := by
  go_enter Try.func32, Try.ntmps32
  go_wp2
  go_returns
  exact ⟨rfl, by go_grown⟩
theorem Try.infoConst13 : (Try.prog.info? 71).map (fun i => (i.zero, i.size, i.bytes)) = some (some (.agg #[.int .i64 0, .int .u64 0, .string ByteArray.empty]), 3, 32) := by kernel_rfl
theorem made_Const (w : World) (n : Nat) (hn : n ≤ 1048576) : ∃ W1 : World, (Instr.makeSlice 30 (.int .i64 (n : Int)) (.int .i64 (n : Int))).run Try.prog w = .ok (.slice (some ⟨w.heap.size, 0, none⟩) n n) W1 ∧
    (∃ xs, W1.ownsRow w.heap.size 71 3 (.slice (some ⟨w.heap.size, 0, none⟩) n n) n xs) ∧ Below w.heap.size w W1 := by
  obtain ⟨i0, hi, hz0, hz1, hz2⟩ := info_in Try.infoConst13
  obtain ⟨W, h1, h2, h3⟩ := run_make_full (P := Try.prog) w w.heap.size 30 71 i0 _ 3 Try.underlying30 hi hz0 hz1 .i64 .i64 n (by rw [hz2]; omega) (by unfold maxLen; omega) (Nat.le_refl _)
  exact ⟨W, h1, ⟨_, h2⟩, ⟨h3.os, h3.tape, h3.output, h3.size, fun k hk => h3.block k hk (by simp)⟩⟩
set_option maxHeartbeats 1000000 in
set_option maxRecDepth 100000 in
theorem toConstS_any (v : Value) (l : List PCon) (w : World) (hv : ArgFlat w v 3 l.length (l.flatMap conC)) (hfew : l.length ≤ 1048576) :
    Calls Try.prog 18 #[v] w fun e w' => ∃ v', e = .returned v' ∧ w'.ownsRow w.heap.size 71 3 v' l.length (l.flatMap conC) ∧ Below w.heap.size w w' := by
  obtain ⟨x, c, rfl, hm, hc⟩ := hv.opened conC_len
  clear hv
  obtain ⟨n, hn⟩ : ∃ n, l.length = n := ⟨_, rfl⟩
  have HN : Hid (l.length = n) := hn
  have HE : Hid (∀ xs : List Value, xs.length = n * 3 → (∀ q p c u, l[q]? = some p → (conC p)[c]? = some u → xs[q * 3 + c]? = some u) → xs = l.flatMap conC) := fun xs h1 h2 => flat_ext conC_len (by decide) l xs (by rw [hn]; exact h1) h2
  rw [hn] at hm hc hfew ⊢
  clear hn
  unfold maxLen at hm
  obtain ⟨W1, hmk, ⟨xs0, hrow⟩, hbel⟩ := made_Const w n hfew
  obtain ⟨g, hg⟩ : ∃ g, w.heap.size = g := ⟨_, rfl⟩
  have hge : w.heap.size ≤ g := by omega
  rw [hg] at hmk
  have HR : Hid (W1.ownsRow w.heap.size 71 3 (.slice (some ⟨g, 0, none⟩) n n) n xs0) := by rw [hg]; rw [hg] at hrow; exact hrow
  have HC : Hid (0 < n → ∃ b o, x = some ⟨b, o, none⟩ ∧ b < w.heap.size ∧ ∀ j p, l[j]? = some p → ∀ c u, (conC p)[c]? = some u → w.cell? ⟨b, o + j * 3 + c, none⟩ = some u) := hc
  clear hrow hg hc
  go_enter Try.func18, Try.ntmps18
  go_wp2
  clear hmk
  go_loopw [4] (fun i wr => ∃ (k : Nat) (xs : List Value), i = .int .i64 k ∧ k ≤ n ∧ Hid (wr.ownsRow w.heap.size 71 3 (.slice (some ⟨g, 0, none⟩) n n) n xs) ∧ Below w.heap.size w wr ∧ Hid (∀ q p c u, q < k → l[q]? = some p → (conC p)[c]? = some u → xs[q * 3 + c]? = some u)) (fun i _ => n - (intOf i).toNat)
  case atStart => exact ⟨0, xs0, rfl, Nat.zero_le _, HR, hbel, fun q _ _ _ hq => absurd hq (Nat.not_lt_zero _)⟩
  case round =>
    clear HR hbel
    obtain ⟨k, xs, rfl, hk, HO, hbw, HQ⟩ := hrel
    by_cases hkn : k < n
    · obtain ⟨b, o, rfl, hb, hcell⟩ := HC.out (by omega)
      obtain ⟨p, hp⟩ : ∃ p, l[k]? = some p := ⟨_, List.getElem?_eq_getElem (by have := HN.out; omega)⟩
      have c0 : wr.cell? ⟨b, o + k * 3, none⟩ = some (.int .i64 p.kind) := (hbw.cell hb).trans (hcell k p hp 0 _ rfl)
      have c1 : wr.cell? ⟨b, o + k * 3 + 1, none⟩ = some (.int .u64 (p.num : Int)) := (hbw.cell hb).trans (hcell k p hp 1 _ rfl)
      have c2 : wr.cell? ⟨b, o + k * 3 + 2, none⟩ = some (.string p.text) := (hbw.cell hb).trans (hcell k p hp 2 _ rfl)
      have cN := toConst_any p wr
      have HP : Hid (l[k]? = some p) := hp
      clear hcell HC hp
      have hki : (k : Int) < (n : Int) := by omega
      have hk0 : (0 : Int) ≤ (k : Int) := by omega
      go_wp2_with fail
      refine cN.mono ?_
      rintro e w1 ⟨rfl, b1⟩
      have HO1 : Hid (w1.ownsRow w.heap.size 71 3 (.slice (some ⟨g, 0, none⟩) n n) n xs) := row_keep HO.out b1
      obtain ⟨⟨u0, o0⟩, f0⟩ := row_cell HO1.out (k * 3) (by omega)
      obtain ⟨⟨u1, o1⟩, f1⟩ := row_cell HO1.out (k * 3 + 1) (by omega)
      obtain ⟨⟨u2, o2⟩, f2⟩ := row_cell HO1.out (k * 3 + 2) (by omega)
      have HW : Hid ((layW w1 g (k * 3) (conC p)).ownsRow w.heap.size 71 3 (.slice (some ⟨g, 0, none⟩) n n) n (layL xs (k * 3) (conC p))
          ∧ Below w.heap.size w (layW w1 g (k * 3) (conC p))
          ∧ ∀ q p' c u, q < k + 1 → l[q]? = some p' → (conC p')[c]? = some u → (layL xs (k * 3) (conC p))[q * 3 + c]? = some u) := by
        have hxl : xs.length = n * 3 := HO.out.1
        refine ⟨layW_own _ _ _ _ HO1.out, layW_below hge _ _ _ (chain hbw b1), fun q p' c u hq hp' hu => ?_⟩
        have hc8 : c < 3 := (List.getElem?_eq_some_iff.1 hu).1
        rcases Nat.lt_or_ge q k with h' | h'
        · rw [layL_other _ _ _ _ (by left; omega)]
          exact HQ.out q p' c u h' hp' hu
        · have e : q = k := by omega
          subst e
          have e2 := HP.out
          rw [hp'] at e2
          injection e2 with e2
          subst e2
          exact layL_here _ _ _ _ _ hu (by rw [hxl]; show q * 3 + 3 ≤ _; omega)
      clear HO HQ HO1 b1 cN HE HP
      unfold conC at HW
      go_wp2
      go_roundw
      case rel => exact ⟨k + 1, _, by go_num, by omega, HW.out.1, HW.out.2.1, HW.out.2.2⟩
      case measure => simp [intOf]; omega
    · have hkn' : k = n := by omega
      subst hkn'
      have hx := HE.out xs HO.out.1 (fun q p c u hp hu => HQ.out q p c u (by have := (List.getElem?_eq_some_iff.1 hp).1; have := HN.out; omega) hp hu)
      subst hx
      go_wp2
      go_ret
      exact ⟨_, rfl, HO.out, hbw⟩
end Go.Proofs.Ytkmmojpfcklocaa
namespace Go.Proofs.Ytkmmojpfcklocaa
open Go.RowKit
set_option linter.unusedVariables false
def LeftFew (r left n : Int) : Prop := r = -1 ∨ (0 ≤ r ∧ r ≤ left ∧ n ≤ left)
def funFew (p : PFun) (left : Int) : Prop := (p.caps.length : Int) ≤ left ∧ (p.code.length : Int) ≤ left ∧ (p.hnds.length : Int) ≤ left
def imgFew (p : PImg) (left : Int) : Prop := (p.funcs.length : Int) ≤ left ∧ (∀ q ∈ p.funcs, funFew q left) ∧ (p.consts.length : Int) ≤ left ∧ ∀ q ∈ p.consts, (q.text.size : Int) ≤ left
set_option maxHeartbeats 400000 in
set_option maxRecDepth 100000 in
theorem szConst_any (p : PCon) (left : Int) (w : World) (hp : p.text.size ≤ maxLen) (h0 : 0 ≤ left) (h1 : left ≤ 1048576) :
    Calls Try.prog 28 #[.agg #[.int .i64 p.kind, .int .u64 (p.num : Int), .string p.text], .int .i64 left] w fun e w' => ∃ r : Int, e = .returned (.int .i64 r) ∧ LeftFew r left p.text.size ∧ Below w.heap.size w w' := by
  obtain ⟨s, hs⟩ : ∃ s, p.text = s := ⟨_, rfl⟩
  rw [hs] at hp ⊢
  clear hs
  unfold maxLen at hp
  by_cases h : left < s.size
  · have hlt : left - (s.size : Int) < 0 := by omega
    go_enter Try.func28, Try.ntmps28
    go_wp2
    go_ret
    exact ⟨_, rfl, .inl rfl, (Below.refl _ _).alloc (Nat.le_refl _) _⟩
  · have hlt : ¬ left - (s.size : Int) < 0 := by omega
    go_enter Try.func28, Try.ntmps28
    go_wp2
    go_ret
    exact ⟨_, rfl, .inr ⟨by omega, by omega, by omega⟩, (Below.refl _ _).alloc (Nat.le_refl _) _⟩
set_option maxHeartbeats 1000000 in
set_option maxRecDepth 100000 in
theorem szConstS_any (v : Value) (l : List PCon) (left : Int) (w : World) (hv : ArgFlat w v 3 l.length (l.flatMap conC)) (hl : ∀ p ∈ l, conW p) (h0 : 0 ≤ left) (h1 : left ≤ 1048576) :
    Calls Try.prog 14 #[v, .int .i64 left] w fun e w' => ∃ r : Int, e = .returned (.int .i64 r) ∧ (r = -1 ∨ (0 ≤ r ∧ r ≤ left ∧ (l.length : Int) ≤ left ∧ ∀ p ∈ l, (p.text.size : Int) ≤ left)) ∧ Below w.heap.size w w' := by
  obtain ⟨x, c, rfl, hm, hc⟩ := hv.opened conC_len
  clear hv
  obtain ⟨n, hn⟩ : ∃ n, l.length = n := ⟨_, rfl⟩
  have HN : Hid (l.length = n) := hn
  rw [hn] at hm hc ⊢
  clear hn
  unfold maxLen at hm
  by_cases h : left < n
  · have hlt : left - (n : Int) < 0 := by omega
    clear hc hl
    go_enter Try.func14, Try.ntmps14
    go_wp2
    go_ret
    exact ⟨_, rfl, .inl rfl, Below.refl _ _⟩
  · have hlt : ¬ left - (n : Int) < 0 := by omega
    have HC : Hid (0 < n → ∃ b o, x = some ⟨b, o, none⟩ ∧ b < w.heap.size ∧ ∀ j p, l[j]? = some p → ∀ c u, (conC p)[c]? = some u → w.cell? ⟨b, o + j * 3 + c, none⟩ = some u) := hc
    have HL : Hid (∀ p ∈ l, conW p) := hl
    clear hc hl
    go_enter Try.func14, Try.ntmps14
    go_wp2
    go_loopw [1, 5] (fun y i wr => ∃ (k : Nat) (L : Int), y = .int .i64 L ∧ i = .int .i64 k ∧ k ≤ n ∧ 0 ≤ L ∧ L ≤ left ∧ Hid (∀ j p, j < k → l[j]? = some p → (p.text.size : Int) ≤ left) ∧ Below w.heap.size w wr) (fun _ i _ => n - (intOf i).toNat)
    case atStart => exact ⟨0, _, rfl, rfl, Nat.zero_le _, by omega, by omega, fun j p hj _ => absurd hj (Nat.not_lt_zero _), Below.refl _ _⟩
    case round =>
      obtain ⟨k, L, rfl, rfl, hk, hL0, hL1, HF, hbel⟩ := hrel
      by_cases hkn : k < n
      · obtain ⟨b, o, rfl, hb, hcell⟩ := HC.out (by omega)
        obtain ⟨p, hp⟩ : ∃ p, l[k]? = some p := ⟨_, List.getElem?_eq_getElem (by have := HN.out; omega)⟩
        have c0 : wr.cell? ⟨b, o + k * 3, none⟩ = some (.int .i64 p.kind) := (hbel.cell hb).trans (hcell k p hp 0 _ rfl)
        have c1 : wr.cell? ⟨b, o + k * 3 + 1, none⟩ = some (.int .u64 (p.num : Int)) := (hbel.cell hb).trans (hcell k p hp 1 _ rfl)
        have c2 : wr.cell? ⟨b, o + k * 3 + 2, none⟩ = some (.string p.text) := (hbel.cell hb).trans (hcell k p hp 2 _ rfl)
        have cN := szConst_any p L wr (HL.out p (List.mem_iff_getElem?.2 ⟨_, hp⟩)).2.2 hL0 (by omega)
        have HP : Hid (l[k]? = some p) := hp
        clear hcell HC hp
        have hki : (k : Int) < (n : Int) := by omega
        have hk0 : (0 : Int) ≤ (k : Int) := by omega
        go_wp2_with fail
        refine cN.mono ?_
        rintro e w1 ⟨r, rfl, hr, b1⟩
        rcases hr with rfl | ⟨r0, r1, r2⟩
        · go_wp2
          go_ret
          exact ⟨_, rfl, .inl rfl, chain hbel b1⟩
        · have hneg : ¬ r < 0 := by omega
          go_wp2
          go_roundw
          case rel =>
            refine ⟨k + 1, r, rfl, by go_num, by omega, r0, by omega, fun j q hj hq => ?_, chain hbel b1⟩
            rcases Nat.lt_or_ge j k with h' | h'
            · exact HF.out j q h' hq
            · have e : j = k := by omega
              subst e
              rw [HP.out] at hq
              injection hq with hq
              subst hq
              omega
          case measure => simp [intOf]; omega
      · go_wp2
        go_ret
        refine ⟨_, rfl, .inr ⟨by omega, by omega, by omega, fun p hp => ?_⟩, hbel⟩
        obtain ⟨j, hj⟩ := List.mem_iff_getElem?.1 hp
        have hjl : j < l.length := (List.getElem?_eq_some_iff.1 hj).1
        have := HN.out
        exact HF.out j p (by omega) hj
theorem funFew.mono {p : PFun} {a b : Int} (h : funFew p a) (hab : a ≤ b) : funFew p b := ⟨Int.le_trans h.1 hab, Int.le_trans h.2.1 hab, Int.le_trans h.2.2 hab⟩
end Go.Proofs.Ytkmmojpfcklocaa
