/-
  Part 2 of what is proved of drawn right trees.
-/
import Derived.Test.YtbgdapdenbldmaaRows
import Derived.Test.YtbgdapdenbldmaaPaa
import Derived.Laws.OwnMore
import Derived.Handy
import Derived.Deep.DeepCutAuto

namespace Go.Proofs.Ytbgdapdenbldmaa
open Go.RowKit
set_option linter.unusedVariables false
theorem info_in {P : Program} {t : TypeId} {z : Value} {n b : Nat} (h : (P.info? t).map (fun i => (i.zero, i.size, i.bytes)) = some (some z, n, b)) : ∃ i, P.info? t = some i ∧ i.zero = some z ∧ i.size = n ∧ i.bytes = b := by
  cases hi : P.info? t with
  | none => rw [hi] at h; cases h
  | some i =>
    rw [hi] at h
    simp only [Option.map_some, Option.some.injEq, Prod.mk.injEq] at h
    exact ⟨i, rfl, h.1, h.2.1, h.2.2⟩
def layL (xs : List Value) (o : Nat) : List Value → List Value
  | [] => xs
  | v :: r => layL (xs.set o v) (o + 1) r
def layW (w : World) (g o : Nat) : List Value → World
  | [] => w
  | v :: r => layW (w.setCell ⟨g, o, none⟩ v) g (o + 1) r
theorem layL_other : ∀ (vs xs : List Value) (o j : Nat), (j < o ∨ o + vs.length ≤ j) → (layL xs o vs)[j]? = xs[j]?
  | [], xs, o, j, h => rfl
  | v :: r, xs, o, j, h => by
    rw [List.length_cons] at h
    rw [layL, layL_other r _ _ _ (by omega), List.getElem?_set_ne (by omega)]
theorem layL_here : ∀ (vs xs : List Value) (o c : Nat) (u : Value), vs[c]? = some u → o + vs.length ≤ xs.length → (layL xs o vs)[o + c]? = some u
  | [], xs, o, c, u, h, hl => by simp at h
  | v :: r, xs, o, c, u, h, hl => by
    rw [List.length_cons] at hl
    rw [layL]
    match c, h with
    | 0, h =>
      simp at h
      subst h
      rw [layL_other r _ _ _ (by omega), Nat.add_zero, List.getElem?_set_self (by omega)]
    | c + 1, h =>
      rw [List.getElem?_cons_succ] at h
      have := layL_here r (xs.set o v) (o + 1) c u h (by rw [List.length_set]; omega)
      rw [← this]
      congr 1
      omega
theorem layW_own {H : Nat} {e : TypeId} {size g n c : Nat} : ∀ (vs xs : List Value) (w : World) (o : Nat), w.ownsRow H e size (.slice (some ⟨g, 0, none⟩) n c) n xs → (layW w g o vs).ownsRow H e size (.slice (some ⟨g, 0, none⟩) n c) n (layL xs o vs)
  | [], xs, w, o, h => h
  | v :: r, xs, w, o, h => layW_own r _ _ _ (h.stored o v).1
theorem layW_below {w0 : World} {B g : Nat} (hg : B ≤ g) : ∀ (vs : List Value) (w : World) (o : Nat), Below B w0 w → Below B w0 (layW w g o vs)
  | [], w, o, h => h
  | v :: r, w, o, h => layW_below hg r _ _ (h.setCell (p := ⟨g, o, none⟩) hg v)
theorem layW_row {B g : Nat} {e : TypeId} {v : Value} {k n : Nat} {xs : List Value} (hg : g < B) : ∀ (vs : List Value) (w : World) (o : Nat), w.ownsRow B e k v n xs → (layW w g o vs).ownsRow B e k v n xs
  | [], w, o, h => h
  | u :: r, w, o, h => layW_row hg r _ _ (ownsRow_setCell_below h (a := ⟨g, o, none⟩) hg u)
theorem layW_size (g : Nat) : ∀ (vs : List Value) (w : World) (o : Nat), (layW w g o vs).heap.size = w.heap.size
  | [], w, o => rfl
  | v :: r, w, o => by rw [layW, layW_size g r]; simp
theorem row_keep {w w' : World} {B : Nat} {e : TypeId} {size : Nat} {v : Value} {n : Nat} {xs : List Value} (h : w.ownsRow B e size v n xs) (hb : Below w.heap.size w w') : w'.ownsRow B e size v n xs :=
  h.kept (row := none) ⟨hb.os, hb.tape, hb.output, hb.size, fun k hk _ => hb.block k hk⟩ (by cases h2 : v.ownBlock <;> simp)
theorem row_low {w : World} {B B' : Nat} {e : TypeId} {size : Nat} {v : Value} {n : Nat} {xs : List Value} (h : w.ownsRow B e size v n xs) (hb : B' ≤ B) : w.ownsRow B' e size v n xs := by
  obtain ⟨e1, e2⟩ := h
  refine ⟨e1, e2.imp id ?_⟩
  rintro ⟨g, cap, cur, h1, h2, h3⟩
  exact ⟨g, cap, cur, h1, Nat.le_trans hb h2, h3⟩
theorem row_slice {w : World} {B : Nat} {e : TypeId} {size : Nat} {v : Value} {n : Nat} {xs : List Value} (h : w.ownsRow B e size v n xs) : ∃ x c, v = .slice x n c := by
  obtain ⟨_, ⟨rfl, rfl⟩ | ⟨g, cap, cur, rfl, _⟩⟩ := h
  · exact ⟨_, _, rfl⟩
  · exact ⟨_, _, rfl⟩
theorem row_cell {w : World} {H : Nat} {e : TypeId} {size g n c : Nat} {xs : List Value} (h : w.ownsRow H e size (.slice (some ⟨g, 0, none⟩) n c) n xs) (j : Nat) (hj : j < n * size) : (∃ u, w.cell? ⟨g, j, none⟩ = some u) ∧ w.frozen? ⟨g, j, none⟩ = false :=
  ⟨⟨_, (h.cellAt j hj).trans (List.getElem?_eq_getElem (by rw [h.1]; exact hj))⟩, h.frozenAt j⟩
theorem flat_ext {α : Type} {f : α → List Value} {k : Nat} (hk : ∀ p, (f p).length = k) (hk0 : 0 < k) (l : List α) (xs : List Value) (hl : xs.length = l.length * k) (h : ∀ j p c u, l[j]? = some p → (f p)[c]? = some u → xs[j * k + c]? = some u) : xs = l.flatMap f := by
  apply List.ext_getElem?
  intro j
  by_cases hj : j < l.length * k
  · have hq : j / k < l.length := Nat.div_lt_of_lt_mul (by rw [Nat.mul_comm]; exact hj)
    have hr : j % k < k := Nat.mod_lt _ hk0
    have hd : j / k * k + j % k = j := by rw [Nat.mul_comm]; exact Nat.div_add_mod j k
    have e1 : l[j / k]? = some l[j / k] := List.getElem?_eq_getElem hq
    have e2 : (f l[j / k])[j % k]? = some ((f l[j / k])[j % k]'(by rw [hk]; exact hr)) := List.getElem?_eq_getElem (by rw [hk]; exact hr)
    have a := h _ _ _ _ e1 e2
    have b := flat_at hk l _ _ _ _ e1 e2
    rw [hd] at a b
    rw [a, b]
  · rw [List.getElem?_eq_none (by omega), List.getElem?_eq_none (by rw [flat_len hk]; omega)]
set_option maxHeartbeats 400000 in
set_option maxRecDepth 100000 in
theorem toIns_any (p : PIns) (w : World) :
    Calls Try.prog 105 #[.agg #[.int .i64 p.op, .int .i64 p.a, .int .i64 p.b]] w fun e w' => e = .returned (.agg #[.int .i64 p.op, .int .i64 p.a, .int .i64 p.b]) ∧ Below w.heap.size w w' := by
  go_enter Try.func105, Try.ntmps105
  go_wp2
  go_returns
  exact ⟨rfl, by go_grown⟩
theorem Try.infoIns13 : (Try.prog.info? 72).map (fun i => (i.zero, i.size, i.bytes)) = some (some (.agg #[.int .i64 0, .int .i64 0, .int .i64 0]), 3, 24) := by kernel_rfl
theorem made_Ins (w : World) (n : Nat) (hn : n ≤ 1048576) : ∃ W1 : World, (Instr.makeSlice 67 (.int .i64 (n : Int)) (.int .i64 (n : Int))).run Try.prog w = .ok (.slice (some ⟨w.heap.size, 0, none⟩) n n) W1 ∧
    (∃ xs, W1.ownsRow w.heap.size 72 3 (.slice (some ⟨w.heap.size, 0, none⟩) n n) n xs) ∧ Below w.heap.size w W1 := by
  obtain ⟨i0, hi, hz0, hz1, hz2⟩ := info_in Try.infoIns13
  obtain ⟨W, h1, h2, h3⟩ := run_make_full (P := Try.prog) w w.heap.size 67 72 i0 _ 3 Try.underlying67 hi hz0 hz1 .i64 .i64 n (by rw [hz2]; omega) (by unfold maxLen; omega) (Nat.le_refl _)
  exact ⟨W, h1, ⟨_, h2⟩, ⟨h3.os, h3.tape, h3.output, h3.size, fun k hk => h3.block k hk (by simp)⟩⟩
set_option maxHeartbeats 1000000 in
set_option maxRecDepth 100000 in
theorem toInsS_any (v : Value) (l : List PIns) (w : World) (hv : ArgFlat w v 3 l.length (l.flatMap insC)) (hfew : l.length ≤ 1048576) :
    Calls Try.prog 72 #[v] w fun e w' => ∃ v', e = .returned v' ∧ w'.ownsRow w.heap.size 72 3 v' l.length (l.flatMap insC) ∧ Below w.heap.size w w' := by
  obtain ⟨x, c, rfl, hm, hc⟩ := hv.opened insC_len
  clear hv
  obtain ⟨n, hn⟩ : ∃ n, l.length = n := ⟨_, rfl⟩
  have HN : Hid (l.length = n) := hn
  have HE : Hid (∀ xs : List Value, xs.length = n * 3 → (∀ q p c u, l[q]? = some p → (insC p)[c]? = some u → xs[q * 3 + c]? = some u) → xs = l.flatMap insC) := fun xs h1 h2 => flat_ext insC_len (by decide) l xs (by rw [hn]; exact h1) h2
  rw [hn] at hm hc hfew ⊢
  clear hn
  unfold maxLen at hm
  obtain ⟨W1, hmk, ⟨xs0, hrow⟩, hbel⟩ := made_Ins w n hfew
  obtain ⟨g, hg⟩ : ∃ g, w.heap.size = g := ⟨_, rfl⟩
  have hge : w.heap.size ≤ g := by omega
  rw [hg] at hmk
  have HR : Hid (W1.ownsRow w.heap.size 72 3 (.slice (some ⟨g, 0, none⟩) n n) n xs0) := by rw [hg]; rw [hg] at hrow; exact hrow
  have HC : Hid (0 < n → ∃ b o, x = some ⟨b, o, none⟩ ∧ b < w.heap.size ∧ ∀ j p, l[j]? = some p → ∀ c u, (insC p)[c]? = some u → w.cell? ⟨b, o + j * 3 + c, none⟩ = some u) := hc
  clear hrow hg hc
  go_enter Try.func72, Try.ntmps72
  go_wp2
  clear hmk
  go_loopw [4] (fun i wr => ∃ (k : Nat) (xs : List Value), i = .int .i64 k ∧ k ≤ n ∧ Hid (wr.ownsRow w.heap.size 72 3 (.slice (some ⟨g, 0, none⟩) n n) n xs) ∧ Below w.heap.size w wr ∧ Hid (∀ q p c u, q < k → l[q]? = some p → (insC p)[c]? = some u → xs[q * 3 + c]? = some u)) (fun i _ => n - (intOf i).toNat)
  case atStart => exact ⟨0, xs0, rfl, Nat.zero_le _, HR, hbel, fun q _ _ _ hq => absurd hq (Nat.not_lt_zero _)⟩
  case round =>
    clear HR hbel
    obtain ⟨k, xs, rfl, hk, HO, hbw, HQ⟩ := hrel
    by_cases hkn : k < n
    · obtain ⟨b, o, rfl, hb, hcell⟩ := HC.out (by omega)
      obtain ⟨p, hp⟩ : ∃ p, l[k]? = some p := ⟨_, List.getElem?_eq_getElem (by have := HN.out; omega)⟩
      have c0 : wr.cell? ⟨b, o + k * 3, none⟩ = some (.int .i64 p.op) := (hbw.cell hb).trans (hcell k p hp 0 _ rfl)
      have c1 : wr.cell? ⟨b, o + k * 3 + 1, none⟩ = some (.int .i64 p.a) := (hbw.cell hb).trans (hcell k p hp 1 _ rfl)
      have c2 : wr.cell? ⟨b, o + k * 3 + 2, none⟩ = some (.int .i64 p.b) := (hbw.cell hb).trans (hcell k p hp 2 _ rfl)
      have cN := toIns_any p wr
      have HP : Hid (l[k]? = some p) := hp
      clear hcell HC hp
      have hki : (k : Int) < (n : Int) := by omega
      have hk0 : (0 : Int) ≤ (k : Int) := by omega
      go_wp2_with fail
      refine cN.mono ?_
      rintro e w1 ⟨rfl, b1⟩
      have HO1 : Hid (w1.ownsRow w.heap.size 72 3 (.slice (some ⟨g, 0, none⟩) n n) n xs) := row_keep HO.out b1
      obtain ⟨⟨u0, o0⟩, f0⟩ := row_cell HO1.out (k * 3) (by omega)
      obtain ⟨⟨u1, o1⟩, f1⟩ := row_cell HO1.out (k * 3 + 1) (by omega)
      obtain ⟨⟨u2, o2⟩, f2⟩ := row_cell HO1.out (k * 3 + 2) (by omega)
      have HW : Hid ((layW w1 g (k * 3) (insC p)).ownsRow w.heap.size 72 3 (.slice (some ⟨g, 0, none⟩) n n) n (layL xs (k * 3) (insC p))
          ∧ Below w.heap.size w (layW w1 g (k * 3) (insC p))
          ∧ ∀ q p' c u, q < k + 1 → l[q]? = some p' → (insC p')[c]? = some u → (layL xs (k * 3) (insC p))[q * 3 + c]? = some u) := by
        have hxl : xs.length = n * 3 := HO.out.1
        refine ⟨layW_own _ _ _ _ HO1.out, layW_below hge _ _ _ (chain hbw b1), fun q p' c u hq hp' hu => ?_⟩
        have hc8 : c < 3 := (List.getElem?_eq_some_iff.1 hu).1
        rcases Nat.lt_or_ge q k with h' | h'
        · rw [layL_other _ _ _ _ (by left; omega)]
          exact HQ.out q p' c u h' hp' hu
        · have e : q = k := by omega
          subst e
          have e2 := HP.out
          rw [hp'] at e2
          injection e2 with e2
          subst e2
          exact layL_here _ _ _ _ _ hu (by rw [hxl]; show q * 3 + 3 ≤ _; omega)
      clear HO HQ HO1 b1 cN HE HP
      unfold insC at HW
      go_wp2
      go_roundw
      case rel => exact ⟨k + 1, _, by go_num, by omega, HW.out.1, HW.out.2.1, HW.out.2.2⟩
      case measure => simp [intOf]; omega
    · have hkn' : k = n := by omega
      subst hkn'
      have hx := HE.out xs HO.out.1 (fun q p c u hp hu => HQ.out q p c u (by have := (List.getElem?_eq_some_iff.1 hp).1; have := HN.out; omega) hp hu)
      subst hx
      go_wp2
      go_ret
      exact ⟨_, rfl, HO.out, hbw⟩
set_option maxHeartbeats 400000 in
set_option maxRecDepth 100000 in
theorem toCap_any (p : PCap) (w : World) :
    Calls Try.prog 104 #[.agg #[.bool p.reg, .int .i64 p.index]] w fun e w' => e = .returned (.agg #[.bool p.reg, .int .i64 p.index]) ∧ Below w.heap.size w w' := by
  go_enter Try.func104, Try.ntmps104
  go_wp2
  go_returns
  exact ⟨rfl, by go_grown⟩
theorem Try.infoCap13 : (Try.prog.info? 149).map (fun i => (i.zero, i.size, i.bytes)) = some (some (.agg #[.bool false, .int .i64 0]), 2, 16) := by kernel_rfl
theorem made_Cap (w : World) (n : Nat) (hn : n ≤ 1048576) : ∃ W1 : World, (Instr.makeSlice 66 (.int .i64 (n : Int)) (.int .i64 (n : Int))).run Try.prog w = .ok (.slice (some ⟨w.heap.size, 0, none⟩) n n) W1 ∧
    (∃ xs, W1.ownsRow w.heap.size 149 2 (.slice (some ⟨w.heap.size, 0, none⟩) n n) n xs) ∧ Below w.heap.size w W1 := by
  obtain ⟨i0, hi, hz0, hz1, hz2⟩ := info_in Try.infoCap13
  obtain ⟨W, h1, h2, h3⟩ := run_make_full (P := Try.prog) w w.heap.size 66 149 i0 _ 2 Try.underlying66 hi hz0 hz1 .i64 .i64 n (by rw [hz2]; omega) (by unfold maxLen; omega) (Nat.le_refl _)
  exact ⟨W, h1, ⟨_, h2⟩, ⟨h3.os, h3.tape, h3.output, h3.size, fun k hk => h3.block k hk (by simp)⟩⟩
set_option maxHeartbeats 1000000 in
set_option maxRecDepth 100000 in
theorem toCapS_any (v : Value) (l : List PCap) (w : World) (hv : ArgFlat w v 2 l.length (l.flatMap capC)) (hfew : l.length ≤ 1048576) :
    Calls Try.prog 71 #[v] w fun e w' => ∃ v', e = .returned v' ∧ w'.ownsRow w.heap.size 149 2 v' l.length (l.flatMap capC) ∧ Below w.heap.size w w' := by
  obtain ⟨x, c, rfl, hm, hc⟩ := hv.opened capC_len
  clear hv
  obtain ⟨n, hn⟩ : ∃ n, l.length = n := ⟨_, rfl⟩
  have HN : Hid (l.length = n) := hn
  have HE : Hid (∀ xs : List Value, xs.length = n * 2 → (∀ q p c u, l[q]? = some p → (capC p)[c]? = some u → xs[q * 2 + c]? = some u) → xs = l.flatMap capC) := fun xs h1 h2 => flat_ext capC_len (by decide) l xs (by rw [hn]; exact h1) h2
  rw [hn] at hm hc hfew ⊢
  clear hn
  unfold maxLen at hm
  obtain ⟨W1, hmk, ⟨xs0, hrow⟩, hbel⟩ := made_Cap w n hfew
  obtain ⟨g, hg⟩ : ∃ g, w.heap.size = g := ⟨_, rfl⟩
  have hge : w.heap.size ≤ g := by omega
  rw [hg] at hmk
  have HR : Hid (W1.ownsRow w.heap.size 149 2 (.slice (some ⟨g, 0, none⟩) n n) n xs0) := by rw [hg]; rw [hg] at hrow; exact hrow
  have HC : Hid (0 < n → ∃ b o, x = some ⟨b, o, none⟩ ∧ b < w.heap.size ∧ ∀ j p, l[j]? = some p → ∀ c u, (capC p)[c]? = some u → w.cell? ⟨b, o + j * 2 + c, none⟩ = some u) := hc
  clear hrow hg hc
  go_enter Try.func71, Try.ntmps71
  go_wp2
  clear hmk
  go_loopw [4] (fun i wr => ∃ (k : Nat) (xs : List Value), i = .int .i64 k ∧ k ≤ n ∧ Hid (wr.ownsRow w.heap.size 149 2 (.slice (some ⟨g, 0, none⟩) n n) n xs) ∧ Below w.heap.size w wr ∧ Hid (∀ q p c u, q < k → l[q]? = some p → (capC p)[c]? = some u → xs[q * 2 + c]? = some u)) (fun i _ => n - (intOf i).toNat)
  case atStart => exact ⟨0, xs0, rfl, Nat.zero_le _, HR, hbel, fun q _ _ _ hq => absurd hq (Nat.not_lt_zero _)⟩
  case round =>
    clear HR hbel
    obtain ⟨k, xs, rfl, hk, HO, hbw, HQ⟩ := hrel
    by_cases hkn : k < n
    · obtain ⟨b, o, rfl, hb, hcell⟩ := HC.out (by omega)
      obtain ⟨p, hp⟩ : ∃ p, l[k]? = some p := ⟨_, List.getElem?_eq_getElem (by have := HN.out; omega)⟩
      have c0 : wr.cell? ⟨b, o + k * 2, none⟩ = some (.bool p.reg) := (hbw.cell hb).trans (hcell k p hp 0 _ rfl)
      have c1 : wr.cell? ⟨b, o + k * 2 + 1, none⟩ = some (.int .i64 p.index) := (hbw.cell hb).trans (hcell k p hp 1 _ rfl)
      have cN := toCap_any p wr
      have HP : Hid (l[k]? = some p) := hp
      clear hcell HC hp
      have hki : (k : Int) < (n : Int) := by omega
      have hk0 : (0 : Int) ≤ (k : Int) := by omega
      go_wp2_with fail
      refine cN.mono ?_
      rintro e w1 ⟨rfl, b1⟩
      have HO1 : Hid (w1.ownsRow w.heap.size 149 2 (.slice (some ⟨g, 0, none⟩) n n) n xs) := row_keep HO.out b1
      obtain ⟨⟨u0, o0⟩, f0⟩ := row_cell HO1.out (k * 2) (by omega)
      obtain ⟨⟨u1, o1⟩, f1⟩ := row_cell HO1.out (k * 2 + 1) (by omega)
      have HW : Hid ((layW w1 g (k * 2) (capC p)).ownsRow w.heap.size 149 2 (.slice (some ⟨g, 0, none⟩) n n) n (layL xs (k * 2) (capC p))
          ∧ Below w.heap.size w (layW w1 g (k * 2) (capC p))
          ∧ ∀ q p' c u, q < k + 1 → l[q]? = some p' → (capC p')[c]? = some u → (layL xs (k * 2) (capC p))[q * 2 + c]? = some u) := by
        have hxl : xs.length = n * 2 := HO.out.1
        refine ⟨layW_own _ _ _ _ HO1.out, layW_below hge _ _ _ (chain hbw b1), fun q p' c u hq hp' hu => ?_⟩
        have hc8 : c < 2 := (List.getElem?_eq_some_iff.1 hu).1
        rcases Nat.lt_or_ge q k with h' | h'
        · rw [layL_other _ _ _ _ (by left; omega)]
          exact HQ.out q p' c u h' hp' hu
        · have e : q = k := by omega
          subst e
          have e2 := HP.out
          rw [hp'] at e2
          injection e2 with e2
          subst e2
          exact layL_here _ _ _ _ _ hu (by rw [hxl]; show q * 2 + 2 ≤ _; omega)
      clear HO HQ HO1 b1 cN HE HP
      unfold capC at HW
      go_wp2
      go_roundw
      case rel => exact ⟨k + 1, _, by go_num, by omega, HW.out.1, HW.out.2.1, HW.out.2.2⟩
      case measure => simp [intOf]; omega
    · have hkn' : k = n := by omega
      subst hkn'
      have hx := HE.out xs HO.out.1 (fun q p c u hp hu => HQ.out q p c u (by have := (List.getElem?_eq_some_iff.1 hp).1; have := HN.out; omega) hp hu)
      subst hx
      go_wp2
      go_ret
      exact ⟨_, rfl, HO.out, hbw⟩
set_option maxHeartbeats 400000 in
set_option maxRecDepth 100000 in
theorem toHandler_any (p : PHnd) (w : World) :
    Calls Try.prog 106 #[.agg #[.int .i64 p.lo, .int .i64 p.hi, .int .i64 p.target]] w fun e w' => e = .returned (.agg #[.int .i64 p.lo, .int .i64 p.hi, .int .i64 p.target]) ∧ Below w.heap.size w w' := by
  go_enter Try.func106, Try.ntmps106
  go_wp2
  go_returns
  exact ⟨rfl, by go_grown⟩
theorem Try.infoHandler13 : (Try.prog.info? 130).map (fun i => (i.zero, i.size, i.bytes)) = some (some (.agg #[.int .i64 0, .int .i64 0, .int .i64 0]), 3, 24) := by kernel_rfl
theorem made_Handler (w : World) (n : Nat) (hn : n ≤ 1048576) : ∃ W1 : World, (Instr.makeSlice 68 (.int .i64 (n : Int)) (.int .i64 (n : Int))).run Try.prog w = .ok (.slice (some ⟨w.heap.size, 0, none⟩) n n) W1 ∧
    (∃ xs, W1.ownsRow w.heap.size 130 3 (.slice (some ⟨w.heap.size, 0, none⟩) n n) n xs) ∧ Below w.heap.size w W1 := by
  obtain ⟨i0, hi, hz0, hz1, hz2⟩ := info_in Try.infoHandler13
  obtain ⟨W, h1, h2, h3⟩ := run_make_full (P := Try.prog) w w.heap.size 68 130 i0 _ 3 Try.underlying68 hi hz0 hz1 .i64 .i64 n (by rw [hz2]; omega) (by unfold maxLen; omega) (Nat.le_refl _)
  exact ⟨W, h1, ⟨_, h2⟩, ⟨h3.os, h3.tape, h3.output, h3.size, fun k hk => h3.block k hk (by simp)⟩⟩
set_option maxHeartbeats 1000000 in
set_option maxRecDepth 100000 in
theorem toHandlerS_any (v : Value) (l : List PHnd) (w : World) (hv : ArgFlat w v 3 l.length (l.flatMap hndC)) (hfew : l.length ≤ 1048576) :
    Calls Try.prog 73 #[v] w fun e w' => ∃ v', e = .returned v' ∧ w'.ownsRow w.heap.size 130 3 v' l.length (l.flatMap hndC) ∧ Below w.heap.size w w' := by
  obtain ⟨x, c, rfl, hm, hc⟩ := hv.opened hndC_len
  clear hv
  obtain ⟨n, hn⟩ : ∃ n, l.length = n := ⟨_, rfl⟩
  have HN : Hid (l.length = n) := hn
  have HE : Hid (∀ xs : List Value, xs.length = n * 3 → (∀ q p c u, l[q]? = some p → (hndC p)[c]? = some u → xs[q * 3 + c]? = some u) → xs = l.flatMap hndC) := fun xs h1 h2 => flat_ext hndC_len (by decide) l xs (by rw [hn]; exact h1) h2
  rw [hn] at hm hc hfew ⊢
  clear hn
  unfold maxLen at hm
  obtain ⟨W1, hmk, ⟨xs0, hrow⟩, hbel⟩ := made_Handler w n hfew
  obtain ⟨g, hg⟩ : ∃ g, w.heap.size = g := ⟨_, rfl⟩
  have hge : w.heap.size ≤ g := by omega
  rw [hg] at hmk
  have HR : Hid (W1.ownsRow w.heap.size 130 3 (.slice (some ⟨g, 0, none⟩) n n) n xs0) := by rw [hg]; rw [hg] at hrow; exact hrow
  have HC : Hid (0 < n → ∃ b o, x = some ⟨b, o, none⟩ ∧ b < w.heap.size ∧ ∀ j p, l[j]? = some p → ∀ c u, (hndC p)[c]? = some u → w.cell? ⟨b, o + j * 3 + c, none⟩ = some u) := hc
  clear hrow hg hc
  go_enter Try.func73, Try.ntmps73
  go_wp2
  clear hmk
  go_loopw [4] (fun i wr => ∃ (k : Nat) (xs : List Value), i = .int .i64 k ∧ k ≤ n ∧ Hid (wr.ownsRow w.heap.size 130 3 (.slice (some ⟨g, 0, none⟩) n n) n xs) ∧ Below w.heap.size w wr ∧ Hid (∀ q p c u, q < k → l[q]? = some p → (hndC p)[c]? = some u → xs[q * 3 + c]? = some u)) (fun i _ => n - (intOf i).toNat)
  case atStart => exact ⟨0, xs0, rfl, Nat.zero_le _, HR, hbel, fun q _ _ _ hq => absurd hq (Nat.not_lt_zero _)⟩
  case round =>
    clear HR hbel
    obtain ⟨k, xs, rfl, hk, HO, hbw, HQ⟩ := hrel
    by_cases hkn : k < n
    · obtain ⟨b, o, rfl, hb, hcell⟩ := HC.out (by omega)
      obtain ⟨p, hp⟩ : ∃ p, l[k]? = some p := ⟨_, List.getElem?_eq_getElem (by have := HN.out; omega)⟩
      have c0 : wr.cell? ⟨b, o + k * 3, none⟩ = some (.int .i64 p.lo) := (hbw.cell hb).trans (hcell k p hp 0 _ rfl)
      have c1 : wr.cell? ⟨b, o + k * 3 + 1, none⟩ = some (.int .i64 p.hi) := (hbw.cell hb).trans (hcell k p hp 1 _ rfl)
      have c2 : wr.cell? ⟨b, o + k * 3 + 2, none⟩ = some (.int .i64 p.target) := (hbw.cell hb).trans (hcell k p hp 2 _ rfl)
      have cN := toHandler_any p wr
      have HP : Hid (l[k]? = some p) := hp
      clear hcell HC hp
      have hki : (k : Int) < (n : Int) := by omega
      have hk0 : (0 : Int) ≤ (k : Int) := by omega
      go_wp2_with fail
      refine cN.mono ?_
      rintro e w1 ⟨rfl, b1⟩
      have HO1 : Hid (w1.ownsRow w.heap.size 130 3 (.slice (some ⟨g, 0, none⟩) n n) n xs) := row_keep HO.out b1
      obtain ⟨⟨u0, o0⟩, f0⟩ := row_cell HO1.out (k * 3) (by omega)
      obtain ⟨⟨u1, o1⟩, f1⟩ := row_cell HO1.out (k * 3 + 1) (by omega)
      obtain ⟨⟨u2, o2⟩, f2⟩ := row_cell HO1.out (k * 3 + 2) (by omega)
      have HW : Hid ((layW w1 g (k * 3) (hndC p)).ownsRow w.heap.size 130 3 (.slice (some ⟨g, 0, none⟩) n n) n (layL xs (k * 3) (hndC p))
          ∧ Below w.heap.size w (layW w1 g (k * 3) (hndC p))
          ∧ ∀ q p' c u, q < k + 1 → l[q]? = some p' → (hndC p')[c]? = some u → (layL xs (k * 3) (hndC p))[q * 3 + c]? = some u) := by
        have hxl : xs.length = n * 3 := HO.out.1
        refine ⟨layW_own _ _ _ _ HO1.out, layW_below hge _ _ _ (chain hbw b1), fun q p' c u hq hp' hu => ?_⟩
        have hc8 : c < 3 := (List.getElem?_eq_some_iff.1 hu).1
        rcases Nat.lt_or_ge q k with h' | h'
        · rw [layL_other _ _ _ _ (by left; omega)]
          exact HQ.out q p' c u h' hp' hu
        · have e : q = k := by omega
          subst e
          have e2 := HP.out
          rw [hp'] at e2
          injection e2 with e2
          subst e2
          exact layL_here _ _ _ _ _ hu (by rw [hxl]; show q * 3 + 3 ≤ _; omega)
      clear HO HQ HO1 b1 cN HE HP
      unfold hndC at HW
      go_wp2
      go_roundw
      case rel => exact ⟨k + 1, _, by go_num, by omega, HW.out.1, HW.out.2.1, HW.out.2.2⟩
      case measure => simp [intOf]; omega
    · have hkn' : k = n := by omega
      subst hkn'
      have hx := HE.out xs HO.out.1 (fun q p c u hp hu => HQ.out q p c u (by have := (List.getElem?_eq_some_iff.1 hp).1; have := HN.out; omega) hp hu)
      subst hx
      go_wp2
      go_ret
      exact ⟨_, rfl, HO.out, hbw⟩
set_option maxHeartbeats 400000 in
set_option maxRecDepth 100000 in
theorem toConst_any (p : PCon) (w : World) :
    Calls Try.prog 49 #[.agg #[.int .i64 p.kind, .int .u64 (p.num : Int), .string p.text]] w fun e w' => e = .returned (.agg #[.int .i64 p.kind, .int .u64 (p.num : Int), .string p.text]) ∧ Below w.heap.size w w' := by
  go_enter Try.func49, Try.ntmps49
  go_wp2
  go_returns
  exact ⟨rfl, by go_grown⟩
theorem Try.infoConst13 : (Try.prog.info? 100).map (fun i => (i.zero, i.size, i.bytes)) = some (some (.agg #[.int .i64 0, .int .u64 0, .string ByteArray.empty]), 3, 32) := by kernel_rfl
theorem made_Const (w : World) (n : Nat) (hn : n ≤ 1048576) : ∃ W1 : World, (Instr.makeSlice 29 (.int .i64 (n : Int)) (.int .i64 (n : Int))).run Try.prog w = .ok (.slice (some ⟨w.heap.size, 0, none⟩) n n) W1 ∧
    (∃ xs, W1.ownsRow w.heap.size 100 3 (.slice (some ⟨w.heap.size, 0, none⟩) n n) n xs) ∧ Below w.heap.size w W1 := by
  obtain ⟨i0, hi, hz0, hz1, hz2⟩ := info_in Try.infoConst13
  obtain ⟨W, h1, h2, h3⟩ := run_make_full (P := Try.prog) w w.heap.size 29 100 i0 _ 3 Try.underlying29 hi hz0 hz1 .i64 .i64 n (by rw [hz2]; omega) (by unfold maxLen; omega) (Nat.le_refl _)
  exact ⟨W, h1, ⟨_, h2⟩, ⟨h3.os, h3.tape, h3.output, h3.size, fun k hk => h3.block k hk (by simp)⟩⟩
set_option maxHeartbeats 1000000 in
set_option maxRecDepth 100000 in
theorem toConstS_any (v : Value) (l : List PCon) (w : World) (hv : ArgFlat w v 3 l.length (l.flatMap conC)) (hfew : l.length ≤ 1048576) :
    Calls Try.prog 26 #[v] w fun e w' => ∃ v', e = .returned v' ∧ w'.ownsRow w.heap.size 100 3 v' l.length (l.flatMap conC) ∧ Below w.heap.size w w' := by
  obtain ⟨x, c, rfl, hm, hc⟩ := hv.opened conC_len
  clear hv
  obtain ⟨n, hn⟩ : ∃ n, l.length = n := ⟨_, rfl⟩
  have HN : Hid (l.length = n) := hn
  have HE : Hid (∀ xs : List Value, xs.length = n * 3 → (∀ q p c u, l[q]? = some p → (conC p)[c]? = some u → xs[q * 3 + c]? = some u) → xs = l.flatMap conC) := fun xs h1 h2 => flat_ext conC_len (by decide) l xs (by rw [hn]; exact h1) h2
  rw [hn] at hm hc hfew ⊢
  clear hn
  unfold maxLen at hm
  obtain ⟨W1, hmk, ⟨xs0, hrow⟩, hbel⟩ := made_Const w n hfew
  obtain ⟨g, hg⟩ : ∃ g, w.heap.size = g := ⟨_, rfl⟩
  have hge : w.heap.size ≤ g := by omega
  rw [hg] at hmk
  have HR : Hid (W1.ownsRow w.heap.size 100 3 (.slice (some ⟨g, 0, none⟩) n n) n xs0) := by rw [hg]; rw [hg] at hrow; exact hrow
  have HC : Hid (0 < n → ∃ b o, x = some ⟨b, o, none⟩ ∧ b < w.heap.size ∧ ∀ j p, l[j]? = some p → ∀ c u, (conC p)[c]? = some u → w.cell? ⟨b, o + j * 3 + c, none⟩ = some u) := hc
  clear hrow hg hc
  go_enter Try.func26, Try.ntmps26
  go_wp2
  clear hmk
  go_loopw [4] (fun i wr => ∃ (k : Nat) (xs : List Value), i = .int .i64 k ∧ k ≤ n ∧ Hid (wr.ownsRow w.heap.size 100 3 (.slice (some ⟨g, 0, none⟩) n n) n xs) ∧ Below w.heap.size w wr ∧ Hid (∀ q p c u, q < k → l[q]? = some p → (conC p)[c]? = some u → xs[q * 3 + c]? = some u)) (fun i _ => n - (intOf i).toNat)
  case atStart => exact ⟨0, xs0, rfl, Nat.zero_le _, HR, hbel, fun q _ _ _ hq => absurd hq (Nat.not_lt_zero _)⟩
  case round =>
    clear HR hbel
    obtain ⟨k, xs, rfl, hk, HO, hbw, HQ⟩ := hrel
    by_cases hkn : k < n
    · obtain ⟨b, o, rfl, hb, hcell⟩ := HC.out (by omega)
      obtain ⟨p, hp⟩ : ∃ p, l[k]? = some p := ⟨_, List.getElem?_eq_getElem (by have := HN.out; omega)⟩
      have c0 : wr.cell? ⟨b, o + k * 3, none⟩ = some (.int .i64 p.kind) := (hbw.cell hb).trans (hcell k p hp 0 _ rfl)
      have c1 : wr.cell? ⟨b, o + k * 3 + 1, none⟩ = some (.int .u64 (p.num : Int)) := (hbw.cell hb).trans (hcell k p hp 1 _ rfl)
      have c2 : wr.cell? ⟨b, o + k * 3 + 2, none⟩ = some (.string p.text) := (hbw.cell hb).trans (hcell k p hp 2 _ rfl)
      have cN := toConst_any p wr
      have HP : Hid (l[k]? = some p) := hp
      clear hcell HC hp
      have hki : (k : Int) < (n : Int) := by omega
      have hk0 : (0 : Int) ≤ (k : Int) := by omega
      go_wp2_with fail
      refine cN.mono ?_
      rintro e w1 ⟨rfl, b1⟩
      have HO1 : Hid (w1.ownsRow w.heap.size 100 3 (.slice (some ⟨g, 0, none⟩) n n) n xs) := row_keep HO.out b1
      obtain ⟨⟨u0, o0⟩, f0⟩ := row_cell HO1.out (k * 3) (by omega)
      obtain ⟨⟨u1, o1⟩, f1⟩ := row_cell HO1.out (k * 3 + 1) (by omega)
      obtain ⟨⟨u2, o2⟩, f2⟩ := row_cell HO1.out (k * 3 + 2) (by omega)
      have HW : Hid ((layW w1 g (k * 3) (conC p)).ownsRow w.heap.size 100 3 (.slice (some ⟨g, 0, none⟩) n n) n (layL xs (k * 3) (conC p))
          ∧ Below w.heap.size w (layW w1 g (k * 3) (conC p))
          ∧ ∀ q p' c u, q < k + 1 → l[q]? = some p' → (conC p')[c]? = some u → (layL xs (k * 3) (conC p))[q * 3 + c]? = some u) := by
        have hxl : xs.length = n * 3 := HO.out.1
        refine ⟨layW_own _ _ _ _ HO1.out, layW_below hge _ _ _ (chain hbw b1), fun q p' c u hq hp' hu => ?_⟩
        have hc8 : c < 3 := (List.getElem?_eq_some_iff.1 hu).1
        rcases Nat.lt_or_ge q k with h' | h'
        · rw [layL_other _ _ _ _ (by left; omega)]
          exact HQ.out q p' c u h' hp' hu
        · have e : q = k := by omega
          subst e
          have e2 := HP.out
          rw [hp'] at e2
          injection e2 with e2
          subst e2
          exact layL_here _ _ _ _ _ hu (by rw [hxl]; show q * 3 + 3 ≤ _; omega)
      clear HO HQ HO1 b1 cN HE HP
      unfold conC at HW
      go_wp2
      go_roundw
      case rel => exact ⟨k + 1, _, by go_num, by omega, HW.out.1, HW.out.2.1, HW.out.2.2⟩
      case measure => simp [intOf]; omega
    · have hkn' : k = n := by omega
      subst hkn'
      have hx := HE.out xs HO.out.1 (fun q p c u hp hu => HQ.out q p c u (by have := (List.getElem?_eq_some_iff.1 hp).1; have := HN.out; omega) hp hu)
      subst hx
      go_wp2
      go_ret
      exact ⟨_, rfl, HO.out, hbw⟩
end Go.Proofs.Ytbgdapdenbldmaa
namespace Go.Proofs.Ytbgdapdenbldmaa
open Go.RowKit
set_option linter.unusedVariables false
theorem cells_five {w : World} {g : Nat} {a0 a1 a2 a3 a4 : Value} {t : TypeId} {r : Nat × Nat} (h : w.heap[g]? = some (.cells #[a0, a1, a2, a3, a4] t r)) :
    w.cell? ⟨g, 0, none⟩ = some a0 ∧ w.cell? ⟨g, 1, none⟩ = some a1 ∧ w.cell? ⟨g, 2, none⟩ = some a2 ∧ w.cell? ⟨g, 3, none⟩ = some a3 ∧ w.cell? ⟨g, 4, none⟩ = some a4 := by
  refine ⟨?_, ?_, ?_, ?_, ?_⟩ <;> (rw [cell_of_row _ _ _ _ _ _ h]; rfl)
theorem five_put {w : World} {g : Nat} {a0 a1 a2 a3 a4 b0 b1 b2 b3 b4 : Value} {t : TypeId} (h : w.heap[g]? = some (.cells #[a0, a1, a2, a3, a4] t)) :
    (((((w.setCell ⟨g, 0, none⟩ b0).setCell ⟨g, 1, none⟩ b1).setCell ⟨g, 2, none⟩ b2).setCell ⟨g, 3, none⟩ b3).setCell ⟨g, 4, none⟩ b4).heap[g]? = some (.cells #[b0, b1, b2, b3, b4] t) := by
  have k0 : (w.setCell ⟨g, 0, none⟩ b0).heap[g]? = some (.cells #[b0, a1, a2, a3, a4] t) := heap_setCell_same _ _ _ _ _ _ h
  have k1 := heap_setCell_same _ _ 1 _ _ b1 k0
  have k2 : _ = some (Obj.cells #[b0, b1, b2, a3, a4] t) := heap_setCell_same _ _ 2 _ _ b2 k1
  have k3 := heap_setCell_same _ _ 3 _ _ b3 k2
  exact heap_setCell_same _ _ 4 _ _ b4 k3
theorem made_three (w : World) (o1 o2 o3 : Obj) : (((w.alloc o1).alloc o2).alloc o3).heap[w.heap.size]? = some o1 ∧ (((w.alloc o1).alloc o2).alloc o3).heap[w.heap.size + 1]? = some o2 ∧ (((w.alloc o1).alloc o2).alloc o3).heap[w.heap.size + 2]? = some o3 ∧ (((w.alloc o1).alloc o2).alloc o3).heap.size = w.heap.size + 3 ∧ Below w.heap.size w (((w.alloc o1).alloc o2).alloc o3) := by
  have z1 : (w.alloc o1).heap.size = w.heap.size + 1 := by simp
  have z2 : ((w.alloc o1).alloc o2).heap.size = w.heap.size + 2 := by simp
  refine ⟨?_, ?_, ?_, by simp, (((Below.refl _ _).alloc (Nat.le_refl _) _).alloc (by simp) _).alloc (by simp; omega) _⟩
  · rw [heap_alloc_old (r := w.heap.size) _ _ (by omega), heap_alloc_old (r := w.heap.size) _ _ (by omega)]
    exact heap_alloc_new _ _
  · rw [heap_alloc_old (r := w.heap.size + 1) _ _ (by omega), ← z1]
    exact heap_alloc_new _ _
  · rw [← z2]
    exact heap_alloc_new _ _
theorem put_field {w0 w1 : World} {G D k : Nat} {i r m m' : Array Value} {ti tr tm : TypeId} {B : Nat} {v : Value} (hD : G + 1 + 1 = D) (h0 : w1.heap[G]? = some (.cells i ti)) (h1 : w1.heap[G + 1]? = some (.cells r tr)) (h2 : w1.heap[D]? = some (.cells m tm)) (hb : Below B w0 w1) (hB : B ≤ G) (hs : D + 1 ≤ w1.heap.size) (hm : m.set! k v = m') :
    (w1.setCell ⟨D, k, none⟩ v).heap[G]? = some (.cells i ti) ∧ (w1.setCell ⟨D, k, none⟩ v).heap[G + 1]? = some (.cells r tr) ∧ (w1.setCell ⟨D, k, none⟩ v).heap[D]? = some (.cells m' tm) ∧ Below B w0 (w1.setCell ⟨D, k, none⟩ v) ∧ D + 1 ≤ (w1.setCell ⟨D, k, none⟩ v).heap.size := by
  refine ⟨(heap_setCell_other w1 ⟨D, k, none⟩ G v (by show G ≠ D; omega)).trans h0, (heap_setCell_other w1 ⟨D, k, none⟩ (G + 1) v (by show G + 1 ≠ D; omega)).trans h1, ?_, hb.setCell (p := ⟨D, k, none⟩) (by show B ≤ D; omega) v, by simp; omega⟩
  rw [← hm]
  exact heap_setCell_same w1 D k _ _ v h2
theorem kept_three {w0 w1 w2 : World} {G D : Nat} {i r m : Array Value} {ti tr tm : TypeId} {B : Nat} (hD : G + 1 + 1 = D) (h0 : w1.heap[G]? = some (.cells i ti)) (h1 : w1.heap[G + 1]? = some (.cells r tr)) (h2 : w1.heap[D]? = some (.cells m tm)) (hb : Below B w0 w1) (hB : B ≤ G) (hs : D + 1 ≤ w1.heap.size) (b : Below w1.heap.size w1 w2) :
    w2.heap[G]? = some (.cells i ti) ∧ w2.heap[G + 1]? = some (.cells r tr) ∧ w2.heap[D]? = some (.cells m tm) ∧ Below B w0 w2 ∧ D + 1 ≤ w2.heap.size :=
  ⟨(b.block G (by omega)).trans h0, (b.block (G + 1) (by omega)).trans h1, (b.block D (by omega)).trans h2, hb.trans (b.mono (by omega)), Nat.le_trans hs b.size⟩
set_option maxHeartbeats 1000000 in
set_option maxRecDepth 100000 in
theorem toFunc_any (p : PFun) (cv kv hv : Value) (w : World) (h2 : ArgFlat w cv 2 p.caps.length (p.caps.flatMap capC)) (h3 : ArgFlat w kv 3 p.code.length (p.code.flatMap insC)) (h4 : ArgFlat w hv 3 p.hnds.length (p.hnds.flatMap hndC)) (hf : p.caps.length ≤ 1048576 ∧ p.code.length ≤ 1048576 ∧ p.hnds.length ≤ 1048576) :
    Calls Try.prog 48 #[.agg #[.int .i64 p.params, .int .i64 p.regs, cv, kv, hv]] w fun e w' => ∃ cv' kv' hv', e = .returned (.agg #[.int .i64 p.params, .int .i64 p.regs, cv', kv', hv']) ∧ w'.ownsRow w.heap.size 149 2 cv' p.caps.length (p.caps.flatMap capC) ∧ w'.ownsRow w.heap.size 72 3 kv' p.code.length (p.code.flatMap insC) ∧ w'.ownsRow w.heap.size 130 3 hv' p.hnds.length (p.hnds.flatMap hndC) ∧ Below w.heap.size w w' := by
  have cC := fun W (hb : Below w.heap.size w W) => toCapS_any cv p.caps W (h2.below hb) hf.1
  have cK := fun W (hb : Below w.heap.size w W) => toInsS_any kv p.code W (h3.below hb) hf.2.1
  have cH := fun W (hb : Below w.heap.size w W) => toHandlerS_any hv p.hnds W (h4.below hb) hf.2.2
  clear h2 h3 h4 hf
  go_enter Try.func48, Try.ntmps48
  go_wp2_with fail
  have T := made_three w (Obj.cells #[Value.int IntKind.i64 p.params, Value.int IntKind.i64 p.regs, cv, kv, hv] 88) (Obj.cells #[Value.int IntKind.i64 0, Value.int IntKind.i64 0, Value.slice none 0 0, Value.slice none 0 0, Value.slice none 0 0] 70) (Obj.cells #[Value.int IntKind.i64 p.params, Value.int IntKind.i64 p.regs, Value.slice none 0 0, Value.slice none 0 0, Value.slice none 0 0] 70)
  obtain ⟨W3, hW3⟩ : ∃ W, (((w.alloc (Obj.cells #[Value.int IntKind.i64 p.params, Value.int IntKind.i64 p.regs, cv, kv, hv] 88)).alloc (Obj.cells #[Value.int IntKind.i64 0, Value.int IntKind.i64 0, Value.slice none 0 0, Value.slice none 0 0, Value.slice none 0 0] 70)).alloc (Obj.cells #[Value.int IntKind.i64 p.params, Value.int IntKind.i64 p.regs, Value.slice none 0 0, Value.slice none 0 0, Value.slice none 0 0] 70)) = W := ⟨_, rfl⟩
  rw [hW3] at T ⊢
  clear hW3
  obtain ⟨t0, t1, t2, tz, tb⟩ := T
  obtain ⟨G, hG⟩ : ∃ G, w.heap.size = G := ⟨_, rfl⟩
  obtain ⟨D, hD⟩ : ∃ D, G + 1 + 1 = D := ⟨_, rfl⟩
  rw [hG] at t0 t1 tz
  rw [show w.heap.size + 2 = D by omega] at t2
  have hsz : D + 1 ≤ W3.heap.size := by omega
  have HG : Hid (w.heap.size = G) := hG
  have hB : w.heap.size ≤ G := by omega
  clear tz
  refine (cC W3 tb).mono ?_
  rintro e w1 ⟨v1, rfl, own1, b1⟩
  obtain ⟨x1, y1, rfl⟩ := row_slice own1
  obtain ⟨u0, u1, u2, ub, us⟩ := kept_three hD t0 t1 t2 tb hB hsz b1
  have own1' : w1.ownsRow (D + 1) 149 2 (.slice x1 p.caps.length y1) p.caps.length (p.caps.flatMap capC) := row_low own1 hsz
  obtain ⟨d0, d1, d2, d3, d4⟩ := cells_five u0
  obtain ⟨e0, e1, e2, e3, e4⟩ := cells_five u2
  have fD := fun j => frozen_of_row w1 D j _ _ u2
  obtain ⟨s0, s1, s2, sb, ss⟩ := put_field (k := 2) (v := .slice x1 p.caps.length y1) (m' := #[.int .i64 p.params, .int .i64 p.regs, .slice x1 p.caps.length y1, .slice none 0 0, .slice none 0 0]) hD u0 u1 u2 ub hB us rfl
  have own1'' : (w1.setCell ⟨D, 2, none⟩ (.slice x1 p.caps.length y1)).ownsRow (D + 1) 149 2 (.slice x1 p.caps.length y1) p.caps.length (p.caps.flatMap capC) := ownsRow_setCell_below own1' (a := ⟨D, 2, none⟩) (by show D < D + 1; omega) _
  clear t0 t1 t2 tb hsz b1 own1 u0 u1 u2 ub us own1'
  try simp only [hG, hD]
  go_upto_region 5 with fail
  obtain ⟨V1, hV⟩ : ∃ W, w1.setCell ⟨D, 2, none⟩ (.slice x1 p.caps.length y1) = W := ⟨_, rfl⟩
  simp only [hV] at s0 s1 s2 sb ss own1'' ⊢
  clear hV d0 d1 d2 d3 d4 e0 e1 e2 e3 e4 fD
  have own1' := own1''
  clear own1''
  have t0 := s0
  have t1 := s1
  have t2 := s2
  have tb := sb
  have hsz := ss
  clear s0 s1 s2 sb ss
  obtain ⟨d0, d1, d2, d3, d4⟩ := cells_five t0
  go_wp2_with fail
  refine (cK V1 tb).mono ?_
  rintro e w2 ⟨v2, rfl, own2, b2⟩
  clear d0 d1 d2 d3 d4
  obtain ⟨x2, y2, rfl⟩ := row_slice own2
  obtain ⟨u0, u1, u2, ub, us⟩ := kept_three hD t0 t1 t2 tb hB hsz b2
  have own2' : w2.ownsRow (D + 1) 72 3 (.slice x2 p.code.length y2) p.code.length (p.code.flatMap insC) := row_low own2 hsz
  have own1' := row_keep own1' b2
  obtain ⟨d0, d1, d2, d3, d4⟩ := cells_five u0
  obtain ⟨e0, e1, e2, e3, e4⟩ := cells_five u2
  have fD := fun j => frozen_of_row w2 D j _ _ u2
  obtain ⟨s0, s1, s2, sb, ss⟩ := put_field (k := 3) (v := .slice x2 p.code.length y2) (m' := #[.int .i64 p.params, .int .i64 p.regs, .slice x1 p.caps.length y1, .slice x2 p.code.length y2, .slice none 0 0]) hD u0 u1 u2 ub hB us rfl
  have own1'' : (w2.setCell ⟨D, 3, none⟩ (.slice x2 p.code.length y2)).ownsRow (D + 1) 149 2 (.slice x1 p.caps.length y1) p.caps.length (p.caps.flatMap capC) := ownsRow_setCell_below own1' (a := ⟨D, 3, none⟩) (by show D < D + 1; omega) _
  have own2'' : (w2.setCell ⟨D, 3, none⟩ (.slice x2 p.code.length y2)).ownsRow (D + 1) 72 3 (.slice x2 p.code.length y2) p.code.length (p.code.flatMap insC) := ownsRow_setCell_below own2' (a := ⟨D, 3, none⟩) (by show D < D + 1; omega) _
  clear t0 t1 t2 tb hsz b2 own2 u0 u1 u2 ub us own1' own2'
  go_upto_region 6 with fail
  obtain ⟨V2, hV⟩ : ∃ W, w2.setCell ⟨D, 3, none⟩ (.slice x2 p.code.length y2) = W := ⟨_, rfl⟩
  simp only [hV] at s0 s1 s2 sb ss own1'' own2'' ⊢
  clear hV d0 d1 d2 d3 d4 e0 e1 e2 e3 e4 fD
  have own1' := own1''
  have own2' := own2''
  clear own1'' own2''
  have t0 := s0
  have t1 := s1
  have t2 := s2
  have tb := sb
  have hsz := ss
  clear s0 s1 s2 sb ss
  obtain ⟨d0, d1, d2, d3, d4⟩ := cells_five t0
  go_wp2_with fail
  refine (cH V2 tb).mono ?_
  rintro e w3 ⟨v3, rfl, own3, b3⟩
  clear d0 d1 d2 d3 d4
  obtain ⟨x3, y3, rfl⟩ := row_slice own3
  obtain ⟨u0, u1, u2, ub, us⟩ := kept_three hD t0 t1 t2 tb hB hsz b3
  have own3' : w3.ownsRow (D + 1) 130 3 (.slice x3 p.hnds.length y3) p.hnds.length (p.hnds.flatMap hndC) := row_low own3 hsz
  have own1' := row_keep own1' b3
  have own2' := row_keep own2' b3
  obtain ⟨d0, d1, d2, d3, d4⟩ := cells_five u0
  obtain ⟨e0, e1, e2, e3, e4⟩ := cells_five u2
  have fD := fun j => frozen_of_row w3 D j _ _ u2
  obtain ⟨s0, s1, s2, sb, ss⟩ := put_field (k := 4) (v := .slice x3 p.hnds.length y3) (m' := #[.int .i64 p.params, .int .i64 p.regs, .slice x1 p.caps.length y1, .slice x2 p.code.length y2, .slice x3 p.hnds.length y3]) hD u0 u1 u2 ub hB us rfl
  have own1'' : (w3.setCell ⟨D, 4, none⟩ (.slice x3 p.hnds.length y3)).ownsRow (D + 1) 149 2 (.slice x1 p.caps.length y1) p.caps.length (p.caps.flatMap capC) := ownsRow_setCell_below own1' (a := ⟨D, 4, none⟩) (by show D < D + 1; omega) _
  have own2'' : (w3.setCell ⟨D, 4, none⟩ (.slice x3 p.hnds.length y3)).ownsRow (D + 1) 72 3 (.slice x2 p.code.length y2) p.code.length (p.code.flatMap insC) := ownsRow_setCell_below own2' (a := ⟨D, 4, none⟩) (by show D < D + 1; omega) _
  have own3'' : (w3.setCell ⟨D, 4, none⟩ (.slice x3 p.hnds.length y3)).ownsRow (D + 1) 130 3 (.slice x3 p.hnds.length y3) p.hnds.length (p.hnds.flatMap hndC) := ownsRow_setCell_below own3' (a := ⟨D, 4, none⟩) (by show D < D + 1; omega) _
  clear t0 t1 t2 tb hsz b3 own3 u0 u1 u2 ub us own1' own2' own3'
  go_upto_region 7 with fail
  obtain ⟨V3, hV⟩ : ∃ W, w3.setCell ⟨D, 4, none⟩ (.slice x3 p.hnds.length y3) = W := ⟨_, rfl⟩
  simp only [hV] at s0 s1 s2 sb ss own1'' own2'' own3'' ⊢
  clear hV d0 d1 d2 d3 d4 e0 e1 e2 e3 e4 fD
  have own1' := own1''
  have own2' := own2''
  have own3' := own3''
  clear own1'' own2'' own3''
  have t0 := s0
  have t1 := s1
  have t2 := s2
  have tb := sb
  have hsz := ss
  clear s0 s1 s2 sb ss
  obtain ⟨e0, e1, e2, e3, e4⟩ := cells_five t2
  obtain ⟨i0, i1, i2, i3, i4⟩ := cells_five t1
  have fG := fun j => frozen_of_row V3 (G + 1) j _ _ t1
  have z1 := five_put (b0 := .int .i64 p.params) (b1 := .int .i64 p.regs) (b2 := .slice x1 p.caps.length y1) (b3 := .slice x2 p.code.length y2) (b4 := .slice x3 p.hnds.length y3) t1
  obtain ⟨g0, g1, g2, g3, g4⟩ := cells_five z1
  have HT : Hid (Below w.heap.size w (((((V3.setCell ⟨G + 1, 0, none⟩ (.int .i64 p.params)).setCell ⟨G + 1, 1, none⟩ (.int .i64 p.regs)).setCell ⟨G + 1, 2, none⟩ (.slice x1 p.caps.length y1)).setCell ⟨G + 1, 3, none⟩ (.slice x2 p.code.length y2)).setCell ⟨G + 1, 4, none⟩ (.slice x3 p.hnds.length y3)) ∧ (((((V3.setCell ⟨G + 1, 0, none⟩ (.int .i64 p.params)).setCell ⟨G + 1, 1, none⟩ (.int .i64 p.regs)).setCell ⟨G + 1, 2, none⟩ (.slice x1 p.caps.length y1)).setCell ⟨G + 1, 3, none⟩ (.slice x2 p.code.length y2)).setCell ⟨G + 1, 4, none⟩ (.slice x3 p.hnds.length y3)).ownsRow w.heap.size 149 2 (.slice x1 p.caps.length y1) p.caps.length (p.caps.flatMap capC) ∧ (((((V3.setCell ⟨G + 1, 0, none⟩ (.int .i64 p.params)).setCell ⟨G + 1, 1, none⟩ (.int .i64 p.regs)).setCell ⟨G + 1, 2, none⟩ (.slice x1 p.caps.length y1)).setCell ⟨G + 1, 3, none⟩ (.slice x2 p.code.length y2)).setCell ⟨G + 1, 4, none⟩ (.slice x3 p.hnds.length y3)).ownsRow w.heap.size 72 3 (.slice x2 p.code.length y2) p.code.length (p.code.flatMap insC) ∧ (((((V3.setCell ⟨G + 1, 0, none⟩ (.int .i64 p.params)).setCell ⟨G + 1, 1, none⟩ (.int .i64 p.regs)).setCell ⟨G + 1, 2, none⟩ (.slice x1 p.caps.length y1)).setCell ⟨G + 1, 3, none⟩ (.slice x2 p.code.length y2)).setCell ⟨G + 1, 4, none⟩ (.slice x3 p.hnds.length y3)).ownsRow w.heap.size 130 3 (.slice x3 p.hnds.length y3) p.hnds.length (p.hnds.flatMap hndC)) := by
    have q : ∀ (W : World) (j : Nat) (u : Value), Below w.heap.size w W → Below w.heap.size w (W.setCell ⟨G + 1, j, none⟩ u) := fun W j u h => h.setCell (p := ⟨G + 1, j, none⟩) (by show _ ≤ G + 1; omega) u
    have r : ∀ (W : World) (j : Nat) (u : Value) (e : TypeId) (k : Nat) (v : Value) (n : Nat) (xs : List Value), W.ownsRow (D + 1) e k v n xs → (W.setCell ⟨G + 1, j, none⟩ u).ownsRow (D + 1) e k v n xs := fun W j u e k v n xs h => ownsRow_setCell_below h (by show G + 1 < D + 1; omega) u
    exact ⟨q _ _ _ (q _ _ _ (q _ _ _ (q _ _ _ (q _ _ _ tb)))),
      row_low (r _ _ _ _ _ _ _ _ (r _ _ _ _ _ _ _ _ (r _ _ _ _ _ _ _ _ (r _ _ _ _ _ _ _ _ (r _ _ _ _ _ _ _ _ own1'))))) (by omega),
      row_low (r _ _ _ _ _ _ _ _ (r _ _ _ _ _ _ _ _ (r _ _ _ _ _ _ _ _ (r _ _ _ _ _ _ _ _ (r _ _ _ _ _ _ _ _ own2'))))) (by omega),
      row_low (r _ _ _ _ _ _ _ _ (r _ _ _ _ _ _ _ _ (r _ _ _ _ _ _ _ _ (r _ _ _ _ _ _ _ _ (r _ _ _ _ _ _ _ _ own3'))))) (by omega)⟩
  clear t0 t1 t2 z1 tb own1' own2' own3' cC cK cH
  go_wp2
  refine bodyPost_ret (by simp [results, Try.results48, go_sem, g0, g1, g2, g3, g4]; try rfl) rfl ?_
  exact ⟨_, _, _, rfl, HT.out.2.1, HT.out.2.2.1, HT.out.2.2.2, HT.out.1⟩
end Go.Proofs.Ytbgdapdenbldmaa
