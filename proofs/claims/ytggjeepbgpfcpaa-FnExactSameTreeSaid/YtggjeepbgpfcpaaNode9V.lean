/-
  The law's own helper that copies nodes; what it is that a list of nodes lies in memory of its own.
-/
import Derived.Test.YtggjeepbgpfcpaaNode9U
namespace Go.Proofs.Ytggjeepbgpfcpaa
open Go.RowKit
set_option linter.unusedVariables false

theorem own_low {w : World} {B B' : Nat} {e : TypeId} {size : Nat} {v : Value} {n : Nat} {xs : List Value} (h : w.ownsRow B e size v n xs) (hb : B' ≤ B) : w.ownsRow B' e size v n xs := by
  obtain ⟨e1, e2⟩ := h
  refine ⟨e1, e2.imp id ?_⟩
  rintro ⟨g, cap, cur, h1, h2, h3⟩
  exact ⟨g, cap, cur, h1, Nat.le_trans hb h2, h3⟩

/-- values stored one behind another -/
def putL (xs : List Value) (o : Nat) : List Value → List Value
  | [] => xs
  | v :: r => putL (xs.set o v) (o + 1) r
def putW (w : World) (g o : Nat) : List Value → World
  | [] => w
  | v :: r => putW (w.setCell ⟨g, o, none⟩ v) g (o + 1) r
theorem putL_len : ∀ (vs xs : List Value) (o : Nat), (putL xs o vs).length = xs.length
  | [], xs, o => rfl
  | v :: r, xs, o => by rw [putL, putL_len r, List.length_set]
theorem putL_other : ∀ (vs xs : List Value) (o j : Nat), (j < o ∨ o + vs.length ≤ j) → (putL xs o vs)[j]? = xs[j]?
  | [], xs, o, j, h => rfl
  | v :: r, xs, o, j, h => by
    rw [List.length_cons] at h
    rw [putL, putL_other r _ _ _ (by omega), List.getElem?_set_ne (by omega)]
theorem putL_here : ∀ (vs xs : List Value) (o c : Nat) (u : Value), vs[c]? = some u → o + vs.length ≤ xs.length → (putL xs o vs)[o + c]? = some u
  | [], xs, o, c, u, h, hl => by simp at h
  | v :: r, xs, o, c, u, h, hl => by
    rw [List.length_cons] at hl
    rw [putL]
    match c, h with
    | 0, h =>
      simp at h
      subst h
      rw [putL_other r _ _ _ (by omega), Nat.add_zero, List.getElem?_set_self (by omega)]
    | c + 1, h =>
      rw [List.getElem?_cons_succ] at h
      have := putL_here r (xs.set o v) (o + 1) c u h (by rw [List.length_set]; omega)
      rw [← this]
      congr 1
      omega
theorem putW_own {H : Nat} {e : TypeId} {size g n c : Nat} : ∀ (vs xs : List Value) (w : World) (o : Nat), w.ownsRow H e size (.slice (some ⟨g, 0, none⟩) n c) n xs → (putW w g o vs).ownsRow H e size (.slice (some ⟨g, 0, none⟩) n c) n (putL xs o vs)
  | [], xs, w, o, h => h
  | v :: r, xs, w, o, h => putW_own r _ _ _ (h.stored o v).1
theorem putW_below {w0 : World} {B g : Nat} (hg : B ≤ g) : ∀ (vs : List Value) (w : World) (o : Nat), Below B w0 w → Below B w0 (putW w g o vs)
  | [], w, o, h => h
  | v :: r, w, o, h => putW_below hg r _ _ (h.setCell (p := ⟨g, o, none⟩) hg v)
theorem putW_row {B g : Nat} {e : TypeId} {v : Value} {n : Nat} {xs : List Value} (hg : g < B) : ∀ (vs : List Value) (w : World) (o : Nat), w.ownsRow B e 1 v n xs → (putW w g o vs).ownsRow B e 1 v n xs
  | [], w, o, h => h
  | u :: r, w, o, h => putW_row hg r _ _ (ownsRow_setCell_below h (a := ⟨g, o, none⟩) hg u)
theorem putW_size (g : Nat) : ∀ (vs : List Value) (w : World) (o : Nat), (putW w g o vs).heap.size = w.heap.size
  | [], w, o => rfl
  | v :: r, w, o => by rw [putW, putW_size g r]; simp

/-- a node's cells stand in a row of cells, its lists are rows of their own -/
def NodeIn (w : World) (B : Nat) (xs : List Value) (q : Nat) (p : PNode) : Prop := ∃ lv nv, (∀ c u, (nodeC p lv nv)[c]? = some u → xs[q * 8 + c]? = some u) ∧ w.ownsRow B 3 1 lv p.list.length (p.list.map (Value.int .i64)) ∧ w.ownsRow B 9 1 nv p.names.length (p.names.map Value.string)
def TreeIn (w : World) (B : Nat) (v : Value) (ns : List PNode) : Prop := ∃ xs, w.ownsRow B 38 8 v ns.length xs ∧ ∀ q p, ns[q]? = some p → NodeIn w B xs q p
theorem NodeIn.below {w w' : World} {B : Nat} {xs : List Value} {q : Nat} {p : PNode} (h : NodeIn w B xs q p) (hb : Below w.heap.size w w') : NodeIn w' B xs q p := by
  obtain ⟨lv, nv, h1, h2, h3⟩ := h
  exact ⟨lv, nv, h1, own_keep h2 hb, own_keep h3 hb⟩
theorem TreeIn.below {w w' : World} {B : Nat} {v : Value} {ns : List PNode} (h : TreeIn w B v ns) (hb : Below w.heap.size w w') : TreeIn w' B v ns := by
  obtain ⟨xs, h1, h2⟩ := h
  exact ⟨xs, own_keep h1 hb, fun q p hq => (h2 q p hq).below hb⟩

set_option maxHeartbeats 1000000 in
set_option maxRecDepth 100000 in
theorem toNodeS_any (v : Value) (l : List PNode) (w : World) (hv : ArgNodes w v l) (hfew : l.length ≤ 1048576) (hl : ∀ p ∈ l, p.list.length ≤ 1048576 ∧ p.names.length ≤ 1048576) :
    Calls Try.prog 8 #[v] w fun e w' => ∃ v', e = .returned v' ∧ TreeIn w' w.heap.size v' l ∧ Below w.heap.size w w' := by
  obtain ⟨x, c, rfl, hm, hc⟩ := hv
  obtain ⟨n, hn⟩ : ∃ n, l.length = n := ⟨_, rfl⟩
  have HN : Hid (l.length = n) := hn
  have HE : Hid (∀ (W : World) (v' : Value) (xs : List Value), W.ownsRow w.heap.size 38 8 v' n xs → (∀ q p, q < n → l[q]? = some p → NodeIn W w.heap.size xs q p) → TreeIn W w.heap.size v' l) := fun W v' xs h1 h2 => by
    refine ⟨xs, by rw [hn]; exact h1, fun q p hq => h2 q p ?_ hq⟩
    rw [← hn]
    exact (List.getElem?_eq_some_iff.1 hq).1
  rw [hn] at hm hc hfew ⊢
  clear hn
  unfold maxLen at hm
  obtain ⟨W1, hmk, ⟨xs0, hrow⟩, hbel⟩ := made_nodes w n hfew
  have hW1 : w.heap.size + 1 ≤ W1.heap.size := by
    have := (hrow.lt w.heap.size rfl).2
    omega
  obtain ⟨g, hg⟩ : ∃ g, w.heap.size = g := ⟨_, rfl⟩
  have hge : w.heap.size ≤ g := by omega
  rw [hg] at hmk hW1
  have HR : Hid (W1.ownsRow w.heap.size 38 8 (.slice (some ⟨g, 0, none⟩) n n) n xs0) := by rw [hg]; rw [hg] at hrow; exact hrow
  have HG : Hid (w.heap.size = g) := hg
  have HC : Hid (0 < n → ∃ b o, x = some ⟨b, o, none⟩ ∧ b < w.heap.size ∧ ∀ j p, l[j]? = some p → ∃ lv nv, ArgNode w b (o + j * 8) p lv nv) := hc
  have HL : Hid (∀ p ∈ l, p.list.length ≤ 1048576 ∧ p.names.length ≤ 1048576) := hl
  clear hrow hg hc hl
  go_enter Try.func8, Try.ntmps8
  go_wp2
  clear hmk
  go_loopw [4] (fun i wr => ∃ (k : Nat) (xs : List Value), i = .int .i64 k ∧ k ≤ n ∧ Hid (wr.ownsRow w.heap.size 38 8 (.slice (some ⟨g, 0, none⟩) n n) n xs) ∧ Below w.heap.size w wr ∧ g + 1 ≤ wr.heap.size ∧ Hid (∀ q p, q < k → l[q]? = some p → NodeIn wr (g + 1) xs q p)) (fun i _ => n - (intOf i).toNat)
  case atStart => exact ⟨0, xs0, rfl, Nat.zero_le _, HR, hbel, hW1, fun q p hq => absurd hq (Nat.not_lt_zero _)⟩
  case round =>
    clear HR hbel hW1
    obtain ⟨k, xs, rfl, hk, HO, hbw, hgw, HQ⟩ := hrel
    by_cases hkn : k < n
    · obtain ⟨b, o, rfl, _, hcell⟩ := HC.out (by omega)
      obtain ⟨p, hp⟩ : ∃ p, l[k]? = some p := ⟨_, List.getElem?_eq_getElem (by have := HN.out; omega)⟩
      obtain ⟨lv, nv, hA⟩ := hcell k p hp
      have hA' := hA.below hbw
      have c0 := hA'.c0
      have c1 := hA'.c1
      have c2 := hA'.c2
      have c3 := hA'.c3
      have c4 := hA'.c4
      have c5 := hA'.c5
      have c6 := hA'.c6
      have c7 := hA'.c7
      have hfw := HL.out p (List.mem_iff_getElem?.2 ⟨_, hp⟩)
      have cN := toNode_any p lv nv wr hA'.list hA'.names hfw.1 hfw.2
      unfold nodeC at cN
      have HP : Hid (l[k]? = some p) := hp
      clear hA hA' hcell HC hp hfw
      have hki : (k : Int) < (n : Int) := by omega
      have hk0 : (0 : Int) ≤ (k : Int) := by omega
      go_wp2_with fail
      refine cN.mono ?_
      rintro e w1 ⟨lv1, nv1, rfl, own1, own2, b1⟩
      obtain ⟨xa, xc, rfl⟩ := own_slice own1
      obtain ⟨ya, yc, rfl⟩ := own_slice own2
      have HO1 : Hid (w1.ownsRow w.heap.size 38 8 (.slice (some ⟨g, 0, none⟩) n n) n xs) := own_keep HO.out b1
      obtain ⟨⟨u0, o0⟩, f0⟩ := own_cell HO1.out (k * 8) (by omega)
      obtain ⟨⟨u1, o1⟩, f1⟩ := own_cell HO1.out (k * 8 + 1) (by omega)
      obtain ⟨⟨u2, o2⟩, f2⟩ := own_cell HO1.out (k * 8 + 2) (by omega)
      obtain ⟨⟨u3, o3⟩, f3⟩ := own_cell HO1.out (k * 8 + 3) (by omega)
      obtain ⟨⟨u4, o4⟩, f4⟩ := own_cell HO1.out (k * 8 + 4) (by omega)
      obtain ⟨⟨u5, o5⟩, f5⟩ := own_cell HO1.out (k * 8 + 5) (by omega)
      obtain ⟨⟨u6, o6⟩, f6⟩ := own_cell HO1.out (k * 8 + 6) (by omega)
      obtain ⟨⟨u7, o7⟩, f7⟩ := own_cell HO1.out (k * 8 + 7) (by omega)
      have HW : Hid ((putW w1 g (k * 8) (nodeC p (.slice xa p.list.length xc) (.slice ya p.names.length yc))).ownsRow w.heap.size 38 8 (.slice (some ⟨g, 0, none⟩) n n) n (putL xs (k * 8) (nodeC p (.slice xa p.list.length xc) (.slice ya p.names.length yc)))
          ∧ Below w.heap.size w (putW w1 g (k * 8) (nodeC p (.slice xa p.list.length xc) (.slice ya p.names.length yc)))
          ∧ g + 1 ≤ (putW w1 g (k * 8) (nodeC p (.slice xa p.list.length xc) (.slice ya p.names.length yc))).heap.size
          ∧ ∀ q p', q < k + 1 → l[q]? = some p' → NodeIn (putW w1 g (k * 8) (nodeC p (.slice xa p.list.length xc) (.slice ya p.names.length yc))) (g + 1) (putL xs (k * 8) (nodeC p (.slice xa p.list.length xc) (.slice ya p.names.length yc))) q p') := by
        have hb1 := b1.size
        have hxl : xs.length = n * 8 := HO.out.1
        refine ⟨putW_own _ _ _ _ HO1.out, putW_below hge _ _ _ (chain hbw b1), by rw [putW_size]; omega, fun q p' hq hp' => ?_⟩
        rcases Nat.lt_or_ge q k with h' | h'
        · obtain ⟨lv2, nv2, h1, h2, h3⟩ := (HQ.out q p' h' hp').below b1
          refine ⟨lv2, nv2, fun c u hu => ?_, putW_row (Nat.lt_succ_self g) _ _ _ h2, putW_row (Nat.lt_succ_self g) _ _ _ h3⟩
          have hc8 : c < 8 := (List.getElem?_eq_some_iff.1 hu).1
          rw [putL_other _ _ _ _ (by left; omega)]
          exact h1 c u hu
        · have e : q = k := by omega
          subst e
          have e2 := HP.out
          rw [hp'] at e2
          injection e2 with e2
          subst e2
          refine ⟨_, _, fun c u hu => putL_here _ _ _ _ _ hu (by rw [hxl]; show q * 8 + 8 ≤ _; omega), putW_row (Nat.lt_succ_self g) _ _ _ (own_low own1 (by omega)), putW_row (Nat.lt_succ_self g) _ _ _ (own_low own2 (by omega))⟩
      clear HO HQ HO1 own1 own2 b1 cN HE HP
      go_wp2
      go_roundw
      case rel => exact ⟨k + 1, _, by go_num, by omega, HW.out.1, HW.out.2.1, HW.out.2.2.1, HW.out.2.2.2⟩
      case measure => simp [intOf]; omega
    · have hkn' : k = n := by omega
      subst hkn'
      have hE := HE.out wr _ xs HO.out (fun q p hq hp => by
        obtain ⟨lv, nv, h1, h2, h3⟩ := HQ.out q p hq hp
        exact ⟨lv, nv, h1, own_low h2 (by have := HG.out; omega), own_low h3 (by have := HG.out; omega)⟩)
      clear HE
      go_wp2
      go_ret
      exact ⟨_, rfl, hE, hbw⟩

end Go.Proofs.Ytggjeepbgpfcpaa
