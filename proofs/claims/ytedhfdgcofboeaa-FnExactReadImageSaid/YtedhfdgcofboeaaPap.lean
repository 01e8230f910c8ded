/-
  Part 16 of what is proved of drawn right trees.
-/
import Derived.Test.YtedhfdgcofboeaaPam
import Derived.Test.YtedhfdgcofboeaaPao
import Derived.Test.YtedhfdgcofboeaaPah
import Derived.Test.YtedhfdgcofboeaaPaj
import Derived.Test.YtedhfdgcofboeaaPaf

namespace Go.Proofs.Ytedhfdgcofboeaa
open Go.RowKit Go.Sort
set_option linter.unusedVariables false
structure FunsOwn (w : World) (B : Nat) (v : Value) (l : List PFun) (fs : List FSh) (xs : List Value) : Prop where
  len : fs.length = l.length
  ap : FApart fs
  row : w.ownsRow B 46 5 v l.length xs
  each : ∀ q f r, fs[q]? = some f → l[q]? = some r → (∀ j u, (funC r f.cv f.kv f.hv)[j]? = some u → xs[q * 5 + j]? = some u) ∧ f.nc = r.caps.length ∧ f.nk = r.code.length ∧ f.nh = r.hnds.length ∧ w.ownsRow B 73 2 f.cv r.caps.length (r.caps.flatMap capC) ∧ w.ownsRow B 75 3 f.kv r.code.length (r.code.flatMap insC) ∧ w.ownsRow B 77 3 f.hv r.hnds.length (r.hnds.flatMap hndC)
theorem funs_none (w : World) (B : Nat) : FunsOwn w B (.slice none 0 0) [] [] [] :=
  ⟨rfl, fun q1 q2 f1 f2 h => by simp at h, World.ownsRow_nil _ _ _ _, fun q f r h => by simp at h⟩
theorem FunsOwn.grown {w w' : World} {B C : Nat} {v : Value} {l : List PFun} {fs : List FSh} {xs : List Value} (h : FunsOwn w B v l fs xs) (hg : w.grownBy w' (some C)) (hC : C < B) : FunsOwn w' B v l fs xs :=
  ⟨h.len, h.ap, row_grown h.row hg hC, fun q f r hq hr => by
    obtain ⟨a, b, c, d, e1, e2, e3⟩ := h.each q f r hq hr
    exact ⟨a, b, c, d, row_grown e1 hg hC, row_grown e2 hg hC, row_grown e3 hg hC⟩⟩
theorem FunsOwn.put {w : World} {B E o : Nat} {v u : Value} {l : List PFun} {fs : List FSh} {xs : List Value} {cs : Array Value} {T : TypeId} {fr : Nat × Nat} (h : FunsOwn w B v l fs xs) (hE : w.heap[E]? = some (.cells cs T fr)) (hT : T ≠ 46 ∧ T ≠ 73 ∧ T ≠ 75 ∧ T ≠ 77) : FunsOwn (w.setCell ⟨E, o, none⟩ u) B v l fs xs :=
  ⟨h.len, h.ap, row_put15 h.row (row_apart h.row hE hT.1), fun q f r hq hr => by
    obtain ⟨a, b, c, d, e1, e2, e3⟩ := h.each q f r hq hr
    exact ⟨a, b, c, d, row_put15 e1 (row_apart e1 hE hT.2.1), row_put15 e2 (row_apart e2 hE hT.2.2.1), row_put15 e3 (row_apart e3 hE hT.2.2.2)⟩⟩
def Under15 (v : Value) (n : Nat) : Prop := ∀ G, v.ownBlock = some G → G < n
theorem under_of {w : World} {B k n : Nat} {e : TypeId} {v : Value} {xs : List Value} (h : w.ownsRow B e k v n xs) : Under15 v w.heap.size := fun G hG => by
  obtain ⟨_, cs, fr, hh⟩ := own_type h hG
  exact box_lt hh
theorem FunsOwn.under {w : World} {B : Nat} {v : Value} {l : List PFun} {fs : List FSh} {xs : List Value} (h : FunsOwn w B v l fs xs) : ∀ f ∈ fs, Under15 f.cv w.heap.size ∧ Under15 f.kv w.heap.size ∧ Under15 f.hv w.heap.size := fun f hf => by
  obtain ⟨q, hq⟩ := List.mem_iff_getElem?.1 hf
  obtain ⟨r, hr⟩ : ∃ r, l[q]? = some r := ⟨_, List.getElem?_eq_getElem (by have := (List.getElem?_eq_some_iff.1 hq).1; have := h.len; omega)⟩
  obtain ⟨_, _, _, _, e1, e2, e3⟩ := h.each q f r hq hr
  exact ⟨under_of e1, under_of e2, under_of e3⟩
theorem apart_under {v u : Value} {n : Nat} (hv : Under15 v n) (hu : ∀ G, u.ownBlock = some G → n ≤ G) : (v.ownBlock = none ∨ v.ownBlock ≠ u.ownBlock) ∧ (u.ownBlock = none ∨ u.ownBlock ≠ v.ownBlock) := by
  constructor
  · cases h : v.ownBlock with
    | none => exact .inl rfl
    | some G => exact .inr fun e => by have := hv G h; have := hu G e.symm; omega
  · cases h : u.ownBlock with
    | none => exact .inl rfl
    | some G => exact .inr fun e => by have := hu G h; have := hv G e.symm; omega
theorem FunsOwn.more {w w' : World} {B B1 : Nat} {v v' cv kv hv : Value} {l : List PFun} {p : PFun} {fs : List FSh} {xs : List Value} (h : FunsOwn w B v l fs xs) (hun : ∀ f ∈ fs, Under15 f.cv B1 ∧ Under15 f.kv B1 ∧ Under15 f.hv B1) (hB : B ≤ B1) (hg : w.grownBy w' v.ownBlock)
    (ho : w'.ownsRow B 46 5 v' (l.length + 1) (xs ++ funC p cv kv hv)) (h2 : w.ownsRow B1 73 2 cv p.caps.length (p.caps.flatMap capC)) (h3 : w.ownsRow B1 75 3 kv p.code.length (p.code.flatMap insC)) (h4 : w.ownsRow B1 77 3 hv p.hnds.length (p.hnds.flatMap hndC)) :
    FunsOwn w' B v' (l ++ [p]) (fs ++ [⟨cv, kv, hv, p.caps.length, p.code.length, p.hnds.length⟩]) (xs ++ funC p cv kv hv) := by
  have keepRow : ∀ {B2 : Nat} {e2 : TypeId} {k2 n2 : Nat} {v2 : Value} {xs2 : List Value}, w.ownsRow B2 e2 k2 v2 n2 xs2 → 46 ≠ e2 → w'.ownsRow B2 e2 k2 v2 n2 xs2 := fun {B2 e2 k2 n2 v2 xs2} h2 hne => h2.kept hg (by
    cases hb : v2.ownBlock with
    | none => exact .inl rfl
    | some G =>
      refine .inr fun e1 => ?_
      obtain ⟨_, cs, fr, hG⟩ := own_type h2 hb
      exact row_apart h.row hG (Ne.symm hne) e1.symm)
  have ge : ∀ {e2 : TypeId} {k2 n2 : Nat} {v2 : Value} {xs2 : List Value}, w.ownsRow B1 e2 k2 v2 n2 xs2 → ∀ G, v2.ownBlock = some G → B1 ≤ G := fun h2 G hG => (own_type h2 hG).1
  have hxl := h.row.1
  have hlen := h.len
  have last : ∀ {q : Nat} {f : FSh}, (fs ++ [(⟨cv, kv, hv, p.caps.length, p.code.length, p.hnds.length⟩ : FSh)])[q]? = some f → (q < fs.length ∧ fs[q]? = some f) ∨ (q = fs.length ∧ f = ⟨cv, kv, hv, p.caps.length, p.code.length, p.hnds.length⟩) := fun {q f} hq => by
    rcases Nat.lt_or_ge q fs.length with hlt | hge
    · rw [List.getElem?_append_left hlt] at hq
      exact .inl ⟨hlt, hq⟩
    · rw [List.getElem?_append_right hge] at hq
      have hb := (List.getElem?_eq_some_iff.1 hq).1
      simp at hb
      have e : q = fs.length := by omega
      subst e
      simp at hq
      exact .inr ⟨rfl, hq.symm⟩
  refine ⟨by rw [List.length_append, List.length_append, hlen]; rfl, ?_, by rw [List.length_append]; exact ho, ?_⟩
  · intro q1 q2 f1 f2 hq1 hq2 hne
    rcases last hq1 with ⟨l1, k1⟩ | ⟨l1, k1⟩
    · rcases last hq2 with ⟨l2, k2⟩ | ⟨l2, k2⟩
      · exact h.ap q1 q2 f1 f2 k1 k2 hne
      · obtain ⟨u1, u2, u3⟩ := hun f1 (List.mem_iff_getElem?.2 ⟨_, k1⟩)
        subst k2
        exact ⟨(apart_under u1 (ge h2)).1, (apart_under u2 (ge h3)).1, (apart_under u3 (ge h4)).1⟩
    · rcases last hq2 with ⟨l2, k2⟩ | ⟨l2, k2⟩
      · obtain ⟨u1, u2, u3⟩ := hun f2 (List.mem_iff_getElem?.2 ⟨_, k2⟩)
        subst k1
        exact ⟨(apart_under u1 (ge h2)).2, (apart_under u2 (ge h3)).2, (apart_under u3 (ge h4)).2⟩
      · omega
  · intro q f r hq hr
    rcases last hq with ⟨l1, k1⟩ | ⟨l1, k1⟩
    · rw [List.getElem?_append_left (by omega)] at hr
      obtain ⟨a, b, c, d, e1, e2, e3⟩ := h.each q f r k1 hr
      refine ⟨fun j u hu => ?_, b, c, d, keepRow e1 (by decide), keepRow e2 (by decide), keepRow e3 (by decide)⟩
      have hk := a j u hu
      rw [List.getElem?_append_left (List.getElem?_eq_some_iff.1 hk).1]
      exact hk
    · subst k1
      rw [List.getElem?_append_right (by omega)] at hr
      have e : q - l.length = 0 := by omega
      rw [e] at hr
      simp at hr
      subst hr
      refine ⟨fun j u hu => ?_, rfl, rfl, rfl, row_low (keepRow h2 (by decide)) hB, row_low (keepRow h3 (by decide)) hB, row_low (keepRow h4 (by decide)) hB⟩
      rw [List.getElem?_append_right (by omega), hxl]
      have e2 : q * 5 + j - l.length * 5 = j := by rw [l1, hlen]; omega
      rw [e2]
      exact hu
set_option maxHeartbeats 1000000 in
set_option maxRecDepth 100000 in
theorem iReadFuncs (s : ByteArray) (r : RS) (C : Nat) (w : World) (hC : UAt w C s r) (hs : s.size ≤ 1048576) (hp : r.pos ≤ s.size) :
    Calls Try.prog 21 #[.agg #[.pointer (some ⟨C, 0, none⟩), .func (.func 20) #[] #[]]] w fun e w' => ∃ v fs xs, e = .returned v ∧ UAt w' C s (jList jFunc s r).2 ∧ w.grownBy w' (some C) ∧ FunsOwn w' w.heap.size v (jList jFunc s r).1 fs xs := by
  obtain ⟨i1, hi1, hz10, hz11, hz12⟩ := info_in Try.infoFunc13
  have hzC := hC.lt
  have hb0 : Below w.heap.size w (w.alloc (.cells #[.pointer (some ⟨C, 0, none⟩), .func (.func 20) #[] #[]] 60)) := (Below.refl _ _).alloc (Nat.le_refl _) _
  have hY0 := heap_alloc_new w (.cells #[.pointer (some ⟨C, 0, none⟩), .func (.func 20) #[] #[]] 60)
  have hu0 := hC.below hb0
  have hg0 := grown_lo (C := some C) hb0
  have L0 : LRd w C w.heap.size s (w.alloc (.cells #[.pointer (some ⟨C, 0, none⟩), .func (.func 20) #[] #[]] 60)) r #[.pointer (some ⟨C, 0, none⟩), .func (.func 20) #[] #[]] 60 46 5 (.slice none 0 0) 0 [] := ⟨hu0, hY0, World.ownsRow_nil _ _ _ _, hg0, hzC, Nat.le_refl _⟩
  obtain ⟨Y, hY⟩ : ∃ Y, w.heap.size = Y := ⟨_, rfl⟩
  have HY : Hid (w.heap.size = Y) := hY
  obtain ⟨W0, hW0⟩ : ∃ W, w.alloc (.cells #[.pointer (some ⟨C, 0, none⟩), .func (.func 20) #[] #[]] 60) = W := ⟨_, rfl⟩
  have HW0 : Hid (_ = W0) := hW0
  rw [hW0, hY] at L0
  clear hW0 hb0 hY0 hu0 hg0 hC
  have hp1 := rVar_pos s r hp
  have cB := iReadNumber s r C W0 L0.cur hs hp
  obtain ⟨x1, hx1⟩ : ∃ x, rVar s r = x := ⟨_, rfl⟩
  obtain ⟨N, r1⟩ := x1
  simp only [hx1] at cB hp1
  have HX1 : Hid (_ = _) := hx1
  obtain ⟨full, hfull⟩ : ∃ f, rMany (jFunc s) N r1 = f := ⟨_, rfl⟩
  have HF : Hid (rMany (jFunc s) N r1 = full) := hfull
  have HD : Hid (jList jFunc s r = full) := by
    show _ = _
    unfold jList
    rw [HX1.out]
    exact HF.out
  have q0 := box_at L0.box 0 _ rfl
  have q1 := box_at L0.box 1 _ rfl
  have HP : Hid (r1.pos ≤ s.size ∧ N ≤ 1000000000) := ⟨hp1.1, hp1.2.2⟩
  clear hx1 hfull hp1 hY
  go_enter Try.func21, Try.ntmps21
  go_upto_region 2 with fail
  rw [HW0.out, HY.out]
  go_wp2_with (go_at_call 46; (with_reducible refine cB.mono ?_); rintro e w1 ⟨rfl, hu1, hk1⟩)
  have L1 := L0.call hu1 hk1
  clear L0 cB hu1 hk1 q0 q1
  go_loopw [3] (fun v wr => ∃ (j : Nat) (l : List PFun) (fs : List FSh) (xs : List Value) (st : RS) (x : Option Addr) (c : Nat), v = .slice x j c ∧ j ≤ N ∧ l.length = j ∧ LRd w C Y s wr st #[.pointer (some ⟨C, 0, none⟩), .func (.func 20) #[] #[]] 60 46 5 (.slice x j c) j xs ∧ st.pos ≤ s.size ∧ Hid (Left (jFunc s) N j l st full) ∧ Hid (FunsOwn wr w.heap.size (.slice x j c) l fs xs)) (fun v _ => N - lenV15 v)
  case atStart => exact ⟨0, [], [], [], r1, none, 0, rfl, Nat.zero_le _, rfl, L1, HP.out.1, by rw [← HF.out]; exact Left.begin _ _ _, funs_none _ _⟩
  case round =>
    clear L1
    obtain ⟨j, l, fs, xs, st, x, c, rfl, hj, hll, L2, ps, HL, HO⟩ := hrel
    have HLL : Hid (l.length = j) := hll
    clear hll
    have q0 := box_at L2.box 0 _ rfl
    have q1 := box_at L2.box 1 _ rfl
    have c2 := L2.cur.c2
    obtain ⟨bd, hbd⟩ : ∃ b, st.bad = b := ⟨_, rfl⟩
    rw [hbd] at c2
    by_cases hjN : j < N
    · have hji : (j : Int) < (N : Int) := by omega
      cases bd with
      | false =>
        have HLM : Hid (Left (jFunc s) N (j + 1) (l ++ [(jFunc s st).1]) (jFunc s st).2 full) := HL.out.more hjN hbd
        have HPN : Hid ((jFunc s st).2.pos ≤ s.size) := jFunc_pos s st ps
        have cB := iReadFunc s st C wr L2.cur hs ps
        obtain ⟨x1, hx1⟩ : ∃ x, jFunc s st = x := ⟨_, rfl⟩
        obtain ⟨e1, r2⟩ := x1
        simp only [hx1] at cB HLM HPN
        have HB : Hid (Unit → j < 1000000000) := fun _ => by have := HP.out.2; omega
        have HJN : Hid (j < N) := hjN
        have HS1 : Hid (w.heap.size ≤ wr.heap.size) := L2.gr.size
        have HUN : Hid _ := HO.out.under
        have HCw : Hid (C < w.heap.size) := L2.lo.1
        clear hx1 hbd HL hjN hj
        go_wp2_with fail
        refine cB.mono ?_
        rintro e w2 ⟨cv, kv, hv, rfl, hu2, hk2, ow2, ow3, ow4⟩
        obtain ⟨g1, d1, rfl⟩ := row_slice ow2
        obtain ⟨g2, d2, rfl⟩ := row_slice ow3
        obtain ⟨g3, d3, rfl⟩ := row_slice ow4
        have L3 := L2.call hu2 hk2
        have HO3 : Hid (FunsOwn _ _ _ _ _ _) := HO.out.grown hk2 HCw.out
        obtain ⟨nc, hnc⟩ : ∃ n, e1.caps.length = n := ⟨_, rfl⟩
        obtain ⟨nk, hnk⟩ : ∃ n, e1.code.length = n := ⟨_, rfl⟩
        obtain ⟨nh, hnh⟩ : ∃ n, e1.hnds.length = n := ⟨_, rfl⟩
        have HR2 : Hid (w2.ownsRow wr.heap.size 73 2 (.slice g1 nc d1) e1.caps.length (e1.caps.flatMap capC)) := by show World.ownsRow _ _ _ _ _ _ _; rw [← hnc]; exact ow2
        have HR3 : Hid (w2.ownsRow wr.heap.size 75 3 (.slice g2 nk d2) e1.code.length (e1.code.flatMap insC)) := by show World.ownsRow _ _ _ _ _ _ _; rw [← hnk]; exact ow3
        have HR4 : Hid (w2.ownsRow wr.heap.size 77 3 (.slice g3 nh d3) e1.hnds.length (e1.hnds.flatMap hndC)) := by show World.ownsRow _ _ _ _ _ _ _; rw [← hnh]; exact ow4
        simp only [hnc, hnk, hnh]
        have hone : ∀ u ∈ (#[.int .i64 e1.params, .int .i64 e1.regs, .slice g1 nc d1, .slice g2 nk d2, .slice g3 nh d3] : Array Value).toList, u.oneCell' = true := fun u hu => by
          simp only [List.mem_cons, List.not_mem_nil, or_false] at hu
          rcases hu with rfl | rfl | rfl | rfl | rfl <;> rfl
        have hro := L3.row
        have hsz := L3.gr.size
        clear hu2 hk2 cB L2 q0 q1 c2 ow2 ow3 ow4 hnc hnk hnh HO
        go_wp2_with (at_builtin; refine append_elem rfl _ _ 22 rfl w.heap.size 46 i1 _ 5 88 Try.underlying22 hi1 hz10 hz11 hz12 rfl (by decide) (by decide) (.slice x j c) j _ rfl hro #[.int .i64 e1.params, .int .i64 e1.regs, .slice g1 nc d1, .slice g2 nk d2, .slice g3 nh d3] rfl hone rfl (HB.out ()) hsz ?_)
        intro v5 w5 o5 g5 _
        obtain ⟨vx, vc, rfl⟩ := row_slice o5
        have hal : Below w2.heap.size w2 (w2.alloc (.cells #[.int .i64 e1.params, .int .i64 e1.regs, .slice g1 nc d1, .slice g2 nk d2, .slice g3 nh d3] 46)) := (Below.refl _ _).alloc (Nat.le_refl _) _
        have L4 := L3.alloc (.cells #[.int .i64 e1.params, .int .i64 e1.regs, .slice g1 nc d1, .slice g2 nk d2, .slice g3 nh d3] 46)
        have L5 := L4.add (by decide) g5 o5
        have HL5 : Hid (LRd _ _ _ _ _ _ _ _ _ _ _ _ _) := L5
        have hO4 := HO3.out.grown (grown_lo hal) HCw.out
        have o6 : w5.ownsRow w.heap.size 46 5 (.slice vx (j + 1) vc) (l.length + 1) (xs ++ funC e1 (.slice g1 nc d1) (.slice g2 nk d2) (.slice g3 nh d3)) := by
          rw [HLL.out]
          exact o5
        have HO5 : Hid (FunsOwn _ _ _ _ _ _) := hO4.more HUN.out HS1.out g5 o6 (row_keep HR2.out hal) (row_keep HR3.out hal) (row_keep HR4.out hal)
        clear L5 L4 L3 o5 o6 g5 hro hsz hone hal hO4
        go_wp2
        go_roundw
        case rel => exact ⟨j + 1, l ++ [e1], _, _, r2, vx, vc, rfl, HJN.out, by rw [List.length_append, HLL.out]; rfl, HL5.out, HPN.out, HLM.out, HO5.out⟩
        case measure =>
          have := HJN.out
          show N - (j + 1) < N - j
          omega
      | true =>
        have HE : Hid (full = (l, st)) := HL.out.done (by rw [hbd]; simp)
        have HL2 : Hid (LRd _ _ _ _ _ _ _ _ _ _ _ _ _) := L2
        clear L2 HL hbd
        go_wp2
        go_ret
        rw [HD.out, HE.out]
        exact ⟨_, _, _, rfl, HL2.out.cur, HL2.out.gr, HO.out⟩
    · have hji : decide ((j : Int) < (N : Int)) = false := decide_eq_false (by omega)
      have HE : Hid (full = (l, st)) := HL.out.done (by rw [decide_eq_false hjN]; rfl)
      have HL2 : Hid (LRd _ _ _ _ _ _ _ _ _ _ _ _ _) := L2
      clear L2 HL hbd
      go_wp2
      go_ret
      rw [HD.out, HE.out]
      exact ⟨_, _, _, rfl, HL2.out.cur, HL2.out.gr, HO.out⟩
end Go.Proofs.Ytedhfdgcofboeaa
namespace Go.Proofs.Ytedhfdgcofboeaa
open Go.RowKit
set_option linter.unusedVariables false
theorem jNum_small (s : ByteArray) : ∀ (k x : Nat) (r : RS), x < 18446744073709551616 → (jNum s k x r).1 < 18446744073709551616
  | 0, x, r, hx => hx
  | k + 1, x, r, hx => by rw [jNum]; exact jNum_small s k _ _ (Nat.mod_lt _ (by decide))
theorem jShort_size (s : ByteArray) (r : RS) (hs : s.size ≤ 1048576) : (jShort s r).1.size ≤ 1048576 := by
  unfold jShort
  cases e : jShortO s r with
  | none => show 0 ≤ _; omega
  | some x =>
    obtain ⟨t, j⟩ := x
    unfold jShortO at e
    split at e
    · cases e
    · split at e
      · split at e
        · injection e with e
          injection e with e1 e2
          subst e1
          simp only [ByteArray.size_extract]
          omega
        · cases e
      · cases e
theorem jConst_ok (s : ByteArray) (r : RS) (hs : s.size ≤ 1048576) (h : r.pos ≤ s.size) : conW (jConst s r).1 := by
  have hB := rByte_pos s r h
  have hI : I64 (rByte s r).1 := by unfold I64; omega
  unfold jConst
  split
  · exact ⟨hI, jNum_small _ _ _ _ (by decide), by show 0 ≤ _; omega⟩
  · split
    · refine ⟨hI, by show (0 : Nat) < _; decide, ?_⟩
      have := jShort_size s (rByte s r).2 hs
      show (jShort s (rByte s r).2).1.size ≤ maxLen
      unfold maxLen
      omega
    · exact ⟨hI, by show (0 : Nat) < _; decide, by show 0 ≤ _; omega⟩
theorem jCap_ok (s : ByteArray) (r : RS) (h : r.pos ≤ s.size) : capW (jCap s r).1 := i64_nat (rVar_pos s _ (flag_pos s r h)).2.2
theorem jList_all {α : Type} {P : α → Prop} {f : ByteArray → RS → α × RS} {s : ByteArray} (hf : ∀ r : RS, r.pos ≤ s.size → P (f s r).1) (hp : ∀ r : RS, r.pos ≤ s.size → (f s r).2.pos ≤ s.size) (r : RS) (hr : r.pos ≤ s.size) : ∀ x ∈ (jList f s r).1, P x :=
  (rMany_all (P := P) (fun r hr => ⟨hf r hr, hp r hr⟩) _ _ (rVar_pos s r hr).1).1
theorem jFunc_ok (s : ByteArray) (r : RS) (h : r.pos ≤ s.size) : funW (jFunc s r).1 := by
  have h0 := rVar_pos s r h
  have h1 := rVar_pos s _ h0.1
  have p3 := list_pos s (fun r hr => jCap_pos s r hr) _ h1.1
  have p4 := list_pos s (fun r hr => rIns_pos s r hr) _ p3
  exact ⟨i64_nat h0.2.2, i64_nat h1.2.2, jList_all (fun r hr => jCap_ok s r hr) (fun r hr => jCap_pos s r hr) _ h1.1, jList_all (fun r hr => (rIns_ok s r hr).1) (fun r hr => rIns_pos s r hr) _ p3, jList_all (fun r hr => (rHnd_ok s r hr).1) (fun r hr => rHnd_pos s r hr) _ p4⟩
theorem jImage_ok (s : ByteArray) (r : RS) (hs : s.size ≤ 1048576) (h : r.pos ≤ s.size) : imgW (jImage s r).1 := by
  have p1 := list_pos (f := jConst) s (fun r hr => jConst_pos s r hr) r h
  exact ⟨jList_all (fun r hr => jFunc_ok s r hr) (fun r hr => jFunc_pos s r hr) _ p1, jList_all (fun r hr => jConst_ok s r hs hr) (fun r hr => jConst_pos s r hr) r h⟩
end Go.Proofs.Ytedhfdgcofboeaa
namespace Go.Proofs.Ytedhfdgcofboeaa
open Go.RowKit
set_option linter.unusedVariables false
def AtS (s : ByteArray) (i : Nat) (l : List Int) : Prop := ∃ a c : ByteArray, s = a ++ strOfNums l ++ c ∧ a.size = i
theorem nums_add (a b : List Int) : strOfNums (a ++ b) = strOfNums a ++ strOfNums b := by
  unfold strOfNums
  rw [List.map_append]
  apply ByteArray.ext
  simp
theorem AtS.left {s : ByteArray} {i : Nat} {l k : List Int} (h : AtS s i (l ++ k)) : AtS s i l := by
  obtain ⟨a, c, e, hi⟩ := h
  exact ⟨a, strOfNums k ++ c, by rw [e, nums_add]; simp only [ByteArray.append_assoc], hi⟩
theorem AtS.right {s : ByteArray} {i : Nat} {l k : List Int} (h : AtS s i (l ++ k)) : AtS s (i + l.length) k := by
  obtain ⟨a, c, e, hi⟩ := h
  exact ⟨a ++ strOfNums l, c, by rw [e, nums_add]; simp only [ByteArray.append_assoc], by rw [ByteArray.size_append, strOfNums_size, hi]⟩
theorem AtS.head {s : ByteArray} {i : Nat} {x : Int} {l : List Int} (h : AtS s i (x :: l)) : AtS s i [x] := AtS.left (l := [x]) (k := l) h
theorem AtS.tail {s : ByteArray} {i : Nat} {x : Int} {l : List Int} (h : AtS s i (x :: l)) : AtS s (i + 1) l := AtS.right (l := [x]) (k := l) h
theorem AtS.size {s : ByteArray} {i : Nat} {l : List Int} (h : AtS s i l) : i + l.length ≤ s.size := by
  obtain ⟨a, c, e, hi⟩ := h
  rw [e, ByteArray.size_append, ByteArray.size_append, strOfNums_size]
  omega
theorem back_rd {s : ByteArray} {i q : Nat} (h : AtS s i (varB q)) (hq : q ≤ 1000000000) : rdV s i 5 i 0 1 = some (q, i + (varB q).length) := by
  obtain ⟨a, c, e, hi⟩ := h
  subst hi
  rw [e, read_var hq, strOfNums_size]
theorem back_var {s : ByteArray} {i q : Nat} (h : AtS s i (varB q)) (hq : q ≤ 1000000000) : rVar s ⟨i, false⟩ = (q, ⟨i + (varB q).length, false⟩) := by
  have := back_rd h hq
  unfold rVar rVarO
  simp only [Bool.false_eq_true, if_false]
  rw [this]
theorem back_byte {s : ByteArray} {i : Nat} {n : Int} (h : AtS s i [n]) (h0 : 0 ≤ n) (h1 : n < 256) : rByte s ⟨i, false⟩ = (n, ⟨i + 1, false⟩) := by
  have hz := h.size
  simp only [List.length_cons, List.length_nil] at hz
  obtain ⟨a, c, e, hi⟩ := h
  unfold rByte
  have ht : rTakeB s ⟨i, false⟩ 1 = false := by
    unfold rTakeB
    rw [Bool.false_or, decide_eq_false_iff_not]
    simp only
    omega
  rw [ht]
  simp only [Bool.false_eq_true, if_false]
  subst hi
  have hb : 0 < (strOfNums [n]).size := by rw [strOfNums_size]; simp
  have hx : a.size + 0 < (a ++ strOfNums [n]).size := by rw [ByteArray.size_append]; omega
  have hy : a.size + 0 < (a ++ strOfNums [n] ++ c).size := by rw [ByteArray.size_append]; omega
  have hv : (a ++ strOfNums [n] ++ c)[a.size + 0]'hy = UInt8.ofNat n.toNat := by
    rw [get_append_left hy hx, get_append_right hx hb, strOfNums_get hb]
    rfl
  have hg : s.data.toList.getD a.size 0 = UInt8.ofNat n.toNat := by
    rw [e, ← hv, List.getD_eq_getElem?_getD, List.getElem?_eq_getElem (show a.size < ((a ++ strOfNums [n] ++ c).data.toList).length from by rw [Array.length_toList]; exact hy)]
    rfl
  rw [hg, byte_back h0 h1]
theorem back_num {s : ByteArray} : ∀ (k x low i : Nat), low < 256 ^ k → x * 256 ^ k + 256 ^ k ≤ 18446744073709551616 → AtS s i (eightK k low) → jNum s k x ⟨i, false⟩ = (x * 256 ^ k + low, ⟨i + k, false⟩)
  | 0, x, low, i, hl, hx, h => by
    have : low = 0 := by simpa using hl
    subst this
    simp [jNum]
  | k + 1, x, low, i, hl, hx, h => by
    have hp : (256 : Nat) ^ (k + 1) = 256 ^ k * 256 := Nat.pow_succ _ _
    have hk : 0 < 256 ^ k := Nat.pos_of_ne_zero (by simp)
    have e0 := Nat.div_add_mod low (256 ^ k)
    have hm := Nat.mod_lt low hk
    have hbl : low / 256 ^ k < 256 := Nat.div_lt_of_lt_mul (by rw [hp] at hl; exact hl)
    obtain ⟨b, hb⟩ : ∃ b, low / 256 ^ k = b := ⟨_, rfl⟩
    obtain ⟨l', hl'⟩ : ∃ l', low % 256 ^ k = l' := ⟨_, rfl⟩
    rw [hb, hl'] at e0
    rw [hl'] at hm
    rw [hb] at hbl
    have el : low = b * 256 ^ k + l' := by rw [← e0, Nat.mul_comm]
    rw [el, eight_front k b l' hbl hm] at h
    have hB := back_byte h.head (by omega) (by omega)
    rw [jNum, hB]
    simp only [Int.toNat_natCast]
    have h1 : (x * 256 + b + 1) * 256 ^ k ≤ (x * 256 + 256) * 256 ^ k := Nat.mul_le_mul_right _ (by omega)
    have h2 : (x * 256 + 256) * 256 ^ k = x * 256 ^ (k + 1) + 256 ^ (k + 1) := by rw [hp]; simp only [Nat.add_mul, Nat.mul_assoc, Nat.mul_comm (256 ^ k) 256]
    have h3 : (x * 256 + b + 1) * 256 ^ k = (x * 256 + b) * 256 ^ k + 256 ^ k := by rw [Nat.add_mul, Nat.one_mul]
    have h4 : (x * 256 + b) * 1 ≤ (x * 256 + b) * 256 ^ k := Nat.mul_le_mul_left _ hk
    rw [Nat.mod_eq_of_lt (by omega), back_num k _ l' (i + 1) hm (by omega) h.tail]
    have h6 : (x * 256 + b) * 256 ^ k + l' = x * 256 ^ (k + 1) + low := by
      rw [el, hp, Nat.add_mul, Nat.mul_assoc x, Nat.mul_comm 256 (256 ^ k), Nat.add_assoc]
    rw [h6, show i + 1 + k = i + (k + 1) by omega]
theorem nums_text (t : ByteArray) : strOfNums (numsOf t) = t := by
  unfold strOfNums numsOf
  apply ByteArray.ext
  rw [List.map_map]
  have e : ((fun (n : Int) => UInt8.ofNat n.toNat) ∘ fun (b : UInt8) => (b.toNat : Int)) = id := by
    funext b
    simp
  rw [e, List.map_id]
theorem back_text {s t : ByteArray} {i : Nat} (h : AtS s i (numsOf t)) : s.extract i (i + t.size) = t := by
  obtain ⟨a, c, e, hi⟩ := h
  rw [nums_text] at e
  apply ByteArray.ext
  apply Array.toList_inj.1
  have hx : (s.extract i (i + t.size)).data.toList = sl s i (i + t.size) := ((Lib.extract_toList s _ _).symm.trans (ByteArray.toList_eq _)).symm
  rw [hx]
  unfold sl
  have hz : t.data.toList.length = t.size := (Lib.size_eq t).symm
  have ha : a.data.toList.length = i := by rw [← hi]; exact (Lib.size_eq a).symm
  rw [e]
  simp only [ByteArray.data_append, Array.toList_append, List.append_assoc]
  rw [List.drop_append_of_le_length (by omega), List.drop_of_length_le (by omega), List.nil_append, List.take_append_of_le_length (by omega), List.take_of_length_le (by omega)]
theorem back_short {s t : ByteArray} {i : Nat} (h : AtS s i (shortB t)) (ht : t.size ≤ 12000) : jShort s ⟨i, false⟩ = (t, ⟨i + (shortB t).length, false⟩) := by
  have hz := h.size
  unfold shortB at h hz ⊢
  have h1 := back_rd h.left (by omega)
  have h2 := back_text h.right
  rw [List.length_append, numsOf_len] at hz ⊢
  unfold jShort jShortO
  simp only [Bool.false_eq_true, if_false]
  rw [h1]
  simp only
  rw [if_pos ⟨ht, by omega⟩, h2]
  simp only [Nat.add_assoc]
def ConN (c : PCon) : Prop := conOk c = true ∧ c.num < 18446744073709551616
theorem back_const {s : ByteArray} {i : Nat} {c : PCon} (h : AtS s i (conT c)) (hc : ConN c) : jConst s ⟨i, false⟩ = (c, ⟨i + (conT c).length, false⟩) := by
  obtain ⟨hk, hn⟩ := hc
  have hle := conOk_le hk
  unfold conOk at hk
  obtain ⟨k, n, t⟩ := c
  simp only at hk hn hle h ⊢
  unfold conT at h ⊢
  simp only at h ⊢
  have hB := back_byte h.head (by omega) (by omega)
  unfold jConst
  rw [hB]
  simp only
  have hT := h.tail
  by_cases h1 : k = 1
  · subst h1
    simp only [if_true, Int.reduceEq, if_false, List.append_nil] at hT hk ⊢
    simp only [Bool.and_eq_true, decide_eq_true_eq] at hk
    have := back_num 8 0 n (i + 1) (by have : (256 : Nat) ^ 8 = 18446744073709551616 := by decide
                                       omega) (by decide) hT
    rw [this]
    have et : t = ⟨#[]⟩ := ByteArray.ext (Array.eq_empty_of_size_eq_zero hk.1)
    rw [et, List.length_cons, eightK_len]
    simp [Nat.add_assoc]
  · rw [if_neg h1] at hk hT ⊢
    by_cases h2 : k = 2
    · subst h2
      simp only [if_true, List.nil_append] at hT hk ⊢
      simp only [Bool.and_eq_true, decide_eq_true_eq] at hk
      rw [back_short hT (by omega)]
      rw [if_neg (by decide), List.length_cons, List.nil_append, hk.1, show i + 1 + (shortB t).length = i + ((shortB t).length + 1) by omega]
    · rw [if_neg h2] at hk
      by_cases h3 : k = 3 ∨ k = 4 ∨ k = 5
      · rw [if_pos h3] at hk
        simp only [Bool.and_eq_true, decide_eq_true_eq] at hk
        have et : t = ⟨#[]⟩ := ByteArray.ext (Array.eq_empty_of_size_eq_zero hk.2)
        rw [if_neg h2, if_neg h1, if_neg h2, et, hk.1]
        simp
      · rw [if_neg h3] at hk
        cases hk
theorem back_cap {s : ByteArray} {i : Nat} {c : PCap} (h : AtS s i (capT c)) (hc : capOk c = true) : jCap s ⟨i, false⟩ = (c, ⟨i + (capT c).length, false⟩) := by
  have hle := capOk_le hc
  obtain ⟨b, n⟩ := c
  unfold capT at h ⊢
  simp only at h hle ⊢
  have hB : rByte s ⟨i, false⟩ = (if b = true then 1 else 0, ⟨i + 1, false⟩) := back_byte h.head (by split <;> omega) (by split <;> omega)
  have hV := back_var h.tail (by omega)
  have hF : jFlag s ⟨i, false⟩ = (if b = true then 1 else 0, ⟨i + 1, false⟩) := by
    unfold jFlag
    rw [hB]
    cases b <;> rfl
  unfold jCap
  rw [hF]
  simp only
  rw [hV]
  have hn : ((n.toNat : Nat) : Int) = n := by omega
  have hbb : decide ((if b = true then (1 : Int) else 0) = 1) = b := by cases b <;> rfl
  rw [hn, hbb, List.length_cons, show i + 1 + (varB n.toNat).length = i + ((varB n.toNat).length + 1) by omega]
theorem back_ins {s : ByteArray} {i : Nat} {c : PIns} (h : AtS s i (insT c)) (hc : insOk c = true) : rIns s ⟨i, false⟩ = (c, ⟨i + (insT c).length, false⟩) := by
  have hle := insOk_le hc
  obtain ⟨o, a, b⟩ := c
  unfold insT at h ⊢
  simp only at h hle ⊢
  have hB := back_byte h.head (by omega) (by omega)
  have hV := back_var h.tail.left (by omega)
  have hW := back_var h.tail.right (by omega)
  unfold rIns
  simp only [hB, hV, hW]
  have h1 : ((a.toNat : Nat) : Int) = a := by omega
  have h2 : ((b.toNat : Nat) : Int) = b := by omega
  rw [h1, h2, List.length_cons, List.length_append, show i + 1 + (varB a.toNat).length + (varB b.toNat).length = i + ((varB a.toNat).length + (varB b.toNat).length + 1) by omega]
theorem back_hnd {s : ByteArray} {i : Nat} {c : PHnd} (h : AtS s i (hndT c)) (hc : hndOk c = true) : rHnd s ⟨i, false⟩ = (c, ⟨i + (hndT c).length, false⟩) := by
  have hle := hndOk_le hc
  obtain ⟨o, a, b⟩ := c
  unfold hndT at h ⊢
  simp only at h hle ⊢
  have hB := back_var h.left.left (by omega)
  have hV := back_var h.left.right (by omega)
  have hW := back_var h.right (by omega)
  rw [List.length_append, ← Nat.add_assoc] at hW
  unfold rHnd
  simp only [hB, hV, hW]
  have h0 : ((o.toNat : Nat) : Int) = o := by omega
  have h1 : ((a.toNat : Nat) : Int) = a := by omega
  have h2 : ((b.toNat : Nat) : Int) = b := by omega
  rw [h0, h1, h2, List.length_append, List.length_append, show i + (varB o.toNat).length + (varB a.toNat).length + (varB b.toNat).length = i + ((varB o.toNat).length + (varB a.toNat).length + (varB b.toNat).length) by omega]
theorem back_many {α : Type} {f : ByteArray → RS → α × RS} {T : α → List Int} {s : ByteArray} : ∀ (l : List α) (i : Nat), (∀ x ∈ l, ∀ j, AtS s j (T x) → f s ⟨j, false⟩ = (x, ⟨j + (T x).length, false⟩)) → AtS s i (l.flatMap T) →
    rMany (f s) l.length ⟨i, false⟩ = (l, ⟨i + (l.flatMap T).length, false⟩)
  | [], i, hf, h => rfl
  | x :: l, i, hf, h => by
    rw [List.flatMap_cons] at h ⊢
    have h1 := hf x (by simp) i h.left
    rw [List.length_cons, rMany_more _ _ _ rfl, h1]
    simp only
    rw [back_many l _ (fun y hy => hf y (by simp [hy])) h.right, List.length_append, Nat.add_assoc]
theorem back_list {α : Type} {f : ByteArray → RS → α × RS} {T : α → List Int} {s : ByteArray} (l : List α) (i : Nat) (hn : l.length ≤ 1000) (hf : ∀ x ∈ l, ∀ j, AtS s j (T x) → f s ⟨j, false⟩ = (x, ⟨j + (T x).length, false⟩)) (h : AtS s i (varB l.length ++ l.flatMap T)) :
    jList f s ⟨i, false⟩ = (l, ⟨i + (varB l.length ++ l.flatMap T).length, false⟩) := by
  unfold jList
  rw [back_var h.left (by omega)]
  simp only
  rw [back_many l _ hf h.right, List.length_append, Nat.add_assoc]
theorem back_func {s : ByteArray} {i : Nat} {f : PFun} (h : AtS s i (funT f)) (hf : funOk f = true) : jFunc s ⟨i, false⟩ = (f, ⟨i + (funT f).length, false⟩) := by
  have hle := funOk_le hf
  have e : funT f = varB f.params.toNat ++ (varB f.regs.toNat ++ ((varB f.caps.length ++ f.caps.flatMap capT) ++ ((varB f.code.length ++ f.code.flatMap insT) ++ (varB f.hnds.length ++ f.hnds.flatMap hndT)))) := by
    unfold funT funHead
    simp only [List.append_assoc]
  rw [e] at h ⊢
  have a1 := back_var h.left (by have := hle.params; omega)
  have a2 := back_var h.right.left (by have := hle.regs; omega)
  have a3 := back_list f.caps _ (by have := hle.caps; omega) (fun x hx j hj => back_cap hj (hle.capsOk x hx)) h.right.right.left
  have a4 := back_list f.code _ (by have := hle.code; omega) (fun x hx j hj => back_ins hj (hle.codeOk x hx)) h.right.right.right.left
  have a5 := back_list f.hnds _ (by have := hle.hnds; omega) (fun x hx j hj => back_hnd hj (hle.hndsOk x hx)) h.right.right.right.right
  unfold jFunc
  simp only [a1, a2, a3, a4, a5]
  have h0 : ((f.params.toNat : Nat) : Int) = f.params := by have := hle.params; omega
  have h1 : ((f.regs.toNat : Nat) : Int) = f.regs := by have := hle.regs; omega
  rw [h0, h1]
  simp only [List.length_append, Nat.add_assoc]
theorem back_image (p : PImg) (hp : imgOk p = true) (hn : ∀ c ∈ p.consts, c.num < 18446744073709551616) : jImage (strOfNums (imgT p)) ⟨3, false⟩ = (p, ⟨(imgT p).length, false⟩) := by
  have hle := imgOk_le hp
  have e : imgT p = [83, 67, 49] ++ ((varB p.consts.length ++ p.consts.flatMap conT) ++ (varB p.funcs.length ++ p.funcs.flatMap funT)) := by
    unfold imgT imgHead
    simp only [List.append_assoc]
  have h : AtS (strOfNums (imgT p)) 0 ([83, 67, 49] ++ ((varB p.consts.length ++ p.consts.flatMap conT) ++ (varB p.funcs.length ++ p.funcs.flatMap funT))) := ⟨⟨#[]⟩, ⟨#[]⟩, by rw [← e]; apply ByteArray.ext; simp, rfl⟩
  have a1 := back_list p.consts _ (by have := hle.consts; omega) (fun x hx j hj => back_const hj ⟨hle.consOk x hx, hn x hx⟩) h.right.left
  have a2 := back_list p.funcs _ (by have := hle.funcs; omega) (fun x hx j hj => back_func hj (hle.funsOk x hx)) h.right.right
  unfold jImage
  rw [show (⟨3, false⟩ : RS) = ⟨0 + ([83, 67, 49] : List Int).length, false⟩ from rfl]
  simp only [a1, a2]
  have ez : 0 + ([83, 67, 49] : List Int).length + (varB p.consts.length ++ p.consts.flatMap conT).length + (varB p.funcs.length ++ p.funcs.flatMap funT).length = (imgT p).length := by
    rw [e]
    simp only [List.length_append]
    omega
  rw [ez]
end Go.Proofs.Ytedhfdgcofboeaa
namespace Go.Proofs.Ytedhfdgcofboeaa
open Go.RowKit
def four (x : Nat) : List UInt8 := (fourB x).map fun n => UInt8.ofNat n.toNat
theorem four_length (x : Nat) : (four x).length = 4 := rfl
theorem seal_list {t : ByteArray} {l f : List UInt8} (h : t.data.toList = l ++ f) (hf : f.length = 4) :
    (t.extract 0 (t.size - 4)).data.toList = l ∧ (t.extract (t.size - 4) t.size).toList = f := by
  have hs : t.size = l.length + 4 := by rw [Lib.size_eq, h, List.length_append, hf]
  constructor
  · rw [Lib.extract_data, h, hs]
    simp
  · rw [Lib.extract_toList, h, hs]
    simp
    rw [← hf, List.take_length]
end Go.Proofs.Ytedhfdgcofboeaa
namespace Go.Proofs.Ytedhfdgcofboeaa
open Go.RowKit
theorem sealedS_list (s : ByteArray) : (sealedS s).data.toList = s.data.toList ++ four (sumL 4294967295 s.data.toList) := by
  unfold sealedS
  rw [ByteArray.data_append, Array.toList_append, strOfNums_data]
  rfl
theorem sealedS_size (s : ByteArray) : (sealedS s).size = s.size + 4 := by
  rw [Lib.size_eq, sealedS_list, List.length_append, four_length, ← Lib.size_eq]
theorem sealOk_list {t : ByteArray} {l f : List UInt8} (h : t.data.toList = l ++ f) (hf : f.length = 4) : sealOk t = (f == four (sumL 4294967295 l)) := by
  obtain ⟨h1, h2⟩ := seal_list h hf
  unfold sealOk innerS
  rw [h1, h2, Lib.toList_data, strOfNums_data]
  rfl
end Go.Proofs.Ytedhfdgcofboeaa
namespace Go.Proofs.Ytedhfdgcofboeaa
open Go.RowKit
set_option linter.unusedVariables false
def markB (s : ByteArray) : Bool := decide (3 ≤ s.size) && decide (ints (sl s 0 3) = [83, 67, 49])
def jB (t : ByteArray) : Bool :=
  decide (t.size ≤ 12000) && (unsB t && (markB (unsS t) && (!(jImage (unsS t) ⟨3, false⟩).2.bad && (decide ((jImage (unsS t) ⟨3, false⟩).2.pos = (unsS t).size) && imgOk (jImage (unsS t) ⟨3, false⟩).1))))
def jP (t : ByteArray) : PImg := if jB t then (jImage (unsS t) ⟨3, false⟩).1 else ⟨[], []⟩
theorem seal_back {t : ByteArray} (h4 : 4 ≤ t.size) (h : sealOk t = true) : sealedS (innerS t) = t ∧ (innerS t).size + 4 = t.size := by
  have hz : (innerS t).size + 4 = t.size := by
    unfold innerS
    rw [ByteArray.size_extract]
    omega
  refine ⟨?_, hz⟩
  unfold sealOk at h
  have e : (t.extract (t.size - 4) t.size).toList = (strOfNums (fourB (sumL 4294967295 (innerS t).data.toList))).toList := by simpa using h
  apply ByteArray.ext
  apply Array.toList_inj.1
  unfold sealedS
  rw [ByteArray.data_append, Array.toList_append]
  rw [ByteArray.toList_eq, ByteArray.toList_eq] at e
  rw [← e]
  have h1 : (innerS t).data.toList = t.data.toList.take (t.size - 4) := by
    unfold innerS
    rw [← ByteArray.toList_eq, Lib.extract_toList, List.drop_zero, Nat.sub_zero]
  have h2 : (t.extract (t.size - 4) t.size).data.toList = t.data.toList.drop (t.size - 4) := by
    rw [← ByteArray.toList_eq, Lib.extract_toList]
    have hl : t.data.toList.length = t.size := (Lib.size_eq t).symm
    rw [List.take_of_length_le (by rw [List.length_drop]; omega)]
  rw [h1, h2, List.take_append_drop]
theorem seal_yes (s : ByteArray) : sealOk (sealedS s) = true ∧ innerS (sealedS s) = s := by
  have h := sealedS_list s
  refine ⟨by rw [sealOk_list h rfl]; simp, ?_⟩
  have h1 := (seal_list h rfl).1
  unfold innerS
  rw [← Lib.mk_data (ByteArray.extract _ _ _), h1, Lib.mk_data]
theorem fine_of {p : PImg} (h : imgOk p = true) : ∀ f ∈ p.funcs, Fine15 f := fun f hf => by
  have := funOk_le ((imgOk_le h).funsOk f hf)
  exact ⟨by have := this.caps; omega, by have := this.code; omega, by have := this.hnds; omega⟩
theorem j_then {t : ByteArray} (h : jB t = true) : rdB t = true ∧ (rImage (unsS t) (!unsB t)).1 = (jImage (unsS t) ⟨3, false⟩).1 := by
  unfold jB markB at h
  simp only [Bool.and_eq_true, decide_eq_true_eq, Bool.not_eq_true'] at h
  obtain ⟨h1, h2, ⟨h3, h4⟩, h5, h6, h7⟩ := h
  have hc := image_canon (unsS t) h3 h4 h5 h6 (fun r hr => jConst_pos _ r hr)
  have hle := imgOk_le h7
  have hs := sim_image (unsS t) h3 h5 (by have := hle.consts; omega) (by have := hle.funcs; omega) (fine_of h7)
  have hu : unsS t = innerS t := by unfold unsS; rw [if_pos h2]
  have hub := h2
  unfold unsB at hub
  simp only [Bool.and_eq_true, decide_eq_true_eq] at hub
  obtain ⟨hb1, hb2⟩ := seal_back hub.1 hub.2.2
  rw [h2]
  simp only [Bool.not_true]
  rw [hs]
  refine ⟨?_, rfl⟩
  unfold rdB
  rw [h2]
  simp only [Bool.not_true]
  rw [hs, h5, ← hc, str_of_ints, hu, hb1]
  rw [hu] at h7 hc
  have hlen : (imgT (jImage (innerS t) ⟨3, false⟩).1).length = (innerS t).size := by
    rw [← hc]
    unfold ints
    rw [List.length_map]
    exact (Lib.size_eq _).symm
  unfold imgTB
  rw [h7, hlen]
  simp
  omega
theorem r_then {t : ByteArray} (ht : t.size ≤ 1048576) (h : rdB t = true) : jB t = true := by
  have hW := rImage_ok (unsS t) (!unsB t) (by
    unfold unsS
    split
    · unfold innerS
      rw [ByteArray.size_extract]
      omega
    · show 0 ≤ _
      omega)
  unfold rdB at h
  simp only [Bool.and_eq_true, decide_eq_true_eq, Bool.not_eq_true'] at h
  obtain ⟨h1, h2, h3⟩ := h
  obtain ⟨q, hq⟩ : ∃ q, (rImage (unsS t) (!unsB t)).1 = q := ⟨_, rfl⟩
  rw [hq] at h2 h3 hW
  unfold imgTB at h2
  simp only [Bool.and_eq_true, decide_eq_true_eq] at h2
  obtain ⟨e1, e2⟩ := seal_yes (strOfNums (imgT q))
  have ez := sealedS_size (strOfNums (imgT q))
  rw [h3] at e1 e2 ez
  rw [strOfNums_size] at ez
  have hub : unsB t = true := by
    unfold unsB
    rw [e1]
    simp
    omega
  have hu : unsS t = strOfNums (imgT q) := by unfold unsS; rw [if_pos hub, e2]
  have hb := back_image q h2.1 (fun c hc => by have := (hW.1.consts c hc).2.1; unfold N64 at this; omega)
  unfold jB
  rw [hub, hu, hb]
  have hm : markB (strOfNums (imgT q)) = true := by
    unfold markB
    have hA : AtS (strOfNums (imgT q)) 0 ([83, 67, 49] ++ (varB q.consts.length ++ q.consts.flatMap conT ++ varB q.funcs.length ++ q.funcs.flatMap funT)) := ⟨⟨#[]⟩, ⟨#[]⟩, by
      rw [show [83, 67, 49] ++ (varB q.consts.length ++ q.consts.flatMap conT ++ varB q.funcs.length ++ q.funcs.flatMap funT) = imgT q by unfold imgT imgHead; simp only [List.append_assoc]]
      apply ByteArray.ext
      simp, rfl⟩
    have hz := hA.left.size
    simp only [List.length_cons, List.length_nil] at hz
    have e : strOfNums (imgT q) = strOfNums [83, 67, 49] ++ strOfNums (varB q.consts.length ++ q.consts.flatMap conT ++ varB q.funcs.length ++ q.funcs.flatMap funT) := by
      rw [← nums_add]
      unfold imgT imgHead
      simp only [List.append_assoc]
    have hs : sl (strOfNums (imgT q)) 0 3 = [83, 67, 49] := by
      unfold sl
      rw [e, ByteArray.data_append, Array.toList_append, List.drop_zero]
      rfl
    rw [hs]
    simp only [Bool.and_eq_true, decide_eq_true_eq]
    exact ⟨by omega, rfl⟩
  rw [hm, h2.1, strOfNums_size]
  simp
  omega
theorem j_is {t : ByteArray} (ht : t.size ≤ 1048576) : jB t = rdB t ∧ jP t = rdP t := by
  have e : jB t = rdB t := by
    rw [Bool.eq_iff_iff]
    exact ⟨fun h => (j_then h).1, fun h => r_then ht h⟩
  refine ⟨e, ?_⟩
  unfold jP rdP
  by_cases h : jB t = true
  · rw [if_pos h, if_pos (e ▸ h)]
    exact (j_then h).2.symm
  · rw [if_neg h, if_neg (by rw [← e]; exact h)]
end Go.Proofs.Ytedhfdgcofboeaa
