/-
  The law's own helper that copies an image.
-/
import Derived.Test.YtojmmmfboahkgaaDoorImg13V
import Derived.Test.YtojmmmfboahkgaaDoorImg13S
namespace Go.Proofs.YtojmmmfboahkgaaDoor
open Go.RowKit
set_option linter.unusedVariables false

theorem FunsIn.set {w : World} {B : Nat} {v : Value} {l : List PFun} (h : FunsIn w B v l) {a : Addr} (ha : a.block < B) (u : Value) : FunsIn (w.setCell a u) B v l := by
  obtain ⟨xs, h1, h2⟩ := h
  refine ⟨xs, ownsRow_setCell_below h1 ha u, fun q p hq => ?_⟩
  obtain ⟨cv, kv, hv, k1, k2, k3, k4⟩ := h2 q p hq
  exact ⟨cv, kv, hv, k1, ownsRow_setCell_below k2 ha u, ownsRow_setCell_below k3 ha u, ownsRow_setCell_below k4 ha u⟩
theorem FunsIn.low {w : World} {B B' : Nat} {v : Value} {l : List PFun} (h : FunsIn w B v l) (hb : B' ≤ B) : FunsIn w B' v l := by
  obtain ⟨xs, h1, h2⟩ := h
  refine ⟨xs, row_low h1 hb, fun q p hq => ?_⟩
  obtain ⟨cv, kv, hv, k1, k2, k3, k4⟩ := h2 q p hq
  exact ⟨cv, kv, hv, k1, row_low k2 hb, row_low k3 hb, row_low k4 hb⟩
theorem FunsIn.slice {w : World} {B : Nat} {v : Value} {l : List PFun} (h : FunsIn w B v l) : ∃ x c, v = .slice x l.length c := by
  obtain ⟨xs, h1, _⟩ := h
  exact row_slice h1
/-- an image lies in memory of its own, all of it from block B on -/
def ImgIn (w : World) (B : Nat) (fv cv : Value) (p : PImg) : Prop := FunsIn w B fv p.funcs ∧ w.ownsRow B 81 3 cv p.consts.length (p.consts.flatMap conC)
theorem ImgIn.below {w w' : World} {B : Nat} {fv cv : Value} {p : PImg} (h : ImgIn w B fv cv p) (hb : Below w.heap.size w w') : ImgIn w' B fv cv p := ⟨h.1.below hb, row_keep h.2 hb⟩
theorem ImgIn.arg {w : World} {B : Nat} {fv cv : Value} {p : PImg} (h : ImgIn w B fv cv p) : ArgImg w fv cv p := ⟨h.1.arg, ArgFlat.of_own h.2⟩
theorem cells_pair {w : World} {g : Nat} {a b : Value} {t : TypeId} {r : Nat × Nat} (h : w.heap[g]? = some (.cells #[a, b] t r)) : w.cell? ⟨g, 0, none⟩ = some a ∧ w.cell? ⟨g, 1, none⟩ = some b := by
  refine ⟨?_, ?_⟩ <;> (rw [cell_of_row _ _ _ _ _ _ h]; rfl)

set_option maxHeartbeats 1000000 in
set_option maxRecDepth 100000 in
theorem toImage_any (fv cv : Value) (p : PImg) (w : World) (h : ArgImg w fv cv p) (hf : imgFew p 1048576) :
    Calls Tryd.prog 10 #[.agg #[fv, cv]] w fun e w' => ∃ fv' cv', e = .returned (.agg #[fv', cv']) ∧ ImgIn w' w.heap.size fv' cv' p ∧ Below w.heap.size w w' := by
  have cF := fun W (hb : Below w.heap.size w W) => toFuncS_any fv p.funcs W (h.1.below hb) (by have := hf.1; omega) (fun q hq => by have := hf.2.1 q hq; unfold funFew at this; omega)
  have cC := fun W (hb : Below w.heap.size w W) => toConstS_any cv p.consts W (h.2.below hb) (by have := hf.2.2.1; omega)
  clear h hf
  go_enter Tryd.func10, Tryd.ntmps10
  go_wp2_with fail
  have T := made_three w (Obj.cells #[fv, cv] 31) (Obj.cells #[Value.slice none 0 0, Value.slice none 0 0] 37) (Obj.cells #[Value.slice none 0 0, Value.slice none 0 0] 37)
  obtain ⟨W3, hW3⟩ : ∃ W, (((w.alloc (Obj.cells #[fv, cv] 31)).alloc (Obj.cells #[Value.slice none 0 0, Value.slice none 0 0] 37)).alloc (Obj.cells #[Value.slice none 0 0, Value.slice none 0 0] 37)) = W := ⟨_, rfl⟩
  rw [hW3] at T ⊢
  clear hW3
  obtain ⟨t0, t1, t2, tz, tb⟩ := T
  obtain ⟨G, hG⟩ : ∃ G, w.heap.size = G := ⟨_, rfl⟩
  obtain ⟨D, hD⟩ : ∃ D, G + 1 + 1 = D := ⟨_, rfl⟩
  rw [hG] at t0 t1 tz
  rw [show w.heap.size + 2 = D by omega] at t2
  have hsz : D + 1 ≤ W3.heap.size := by omega
  have hB : w.heap.size ≤ G := by omega
  clear tz
  refine (cF W3 tb).mono ?_
  rintro e w1 ⟨v1, rfl, own1, b1⟩
  obtain ⟨x1, y1, rfl⟩ := own1.slice
  obtain ⟨u0, u1, u2, ub, us⟩ := kept_three hD t0 t1 t2 tb hB hsz b1
  have own1' := own1.low (B' := D + 1) hsz
  obtain ⟨d0, d1⟩ := cells_pair u0
  obtain ⟨e0, e1⟩ := cells_pair u2
  have fD := fun j => frozen_of_row w1 D j _ _ u2
  obtain ⟨s0, s1, s2, sb, ss⟩ := put_field (k := 0) (v := .slice x1 p.funcs.length y1) (m' := #[.slice x1 p.funcs.length y1, .slice none 0 0]) hD u0 u1 u2 ub hB us rfl
  have own1'' := own1'.set (a := ⟨D, 0, none⟩) (by show D < D + 1; omega) (.slice x1 p.funcs.length y1)
  clear t0 t1 t2 tb hsz b1 own1 u0 u1 u2 ub us own1'
  try simp only [hG, hD]
  go_upto_region 3 with fail
  obtain ⟨V1, hV⟩ : ∃ W, w1.setCell ⟨D, 0, none⟩ (.slice x1 p.funcs.length y1) = W := ⟨_, rfl⟩
  simp only [hV] at s0 s1 s2 sb ss own1'' ⊢
  clear hV d0 d1 e0 e1 fD
  obtain ⟨d0, d1⟩ := cells_pair s0
  go_wp2_with fail
  refine (cC V1 sb).mono ?_
  rintro e w2 ⟨v2, rfl, own2, b2⟩
  clear d0 d1
  obtain ⟨x2, y2, rfl⟩ := row_slice own2
  obtain ⟨u0, u1, u2, ub, us⟩ := kept_three hD s0 s1 s2 sb hB ss b2
  have own1' := own1''.below b2
  have own2' := row_low own2 ss
  obtain ⟨d0, d1⟩ := cells_pair u0
  obtain ⟨e0, e1⟩ := cells_pair u2
  have fD := fun j => frozen_of_row w2 D j _ _ u2
  obtain ⟨t0, t1, t2, tb, ts⟩ := put_field (k := 1) (v := .slice x2 p.consts.length y2) (m' := #[.slice x1 p.funcs.length y1, .slice x2 p.consts.length y2]) hD u0 u1 u2 ub hB us rfl
  have o1 := own1'.set (a := ⟨D, 1, none⟩) (by show D < D + 1; omega) (.slice x2 p.consts.length y2)
  have o2 := ownsRow_setCell_below own2' (a := ⟨D, 1, none⟩) (by show D < D + 1; omega) (.slice x2 p.consts.length y2)
  clear s0 s1 s2 sb ss b2 own2 own2' own1' own1'' u0 u1 u2 ub us
  go_upto_region 4 with fail
  obtain ⟨V2, hV⟩ : ∃ W, w2.setCell ⟨D, 1, none⟩ (.slice x2 p.consts.length y2) = W := ⟨_, rfl⟩
  simp only [hV] at t0 t1 t2 tb ts o1 o2 ⊢
  clear hV d0 d1 e0 e1 fD
  obtain ⟨e0, e1⟩ := cells_pair t2
  obtain ⟨i0, i1⟩ := cells_pair t1
  have fG := fun j => frozen_of_row V2 (G + 1) j _ _ t1
  have z0 : (V2.setCell ⟨G + 1, 0, none⟩ (.slice x1 p.funcs.length y1)).heap[G + 1]? = some (.cells #[.slice x1 p.funcs.length y1, .slice none 0 0] 37) := heap_setCell_same _ _ _ _ _ _ t1
  have z1 : ((V2.setCell ⟨G + 1, 0, none⟩ (.slice x1 p.funcs.length y1)).setCell ⟨G + 1, 1, none⟩ (.slice x2 p.consts.length y2)).heap[G + 1]? = some (.cells #[.slice x1 p.funcs.length y1, .slice x2 p.consts.length y2] 37) := heap_setCell_same _ _ 1 _ _ _ z0
  obtain ⟨g0, g1⟩ := cells_pair z1
  have HT : Hid (Below w.heap.size w ((V2.setCell ⟨G + 1, 0, none⟩ (.slice x1 p.funcs.length y1)).setCell ⟨G + 1, 1, none⟩ (.slice x2 p.consts.length y2)) ∧ ImgIn ((V2.setCell ⟨G + 1, 0, none⟩ (.slice x1 p.funcs.length y1)).setCell ⟨G + 1, 1, none⟩ (.slice x2 p.consts.length y2)) w.heap.size (.slice x1 p.funcs.length y1) (.slice x2 p.consts.length y2) p) := by
    have q : ∀ (W : World) (j : Nat) (u : Value), Below w.heap.size w W → Below w.heap.size w (W.setCell ⟨G + 1, j, none⟩ u) := fun W j u h => h.setCell (p := ⟨G + 1, j, none⟩) (by show _ ≤ G + 1; omega) u
    refine ⟨q _ _ _ (q _ _ _ tb), ((o1.set (a := ⟨G + 1, 0, none⟩) (by show G + 1 < D + 1; omega) _).set (a := ⟨G + 1, 1, none⟩) (by show G + 1 < D + 1; omega) _).low (by omega), row_low (ownsRow_setCell_below (ownsRow_setCell_below o2 (a := ⟨G + 1, 0, none⟩) (by show G + 1 < D + 1; omega) _) (a := ⟨G + 1, 1, none⟩) (by show G + 1 < D + 1; omega) _) (by omega)⟩
  clear t0 t1 t2 z0 z1 tb o1 o2 cF cC
  go_wp2
  refine bodyPost_ret (by simp [results, Tryd.results10, go_sem, g0, g1]; try rfl) rfl ?_
  exact ⟨_, _, rfl, HT.out.2, HT.out.1⟩

end Go.Proofs.YtojmmmfboahkgaaDoor
