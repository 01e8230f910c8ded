/-
  Part 2 of what is proved of drawn right trees.
-/
import Derived.Test.YtedhfdgcofboeaaPaa
import Derived.Lib.ConvBytes
import Derived.Lib.SmallJoins
import Derived.Maps.AppendAt

namespace Go.Proofs.Ytedhfdgcofboeaa
open Go.RowKit
set_option linter.unusedVariables false
def OwnB (w : World) (B : Nat) (e : TypeId) (v : Value) (xs : List Int) : Prop :=
  ∃ g cap cur fz, v = .slice (some ⟨g, 0, none⟩) xs.length cap ∧ B ≤ g ∧ w.heap[g]? = some (.cells cur e fz) ∧ (fz = (0, 0) ∨ cap ≤ fz.1) ∧ xs.length ≤ cap ∧ cap ≤ maxLen ∧ cur.size = cap ∧ cur.toList.take xs.length = xs.map (Value.int .u8)
theorem OwnB.slice {w : World} {B : Nat} {e : TypeId} {v : Value} {xs : List Int} (h : OwnB w B e v xs) : ∃ g cap, v = .slice (some ⟨g, 0, none⟩) xs.length cap ∧ B ≤ g ∧ g < w.heap.size ∧ ∀ j u, xs[j]? = some u → w.cell? ⟨g, j, none⟩ = some (.int .u8 u) := by
  obtain ⟨g, cap, cur, fz, e1, h1, h2, h3, h4, h5, h6, h7⟩ := h
  refine ⟨g, cap, e1, h1, ?_, fun j u hj => ?_⟩
  · rcases Nat.lt_or_ge g w.heap.size with x | x
    · exact x
    · rw [Array.getElem?_eq_none x] at h2; cases h2
  · rw [cell_of_row w g j cur e fz h2]
    have hlt : j < xs.length := (List.getElem?_eq_some_iff.1 hj).1
    have h8 : (cur.toList.take xs.length)[j]? = some (.int .u8 u) := by rw [h7]; simp [hj]
    rw [List.getElem?_take] at h8
    rw [if_pos hlt] at h8
    simpa using h8
theorem OwnB.keep {w w' : World} {B : Nat} {e : TypeId} {v : Value} {xs : List Int} (h : OwnB w B e v xs) (hb : Below w.heap.size w w') : OwnB w' B e v xs := by
  obtain ⟨_, _, _, _, hlt, _⟩ := h.slice
  obtain ⟨g, cap, cur, fz, e1, h1, h2, h3, h4, h5, h6, h7⟩ := h
  have hg : g < w.heap.size := by
    rcases Nat.lt_or_ge g w.heap.size with x | x
    · exact x
    · rw [Array.getElem?_eq_none x] at h2; cases h2
  exact ⟨g, cap, cur, fz, e1, h1, (hb.block g hg).trans h2, h3, h4, h5, h6, h7⟩
theorem OwnB.conv {P : Program} {w : World} {B : Nat} {e src dst : TypeId} {v : Value} {xs : List Int} (h : OwnB w B e v xs)
    (hs : P.underlying src = some (.slice e)) (he : P.underlying e = some (.int .u8)) (hd : P.underlying dst = some .string) :
    (convert src dst v).run P w = .ok (.string (strOfNums xs)) w := by
  obtain ⟨g, cap, rfl, _, _, hc⟩ := h.slice
  refine run_convert_bytes_arg w src e hs he g 0 _ cap xs rfl (fun i hi => ?_) dst hd
  rw [Nat.zero_add]
  exact hc i _ (by rw [List.getD, List.getElem?_eq_getElem hi]; rfl)
def numsOf (s : ByteArray) : List Int := s.data.toList.map (fun b => (b.toNat : Int))
theorem numsOf_len (s : ByteArray) : (numsOf s).length = s.size := by unfold numsOf; rw [List.length_map]; rfl
theorem own_bytes (w : World) (e : TypeId) (s : ByteArray) (hs : s.size ≤ maxLen) : OwnB (Lib.bytesWorld w e s) w.heap.size e (.slice (some ⟨w.heap.size, 0, none⟩) s.size (grownCap w s.size 0 e)) (numsOf s) := by
  have hge := grownCap_ge w s.size 0 e
  have hle := grownCap_le_maxLen w s.size 0 e hs
  have hsz : (Lib.bytesCells w e s).size = grownCap w s.size 0 e := by
    unfold Lib.bytesCells
    simp only [Array.size_append, Array.size_map, Array.size_replicate]
    have : s.data.size = s.size := rfl
    omega
  refine ⟨w.heap.size, grownCap w s.size 0 e, Lib.bytesCells w e s, _, by rw [numsOf_len], Nat.le_refl _, Lib.bytesWorld_at_new w e s, .inr (by rw [hsz]; exact Nat.le_refl _), by rw [numsOf_len]; exact hge, hle, hsz, ?_⟩
  rw [numsOf_len]
  unfold Lib.bytesCells numsOf
  simp only [Array.toList_append, Array.toList_map, List.map_map]
  have hl : (s.data.toList.map (fun b => Value.int .u8 (b.toNat : Int))).length = s.size := by rw [List.length_map]; rfl
  rw [List.take_append_of_le_length (Nat.le_of_eq hl.symm), List.take_of_length_le (Nat.le_of_eq hl)]
  rfl
theorem bytes_cells (w : World) (e : TypeId) (s : ByteArray) : ∀ j u, (numsOf s)[j]? = some u → (Lib.bytesWorld w e s).cell? ⟨w.heap.size, j, none⟩ = some (.int .u8 u) := fun j u hj => by
  have hlt : j < s.size := by rw [← numsOf_len]; exact (List.getElem?_eq_some_iff.1 hj).1
  rw [Lib.bytesWorld_cell w e s j hlt]
  have h2 : j < s.data.toList.length := hlt
  unfold numsOf at hj
  rw [List.getElem?_map, List.getElem?_eq_getElem h2] at hj
  simp only [Option.map_some, Option.some.injEq] at hj
  rw [← hj]
  simp [List.getD, List.getElem?_eq_getElem h2]
theorem store_mark (P : Program) {g a : Nat} {t : TypeId} {fz : Nat × Nat} {cur : Array Value} {w : World} {v : Value} (hg : w.heap[g]? = some (.cells cur t fz)) (hfz : fz = (0, 0) ∨ cur.size ≤ fz.1) (ha : a < cur.size) (hv : v.oneCell' = true) :
    (store ⟨g, a, none⟩ v).run P w = .ok () (w.setRow g (cur.setIfInBounds a v)) := by
  have h1 : w.cell? ⟨g, a, none⟩ = some cur[a] := by
    rw [cell_of_row w g a cur t fz hg]
    exact Array.getElem?_eq_getElem ha
  have h2 : w.frozen? ⟨g, a, none⟩ = false := by
    rcases hfz with rfl | h
    · exact frozen_of_row w g a cur t hg
    · unfold World.frozen?
      rw [hg]
      have hd : decide (fz.1 ≤ a) = false := decide_eq_false (by omega)
      simp [hd]
  rw [run_store P w _ v _ hv, h1, setCell_eq_setRow w g a cur t fz v hg]
  simp [h2]
theorem storeCells_mark (P : Program) (g o : Nat) (t : TypeId) (fz : Nat × Nat) (vs : List Value) : ∀ (i : Nat) (cur : Array Value) (w : World), w.heap[g]? = some (.cells cur t fz) → (fz = (0, 0) ∨ cur.size ≤ fz.1) → o + i + vs.length ≤ cur.size → (∀ v ∈ vs, v.oneCell' = true) →
    ∃ new : Array Value, (storeCells ⟨g, o, none⟩ vs i).run P w = .ok () (w.setRow g new) ∧ new.size = cur.size ∧ ∀ j, new[j]? = if o + i ≤ j ∧ j < o + i + vs.length then vs[j - (o + i)]? else cur[j]? := by
  induction vs with
  | nil =>
    intro i cur w hg _ _ _
    refine ⟨cur, ?_, rfl, fun j => ?_⟩
    · rw [setRow_self w g cur t fz hg]
      rfl
    · rw [if_neg (by simp only [List.length_nil]; omega)]
  | cons v vs ih =>
    intro i cur w hg hfz hl h1
    rw [List.length_cons] at hl
    have ha : (⟨g, o, none⟩ : Addr).add i = ⟨g, o + i, none⟩ := by unfold Addr.add; split <;> simp_all
    have hone := store_mark P hg hfz (show o + i < cur.size by omega) (h1 v (by simp))
    obtain ⟨new, k1, k2, k3⟩ := ih (i + 1) (cur.setIfInBounds (o + i) v) (w.setRow g (cur.setIfInBounds (o + i) v)) (setRow_heap w g cur _ t fz hg) (by rw [Array.size_setIfInBounds]; exact hfz) (by rw [Array.size_setIfInBounds]; omega) (fun x hx => h1 x (by simp [hx]))
    refine ⟨new, ?_, by rw [k2, Array.size_setIfInBounds], fun j => ?_⟩
    · rw [show storeCells ⟨g, o, none⟩ (v :: vs) i = (do store ((⟨g, o, none⟩ : Addr).add i) v; storeCells ⟨g, o, none⟩ vs (i + 1)) from rfl, Sem.run_bind, ha, hone]
      rw [Result.andThen_ok, k1, setRow_setRow]
    · rw [k3 j, List.length_cons]
      by_cases e : j = o + i
      · subst e
        rw [if_neg (by omega), if_pos (by omega), Nat.sub_self, Array.getElem?_setIfInBounds, if_pos rfl, if_pos (by omega)]
        rfl
      · by_cases h : o + (i + 1) ≤ j ∧ j < o + (i + 1) + vs.length
        · rw [if_pos h, if_pos (by omega)]
          have e2 : j - (o + i) = (j - (o + (i + 1))) + 1 := by omega
          rw [e2, List.getElem?_cons_succ]
        · rw [if_neg h, if_neg (by omega), Array.getElem?_setIfInBounds, if_neg (fun x => e x.symm)]
theorem run_appendB {P : Program} (w : World) (B : Nat) (t ty e : TypeId) (i : TypeInfo) (ht : P.underlying t = some (.slice e)) (hi : P.info? e = some i) (hz : i.zero = some (.int .u8 0)) (hsize : i.size = 1) (hby : i.bytes = 1)
    (v : Value) (xs : List Int) (hown : OwnB w B e v xs) (ad : Addr) (c : Nat) (news : List Int) (hnews : ∀ j u, news[j]? = some u → w.cell? (ad.add j) = some (.int .u8 u))
    (hn : xs.length + news.length ≤ 1000000000000) (hbase : B ≤ w.heap.size) :
    ∃ v' w', (Builtin.append_ #[t, t] ty #[v, .slice (some ad) news.length c]).run P w = .ok v' w' ∧ OwnB w' B e v' (xs ++ news) ∧ w.grownBy w' v.ownBlock ∧ (v'.ownBlock = v.ownBlock ∨ v'.ownBlock = some w.heap.size) := by
  have hcs := fun g (hg : v.ownBlock = some g) => hown.slice
  obtain ⟨g0, cap0, e0, _, _, hold⟩ := hown.slice
  obtain ⟨g, cap, cur, fz, rfl, hbg, hg, hfz, hnc, hcm, hsz, htk⟩ := hown
  simp only [Value.slice.injEq, Option.some.injEq, Addr.mk.injEq] at e0
  obtain ⟨⟨rfl, _⟩, _⟩ := e0
  have hl : (news.map (Value.int .u8)).length = news.length * i.size := by rw [hsize]; simp
  have hnw : ∀ j u, (news.map (Value.int .u8))[j]? = some u → w.cell? (ad.add j) = some u := fun j u hj => by
    rw [List.getElem?_map] at hj
    cases hx : news[j]? with
    | none => rw [hx] at hj; cases hj
    | some y =>
      rw [hx] at hj
      simp only [Option.map_some, Option.some.injEq] at hj
      rw [← hj]
      exact hnews j y hx
  have h1 : ∀ u ∈ news.map (Value.int .u8), u.oneCell' = true := fun u hu => by
    obtain ⟨y, _, rfl⟩ := List.mem_map.1 hu
    rfl
  by_cases hroom : xs.length + news.length ≤ cap
  · have hf := run_firstCells_some (P := P) w i.size news.length ad news.length c (news.map (Value.int .u8)) hl hnw
    obtain ⟨new, hst, hns, hnj⟩ := storeCells_mark P g xs.length e fz (news.map (Value.int .u8)) 0 cur w hg (by rw [hsz]; exact hfz) (by simp; omega) h1
    rw [hsize] at hf
    refine ⟨.slice (some ⟨g, 0, none⟩) (xs.length + news.length) cap, w.setRow g new, ?_, ⟨g, cap, new, fz, by simp, hbg, setRow_heap w g cur new e _ hg, hfz, by simp; omega, hcm, by rw [hns, hsz], ?_⟩, ⟨rfl, rfl, rfl, by simp, fun k _ hk => setRow_other w g k _ (fun e => hk (by simp [Value.ownBlock, e]))⟩, .inl rfl⟩
    · simp [Builtin.append_, run_underlying ht, sizeOf, typeInfo, hi, hsize, Builtin.lenOf, hroom, hf, Addr.add_lit, hst]
    · apply List.ext_getElem?
      intro q
      rw [List.getElem?_take, List.map_append, List.length_append]
      have hq := hnj q
      rw [Nat.add_zero, List.length_map] at hq
      rcases Nat.lt_or_ge q (xs.length + news.length) with h2 | h2
      · rw [if_pos h2, Array.getElem?_toList, hq]
        rcases Nat.lt_or_ge q xs.length with h3 | h3
        · rw [if_neg (by omega), List.getElem?_append_left (by simpa using h3)]
          have h4 : (cur.toList.take xs.length)[q]? = (xs.map (Value.int .u8))[q]? := by rw [htk]
          rw [List.getElem?_take, if_pos h3, Array.getElem?_toList] at h4
          exact h4
        · rw [if_pos (by omega), List.getElem?_append_right (by simpa using h3), List.length_map]
      · rw [if_neg (by omega), List.getElem?_eq_none (by simp; omega)]
  · have holds : ∀ j u, (xs.map (Value.int .u8))[j]? = some u → w.cell? ((⟨g, 0, none⟩ : Addr).add j) = some u := fun j u hj => by
      have hadd : (⟨g, 0, none⟩ : Addr).add j = ⟨g, j, none⟩ := by unfold Addr.add; split <;> simp_all
      rw [hadd]
      rw [List.getElem?_map] at hj
      cases hx : xs[j]? with
      | none => rw [hx] at hj; cases hj
      | some y =>
        rw [hx] at hj
        simp only [Option.map_some, Option.some.injEq] at hj
        rw [← hj]
        exact hold j y hx
    have hr := run_append_grow (P := P) w t ty e i (.int .u8 0) ht hi hz ⟨g, 0, none⟩ xs.length cap (xs.map (Value.int .u8)) (by rw [hsize]; simp) holds ad news.length c (news.map (Value.int .u8)) hl hnw (by omega) (by omega) (by rw [hby]; exact growslice_fits (by omega) (by omega))
    have hge := grownCap_ge w (xs.length + news.length) cap e
    have hcm2 : grownCap w (xs.length + news.length) cap e ≤ maxLen := grownCap_le_maxLen w _ cap e (by unfold maxLen; omega)
    refine ⟨_, _, hr, ⟨w.heap.size, grownCap w (xs.length + news.length) cap e, _, (0, 0), by simp, hbase, heap_alloc_new w.drew _, .inl rfl, by simp; omega, hcm2, ?_, ?_⟩, ⟨rfl, rfl, rfl, by simp, fun k hk _ => heap_alloc_old w.drew _ hk⟩, .inr rfl⟩
    · have hz1 : (Value.int IntKind.u8 0).cells.size = 1 := rfl
      simp only [Array.size_append, List.size_toArray, size_zeroCells, hz1, List.length_map]
      omega
    · simp only [Array.toList_append, List.append_assoc]
      rw [← List.append_assoc]
      have : (xs.map (Value.int .u8) ++ news.map (Value.int .u8)).length = (xs ++ news).length := by simp
      rw [← this]
      simp only [List.take_left]
      simp
def Beside (w w' : World) (v v' : Value) : Prop := w.heap.size ≤ w'.heap.size ∧ ∀ X, X < w.heap.size → v.ownBlock ≠ some X → w'.heap[X]? = w.heap[X]? ∧ v'.ownBlock ≠ some X
theorem Beside.below {w0 w w' : World} {v v' : Value} (hb : Below w0.heap.size w0 w) (h : Beside w w' v v') : Beside w0 w' v v' :=
  ⟨Nat.le_trans hb.size h.1, fun X hX hv => ⟨((h.2 X (Nat.lt_of_lt_of_le hX hb.size) hv).1).trans (hb.block X hX), (h.2 X (Nat.lt_of_lt_of_le hX hb.size) hv).2⟩⟩
theorem beside_of {w w' : World} {v v' : Value} (h : w.grownBy w' v.ownBlock) (k : v'.ownBlock = v.ownBlock ∨ v'.ownBlock = some w.heap.size) : Beside w w' v v' :=
  ⟨h.size, fun X hX hv => ⟨h.block X hX (fun e => hv e.symm), by
    rcases k with k | k
    · rw [k]; exact hv
    · rw [k]; intro e; simp at e; omega⟩⟩
theorem wp_append_bytes {P : Program} {w w0 : World} {o : Oper} {a : Act} {K : Act → World → Prop} {Q : Exit → Act → World → Prop} (s x : Operand) (t : TypeId)
    (ho : o.op = .call { callee := .builtin .append, args := #[s, x], argTypes := #[t, t] })
    (B : Nat) (e : TypeId) (i : TypeInfo) (ht : P.underlying t = some (.slice e)) (hi : P.info? e = some i) (hz : i.zero = some (.int .u8 0)) (hsize : i.size = 1) (hby : i.bytes = 1)
    (v : Value) (xs : List Int) (hs : a.eval s = v) (hown : OwnB w B e v xs) (ad : Addr) (m c : Nat) (hx : a.eval x = .slice (some ad) m c) (news : List Int) (hm : news.length = m) (hnews : ∀ j u, news[j]? = some u → w.cell? (ad.add j) = some (.int .u8 u))
    (hn : xs.length + news.length ≤ 1000000000000) (hbel : Below B w0 w) (hbase : B ≤ w.heap.size)
    (h : ∀ v' w', OwnB w' B e v' (xs ++ news) → Below B w0 w' → Beside w w' v v' → K (a.put o.dst v') w') : Oper.wp P o a w K Q := by
  subst hm
  obtain ⟨v', w', hr, h2, h3, h4⟩ := run_appendB (P := P) w B t o.type e i ht hi hz hsize hby v xs hown ad c news hnews hn hbase
  obtain ⟨g, cap, e1, h5, _, _⟩ := hown.slice
  unfold Oper.wp execOp
  simp only [ho, resolve, invoke, builtin, Sem.run_bind, Sem.run_pure, Result.andThen_ok, List.map_toArray, List.map_cons, List.map_nil, hs, hx, hr]
  exact h v' w' h2 (hbel.grown h3 hbase (fun k hk => by rw [e1] at hk; simp [Value.ownBlock] at hk; omega)) (beside_of h3 h4)
theorem wp_append_byte {P : Program} {w w0 : World} {o : Oper} {a : Act} {K : Act → World → Prop} {Q : Exit → Act → World → Prop} (s x : Operand) (t : TypeId)
    (ho : o.op = .call { callee := .builtin .append, args := #[s, x], argTypes := #[t, t] })
    (B : Nat) (e : TypeId) (i : TypeInfo) (ht : P.underlying t = some (.slice e)) (hi : P.info? e = some i) (hz : i.zero = some (.int .u8 0)) (hsize : i.size = 1) (hby : i.bytes = 1)
    (v : Value) (xs : List Int) (hs : a.eval s = v) (hown : OwnB w B e v xs) (y : Int) (hx : a.eval x = .slice (some ⟨w.heap.size, 0, none⟩) 1 1)
    (hn : xs.length + 1 ≤ 1000000000000) (hbel : Below B w0 w) (hbase : B ≤ w.heap.size)
    (h : ∀ v' w', OwnB w' B e v' (xs ++ [y]) → Below B w0 w' → Beside w w' v v' → K (a.put o.dst v') w') : Oper.wp P o a (w.alloc (.cells #[.int .u8 y] e)) K Q := by
  have hb : Below w.heap.size w (w.alloc (.cells #[.int .u8 y] e)) := (Below.refl _ _).alloc (Nat.le_refl _) _
  refine wp_append_bytes s x t ho B e i ht hi hz hsize hby v xs hs (hown.keep hb) ⟨w.heap.size, 0, none⟩ 1 1 hx [y] rfl (fun j u hj => ?_) hn (hbel.alloc hbase _) (by simp; omega) (fun v' w' h1 h2 h3 => h v' w' h1 h2 (Beside.below hb h3))
  match j, hj with
  | 0, hj =>
    simp at hj
    subst hj
    exact cell_one_new w (.int .u8 y) e 0 _ rfl
theorem wp_append_text {P : Program} {w w0 : World} {o : Oper} {a : Act} {K : Act → World → Prop} {Q : Exit → Act → World → Prop} (s x : Operand) (t : TypeId)
    (ho : o.op = .call { callee := .builtin .append, args := #[s, x], argTypes := #[t, t] })
    (B : Nat) (e : TypeId) (i : TypeInfo) (ht : P.underlying t = some (.slice e)) (hi : P.info? e = some i) (hz : i.zero = some (.int .u8 0)) (hsize : i.size = 1) (hby : i.bytes = 1)
    (v : Value) (xs : List Int) (hs : a.eval s = v) (hown : OwnB w B e v xs) (y : ByteArray) (m : Nat) (hm : y.size = m) (hx : a.eval x = .slice (some ⟨w.heap.size, 0, none⟩) m (grownCap w m 0 e))
    (hn : xs.length + y.size ≤ 1000000000000) (hbel : Below B w0 w) (hbase : B ≤ w.heap.size)
    (h : ∀ v' w', OwnB w' B e v' (xs ++ numsOf y) → Below B w0 w' → Beside w w' v v' → K (a.put o.dst v') w') : Oper.wp P o a (Lib.bytesWorld w e y) K Q := by
  subst hm
  have hb := Joins.below_bytesWorld w.heap.size w e y (Nat.le_refl _)
  refine wp_append_bytes s x t ho B e i ht hi hz hsize hby v xs hs (hown.keep hb) ⟨w.heap.size, 0, none⟩ y.size _ hx (numsOf y) (numsOf_len y) (fun j u hj => ?_) (by rw [numsOf_len]; exact hn) (hbel.trans (hb.mono hbase)) (Nat.le_trans hbase hb.size) (fun v' w' h1 h2 h3 => h v' w' h1 h2 (Beside.below hb h3))
  have hadd : (⟨w.heap.size, 0, none⟩ : Addr).add j = ⟨w.heap.size, j, none⟩ := by unfold Addr.add; split <;> simp_all
  rw [hadd]
  exact bytes_cells w e y j u hj
theorem append_byte {P : Program} {w w0 : World} {ops : Array Oper} {rest : List Oper} {o : Oper} {a : Act} {Q : Exit → Act → World → Prop} (hgd : o.guard = none) (s x : Operand) (t : TypeId)
    (ho : o.op = .call { callee := .builtin .append, args := #[s, x], argTypes := #[t, t] })
    (B : Nat) (e : TypeId) (i : TypeInfo) (ht : P.underlying t = some (.slice e)) (hi : P.info? e = some i) (hz : i.zero = some (.int .u8 0)) (hsize : i.size = 1) (hby : i.bytes = 1)
    (v : Value) (xs : List Int) (hs : a.eval s = v) (hown : OwnB w B e v xs) (y : Int) (hx : a.eval x = .slice (some ⟨w.heap.size, 0, none⟩) 1 1)
    (hn : xs.length + 1 ≤ 1000000000000) (hbel : Below B w0 w) (hbase : B ≤ w.heap.size)
    (h : ∀ v' w', OwnB w' B e v' (xs ++ [y]) → Below B w0 w' → Beside w w' v v' → wpList P ops Q rest (a.put o.dst v') w') : wpList P ops Q (o :: rest) a (w.alloc (.cells #[.int .u8 y] e)) :=
  wpList_plain hgd fun K hK => wp_append_byte s x t ho B e i ht hi hz hsize hby v xs hs hown y hx hn hbel hbase fun v' w' h1 h2 h3 => hK _ _ (h v' w' h1 h2 h3)
theorem append_text {P : Program} {w w0 : World} {ops : Array Oper} {rest : List Oper} {o : Oper} {a : Act} {Q : Exit → Act → World → Prop} (hgd : o.guard = none) (s x : Operand) (t : TypeId)
    (ho : o.op = .call { callee := .builtin .append, args := #[s, x], argTypes := #[t, t] })
    (B : Nat) (e : TypeId) (i : TypeInfo) (ht : P.underlying t = some (.slice e)) (hi : P.info? e = some i) (hz : i.zero = some (.int .u8 0)) (hsize : i.size = 1) (hby : i.bytes = 1)
    (v : Value) (xs : List Int) (hs : a.eval s = v) (hown : OwnB w B e v xs) (y : ByteArray) (m : Nat) (hm : y.size = m) (hx : a.eval x = .slice (some ⟨w.heap.size, 0, none⟩) m (grownCap w m 0 e))
    (hn : xs.length + y.size ≤ 1000000000000) (hbel : Below B w0 w) (hbase : B ≤ w.heap.size)
    (h : ∀ v' w', OwnB w' B e v' (xs ++ numsOf y) → Below B w0 w' → Beside w w' v v' → wpList P ops Q rest (a.put o.dst v') w') : wpList P ops Q (o :: rest) a (Lib.bytesWorld w e y) :=
  wpList_plain hgd fun K hK => wp_append_text s x t ho B e i ht hi hz hsize hby v xs hs hown y m hm hx hn hbel hbase fun v' w' h1 h2 h3 => hK _ _ (h v' w' h1 h2 h3)
theorem step_append_text {P : Program} {w w0 : World} {ops : Array Oper} {o : Oper} {a : Act} {K : Act → World → Prop} {Q : Exit → Act → World → Prop} {E : Prop} (hgd : o.guard = none) (s x : Operand) (t : TypeId)
    (ho : o.op = .call { callee := .builtin .append, args := #[s, x], argTypes := #[t, t] })
    (B : Nat) (e : TypeId) (i : TypeInfo) (ht : P.underlying t = some (.slice e)) (hi : P.info? e = some i) (hz : i.zero = some (.int .u8 0)) (hsize : i.size = 1) (hby : i.bytes = 1)
    (v : Value) (xs : List Int) (hs : a.eval s = v) (hown : OwnB w B e v xs) (y : ByteArray) (m : Nat) (hm : y.size = m) (hx : a.eval x = .slice (some ⟨w.heap.size, 0, none⟩) m (grownCap w m 0 e))
    (d : Option Tmp) (hd : o.dst = d) (hn : xs.length + y.size ≤ 1000000000000) (hbel : Below B w0 w) (hbase : B ≤ w.heap.size)
    (h : ∀ v' w', OwnB w' B e v' (xs ++ numsOf y) → Below B w0 w' → Beside w w' v v' → K (a.put d v') w') : if Region.wanted o (yielded ops a.tmps) = true then Oper.wp P o a (Lib.bytesWorld w e y) K Q else E := by
  subst hd
  have hw : Region.wanted o (yielded ops a.tmps) = true := by simp [Region.wanted, hgd]
  rw [if_pos hw]
  exact wp_append_text s x t ho B e i ht hi hz hsize hby v xs hs hown y m hm hx hn hbel hbase h
theorem OwnB.low {w : World} {B B' : Nat} {e : TypeId} {v : Value} {xs : List Int} (h : OwnB w B e v xs) (hB : B' ≤ B) : OwnB w B' e v xs := by
  obtain ⟨g, cap, cur, fz, e1, h1, h2⟩ := h
  exact ⟨g, cap, cur, fz, e1, Nat.le_trans hB h1, h2⟩
def BytesL (xs : List Int) : Prop := ∀ x ∈ xs, 0 ≤ x ∧ x < 256
theorem nums_str (xs : List Int) (h : BytesL xs) : numsOf (strOfNums xs) = xs := by
  unfold numsOf strOfNums
  simp only [List.map_map]
  rw [List.map_congr_left (g := id) (fun x hx => ?_)]
  · simp
  · have := h x hx
    simp only [Function.comp, id]
    have e : (UInt8.ofNat x.toNat).toNat = x.toNat := by
      rw [UInt8.toNat_ofNat']
      omega
    rw [e]
    omega
theorem nums_append (a b : ByteArray) : numsOf (a ++ b) = numsOf a ++ numsOf b := by
  unfold numsOf
  rw [← List.map_append]
  congr 1
theorem BytesL.append {a b : List Int} (h : BytesL a) (k : BytesL b) : BytesL (a ++ b) := fun x hx => by
  rcases List.mem_append.1 hx with hx | hx
  · exact h x hx
  · exact k x hx
theorem varB_bytes (n : Nat) : BytesL (varB n) := by
  induction n using Nat.strongRecOn with
  | _ n ih =>
    by_cases h : 127 < n
    · rw [varB_more h]
      intro x hx
      rcases List.mem_cons.1 hx with rfl | hx
      · omega
      · exact ih (n / 128) (by omega) x hx
    · rw [varB_last (by omega)]
      intro x hx
      rw [List.mem_singleton] at hx
      subst hx
      omega
end Go.Proofs.Ytedhfdgcofboeaa
namespace Go.Proofs.Ytedhfdgcofboeaa
open Go.RowKit
set_option linter.unusedVariables false
def eightK : Nat → Nat → List Int
  | 0, _ => []
  | k + 1, x => eightK k (x / 256) ++ [((x % 256 : Nat) : Int)]
def shortB (s : ByteArray) : List Int := varB s.size ++ numsOf s
def conT (c : PCon) : List Int := c.kind :: ((if c.kind = 1 then eightK 8 c.num else []) ++ (if c.kind = 2 then shortB c.text else []))
def capT (c : PCap) : List Int := (if c.reg then 1 else 0) :: varB c.index.toNat
def insT (c : PIns) : List Int := c.op :: (varB c.a.toNat ++ varB c.b.toNat)
def hndT (h : PHnd) : List Int := varB h.lo.toNat ++ varB h.hi.toNat ++ varB h.target.toNat
def funHead (f : PFun) : List Int := varB f.params.toNat ++ varB f.regs.toNat ++ varB f.caps.length
def funT (f : PFun) : List Int := funHead f ++ f.caps.flatMap capT ++ varB f.code.length ++ f.code.flatMap insT ++ varB f.hnds.length ++ f.hnds.flatMap hndT
def imgHead (p : PImg) : List Int := [83, 67, 49] ++ varB p.consts.length
def imgT (p : PImg) : List Int := imgHead p ++ p.consts.flatMap conT ++ varB p.funcs.length ++ p.funcs.flatMap funT
def imgTB (p : PImg) : Bool := imgOk p && decide ((imgT p).length + 4 ≤ 12000)
theorem eightK_len (k x : Nat) : (eightK k x).length = k := by
  induction k generalizing x with
  | zero => rfl
  | succ k ih => unfold eightK; rw [List.length_append, ih]; rfl
theorem flat_more {α : Type} (f : α → List Int) (l : List α) (k : Nat) (q : α) (h : l[k]? = some q) : (l.take (k + 1)).flatMap f = (l.take k).flatMap f ++ f q := by
  rw [List.take_add_one, h]
  simp
theorem flat_le {α : Type} (f : α → List Int) (c : Nat) (l : List α) (h : ∀ q ∈ l, (f q).length ≤ c) : (l.flatMap f).length ≤ c * l.length := by
  induction l with
  | nil => simp
  | cons q l ih =>
    rw [List.flatMap_cons, List.length_append, List.length_cons, Nat.mul_add]
    have h1 := h q (by simp)
    have h2 := ih (fun x hx => h x (by simp [hx]))
    omega
theorem flat_take_le {α : Type} (f : α → List Int) (c k : Nat) (l : List α) (h : ∀ q ∈ l, (f q).length ≤ c) : ((l.take k).flatMap f).length ≤ c * l.length := by
  have h1 := flat_le f c (l.take k) (fun q hq => h q (List.mem_of_mem_take hq))
  have h2 : (l.take k).length ≤ l.length := by rw [List.length_take]; omega
  have h3 := Nat.mul_le_mul_left c h2
  omega
theorem inB_le {x a b : Int} (h : inB x a b = true) : a ≤ x ∧ x ≤ b := by
  unfold inB at h
  simp only [Bool.and_eq_true, decide_eq_true_eq] at h
  exact h
theorem capOk_le {c : PCap} (h : capOk c = true) : 0 ≤ c.index ∧ c.index ≤ 40 := inB_le h
theorem insOk_le {c : PIns} (h : insOk c = true) : (1 ≤ c.op ∧ c.op ≤ 19) ∧ (0 ≤ c.a ∧ c.a ≤ 300) ∧ 0 ≤ c.b ∧ c.b ≤ 300 := by
  unfold insOk at h
  simp only [Bool.and_eq_true] at h
  exact ⟨inB_le h.1, inB_le h.2.1, inB_le h.2.2⟩
theorem hndOk_le {c : PHnd} (h : hndOk c = true) : (0 ≤ c.lo ∧ c.lo ≤ 300) ∧ (0 ≤ c.hi ∧ c.hi ≤ 300) ∧ 0 ≤ c.target ∧ c.target ≤ 300 := by
  unfold hndOk at h
  simp only [Bool.and_eq_true] at h
  exact ⟨inB_le h.1, inB_le h.2.1, inB_le h.2.2⟩
theorem conOk_le {c : PCon} (h : conOk c = true) : (1 ≤ c.kind ∧ c.kind ≤ 5) ∧ c.text.size ≤ 40 := by
  unfold conOk at h
  by_cases h1 : c.kind = 1
  · rw [if_pos h1] at h
    simp only [Bool.and_eq_true, decide_eq_true_eq] at h
    omega
  · rw [if_neg h1] at h
    by_cases h2 : c.kind = 2
    · rw [if_pos h2] at h
      simp only [Bool.and_eq_true, decide_eq_true_eq] at h
      omega
    · rw [if_neg h2] at h
      by_cases h3 : c.kind = 3 ∨ c.kind = 4 ∨ c.kind = 5
      · rw [if_pos h3] at h
        simp only [Bool.and_eq_true, decide_eq_true_eq] at h
        omega
      · rw [if_neg h3] at h
        cases h
structure FunLe (f : PFun) : Prop where
  params : 0 ≤ f.params ∧ f.params ≤ 4
  regs : 0 ≤ f.regs ∧ f.regs ≤ 40
  caps : f.caps.length ≤ 20
  code : 1 ≤ f.code.length ∧ f.code.length ≤ 300
  hnds : f.hnds.length ≤ 40
  capsOk : ∀ q ∈ f.caps, capOk q = true
  codeOk : ∀ q ∈ f.code, insOk q = true
  hndsOk : ∀ q ∈ f.hnds, hndOk q = true
theorem funOk_le {f : PFun} (h : funOk f = true) : FunLe f := by
  unfold funOk at h
  simp only [Bool.and_eq_true, decide_eq_true_eq, List.all_eq_true] at h
  obtain ⟨h1, h2, h3, h4, h5, h6, h7, h8⟩ := h
  have a1 := inB_le h1
  have a2 := inB_le h2
  have a4 := inB_le h4
  exact ⟨a1, by omega, h3, by omega, h5, h6, h7, h8⟩
structure ImgLe (p : PImg) : Prop where
  funcs : 1 ≤ p.funcs.length ∧ p.funcs.length ≤ 16
  consts : p.consts.length ≤ 40
  funsOk : ∀ q ∈ p.funcs, funOk q = true
  consOk : ∀ q ∈ p.consts, conOk q = true
theorem imgOk_le {p : PImg} (h : imgOk p = true) : ImgLe p := by
  unfold imgOk at h
  simp only [Bool.and_eq_true, decide_eq_true_eq, List.all_eq_true] at h
  obtain ⟨h1, h2, h3, h4, h5⟩ := h
  have a1 := inB_le h1
  exact ⟨by omega, h2, h4, h3⟩
theorem varB_few {x : Int} (h : x ≤ 1000000000) : (varB x.toNat).length ≤ 5 := varB_len5 (by omega)
theorem varN_few {x : Nat} (h : x ≤ 1000000000) : (varB x).length ≤ 5 := varB_len5 h
theorem shortB_len (s : ByteArray) (h : s.size ≤ 40) : (shortB s).length ≤ 45 := by
  unfold shortB
  rw [List.length_append, numsOf_len]
  have := varN_few (x := s.size) (by omega)
  omega
theorem conT_len {c : PCon} (h : conOk c = true) : (conT c).length ≤ 60 := by
  unfold conT
  have := shortB_len c.text (conOk_le h).2
  rw [List.length_cons, List.length_append]
  have e1 : (if c.kind = 1 then eightK 8 c.num else []).length ≤ 8 := by split <;> simp [eightK_len]
  have e2 : (if c.kind = 2 then shortB c.text else []).length ≤ 45 := by
    by_cases h2 : c.kind = 2
    · rw [if_pos h2]; exact this
    · rw [if_neg h2]; simp
  omega
theorem capT_len {c : PCap} (h : capOk c = true) : (capT c).length ≤ 6 := by
  have h1 := capOk_le h
  unfold capT
  rw [List.length_cons]
  have := varB_few (x := c.index) (by omega)
  omega
theorem insT_len {c : PIns} (h : insOk c = true) : (insT c).length ≤ 11 := by
  have h1 := insOk_le h
  unfold insT
  rw [List.length_cons, List.length_append]
  have := varB_few (x := c.a) (by omega)
  have := varB_few (x := c.b) (by omega)
  omega
theorem hndT_len {c : PHnd} (h : hndOk c = true) : (hndT c).length ≤ 15 := by
  have h1 := hndOk_le h
  unfold hndT
  rw [List.length_append, List.length_append]
  have := varB_few (x := c.lo) (by omega)
  have := varB_few (x := c.hi) (by omega)
  have := varB_few (x := c.target) (by omega)
  omega
theorem funHead_len {f : PFun} (h : FunLe f) : (funHead f).length ≤ 15 := by
  unfold funHead
  rw [List.length_append, List.length_append]
  have := h.params
  have := h.regs
  have := h.caps
  have := varB_few (x := f.params) (by omega)
  have := varB_few (x := f.regs) (by omega)
  have := varN_few (x := f.caps.length) (by omega)
  omega
theorem funT_len {f : PFun} (hf : funOk f = true) : (funT f).length ≤ 5000 := by
  have h := funOk_le hf
  have h1 := funHead_len h
  have h2 := flat_le capT 6 f.caps (fun q hq => capT_len (h.capsOk q hq))
  have h3 := flat_le insT 11 f.code (fun q hq => insT_len (h.codeOk q hq))
  have h4 := flat_le hndT 15 f.hnds (fun q hq => hndT_len (h.hndsOk q hq))
  have h5 := h.caps
  have h6 := h.code
  have h7 := h.hnds
  have h8 := varN_few (x := f.code.length) (by omega)
  have h9 := varN_few (x := f.hnds.length) (by omega)
  unfold funT
  simp only [List.length_append]
  omega
theorem imgHead_len {p : PImg} (h : ImgLe p) : (imgHead p).length ≤ 8 := by
  unfold imgHead
  have h1 := h.consts
  have := varN_few (x := p.consts.length) (by omega)
  rw [List.length_append]
  simp only [List.length_cons, List.length_nil]
  omega
end Go.Proofs.Ytedhfdgcofboeaa
namespace Go.Proofs.Ytedhfdgcofboeaa
open Go.RowKit
def rdV (s : ByteArray) (b0 : Nat) : Nat → Nat → Nat → Nat → Option (Nat × Nat)
  | 0, _, _, _ => none
  | f + 1, i, n, u =>
    if h : i < s.size then
      if (s[i]).toNat < 128 then
        if ((s[i]).toNat = 0 ∧ b0 < i) ∨ 1000000000 < n + (s[i]).toNat % 128 * u then none
        else some (n + (s[i]).toNat % 128 * u, i + 1)
      else rdV s b0 f (i + 1) (n + (s[i]).toNat % 128 * u) (u * 128)
    else none
def rdOut : Option (Nat × Nat) → Value
  | some (n, j) => .tuple #[.int .i64 n, .int .i64 j, .bool true]
  | none => .tuple #[.int .i64 0, .int .i64 0, .bool false]
def Unit128 (f u : Nat) : Prop := (f = 5 ∧ u = 1) ∨ (f = 4 ∧ u = 128) ∨ (f = 3 ∧ u = 16384) ∨ (f = 2 ∧ u = 2097152) ∨ (f = 1 ∧ u = 268435456) ∨ (f = 0 ∧ u = 34359738368)
theorem unit_step {f u : Nat} (h : Unit128 (f + 1) u) : Unit128 f (u * 128) ∧ u ≤ 268435456 ∧ 1 ≤ u ∧ f ≤ 4 := by
  unfold Unit128 at *; omega
theorem unit_zero {u : Nat} (h : Unit128 0 u) : u = 34359738368 := by unfold Unit128 at h; omega
theorem unit_first : Unit128 5 1 := by unfold Unit128; omega
theorem mul_bd {b n u : Nat} (hn : n < u) : n + b % 128 * u < u * 128 := by
  have h1 : b % 128 * u ≤ 127 * u := Nat.mul_le_mul_right u (by omega)
  omega
theorem cast_mul (b n u : Nat) : ((n + b % 128 * u : Nat) : Int) = (n : Int) + (b : Int) % 128 * (u : Int) := by simp
theorem big_iff (b n u : Nat) : ((1000000000 : Int) < (n : Int) + (b : Int) % 128 * (u : Int)) ↔ 1000000000 < n + b % 128 * u := by
  rw [← cast_mul]
  generalize n + b % 128 * u = N
  omega
theorem rdV_end {s : ByteArray} {b0 f i n u : Nat} (h : ¬ i < s.size) : rdV s b0 f i n u = none := by
  cases f with
  | zero => rfl
  | succ f => rw [rdV, dif_neg h]
theorem rdV_bad {s : ByteArray} {b0 f i n u : Nat} (h : i < s.size) (hb : (s[i]).toNat < 128) (hx : ((s[i]).toNat = 0 ∧ b0 < i) ∨ 1000000000 < n + (s[i]).toNat % 128 * u) : rdV s b0 (f + 1) i n u = none := by
  rw [rdV, dif_pos h, if_pos hb, if_pos hx]
theorem rdV_ok {s : ByteArray} {b0 f i n u : Nat} (h : i < s.size) (hb : (s[i]).toNat < 128) (hx : ¬ (((s[i]).toNat = 0 ∧ b0 < i) ∨ 1000000000 < n + (s[i]).toNat % 128 * u)) : rdV s b0 (f + 1) i n u = some (n + (s[i]).toNat % 128 * u, i + 1) := by
  rw [rdV, dif_pos h, if_pos hb, if_neg hx]
theorem rdV_more {s : ByteArray} {b0 f i n u : Nat} (h : i < s.size) (hb : ¬ (s[i]).toNat < 128) : rdV s b0 (f + 1) i n u = rdV s b0 f (i + 1) (n + (s[i]).toNat % 128 * u) (u * 128) := by
  rw [rdV, dif_pos h, if_neg hb]
theorem rdOut_none {R : Option (Nat × Nat)} (h : R = none) : Ending.returned (.tuple #[.int .i64 0, .int .i64 0, .bool false]) = .returned (rdOut R) := by rw [h]; rfl
theorem rdOut_some {R : Option (Nat × Nat)} {N j : Nat} {x y : Int} (h : R = some (N, j)) (hx : x = N) (hy : y = j) : Ending.returned (.tuple #[.int .i64 x, .int .i64 y, .bool true]) = .returned (rdOut R) := by rw [h, hx, hy]; rfl
def ints (l : List UInt8) : List Int := l.map fun c => (c.toNat : Int)
theorem ints_append (l k : List UInt8) : ints (l ++ k) = ints l ++ ints k := by simp [ints]
theorem str_ints (l : List UInt8) : (ints l).map (fun n => UInt8.ofNat n.toNat) = l := by
  induction l with
  | nil => rfl
  | cons a l ih => simp only [ints, List.map_cons, Int.toNat_natCast, UInt8.ofNat_toNat, List.map_map] at ih ⊢; rw [ih]
theorem varB_last_pos (n : Nat) : varB n = [(n : Int)] ∨ ∃ (q : List Int) (x : Nat), varB n = q ++ [(x : Int)] ∧ 1 ≤ x ∧ x ≤ 127 := by
  induction n using Nat.strongRecOn with
  | ind n ih =>
    by_cases h : 127 < n
    · right
      rw [varB_more h]
      rcases ih (n / 128) (by omega) with e | ⟨q, x, e, h1, h2⟩
      · by_cases h7 : 127 < n / 128
        · rw [varB_more h7] at e
          have := congrArg List.length e
          have hp := varB_pos (n / 128 / 128)
          simp only [List.length_cons, List.length_nil] at this
          omega
        · exact ⟨[((n % 128 + 128 : Nat) : Int)], n / 128, by rw [e]; rfl, by omega, by omega⟩
      · exact ⟨((n % 128 + 128 : Nat) : Int) :: q, x, by rw [e]; rfl, h1, h2⟩
    · left; exact varB_last (by omega)
def Opens (pre : List Int) (n u : Nat) : Prop := ∀ m, 0 < m → varB (n + u * m) = pre ++ varB m
theorem opens_first : Opens [] 0 1 := fun m _ => by simp
theorem opens_more {pre : List Int} {n u b : Nat} (h : Opens pre n u) (h1 : 128 ≤ b) (h2 : b < 256) : Opens (pre ++ [(b : Int)]) (n + b % 128 * u) (u * 128) := fun m hm => by
  have e : n + b % 128 * u + u * 128 * m = n + u * (b % 128 + 128 * m) := by rw [Nat.mul_add, Nat.mul_comm (b % 128) u, Nat.mul_assoc, Nat.add_assoc]
  rw [e, h _ (by omega), varB_more (by omega), List.append_assoc, List.singleton_append]
  have e1 : (b % 128 + 128 * m) % 128 + 128 = b := by omega
  have e2 : (b % 128 + 128 * m) / 128 = m := by omega
  rw [e1, e2]
theorem var_same {s : ByteArray} {b0 i n u : Nat} (hop : Opens (ints (sl s b0 i)) n u) (hi0 : b0 ≤ i) (h : i < s.size) (hb : (s[i]).toNat < 128) (hn0 : i = b0 → n = 0) (hx : ¬ ((s[i]).toNat = 0 ∧ b0 < i)) :
    ((strOfNums (varB (n + (s[i]).toNat % 128 * u))).toList == (s.extract b0 (i + 1)).toList) = true := by
  have e : varB (n + (s[i]).toNat % 128 * u) = ints (sl s b0 (i + 1)) := by
    rw [sl_snoc hi0 h, ints_append]
    by_cases hz : (s[i]).toNat = 0
    · have hib : i = b0 := by omega
      have hn : n = 0 := hn0 hib
      subst hn
      subst hib
      rw [sl_self, hz]
      rw [varB_last (by omega)]
      simp [ints, hz]
    · have e1 : (s[i]).toNat % 128 = (s[i]).toNat := by omega
      rw [e1, Nat.mul_comm, hop _ (by omega), varB_last (by omega)]
      rfl
  rw [e, ByteArray.toList_eq, strOfNums_data, str_ints, Lib.extract_toList]
  exact beq_self_eq_true _
theorem var_other {s : ByteArray} {b0 i n u : Nat} (hi0 : b0 ≤ i) (h : i < s.size) (hx : (s[i]).toNat = 0 ∧ b0 < i) :
    ((strOfNums (varB (n + (s[i]).toNat % 128 * u))).toList == (s.extract b0 (i + 1)).toList) = false := by
  rw [ByteArray.toList_eq, strOfNums_data, Lib.extract_toList]
  rw [beq_eq_false_iff_ne]
  intro e
  have e' : (varB (n + (s[i]).toNat % 128 * u)).map (fun n => UInt8.ofNat n.toNat) = sl s b0 i ++ [s[i]] := by rw [← sl_snoc hi0 h]; exact e
  rcases varB_last_pos (n + (s[i]).toNat % 128 * u) with k | ⟨q, x, k, h1, h2⟩
  · rw [k] at e'
    have hl := congrArg List.length e'
    simp only [List.map_cons, List.map_nil, List.length_cons, List.length_nil, List.length_append] at hl
    rw [sl_length (by omega)] at hl
    omega
  · rw [k, List.map_append] at e'
    have hl := congrArg (fun l => l.getLast?) e'
    simp only [List.map_cons, List.map_nil, List.getLast?_append, List.getLast?_singleton, Option.some_or, Option.some.injEq] at hl
    have h3 := congrArg UInt8.toNat hl
    rw [hx.1] at h3
    simp at h3
    omega
end Go.Proofs.Ytedhfdgcofboeaa
namespace Go.Proofs.Ytedhfdgcofboeaa
open Go.RowKit
set_option linter.unusedVariables false
structure RS where
  pos : Nat
  bad : Bool
def rVarO (s : ByteArray) (r : RS) : Option (Nat × Nat) := if r.bad then none else rdV s r.pos 5 r.pos 0 1
def rVar (s : ByteArray) (r : RS) : Nat × RS := match rVarO s r with | some (n, j) => (n, ⟨j, false⟩) | none => (0, ⟨r.pos, true⟩)
def rTakeB (s : ByteArray) (r : RS) (n : Nat) : Bool := r.bad || decide (s.size < r.pos + n)
def rTake (s : ByteArray) (r : RS) (n : Nat) : ByteArray × RS := if rTakeB s r n then (⟨#[]⟩, ⟨r.pos, true⟩) else (s.extract r.pos (r.pos + n), ⟨r.pos + n, false⟩)
def rByte (s : ByteArray) (r : RS) : Int × RS := if rTakeB s r 1 then (0, ⟨r.pos, true⟩) else (((s.data.toList.getD r.pos 0).toNat : Int), ⟨r.pos + 1, false⟩)
def numOf (l : List UInt8) : Nat := l.foldl (fun x b => (x * 256 + b.toNat) % 18446744073709551616) 0
def rConst (s : ByteArray) (r : RS) : PCon × RS :=
  let k := rByte s r
  let a := if k.1 = 1 then rTake s k.2 8 else (⟨#[]⟩, k.2)
  let l := if k.1 = 2 then rVar s a.2 else (0, a.2)
  let t := if k.1 = 2 then rTake s l.2 l.1 else (⟨#[]⟩, l.2)
  (⟨k.1, numOf a.1.data.toList, t.1⟩, t.2)
def rMany {α : Type} (f : RS → α × RS) : Nat → RS → List α × RS
  | 0, r => ([], r)
  | k + 1, r => if r.bad then ([], r) else ((f r).1 :: (rMany f k (f r).2).1, (rMany f k (f r).2).2)
def rCap (s : ByteArray) (r : RS) : PCap × RS :=
  let b := rByte s r
  let i := rVar s b.2
  (⟨decide (b.1 = 1), i.1⟩, i.2)
def rIns (s : ByteArray) (r : RS) : PIns × RS :=
  let o := rByte s r
  let a := rVar s o.2
  let b := rVar s a.2
  (⟨o.1, a.1, b.1⟩, b.2)
def rHnd (s : ByteArray) (r : RS) : PHnd × RS :=
  let a := rVar s r
  let b := rVar s a.2
  let c := rVar s b.2
  (⟨a.1, b.1, c.1⟩, c.2)
def rCount (s : ByteArray) (r : RS) : Nat × RS := (min (rVar s r).1 1000, (rVar s r).2)
def rFunc (s : ByteArray) (r : RS) : PFun × RS :=
  let p := rVar s r
  let g := rVar s p.2
  let n := rCount s g.2
  let c := rMany (rCap s) n.1 n.2
  let m := rCount s c.2
  let k := rMany (rIns s) m.1 m.2
  let o := rCount s k.2
  let h := rMany (rHnd s) o.1 o.2
  (⟨p.1, g.1, c.1, k.1, h.1⟩, h.2)
def rImage (s : ByteArray) (b : Bool) : PImg × RS :=
  let r := (rTake s ⟨0, b⟩ 3).2
  let n := rCount s r
  let c := rMany (rConst s) n.1 n.2
  let m := rCount s c.2
  let f := rMany (rFunc s) m.1 m.2
  (⟨f.1, c.1⟩, f.2)
theorem rdV_pos (s : ByteArray) (b0 : Nat) : ∀ (f i n u : Nat) (m j : Nat), rdV s b0 f i n u = some (m, j) → i < j ∧ j ≤ s.size ∧ m ≤ 1000000000
  | 0, i, n, u, m, j, h => by simp [rdV] at h
  | f + 1, i, n, u, m, j, h => by
    unfold rdV at h
    split at h
    · rename_i hi
      split at h
      · split at h
        · cases h
        · rename_i h3
          injection h with h
          injection h with h1 h2
          subst h1 h2
          have : ¬ (1000000000 < n + s[i].toNat % 128 * u) := fun x => h3 (.inr x)
          omega
      · have := rdV_pos s b0 f (i + 1) _ _ m j h
        omega
    · cases h
theorem rVar_pos (s : ByteArray) (r : RS) (h : r.pos ≤ s.size) : (rVar s r).2.pos ≤ s.size ∧ r.pos ≤ (rVar s r).2.pos ∧ (rVar s r).1 ≤ 1000000000 := by
  unfold rVar
  cases e : rVarO s r with
  | none => exact ⟨h, Nat.le_refl _, by simp⟩
  | some x =>
    obtain ⟨n, j⟩ := x
    unfold rVarO at e
    split at e
    · cases e
    · have := rdV_pos s _ _ _ _ _ _ _ e
      simp only
      omega
theorem rTake_pos (s : ByteArray) (r : RS) (n : Nat) (h : r.pos ≤ s.size) : (rTake s r n).2.pos ≤ s.size ∧ r.pos ≤ (rTake s r n).2.pos := by
  unfold rTake
  cases e : rTakeB s r n with
  | true => exact ⟨h, Nat.le_refl _⟩
  | false =>
    unfold rTakeB at e
    simp only [Bool.or_eq_false_iff, decide_eq_false_iff_not] at e
    simp only [Bool.false_eq_true, if_false]
    omega
theorem rByte_pos (s : ByteArray) (r : RS) (h : r.pos ≤ s.size) : (rByte s r).2.pos ≤ s.size ∧ r.pos ≤ (rByte s r).2.pos ∧ 0 ≤ (rByte s r).1 ∧ (rByte s r).1 < 256 := by
  unfold rByte
  cases e : rTakeB s r 1 with
  | true => exact ⟨h, Nat.le_refl _, by simp, by simp⟩
  | false =>
    unfold rTakeB at e
    simp only [Bool.or_eq_false_iff, decide_eq_false_iff_not] at e
    have := (s.data.toList.getD r.pos 0).toNat_lt
    simp only [Bool.false_eq_true, if_false]
    omega
theorem rMany_len {α : Type} (f : RS → α × RS) (k : Nat) (r : RS) : (rMany f k r).1.length ≤ k := by
  induction k generalizing r with
  | zero => simp [rMany]
  | succ k ih =>
    unfold rMany
    cases r.bad with
    | true => simp
    | false =>
      have := ih (f r).2
      simp
      exact this
theorem rMany_bad {α : Type} (f : RS → α × RS) (k : Nat) (r : RS) (h : r.bad = true) : rMany f k r = ([], r) := by
  cases k with
  | zero => rfl
  | succ k => unfold rMany; rw [if_pos h]
theorem rMany_more {α : Type} (f : RS → α × RS) (k : Nat) (r : RS) (h : r.bad = false) : rMany f (k + 1) r = ((f r).1 :: (rMany f k (f r).2).1, (rMany f k (f r).2).2) := by
  rw [rMany, if_neg (by rw [h]; decide)]
end Go.Proofs.Ytedhfdgcofboeaa
namespace Go.Proofs.Ytedhfdgcofboeaa
open Go.RowKit
set_option maxHeartbeats 400000 in
set_option maxRecDepth 100000 in
theorem l01In_yes (x a b : Int) (w : World) (h1 : a ≤ x) (h2 : x ≤ b) :
    Calls Try.prog 69 #[.int .i64 x, .int .i64 a, .int .i64 b] w fun e w' => e = .returned (.bool true) ∧ w = w' := by
  go_enter Try.func69, Try.ntmps69
  go_wp2
  go_ret
  exact ⟨rfl, rfl⟩
set_option maxHeartbeats 400000 in
set_option maxRecDepth 100000 in
theorem l01Var_any (n : Nat) (w : World) (hn : n ≤ 1000000000) :
    Calls Try.prog 34 #[.int .i64 n] w fun e w' => e = .returned (.string (strOfNums (varB n))) ∧ Below w.heap.size w w' := by
  obtain ⟨i0, hi, hz0, hz1, hz2⟩ := info_parts Try.infoByte
  have hvl := varB_le n
  go_enter Try.func34, Try.ntmps34
  go_wp2
  go_loopw [0, 3] (fun x v wr => ∃ (m : Nat) (pre : List Int), m ≤ 1000000000 ∧ x = .int .i64 m ∧ pre ++ varB m = varB n ∧ wr.ownsRow w.heap.size 5 1 v pre.length (pre.map (Value.int .u8)) ∧ Below w.heap.size w wr) (fun x _ _ => (intOf x).toNat)
  case atStart => exact ⟨n, [], hn, rfl, rfl, World.ownsRow_made w #[] 0 (Nat.le_refl _) (Nat.zero_le _) rfl, (Below.refl _ _).alloc (Nat.le_refl _) _⟩
  case round =>
    obtain ⟨m, pre, hm, rfl, hpre, hown, hbel⟩ := hrel
    have HP : Hid (pre ++ varB m = varB n) := hpre
    have hlen : pre.length ≤ n := by
      have h1 := congrArg List.length hpre
      have h2 := varB_pos m
      simp only [List.length_append] at h1
      omega
    clear hpre
    have hsz := hbel.size
    by_cases hlt : 127 < m
    · go_wp2_with (at_builtin; refine append_one rfl _ _ 78 rfl w.heap.size 5 i0 (.int .u8 0) 1 Try.underlying78 hi hz0 hz1 hz2 rfl _ _ _ rfl hown (.int .u8 ((m : Int) % 128 + 128)) rfl rfl (by omega) (by decide) hbel hsz ?_)
      intro v' w1 hown' hbel'
      go_wp2
      go_roundw
      case rel => exact ⟨m / 128, pre ++ [((m % 128 + 128 : Nat) : Int)], by omega, by go_num, by rw [List.append_assoc, List.singleton_append, ← varB_more hlt]; exact HP.out, by simpa using hown', hbel'⟩
      case measure => simp [intOf]; omega
    · go_wp2_with (at_builtin; refine append_one rfl _ _ 78 rfl w.heap.size 5 i0 (.int .u8 0) 1 Try.underlying78 hi hz0 hz1 hz2 rfl _ _ _ rfl hown (.int .u8 (m : Int)) rfl rfl (by omega) (by decide) hbel hsz ?_)
      intro v' w1 hown' hbel'
      have hcv := conv_own (P := Try.prog) (pre ++ [(m : Int)]) Try.underlying78 Try.underlying5 Try.underlying9 (by simpa using hown')
      have HE : Hid (pre ++ [(m : Int)] = varB n) := by rw [← varB_last (show m ≤ 127 by omega)]; exact HP
      go_wp2
      go_ret
      exact ⟨by rw [HE.out]; rfl, hbel'⟩
end Go.Proofs.Ytedhfdgcofboeaa
