/-
  Rows of bytes that a call made, be it by '[]byte(s)' or by an append: what is appended to them.
-/
import Derived.Test.YtojmmmfboahkgaaDoorBase
import Derived.Lib.ConvBytes
import Derived.Lib.SmallJoins
import Derived.Maps.AppendAt
namespace Go.Proofs.YtojmmmfboahkgaaDoor
open Go.RowKit
set_option linter.unusedVariables false

/-- bytes of one's own, from block B on; a conversion's mark may lie behind the row -/
def OwnB (w : World) (B : Nat) (e : TypeId) (v : Value) (xs : List Int) : Prop :=
  ∃ g cap cur fz, v = .slice (some ⟨g, 0, none⟩) xs.length cap ∧ B ≤ g ∧ w.heap[g]? = some (.cells cur e fz) ∧ (fz = (0, 0) ∨ cap ≤ fz.1) ∧ xs.length ≤ cap ∧ cap ≤ maxLen ∧ cur.size = cap ∧ cur.toList.take xs.length = xs.map (Value.int .u8)

theorem OwnB.slice {w : World} {B : Nat} {e : TypeId} {v : Value} {xs : List Int} (h : OwnB w B e v xs) : ∃ g cap, v = .slice (some ⟨g, 0, none⟩) xs.length cap ∧ B ≤ g ∧ g < w.heap.size ∧ ∀ j u, xs[j]? = some u → w.cell? ⟨g, j, none⟩ = some (.int .u8 u) := by
  obtain ⟨g, cap, cur, fz, e1, h1, h2, h3, h4, h5, h6, h7⟩ := h
  refine ⟨g, cap, e1, h1, ?_, fun j u hj => ?_⟩
  · rcases Nat.lt_or_ge g w.heap.size with x | x
    · exact x
    · rw [Array.getElem?_eq_none x] at h2; cases h2
  · rw [cell_of_row w g j cur e fz h2]
    have hlt : j < xs.length := (List.getElem?_eq_some_iff.1 hj).1
    have h8 : (cur.toList.take xs.length)[j]? = some (.int .u8 u) := by rw [h7]; simp [hj]
    rw [List.getElem?_take] at h8
    rw [if_pos hlt] at h8
    simpa using h8
theorem OwnB.len {w : World} {B : Nat} {e : TypeId} {v : Value} {xs : List Int} (h : OwnB w B e v xs) : xs.length ≤ maxLen := by
  obtain ⟨g, cap, cur, fz, e1, h1, h2, h3, h4, h5, h6, h7⟩ := h
  omega
/-- it stands where nothing is written but new blocks -/
theorem OwnB.keep {w w' : World} {B : Nat} {e : TypeId} {v : Value} {xs : List Int} (h : OwnB w B e v xs) (hb : Below w.heap.size w w') : OwnB w' B e v xs := by
  obtain ⟨_, _, _, _, hlt, _⟩ := h.slice
  obtain ⟨g, cap, cur, fz, e1, h1, h2, h3, h4, h5, h6, h7⟩ := h
  have hg : g < w.heap.size := by
    rcases Nat.lt_or_ge g w.heap.size with x | x
    · exact x
    · rw [Array.getElem?_eq_none x] at h2; cases h2
  exact ⟨g, cap, cur, fz, e1, h1, (hb.block g hg).trans h2, h3, h4, h5, h6, h7⟩
theorem OwnB.conv {P : Program} {w : World} {B : Nat} {e src dst : TypeId} {v : Value} {xs : List Int} (h : OwnB w B e v xs)
    (hs : P.underlying src = some (.slice e)) (he : P.underlying e = some (.int .u8)) (hd : P.underlying dst = some .string) :
    (convert src dst v).run P w = .ok (.string (strOfNums xs)) w := by
  obtain ⟨g, cap, rfl, _, _, hc⟩ := h.slice
  refine run_convert_bytes_arg w src e hs he g 0 _ cap xs rfl (fun i hi => ?_) dst hd
  rw [Nat.zero_add]
  exact hc i _ (by rw [List.getD, List.getElem?_eq_getElem hi]; rfl)

/-- the numbers of a text's bytes -/
def numsOf (s : ByteArray) : List Int := s.data.toList.map (fun b => (b.toNat : Int))
theorem numsOf_len (s : ByteArray) : (numsOf s).length = s.size := by unfold numsOf; rw [List.length_map]; rfl
/-- what '[]byte(s)' makes -/
theorem own_bytes (w : World) (e : TypeId) (s : ByteArray) (hs : s.size ≤ maxLen) : OwnB (Lib.bytesWorld w e s) w.heap.size e (.slice (some ⟨w.heap.size, 0, none⟩) s.size (grownCap w s.size 0 e)) (numsOf s) := by
  have hge := grownCap_ge w s.size 0 e
  have hle := grownCap_le_maxLen w s.size 0 e hs
  have hsz : (Lib.bytesCells w e s).size = grownCap w s.size 0 e := by
    unfold Lib.bytesCells
    simp only [Array.size_append, Array.size_map, Array.size_replicate]
    have : s.data.size = s.size := rfl
    omega
  refine ⟨w.heap.size, grownCap w s.size 0 e, Lib.bytesCells w e s, _, by rw [numsOf_len], Nat.le_refl _, Lib.bytesWorld_at_new w e s, .inr (by rw [hsz]; exact Nat.le_refl _), by rw [numsOf_len]; exact hge, hle, hsz, ?_⟩
  rw [numsOf_len]
  unfold Lib.bytesCells numsOf
  simp only [Array.toList_append, Array.toList_map, List.map_map]
  have hl : (s.data.toList.map (fun b => Value.int .u8 (b.toNat : Int))).length = s.size := by rw [List.length_map]; rfl
  rw [List.take_append_of_le_length (Nat.le_of_eq hl.symm), List.take_of_length_le (Nat.le_of_eq hl)]
  rfl
theorem bytes_cells (w : World) (e : TypeId) (s : ByteArray) : ∀ j u, (numsOf s)[j]? = some u → (Lib.bytesWorld w e s).cell? ⟨w.heap.size, j, none⟩ = some (.int .u8 u) := fun j u hj => by
  have hlt : j < s.size := by rw [← numsOf_len]; exact (List.getElem?_eq_some_iff.1 hj).1
  rw [Lib.bytesWorld_cell w e s j hlt]
  have h2 : j < s.data.toList.length := hlt
  unfold numsOf at hj
  rw [List.getElem?_map, List.getElem?_eq_getElem h2] at hj
  simp only [Option.map_some, Option.some.injEq] at hj
  rw [← hj]
  simp [List.getD, List.getElem?_eq_getElem h2]

/-- one cell put into a row whose mark lies behind it -/
theorem store_mark (P : Program) {g a : Nat} {t : TypeId} {fz : Nat × Nat} {cur : Array Value} {w : World} {v : Value} (hg : w.heap[g]? = some (.cells cur t fz)) (hfz : fz = (0, 0) ∨ cur.size ≤ fz.1) (ha : a < cur.size) (hv : v.oneCell' = true) :
    (store ⟨g, a, none⟩ v).run P w = .ok () (w.setRow g (cur.setIfInBounds a v)) := by
  have h1 : w.cell? ⟨g, a, none⟩ = some cur[a] := by
    rw [cell_of_row w g a cur t fz hg]
    exact Array.getElem?_eq_getElem ha
  have h2 : w.frozen? ⟨g, a, none⟩ = false := by
    rcases hfz with rfl | h
    · exact frozen_of_row w g a cur t hg
    · unfold World.frozen?
      rw [hg]
      have hd : decide (fz.1 ≤ a) = false := decide_eq_false (by omega)
      simp [hd]
  rw [run_store P w _ v _ hv, h1, setCell_eq_setRow w g a cur t fz v hg]
  simp [h2]
/-- several: what the row holds then -/
theorem storeCells_mark (P : Program) (g o : Nat) (t : TypeId) (fz : Nat × Nat) (vs : List Value) : ∀ (i : Nat) (cur : Array Value) (w : World), w.heap[g]? = some (.cells cur t fz) → (fz = (0, 0) ∨ cur.size ≤ fz.1) → o + i + vs.length ≤ cur.size → (∀ v ∈ vs, v.oneCell' = true) →
    ∃ new : Array Value, (storeCells ⟨g, o, none⟩ vs i).run P w = .ok () (w.setRow g new) ∧ new.size = cur.size ∧ ∀ j, new[j]? = if o + i ≤ j ∧ j < o + i + vs.length then vs[j - (o + i)]? else cur[j]? := by
  induction vs with
  | nil =>
    intro i cur w hg _ _ _
    refine ⟨cur, ?_, rfl, fun j => ?_⟩
    · rw [setRow_self w g cur t fz hg]
      rfl
    · rw [if_neg (by simp only [List.length_nil]; omega)]
  | cons v vs ih =>
    intro i cur w hg hfz hl h1
    rw [List.length_cons] at hl
    have ha : (⟨g, o, none⟩ : Addr).add i = ⟨g, o + i, none⟩ := by unfold Addr.add; split <;> simp_all
    have hone := store_mark P hg hfz (show o + i < cur.size by omega) (h1 v (by simp))
    obtain ⟨new, k1, k2, k3⟩ := ih (i + 1) (cur.setIfInBounds (o + i) v) (w.setRow g (cur.setIfInBounds (o + i) v)) (setRow_heap w g cur _ t fz hg) (by rw [Array.size_setIfInBounds]; exact hfz) (by rw [Array.size_setIfInBounds]; omega) (fun x hx => h1 x (by simp [hx]))
    refine ⟨new, ?_, by rw [k2, Array.size_setIfInBounds], fun j => ?_⟩
    · rw [show storeCells ⟨g, o, none⟩ (v :: vs) i = (do store ((⟨g, o, none⟩ : Addr).add i) v; storeCells ⟨g, o, none⟩ vs (i + 1)) from rfl, Sem.run_bind, ha, hone]
      rw [Result.andThen_ok, k1, setRow_setRow]
    · rw [k3 j, List.length_cons]
      by_cases e : j = o + i
      · subst e
        rw [if_neg (by omega), if_pos (by omega), Nat.sub_self, Array.getElem?_setIfInBounds, if_pos rfl, if_pos (by omega)]
        rfl
      · by_cases h : o + (i + 1) ≤ j ∧ j < o + (i + 1) + vs.length
        · rw [if_pos h, if_pos (by omega)]
          have e2 : j - (o + i) = (j - (o + (i + 1))) + 1 := by omega
          rw [e2, List.getElem?_cons_succ]
        · rw [if_neg h, if_neg (by omega), Array.getElem?_setIfInBounds, if_neg (fun x => e x.symm)]

/-- bytes appended to a row of one's own -/
theorem run_appendB {P : Program} (w : World) (B : Nat) (t ty e : TypeId) (i : TypeInfo) (ht : P.underlying t = some (.slice e)) (hi : P.info? e = some i) (hz : i.zero = some (.int .u8 0)) (hsize : i.size = 1) (hby : i.bytes = 1)
    (v : Value) (xs : List Int) (hown : OwnB w B e v xs) (ad : Addr) (c : Nat) (news : List Int) (hnews : ∀ j u, news[j]? = some u → w.cell? (ad.add j) = some (.int .u8 u))
    (hn : xs.length + news.length ≤ 1000000000000) (hbase : B ≤ w.heap.size) :
    ∃ v' w', (Builtin.append_ #[t, t] ty #[v, .slice (some ad) news.length c]).run P w = .ok v' w' ∧ OwnB w' B e v' (xs ++ news) ∧ w.grownBy w' v.ownBlock ∧ (v'.ownBlock = v.ownBlock ∨ v'.ownBlock = some w.heap.size) := by
  have hcs := fun g (hg : v.ownBlock = some g) => hown.slice
  obtain ⟨g0, cap0, e0, _, _, hold⟩ := hown.slice
  obtain ⟨g, cap, cur, fz, rfl, hbg, hg, hfz, hnc, hcm, hsz, htk⟩ := hown
  simp only [Value.slice.injEq, Option.some.injEq, Addr.mk.injEq] at e0
  obtain ⟨⟨rfl, _⟩, _⟩ := e0
  have hl : (news.map (Value.int .u8)).length = news.length * i.size := by rw [hsize]; simp
  have hnw : ∀ j u, (news.map (Value.int .u8))[j]? = some u → w.cell? (ad.add j) = some u := fun j u hj => by
    rw [List.getElem?_map] at hj
    cases hx : news[j]? with
    | none => rw [hx] at hj; cases hj
    | some y =>
      rw [hx] at hj
      simp only [Option.map_some, Option.some.injEq] at hj
      rw [← hj]
      exact hnews j y hx
  have h1 : ∀ u ∈ news.map (Value.int .u8), u.oneCell' = true := fun u hu => by
    obtain ⟨y, _, rfl⟩ := List.mem_map.1 hu
    rfl
  by_cases hroom : xs.length + news.length ≤ cap
  · have hf := run_firstCells_some (P := P) w i.size news.length ad news.length c (news.map (Value.int .u8)) hl hnw
    obtain ⟨new, hst, hns, hnj⟩ := storeCells_mark P g xs.length e fz (news.map (Value.int .u8)) 0 cur w hg (by rw [hsz]; exact hfz) (by simp; omega) h1
    rw [hsize] at hf
    refine ⟨.slice (some ⟨g, 0, none⟩) (xs.length + news.length) cap, w.setRow g new, ?_, ⟨g, cap, new, fz, by simp, hbg, setRow_heap w g cur new e _ hg, hfz, by simp; omega, hcm, by rw [hns, hsz], ?_⟩, ⟨rfl, rfl, rfl, by simp, fun k _ hk => setRow_other w g k _ (fun e => hk (by simp [Value.ownBlock, e]))⟩, .inl rfl⟩
    · simp [Builtin.append_, run_underlying ht, sizeOf, typeInfo, hi, hsize, Builtin.lenOf, hroom, hf, Addr.add_lit, hst]
    · apply List.ext_getElem?
      intro q
      rw [List.getElem?_take, List.map_append, List.length_append]
      have hq := hnj q
      rw [Nat.add_zero, List.length_map] at hq
      rcases Nat.lt_or_ge q (xs.length + news.length) with h2 | h2
      · rw [if_pos h2, Array.getElem?_toList, hq]
        rcases Nat.lt_or_ge q xs.length with h3 | h3
        · rw [if_neg (by omega), List.getElem?_append_left (by simpa using h3)]
          have h4 : (cur.toList.take xs.length)[q]? = (xs.map (Value.int .u8))[q]? := by rw [htk]
          rw [List.getElem?_take, if_pos h3, Array.getElem?_toList] at h4
          exact h4
        · rw [if_pos (by omega), List.getElem?_append_right (by simpa using h3), List.length_map]
      · rw [if_neg (by omega), List.getElem?_eq_none (by simp; omega)]
  · have holds : ∀ j u, (xs.map (Value.int .u8))[j]? = some u → w.cell? ((⟨g, 0, none⟩ : Addr).add j) = some u := fun j u hj => by
      have hadd : (⟨g, 0, none⟩ : Addr).add j = ⟨g, j, none⟩ := by unfold Addr.add; split <;> simp_all
      rw [hadd]
      rw [List.getElem?_map] at hj
      cases hx : xs[j]? with
      | none => rw [hx] at hj; cases hj
      | some y =>
        rw [hx] at hj
        simp only [Option.map_some, Option.some.injEq] at hj
        rw [← hj]
        exact hold j y hx
    have hr := run_append_grow (P := P) w t ty e i (.int .u8 0) ht hi hz ⟨g, 0, none⟩ xs.length cap (xs.map (Value.int .u8)) (by rw [hsize]; simp) holds ad news.length c (news.map (Value.int .u8)) hl hnw (by omega) (by omega) (by rw [hby]; exact growslice_fits (by omega) (by omega))
    have hge := grownCap_ge w (xs.length + news.length) cap e
    have hcm2 : grownCap w (xs.length + news.length) cap e ≤ maxLen := grownCap_le_maxLen w _ cap e (by unfold maxLen; omega)
    refine ⟨_, _, hr, ⟨w.heap.size, grownCap w (xs.length + news.length) cap e, _, (0, 0), by simp, hbase, heap_alloc_new w.drew _, .inl rfl, by simp; omega, hcm2, ?_, ?_⟩, ⟨rfl, rfl, rfl, by simp, fun k hk _ => heap_alloc_old w.drew _ hk⟩, .inr rfl⟩
    · have hz1 : (Value.int IntKind.u8 0).cells.size = 1 := rfl
      simp only [Array.size_append, List.size_toArray, size_zeroCells, hz1, List.length_map]
      omega
    · simp only [Array.toList_append, List.append_assoc]
      rw [← List.append_assoc]
      have : (xs.map (Value.int .u8) ++ news.map (Value.int .u8)).length = (xs ++ news).length := by simp
      rw [← this]
      simp only [List.take_left]
      simp

/-- other blocks than the row stand, and the row comes into none of them -/
def Beside (w w' : World) (v v' : Value) : Prop := w.heap.size ≤ w'.heap.size ∧ ∀ X, X < w.heap.size → v.ownBlock ≠ some X → w'.heap[X]? = w.heap[X]? ∧ v'.ownBlock ≠ some X
theorem Beside.below {w0 w w' : World} {v v' : Value} (hb : Below w0.heap.size w0 w) (h : Beside w w' v v') : Beside w0 w' v v' :=
  ⟨Nat.le_trans hb.size h.1, fun X hX hv => ⟨((h.2 X (Nat.lt_of_lt_of_le hX hb.size) hv).1).trans (hb.block X hX), (h.2 X (Nat.lt_of_lt_of_le hX hb.size) hv).2⟩⟩
theorem Beside.trans {w0 w w' : World} {v v1 v' : Value} (k : Beside w0 w v v1) (h : Beside w w' v1 v') : Beside w0 w' v v' :=
  ⟨Nat.le_trans k.1 h.1, fun X hX hv => by
    obtain ⟨a1, a2⟩ := k.2 X hX hv
    obtain ⟨c1, c2⟩ := h.2 X (Nat.lt_of_lt_of_le hX k.1) a2
    exact ⟨c1.trans a1, c2⟩⟩
theorem Beside.refl (w : World) (v : Value) : Beside w w v v := ⟨Nat.le_refl _, fun X _ hv => ⟨rfl, hv⟩⟩
theorem beside_of {w w' : World} {v v' : Value} (h : w.grownBy w' v.ownBlock) (k : v'.ownBlock = v.ownBlock ∨ v'.ownBlock = some w.heap.size) : Beside w w' v v' :=
  ⟨h.size, fun X hX hv => ⟨h.block X hX (fun e => hv e.symm), by
    rcases k with k | k
    · rw [k]; exact hv
    · rw [k]; intro e; simp at e; omega⟩⟩

/-- .. as an operation -/
theorem wp_append_bytes {P : Program} {w w0 : World} {o : Oper} {a : Act} {K : Act → World → Prop} {Q : Exit → Act → World → Prop} (s x : Operand) (t : TypeId)
    (ho : o.op = .call { callee := .builtin .append, args := #[s, x], argTypes := #[t, t] })
    (B : Nat) (e : TypeId) (i : TypeInfo) (ht : P.underlying t = some (.slice e)) (hi : P.info? e = some i) (hz : i.zero = some (.int .u8 0)) (hsize : i.size = 1) (hby : i.bytes = 1)
    (v : Value) (xs : List Int) (hs : a.eval s = v) (hown : OwnB w B e v xs) (ad : Addr) (m c : Nat) (hx : a.eval x = .slice (some ad) m c) (news : List Int) (hm : news.length = m) (hnews : ∀ j u, news[j]? = some u → w.cell? (ad.add j) = some (.int .u8 u))
    (hn : xs.length + news.length ≤ 1000000000000) (hbel : Below B w0 w) (hbase : B ≤ w.heap.size)
    (h : ∀ v' w', OwnB w' B e v' (xs ++ news) → Below B w0 w' → Beside w w' v v' → K (a.put o.dst v') w') : Oper.wp P o a w K Q := by
  subst hm
  obtain ⟨v', w', hr, h2, h3, h4⟩ := run_appendB (P := P) w B t o.type e i ht hi hz hsize hby v xs hown ad c news hnews hn hbase
  obtain ⟨g, cap, e1, h5, _, _⟩ := hown.slice
  unfold Oper.wp execOp
  simp only [ho, resolve, invoke, builtin, Sem.run_bind, Sem.run_pure, Result.andThen_ok, List.map_toArray, List.map_cons, List.map_nil, hs, hx, hr]
  exact h v' w' h2 (hbel.grown h3 hbase (fun k hk => by rw [e1] at hk; simp [Value.ownBlock] at hk; omega)) (beside_of h3 h4)

/-- one byte, laid in a block of its own -/
theorem wp_append_byte {P : Program} {w w0 : World} {o : Oper} {a : Act} {K : Act → World → Prop} {Q : Exit → Act → World → Prop} (s x : Operand) (t : TypeId)
    (ho : o.op = .call { callee := .builtin .append, args := #[s, x], argTypes := #[t, t] })
    (B : Nat) (e : TypeId) (i : TypeInfo) (ht : P.underlying t = some (.slice e)) (hi : P.info? e = some i) (hz : i.zero = some (.int .u8 0)) (hsize : i.size = 1) (hby : i.bytes = 1)
    (v : Value) (xs : List Int) (hs : a.eval s = v) (hown : OwnB w B e v xs) (y : Int) (hx : a.eval x = .slice (some ⟨w.heap.size, 0, none⟩) 1 1)
    (hn : xs.length + 1 ≤ 1000000000000) (hbel : Below B w0 w) (hbase : B ≤ w.heap.size)
    (h : ∀ v' w', OwnB w' B e v' (xs ++ [y]) → Below B w0 w' → Beside w w' v v' → K (a.put o.dst v') w') : Oper.wp P o a (w.alloc (.cells #[.int .u8 y] e)) K Q := by
  have hb : Below w.heap.size w (w.alloc (.cells #[.int .u8 y] e)) := (Below.refl _ _).alloc (Nat.le_refl _) _
  refine wp_append_bytes s x t ho B e i ht hi hz hsize hby v xs hs (hown.keep hb) ⟨w.heap.size, 0, none⟩ 1 1 hx [y] rfl (fun j u hj => ?_) hn (hbel.alloc hbase _) (by simp; omega) (fun v' w' h1 h2 h3 => h v' w' h1 h2 (Beside.below hb h3))
  match j, hj with
  | 0, hj =>
    simp at hj
    subst hj
    exact cell_one_new w (.int .u8 y) e 0 _ rfl

/-- a text's bytes, laid by '[]byte(s)' -/
theorem wp_append_text {P : Program} {w w0 : World} {o : Oper} {a : Act} {K : Act → World → Prop} {Q : Exit → Act → World → Prop} (s x : Operand) (t : TypeId)
    (ho : o.op = .call { callee := .builtin .append, args := #[s, x], argTypes := #[t, t] })
    (B : Nat) (e : TypeId) (i : TypeInfo) (ht : P.underlying t = some (.slice e)) (hi : P.info? e = some i) (hz : i.zero = some (.int .u8 0)) (hsize : i.size = 1) (hby : i.bytes = 1)
    (v : Value) (xs : List Int) (hs : a.eval s = v) (hown : OwnB w B e v xs) (y : ByteArray) (m : Nat) (hm : y.size = m) (hx : a.eval x = .slice (some ⟨w.heap.size, 0, none⟩) m (grownCap w m 0 e))
    (hn : xs.length + y.size ≤ 1000000000000) (hbel : Below B w0 w) (hbase : B ≤ w.heap.size)
    (h : ∀ v' w', OwnB w' B e v' (xs ++ numsOf y) → Below B w0 w' → Beside w w' v v' → K (a.put o.dst v') w') : Oper.wp P o a (Lib.bytesWorld w e y) K Q := by
  subst hm
  have hb := Joins.below_bytesWorld w.heap.size w e y (Nat.le_refl _)
  refine wp_append_bytes s x t ho B e i ht hi hz hsize hby v xs hs (hown.keep hb) ⟨w.heap.size, 0, none⟩ y.size _ hx (numsOf y) (numsOf_len y) (fun j u hj => ?_) (by rw [numsOf_len]; exact hn) (hbel.trans (hb.mono hbase)) (Nat.le_trans hbase hb.size) (fun v' w' h1 h2 h3 => h v' w' h1 h2 (Beside.below hb h3))
  have hadd : (⟨w.heap.size, 0, none⟩ : Addr).add j = ⟨w.heap.size, j, none⟩ := by unfold Addr.add; split <;> simp_all
  rw [hadd]
  exact bytes_cells w e y j u hj

/-- in a walk -/
theorem append_byte {P : Program} {w w0 : World} {ops : Array Oper} {rest : List Oper} {o : Oper} {a : Act} {Q : Exit → Act → World → Prop} (hgd : o.guard = none) (s x : Operand) (t : TypeId)
    (ho : o.op = .call { callee := .builtin .append, args := #[s, x], argTypes := #[t, t] })
    (B : Nat) (e : TypeId) (i : TypeInfo) (ht : P.underlying t = some (.slice e)) (hi : P.info? e = some i) (hz : i.zero = some (.int .u8 0)) (hsize : i.size = 1) (hby : i.bytes = 1)
    (v : Value) (xs : List Int) (hs : a.eval s = v) (hown : OwnB w B e v xs) (y : Int) (hx : a.eval x = .slice (some ⟨w.heap.size, 0, none⟩) 1 1)
    (hn : xs.length + 1 ≤ 1000000000000) (hbel : Below B w0 w) (hbase : B ≤ w.heap.size)
    (h : ∀ v' w', OwnB w' B e v' (xs ++ [y]) → Below B w0 w' → Beside w w' v v' → wpList P ops Q rest (a.put o.dst v') w') : wpList P ops Q (o :: rest) a (w.alloc (.cells #[.int .u8 y] e)) :=
  wpList_plain hgd fun K hK => wp_append_byte s x t ho B e i ht hi hz hsize hby v xs hs hown y hx hn hbel hbase fun v' w' h1 h2 h3 => hK _ _ (h v' w' h1 h2 h3)
theorem append_text {P : Program} {w w0 : World} {ops : Array Oper} {rest : List Oper} {o : Oper} {a : Act} {Q : Exit → Act → World → Prop} (hgd : o.guard = none) (s x : Operand) (t : TypeId)
    (ho : o.op = .call { callee := .builtin .append, args := #[s, x], argTypes := #[t, t] })
    (B : Nat) (e : TypeId) (i : TypeInfo) (ht : P.underlying t = some (.slice e)) (hi : P.info? e = some i) (hz : i.zero = some (.int .u8 0)) (hsize : i.size = 1) (hby : i.bytes = 1)
    (v : Value) (xs : List Int) (hs : a.eval s = v) (hown : OwnB w B e v xs) (y : ByteArray) (m : Nat) (hm : y.size = m) (hx : a.eval x = .slice (some ⟨w.heap.size, 0, none⟩) m (grownCap w m 0 e))
    (hn : xs.length + y.size ≤ 1000000000000) (hbel : Below B w0 w) (hbase : B ≤ w.heap.size)
    (h : ∀ v' w', OwnB w' B e v' (xs ++ numsOf y) → Below B w0 w' → Beside w w' v v' → wpList P ops Q rest (a.put o.dst v') w') : wpList P ops Q (o :: rest) a (Lib.bytesWorld w e y) :=
  wpList_plain hgd fun K hK => wp_append_text s x t ho B e i ht hi hz hsize hby v xs hs hown y m hm hx hn hbel hbase fun v' w' h1 h2 h3 => hK _ _ (h v' w' h1 h2 h3)
/-- in a region that draws its order -/
theorem step_append_text {P : Program} {w w0 : World} {ops : Array Oper} {o : Oper} {a : Act} {K : Act → World → Prop} {Q : Exit → Act → World → Prop} {E : Prop} (hgd : o.guard = none) (s x : Operand) (t : TypeId)
    (ho : o.op = .call { callee := .builtin .append, args := #[s, x], argTypes := #[t, t] })
    (B : Nat) (e : TypeId) (i : TypeInfo) (ht : P.underlying t = some (.slice e)) (hi : P.info? e = some i) (hz : i.zero = some (.int .u8 0)) (hsize : i.size = 1) (hby : i.bytes = 1)
    (v : Value) (xs : List Int) (hs : a.eval s = v) (hown : OwnB w B e v xs) (y : ByteArray) (m : Nat) (hm : y.size = m) (hx : a.eval x = .slice (some ⟨w.heap.size, 0, none⟩) m (grownCap w m 0 e))
    (d : Option Tmp) (hd : o.dst = d) (hn : xs.length + y.size ≤ 1000000000000) (hbel : Below B w0 w) (hbase : B ≤ w.heap.size)
    (h : ∀ v' w', OwnB w' B e v' (xs ++ numsOf y) → Below B w0 w' → Beside w w' v v' → K (a.put d v') w') : if Region.wanted o (yielded ops a.tmps) = true then Oper.wp P o a (Lib.bytesWorld w e y) K Q else E := by
  subst hd
  have hw : Region.wanted o (yielded ops a.tmps) = true := by simp [Region.wanted, hgd]
  rw [if_pos hw]
  exact wp_append_text s x t ho B e i ht hi hz hsize hby v xs hs hown y m hm hx hn hbel hbase h

theorem OwnB.low {w : World} {B B' : Nat} {e : TypeId} {v : Value} {xs : List Int} (h : OwnB w B e v xs) (hB : B' ≤ B) : OwnB w B' e v xs := by
  obtain ⟨g, cap, cur, fz, e1, h1, h2⟩ := h
  exact ⟨g, cap, cur, fz, e1, Nat.le_trans hB h1, h2⟩
/-- bytes -/
def BytesL (xs : List Int) : Prop := ∀ x ∈ xs, 0 ≤ x ∧ x < 256
theorem nums_str (xs : List Int) (h : BytesL xs) : numsOf (strOfNums xs) = xs := by
  unfold numsOf strOfNums
  simp only [List.map_map]
  rw [List.map_congr_left (g := id) (fun x hx => ?_)]
  · simp
  · have := h x hx
    simp only [Function.comp, id]
    have e : (UInt8.ofNat x.toNat).toNat = x.toNat := by
      rw [UInt8.toNat_ofNat']
      omega
    rw [e]
    omega
theorem nums_append (a b : ByteArray) : numsOf (a ++ b) = numsOf a ++ numsOf b := by
  unfold numsOf
  rw [← List.map_append]
  congr 1
theorem BytesL.append {a b : List Int} (h : BytesL a) (k : BytesL b) : BytesL (a ++ b) := fun x hx => by
  rcases List.mem_append.1 hx with hx | hx
  · exact h x hx
  · exact k x hx
theorem varB_bytes (n : Nat) : BytesL (varB n) := by
  induction n using Nat.strongRecOn with
  | _ n ih =>
    by_cases h : 127 < n
    · rw [varB_more h]
      intro x hx
      rcases List.mem_cons.1 hx with rfl | hx
      · omega
      · exact ih (n / 128) (by omega) x hx
    · rw [varB_last (by omega)]
      intro x hx
      rw [List.mem_singleton] at hx
      subst hx
      omega

end Go.Proofs.YtojmmmfboahkgaaDoor
