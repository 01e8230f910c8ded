/-
  Part 9 of what is proved of drawn right trees.
-/
import Derived.Test.YtbgdapdenbldmaaPah
import Derived.Maps.AppendAt
import Derived.Deep.RegionHeldLaw

namespace Go.Proofs.Ytbgdapdenbldmaa
open Go.RowKit Go.Sort
set_option linter.unusedVariables false
theorem lt16 {w : World} {X : Nat} {o : Obj} (h : w.heap[X]? = some o) : X < w.heap.size := by
  rcases Nat.lt_or_ge X w.heap.size with x | x
  · exact x
  · rw [Array.getElem?_eq_none x] at h
    cases h
theorem apart16 {w : World} {B k n X : Nat} {e T : TypeId} {v : Value} {xs : List Value} {cs : Array Value} {fr : Nat × Nat} (h : w.ownsRow B e k v n xs) (hX : w.heap[X]? = some (.cells cs T fr)) (hT : T ≠ e) : v.ownBlock ≠ some X := by
  rcases h.2 with ⟨rfl, _⟩ | ⟨g, cap, cur, rfl, _, hg, _⟩
  · simp [Value.ownBlock]
  · intro e1
    simp [Value.ownBlock] at e1
    subst e1
    rw [hg] at hX
    injection hX with hX
    injection hX with _ hX
    exact hT hX.symm
theorem far16 {w : World} {B k n X o : Nat} {e : TypeId} {v u : Value} {xs : List Value} (h : w.ownsRow B e k v n xs) (hX : v.ownBlock ≠ some X) : (w.setCell ⟨X, o, none⟩ u).ownsRow B e k v n xs :=
  h.kept (row := some X) ⟨rfl, rfl, rfl, by simp [World.setCell], fun i _ hne => heap_setCell_other w ⟨X, o, none⟩ i u (fun e => hne (by show some i = some X; rw [show i = X from e]))⟩ (.inr hX)
theorem run_copyI {P : Program} (w : World) (base : Nat) (t ty e : TypeId) (i : TypeInfo) (z : Value) (size bytes : Nat) (ht : P.underlying t = some (.slice e)) (hi : P.info? e = some i) (hz : i.zero = some z)
    (hsize : i.size = size) (hby : i.bytes = bytes) (hzs : z.cells.size = size) (hsz : 0 < size) (hb64 : bytes ≤ 128)
    (v0 : Value) (hown : w.ownsRow base e size v0 0 []) (src : Value) (n : Nat) (xs : List Value) (h : ArgFlat w src size n xs) (h1 : ∀ u ∈ xs, u.oneCell' = true) (hn : n ≤ 1000000000) (hbase : base ≤ w.heap.size) :
    ∃ v' w', (Builtin.append_ #[t, t] ty #[v0, src]).run P w = .ok v' w' ∧ w'.ownsRow base e size v' n xs ∧ w.grownBy w' v0.ownBlock := by
  obtain ⟨x, c, rfl, hm, hl, hc⟩ := h
  cases x with
  | none =>
    have h0 : n = 0 := by
      rcases Nat.eq_zero_or_pos n with h | h
      · exact h
      · obtain ⟨b, o, e1, _⟩ := hc h
        cases e1
    subst h0
    have hx : xs = [] := List.eq_nil_of_length_eq_zero (by omega)
    subst hx
    refine ⟨v0, w, ?_, hown, ⟨rfl, rfl, rfl, Nat.le_refl _, fun _ _ _ => rfl⟩⟩
    rcases hown.2 with ⟨rfl, _⟩ | ⟨g, cap, cur, rfl, _, _, hnc, _⟩
    · simp [Builtin.append_, run_underlying ht, sizeOf, typeInfo, hi, Builtin.lenOf, Builtin.firstCells]
    · simp [Builtin.append_, run_underlying ht, sizeOf, typeInfo, hi, Builtin.lenOf, Builtin.firstCells, storeCells]
  | some a =>
    have hbn : n * bytes ≤ 1000000000 * 128 := Nat.mul_le_mul hn hb64
    obtain ⟨v', w', h2, h3, h4, _, _⟩ := run_append_own_at (P := P) w base t ty e i z size bytes ht hi hz hsize hby hzs hsz v0 0 [] hown a n c xs hl (fun j u hj => by
      rcases Nat.eq_zero_or_pos n with h | h
      · subst h
        have hx : xs = [] := List.eq_nil_of_length_eq_zero (by omega)
        subst hx
        simp at hj
      · obtain ⟨b, o, e1, _, hcell⟩ := hc h
        injection e1 with e1
        subst e1
        have hadd : (⟨b, o, none⟩ : Addr).add j = ⟨b, o + j, none⟩ := by unfold Addr.add; split <;> simp_all
        rw [hadd]
        exact hcell j u hj) h1 (by rw [Nat.zero_add]; exact hm) (by rw [Nat.zero_add]; omega) hbase
    rw [Nat.zero_add, List.nil_append] at h3
    exact ⟨v', w', h2, h3, h4⟩
theorem step_copyI {P : Program} {w : World} {ops : Array Oper} {o : Oper} {a : Act} {K : Act → World → Prop} {Q : Exit → Act → World → Prop} {E : Prop} (hgd : o.guard = none) (s x : Operand) (t : TypeId)
    (ho : o.op = .call { callee := .builtin .append, args := #[s, x], argTypes := #[t, t] })
    (base : Nat) (e : TypeId) (i : TypeInfo) (z : Value) (size bytes : Nat) (ht : P.underlying t = some (.slice e)) (hi : P.info? e = some i) (hz : i.zero = some z)
    (hsize : i.size = size) (hby : i.bytes = bytes) (hzs : z.cells.size = size) (hsz : 0 < size) (hb64 : bytes ≤ 128)
    (v0 : Value) (hs : a.eval s = v0) (hown : w.ownsRow base e size v0 0 []) (src : Value) (hx : a.eval x = src) (n : Nat) (xs : List Value) (h : ArgFlat w src size n xs) (h1 : ∀ u ∈ xs, u.oneCell' = true) (hn : n ≤ 1000000000) (hbase : base ≤ w.heap.size) (d : Option Tmp) (hd : o.dst = d)
    (hK : ∀ v' w', w'.ownsRow base e size v' n xs → w.grownBy w' v0.ownBlock → K (a.put d v') w') :
    if Region.wanted o (yielded ops a.tmps) = true then Oper.wp P o a w K Q else E := by
  subst hd
  have hw : Region.wanted o (yielded ops a.tmps) = true := by simp [Region.wanted, hgd]
  rw [if_pos hw]
  obtain ⟨v', w', hr, h2, h3⟩ := run_copyI (P := P) w base t o.type e i z size bytes ht hi hz hsize hby hzs hsz hb64 v0 hown src n xs h h1 hn hbase
  unfold Oper.wp execOp
  simp only [ho, resolve, invoke, builtin, Sem.run_bind, Sem.run_pure, Result.andThen_ok, List.map_toArray, List.map_cons, List.map_nil, hs, hx, hr]
  exact hK v' w' h2 h3
theorem walk_copyI {P : Program} {w : World} {ops : Array Oper} {rest : List Oper} {o : Oper} {a : Act} {Q : Exit → Act → World → Prop} (hgd : o.guard = none) (s x : Operand) (t : TypeId)
    (ho : o.op = .call { callee := .builtin .append, args := #[s, x], argTypes := #[t, t] })
    (base : Nat) (e : TypeId) (i : TypeInfo) (z : Value) (size bytes : Nat) (ht : P.underlying t = some (.slice e)) (hi : P.info? e = some i) (hz : i.zero = some z)
    (hsize : i.size = size) (hby : i.bytes = bytes) (hzs : z.cells.size = size) (hsz : 0 < size) (hb64 : bytes ≤ 128)
    (v0 : Value) (hs : a.eval s = v0) (hown : w.ownsRow base e size v0 0 []) (src : Value) (hx : a.eval x = src) (n : Nat) (xs : List Value) (h : ArgFlat w src size n xs) (h1 : ∀ u ∈ xs, u.oneCell' = true) (hn : n ≤ 1000000000) (hbase : base ≤ w.heap.size)
    (hK : ∀ v' w', w'.ownsRow base e size v' n xs → w.grownBy w' v0.ownBlock → wpList P ops Q rest (a.put o.dst v') w') :
    wpList P ops Q (o :: rest) a w := by
  refine wpList_plain hgd fun K hK' => ?_
  obtain ⟨v', w', hr, h2, h3⟩ := run_copyI (P := P) w base t o.type e i z size bytes ht hi hz hsize hby hzs hsz hb64 v0 hown src n xs h h1 hn hbase
  unfold Oper.wp execOp
  simp only [ho, resolve, invoke, builtin, Sem.run_bind, Sem.run_pure, Result.andThen_ok, List.map_toArray, List.map_cons, List.map_nil, hs, hx, hr]
  exact hK' _ _ (hK v' w' h2 h3)
theorem one_int (l : List Int) : ∀ u ∈ l.flatMap intC, u.oneCell' = true := fun u hu => by
  obtain ⟨p, _, hp⟩ := List.mem_flatMap.1 hu
  simp only [intC, List.mem_cons, List.not_mem_nil, or_false] at hp
  rw [hp]
  rfl
theorem own16 {w : World} {e : TypeId} {size G base : Nat} (hG : w.heap[G]? = some (.cells #[] e (0, 0))) (hb : base ≤ G) : w.ownsRow base e size (.slice (some ⟨G, 0, none⟩) 0 0) 0 [] :=
  ⟨by simp, .inr ⟨G, 0, #[], rfl, hb, hG, Nat.le_refl _, Nat.zero_le _, by simp, by simp⟩⟩
theorem ints_set (l : List Int) (k : Nat) (z : Int) : (l.flatMap intC).set k (.int .i64 z) = (l.set k z).flatMap intC := by
  induction l generalizing k with
  | nil => rfl
  | cons a l ih =>
    cases k with
    | zero => rfl
    | succ k =>
      show Value.int .i64 a :: ((l.flatMap intC).set k (.int .i64 z)) = Value.int .i64 a :: ((l.set k z).flatMap intC)
      rw [ih k]
theorem OwnI.put {w : World} {B g n c : Nat} {l : List Int} (h : OwnI w B (.slice (some ⟨g, 0, none⟩) n c) l) (k : Nat) (z : Int) : OwnI (w.setCell ⟨g, k, none⟩ (.int .i64 z)) B (.slice (some ⟨g, 0, none⟩) n c) (l.set k z) := by
  have h1 := h
  obtain ⟨x, d, e, _, _⟩ := h.opened
  injection e with _ e _
  subst e
  unfold OwnI at h ⊢
  rw [List.length_set, ← ints_set]
  exact (h.stored k _).1
structure AftAt (w0 : World) (G C : Nat) (ci cs : Array Value) (acc : Int) (v : Value) (l : List Int) (wr : World) : Prop where
  b0 : wr.heap[G]? = some (.cells ci 72 (0, 0))
  b1 : wr.heap[G + 1]? = some (.cells cs 98 (0, 0))
  b2 : wr.heap[G + 1 + 1]? = some (.cells #[.int .i64 0, .slice none 0 0] 98 (0, 0))
  c : wr.heap[C]? = some (.cells #[.int .i64 acc, v] 98 (0, 0))
  own : OwnI wr w0.heap.size v l
  bel : Below w0.heap.size w0 wr
  lo : w0.heap.size ≤ G ∧ G + 1 + 1 < C
set_option maxHeartbeats 2000000 in
set_option maxRecDepth 100000 in
theorem l16After_any (i : PIns) (s : PSta) (v : Value) (w : World) (h : ArgI w v s.regs) (hr : s.regs.length ≤ 1000) (hin : i.op = 3 ∨ i.op = 4 → regIn s i.a = true) :
    Calls Try.prog 70 #[.agg #[.int .i64 i.op, .int .i64 i.a, .int .i64 i.b], .agg #[.int .i64 s.acc, v]] w fun e w' => ∃ v', e = .returned (.agg #[.int .i64 (aftS i s).acc, v']) ∧ OwnI w' w.heap.size v' (aftS i s).regs ∧ Below w.heap.size w w' := by
  obtain ⟨x, c, rfl, hm, _⟩ := h.opened
  obtain ⟨n, hn⟩ : ∃ n, s.regs.length = n := ⟨_, rfl⟩
  have HA : Hid (∀ W, Below w.heap.size w W → ArgFlat W (.slice x n c) 1 n (s.regs.flatMap intC)) := fun W hW => by
    have := h.below hW
    unfold ArgI at this
    rw [hn] at this
    exact this
  have HN : Hid (s.regs.length = n) := hn
  rw [hn] at hr hm ⊢
  obtain ⟨OP, eO⟩ : ∃ n, i.op = n := ⟨_, rfl⟩
  obtain ⟨IA, eA⟩ : ∃ n, i.a = n := ⟨_, rfl⟩
  obtain ⟨IB, eB⟩ : ∃ n, i.b = n := ⟨_, rfl⟩
  obtain ⟨AC, eC⟩ : ∃ n, s.acc = n := ⟨_, rfl⟩
  rw [eO, eA] at hin
  have HE : Hid (aftS i s = if givesB OP then ⟨1, s.regs⟩ else if OP = 3 then ⟨AC, s.regs.set IA.toNat 1⟩ else if OP = 4 then ⟨AC, s.regs.set IA.toNat 2⟩ else ⟨AC, s.regs⟩) := by
    show aftS i s = _
    unfold aftS
    rw [eO, eA, eC]
    repeat' split
    all_goals first | rfl | (rw [← eC])
  obtain ⟨R, eR⟩ : ∃ R, aftS i s = R := ⟨_, rfl⟩
  rw [eR] at HE
  simp only [eO, eA, eB, eC, eR]
  obtain ⟨RA, eRA⟩ : ∃ x, R.acc = x := ⟨_, rfl⟩
  obtain ⟨RR, eRR⟩ : ∃ x, R.regs = x := ⟨_, rfl⟩
  have HR : Hid (R.acc = RA ∧ R.regs = RR) := ⟨eRA, eRR⟩
  simp only [eRA, eRR]
  clear eO eA eB eC eR h hn eRA eRR
  have T := made_three w (Obj.cells #[.int .i64 OP, .int .i64 IA, .int .i64 IB] 72) (Obj.cells #[.int .i64 AC, .slice x n c] 98) (Obj.cells #[.int .i64 0, .slice none 0 0] 98)
  obtain ⟨W3, hW3⟩ : ∃ W, (((w.alloc (Obj.cells #[.int .i64 OP, .int .i64 IA, .int .i64 IB] 72)).alloc (Obj.cells #[.int .i64 AC, .slice x n c] 98)).alloc (Obj.cells #[.int .i64 0, .slice none 0 0] 98)) = W := ⟨_, rfl⟩
  rw [hW3] at T
  have HW3 : Hid (_ = W3) := hW3
  clear hW3
  obtain ⟨t0, t1, t2, tz, tb⟩ := T
  obtain ⟨G, hG⟩ : ∃ G, w.heap.size = G := ⟨_, rfl⟩
  rw [hG] at t0 t1 t2 tz
  obtain ⟨Z, hZ⟩ : ∃ Z, W3.heap.size = Z := ⟨_, rfl⟩
  have hZ3 : Z = G + 3 := by rw [← hZ, tz]
  have HZ : Hid (W3.heap.size = Z ∧ Z = G + 3) := ⟨hZ, hZ3⟩
  have HG : Hid (w.heap.size = G) := hG
  have HB3 : Hid (Below w.heap.size w W3) := tb
  have HT : Hid (W3.heap[G]? = some (.cells #[.int .i64 OP, .int .i64 IA, .int .i64 IB] 72 (0, 0)) ∧ W3.heap[G + 1]? = some (.cells #[.int .i64 AC, .slice x n c] 98 (0, 0)) ∧ W3.heap[G + 1 + 1]? = some (.cells #[.int .i64 0, .slice none 0 0] 98 (0, 0))) := ⟨t0, t1, t2⟩
  obtain ⟨i0, hi, hz0, hz1, hz2⟩ := info_in Try.info13I
  have HK : Hid (∀ W, Below W3.heap.size W3 W → W.cell? ⟨G + 1, 0, none⟩ = some (.int .i64 AC) ∧ W.cell? ⟨G + 1, 1, none⟩ = some (.slice x n c)) := fun W hW => by
    have q := (hW.block (G + 1) (by have := HZ.out; omega)).trans HT.out.2.1
    exact two_cells_of q
  clear tz hG hZ3 t0 t1 t2 tb
  go_enter Try.func70, Try.ntmps70
  go_upto_region 1 with fail
  rw [HW3.out]
  clear HW3
  simp only [HG.out]
  go_cut [5] (fun p wr => ∃ (C : Nat) (x' : Option Addr) (c' : Nat), p = .pointer (some ⟨C, 0, none⟩) ∧ Hid (AftAt w G C #[.int .i64 OP, .int .i64 IA, .int .i64 IB] #[.int .i64 AC, .slice x n c] AC (.slice x' n c') s.regs wr))
  case first =>
    have q1 : (W3.alloc (.cells #[] 3)).drew.heap[Z]? = some (.cells #[] 3 (0, 0)) := by rw [← hZ]; exact heap_alloc_new W3 _
    have q2 : ∀ (o' : Obj), ((W3.alloc (.cells #[] 3)).alloc o').heap[Z]? = some (.cells #[] 3 (0, 0)) := fun o' => by rw [heap_alloc_old (r := Z) _ _ (by simp; omega)]; exact q1
    have q3 : ∀ (o : Obj), ((W3.alloc o).alloc (.cells #[] 3)).heap[Z + 1]? = some (.cells #[] 3 (0, 0)) := fun o => by rw [show Z + 1 = (W3.alloc o).heap.size by simp; omega]; exact heap_alloc_new _ _
    have q4 : ∀ (o' : Obj), ((W3.alloc (.cells #[] 3)).alloc o').drew.heap[Z]? = some (.cells #[] 3 (0, 0)) := q2
    have q5 : ∀ (o : Obj), ((W3.alloc o).alloc (.cells #[] 3)).drew.heap[Z + 1]? = some (.cells #[] 3 (0, 0)) := q3
    have b1 : ∀ (o : Obj), Below W3.heap.size W3 (W3.alloc o).drew := fun o => ((Below.refl _ _).alloc (Nat.le_refl _) o).drew
    have b2 : ∀ (o o' : Obj), Below W3.heap.size W3 ((W3.alloc o).alloc o') := fun o o' => ((Below.refl _ _).alloc (Nat.le_refl _) o).alloc (by simp) o'
    have b3 : ∀ (o o' : Obj), Below W3.heap.size W3 ((W3.alloc o).alloc o').drew := fun o o' => (b2 o o').drew
    have q6 : ∀ (o' : Obj), ((W3.alloc (.cells #[] 3)).alloc o').drew.heap[Z + 1]? = some o' := fun o' => by
      show ((W3.alloc (.cells #[] 3)).alloc o').heap[Z + 1]? = some o'
      rw [show Z + 1 = (W3.alloc (.cells #[] 3)).heap.size by simp; omega]; exact heap_alloc_new _ _
    have q7 : ∀ (o : Obj), ((W3.alloc o).alloc (.cells #[] 3)).drew.heap[Z]? = some o := fun o => by
      show ((W3.alloc o).alloc (.cells #[] 3)).heap[Z]? = some o
      rw [heap_alloc_old (r := Z) _ _ (by simp; omega), ← hZ]; exact heap_alloc_new _ _
    have z6 : ∀ (o o' : Obj), Z + 1 < ((W3.alloc o).alloc o').drew.heap.size := fun o o' => by
      show Z + 1 < ((W3.alloc o).alloc o').heap.size
      simp; omega
    have z7 : ∀ (o o' : Obj), Z < ((W3.alloc o).alloc o').drew.heap.size := fun o o' => Nat.lt_of_succ_lt (z6 o o')
    have bS : ∀ {W : World} (o : Obj), Below W3.heap.size W3 W → Below W3.heap.size W3 (W.alloc o) := fun o h => h.alloc h.size o
    have hbS : ∀ (k : Int) (a : Option Addr) (m d : Nat) (W : World), (Instr.build 98 #[(0, .int .i64 k), (1, .slice a m d)]).run Try.prog W = .ok (.agg #[.int .i64 k, .slice a m d]) W := fun k a m d W => run_build W 98 _ _ (by kernel_rfl)
    have hBW : ∀ W, Below W3.heap.size W3 W → ArgFlat W (.slice x n c) 1 n (s.regs.flatMap intC) := fun W hW => HA.out W (chain HB3.out hW)
    have hgz : w.heap.size ≤ Z := by have := HZ.out; have := HG.out; omega
    have hgz1 : w.heap.size ≤ Z + 1 := by omega
    have hn9 : n ≤ 1000000000 := by omega
    have hone := one_int s.regs
    have hLE : ∀ W, Below W3.heap.size W3 W → w.heap.size ≤ W.heap.size := fun W hW => Nat.le_trans HB3.out.size hW.size
    have hGR : ∀ (A : Nat) (W W' : World), Below W3.heap.size W3 W → W.grownBy W' (Value.ownBlock (.slice (some ⟨A, 0, none⟩) 0 0)) → Z ≤ A → Hid (Below W3.heap.size W3 W') := fun A W W' h1 h2 h3 => Below.grown h1 h2 h1.size (fun k e => by have e2 : A = k := Option.some.inj e; omega)
    have bP : ∀ (X j : Nat) (u : Value) {W : World}, Below W3.heap.size W3 W → Z ≤ X → Below W3.heap.size W3 (W.setCell ⟨X, j, none⟩ u) := fun X j u W h hX => h.setCell (p := ⟨X, j, none⟩) (by show W3.heap.size ≤ X; omega) u
    have hHid : ∀ (W : World) (v : Value) (xs : List Value), W.ownsRow w.heap.size 3 1 v n xs → Hid (W.ownsRow w.heap.size 3 1 v n xs) := fun W v xs h => h
    have hHid2 : ∀ (a b : Option Obj), a = b → Hid (a = b) := fun a b h => h
    have hEnd : ∀ (C : Nat) (W : World) (y : Option Addr) (d : Nat), Below W3.heap.size W3 W → W.heap[C]? = some (.cells #[.int .i64 AC, .slice y n d] 98 (0, 0)) → W.ownsRow w.heap.size 3 1 (.slice y n d) n (s.regs.flatMap intC) → Z ≤ C → Hid (AftAt w G C #[.int .i64 OP, .int .i64 IA, .int .i64 IB] #[.int .i64 AC, .slice x n c] AC (.slice y n d) s.regs W) := fun C W y d hB hC hO hZC => by
      have z := HZ.out
      have t := HT.out
      refine ⟨(hB.block _ (by omega)).trans t.1, (hB.block _ (by omega)).trans t.2.1, (hB.block _ (by omega)).trans t.2.2, hC, ?_, chain HB3.out hB, by have := HG.out; omega, by omega⟩
      unfold OwnI
      rw [HN.out]
      exact hO
    have hEndA : ∀ (W : World) (y : Option Addr) (d : Nat), Hid (Below W3.heap.size W3 W) → Hid (W.ownsRow w.heap.size 3 1 (.slice y n d) n (s.regs.flatMap intC)) → Hid (AftAt w G W.heap.size #[.int .i64 OP, .int .i64 IA, .int .i64 IB] #[.int .i64 AC, .slice x n c] AC (.slice y n d) s.regs (W.alloc (.cells #[.int .i64 AC, .slice y n d] 98))) := fun W y d hB hO =>
      hEnd _ _ y d (bS _ hB.out) (heap_alloc_new W _) (hO.out.alloc _) (by have := hB.out.size; omega)
    have hEndB : ∀ (X : Nat) (W : World) (y : Option Addr) (d : Nat), Hid (Below W3.heap.size W3 W) → Hid (W.ownsRow w.heap.size 3 1 (.slice y n d) n (s.regs.flatMap intC)) → Hid (W.heap[X]? = some (.cells #[.int .i64 0, .slice none 0 0] 98 (0, 0))) → Z ≤ X → Hid (AftAt w G X #[.int .i64 OP, .int .i64 IA, .int .i64 IB] #[.int .i64 AC, .slice x n c] AC (.slice y n d) s.regs ((W.setCell ⟨X, 0, none⟩ (.int .i64 AC)).setCell ⟨X, 1, none⟩ (.slice y n d))) := fun X W y d hB hO hX hZX => by
      have k0 := heap_setCell_same W X 0 _ _ (.int .i64 AC) hX.out
      have k1 := heap_setCell_same _ X 1 _ _ (.slice y n d) k0
      have ne := apart16 hO.out hX.out (by decide)
      exact hEnd X _ y d (bP _ _ _ (bP _ _ _ hB.out hZX) hZX) k1 (far16 (far16 hO.out ne) ne) hZX
    go_region_held_law (fun W => W.cell? ⟨G + 1, 0, none⟩ = some (.int .i64 AC) ∧ W.cell? ⟨G + 1, 1, none⟩ = some (.slice x n c)) (exact HK.out _ (by first | with_reducible exact HB5.out | with_reducible exact RowKit.Below.drew HB5.out | with_reducible exact bS _ HB5.out | with_reducible exact RowKit.Below.drew (bS _ HB5.out) | with_reducible exact bS _ (RowKit.Below.drew HB5.out) | with_reducible exact RowKit.Below.drew (bS _ (RowKit.Below.drew HB5.out)) | with_reducible exact bP _ _ _ (bP _ _ _ HB5.out (Nat.le_refl _)) (Nat.le_refl _) | with_reducible exact bP _ _ _ (bP _ _ _ HB5.out (Nat.le_succ _)) (Nat.le_succ _) | with_reducible exact RowKit.Below.drew (bP _ _ _ (bP _ _ _ HB5.out (Nat.le_refl _)) (Nat.le_refl _)) | with_reducible exact RowKit.Below.drew (bP _ _ _ (bP _ _ _ HB5.out (Nat.le_succ _)) (Nat.le_succ _)) | with_reducible exact b1 _ | with_reducible exact b2 _ _ | with_reducible exact b3 _ _ | with_reducible exact Below.refl _ _ | with_reducible exact (Below.refl _ _).drew))
      (first
        | (refine step_copyI rfl _ _ 35 rfl w.heap.size 3 i0 _ 1 8 Try.underlying35 hi hz0 hz1 hz2 rfl (by decide) (by decide) (.slice (some ⟨Z, 0, none⟩) 0 0) rfl (own16 (by with_reducible exact q1) hgz) (.slice x n c) rfl n _ (hBW _ (by first | with_reducible exact b1 _ | with_reducible exact b2 _ _ | with_reducible exact b3 _ _)) hone hn9 (hLE _ (by first | with_reducible exact b1 _ | with_reducible exact b2 _ _ | with_reducible exact b3 _ _)) (some 11) rfl ?_; intro v5 w5 ho5 hg5; have HB5 := hGR Z _ _ (by first | with_reducible exact b1 _ | with_reducible exact b2 _ _ | with_reducible exact b3 _ _) hg5 (Nat.le_refl _); obtain ⟨y5, d5, rfl⟩ := row_slice ho5; have HO5 := hHid _ _ _ ho5; clear ho5 hg5)
        | (refine step_copyI rfl _ _ 35 rfl w.heap.size 3 i0 _ 1 8 Try.underlying35 hi hz0 hz1 hz2 rfl (by decide) (by decide) (.slice (some ⟨Z, 0, none⟩) 0 0) rfl (own16 (by first | with_reducible exact q4 _ | with_reducible exact q2 _) hgz) (.slice x n c) rfl n _ (hBW _ (by first | with_reducible exact b1 _ | with_reducible exact b2 _ _ | with_reducible exact b3 _ _)) hone hn9 (hLE _ (by first | with_reducible exact b1 _ | with_reducible exact b2 _ _ | with_reducible exact b3 _ _)) (some 11) rfl ?_; intro v5 w5 ho5 hg5; have HB5 := hGR Z _ _ (by first | with_reducible exact b1 _ | with_reducible exact b2 _ _ | with_reducible exact b3 _ _) hg5 (Nat.le_refl _); obtain ⟨y5, d5, rfl⟩ := row_slice ho5; have HO5 := hHid _ _ _ ho5; have u5 := (hg5.block (Z + 1) (by first | with_reducible exact z6 _ _ | exact z6 _ _) (by simp [Value.ownBlock])).trans (q6 _); have U5 := hHid2 _ _ u5; have p5 := two_cells_of u5; have p6 := p5.1; have p7 := p5.2; have z5 := fun j => frozen_of_row w5 (Z + 1) j _ _ u5; clear p5 u5; clear ho5 hg5)
        | (refine step_copyI rfl _ _ 35 rfl w.heap.size 3 i0 _ 1 8 Try.underlying35 hi hz0 hz1 hz2 rfl (by decide) (by decide) (.slice (some ⟨Z + 1, 0, none⟩) 0 0) rfl (own16 (by first | with_reducible exact q3 _ | with_reducible exact q5 _) hgz1) (.slice x n c) rfl n _ (hBW _ (by first | with_reducible exact b1 _ | with_reducible exact b2 _ _ | with_reducible exact b3 _ _)) hone hn9 (hLE _ (by first | with_reducible exact b1 _ | with_reducible exact b2 _ _ | with_reducible exact b3 _ _)) (some 11) rfl ?_; intro v5 w5 ho5 hg5; have HB5 := hGR (Z + 1) _ _ (by first | with_reducible exact b1 _ | with_reducible exact b2 _ _ | with_reducible exact b3 _ _) hg5 (Nat.le_succ _); obtain ⟨y5, d5, rfl⟩ := row_slice ho5; have HO5 := hHid _ _ _ ho5; have u5 := (hg5.block (Z) (by first | with_reducible exact z7 _ _ | exact z7 _ _) (by simp [Value.ownBlock])).trans (q7 _); have U5 := hHid2 _ _ u5; have p5 := two_cells_of u5; have p6 := p5.1; have p7 := p5.2; have z5 := fun j => frozen_of_row w5 (Z) j _ _ u5; clear p5 u5; clear ho5 hg5))
    · have HE := hEndA _ _ _ HB5 HO5
      clear HK HA HT HZ hEnd hEndA hEndB hHid hHid2 bP bS b1 b2 b3 q1 q2 q3 q4 q5 q6 q7 z6 z7 hBW hLE hGR HB5 HO5
      go_wp2
      go_meet
      case rel => exact ⟨_, _, _, rfl, HE⟩
    · have HE := hEndB _ _ _ _ HB5 HO5 U5 (Nat.le_succ _)
      clear HK HA HT HZ hEnd hEndA hEndB hHid hHid2 bP bS b1 b2 b3 q1 q2 q3 q4 q5 q6 q7 z6 z7 hBW hLE hGR HB5 HO5 U5 p6 p7 z5
      go_wp2
      go_meet
      case rel => exact ⟨_, _, _, rfl, HE⟩
    · have HE := hEndB _ _ _ _ HB5 HO5 U5 (Nat.le_refl _)
      clear HK HA HT HZ hEnd hEndA hEndB hHid hHid2 bP bS b1 b2 b3 q1 q2 q3 q4 q5 q6 q7 z6 z7 hBW hLE hGR HB5 HO5 U5 p6 p7 z5
      go_wp2
      go_meet
      case rel => exact ⟨_, _, _, rfl, HE⟩
  case rest =>
    obtain ⟨C, x', c', rfl, HD⟩ := hcut
    have D := HD.out
    clear HK HA HT HZ HB3 hZ HD
    obtain ⟨i1, i2, i3⟩ := three_cells D.b0
    obtain ⟨r1, r2⟩ := two_cells_of D.b2
    obtain ⟨s1, s2⟩ := two_cells_of D.c
    have fR := fun j => frozen_of_row wc (G + 1 + 1) j _ _ D.b2
    have fC := fun j => frozen_of_row wc C j _ _ D.c
    have hlo := D.lo
    have hCR : C ≠ G + 1 + 1 := by omega
    have hOut : ∀ (W : World) (ac : Int) (l : List Int), Below w.heap.size w W → W.heap[G + 1 + 1]? = some (.cells #[.int .i64 0, .slice none 0 0] 98 (0, 0)) → OwnI W w.heap.size (.slice x' n c') l → Hid (((W.setCell ⟨G + 1 + 1, 0, none⟩ (.int .i64 ac)).setCell ⟨G + 1 + 1, 1, none⟩ (.slice x' n c')).heap[G + 1 + 1]? = some (.cells #[.int .i64 ac, .slice x' n c'] 98 (0, 0)) ∧ OwnI ((W.setCell ⟨G + 1 + 1, 0, none⟩ (.int .i64 ac)).setCell ⟨G + 1 + 1, 1, none⟩ (.slice x' n c')) w.heap.size (.slice x' n c') l ∧ Below w.heap.size w ((W.setCell ⟨G + 1 + 1, 0, none⟩ (.int .i64 ac)).setCell ⟨G + 1 + 1, 1, none⟩ (.slice x' n c'))) := fun W ac l hB hR hO => by
      have k0 := heap_setCell_same W (G + 1 + 1) 0 _ _ (.int .i64 ac) hR
      have k1 := heap_setCell_same _ (G + 1 + 1) 1 _ _ (.slice x' n c') k0
      have ne := apart16 hO hR (by decide)
      have q : ∀ (W : World) (j : Nat) (u : Value), Below w.heap.size w W → Below w.heap.size w (W.setCell ⟨G + 1 + 1, j, none⟩ u) := fun W j u h => h.setCell (p := ⟨G + 1 + 1, j, none⟩) (by show _ ≤ G + 1 + 1; omega) u
      exact ⟨k1, far16 (far16 hO ne) ne, q _ _ _ (q _ _ _ hB)⟩
    by_cases hg : givesB OP = true
    · have eR : R = ⟨1, s.regs⟩ := by rw [HE.out, if_pos hg]
      have hRA : RA = 1 := by rw [← HR.out.1, eR]
      have hRR : RR = s.regs := by rw [← HR.out.2, eR]
      subst hRA hRR
      have d1 := heap_setCell_same wc C 0 _ _ (.int .i64 1) D.c
      have d2 : (wc.setCell ⟨C, 0, none⟩ (.int .i64 1)).heap[G + 1 + 1]? = some (.cells #[.int .i64 0, .slice none 0 0] 98 (0, 0)) := by
        rw [heap_setCell_other _ _ _ _ (by show G + 1 + 1 ≠ C; omega)]
        exact D.b2
      have d3 : OwnI (wc.setCell ⟨C, 0, none⟩ (.int .i64 1)) w.heap.size (.slice x' n c') s.regs := far16 D.own (apart16 D.own D.c (by decide))
      have d4 : Below w.heap.size w (wc.setCell ⟨C, 0, none⟩ (.int .i64 1)) := D.bel.setCell (p := ⟨C, 0, none⟩) (by show _ ≤ C; omega) _
      have HO := hOut _ 1 s.regs d4 d2 d3
      obtain ⟨y1, y2⟩ := two_cells_of d1
      obtain ⟨z1, z2⟩ := two_cells_of HO.out.1
      have fR2 := fun j => frozen_of_row _ (G + 1 + 1) j _ _ d2
      obtain ⟨p1, p2⟩ := two_cells_of d2
      obtain ⟨WC, hWC⟩ : ∃ W, wc.setCell ⟨C, 0, none⟩ (.int .i64 1) = W := ⟨_, rfl⟩
      rw [hWC] at y1 y2 z1 z2 fR2 HO p1 p2
      have hop : OP = 1 ∨ OP = 2 ∨ OP = 5 ∨ OP = 7 ∨ OP = 9 ∨ OP = 10 ∨ OP = 11 ∨ OP = 15 ∨ OP = 16 := by unfold givesB at hg; exact of_decide_eq_true hg
      clear d1 d2 d3 d4 D hOut hg HE HR eR hin
      rcases hop with rfl | rfl | rfl | rfl | rfl | rfl | rfl | rfl | rfl
      all_goals
        go_upto_region 17 with fail
        try simp only [hWC]
        clear hWC
        go_wp2
        refine bodyPost_ret (by simp [results, Try.results70, go_sem, z1, z2]; try rfl) rfl ?_
        exact ⟨_, rfl, HO.out.2.1, HO.out.2.2⟩
    by_cases h3 : OP = 3
    · subst h3
      have hin' := hin (by decide)
      unfold regIn inB at hin'
      rw [HN.out] at hin'
      simp only [Bool.and_eq_true, decide_eq_true_eq] at hin'
      obtain ⟨K, rfl⟩ : ∃ K : Nat, IA = (K : Int) := ⟨IA.toNat, by omega⟩
      have eR : R = ⟨AC, s.regs.set K 1⟩ := by rw [HE.out, if_neg (by decide), if_pos rfl, Int.toNat_natCast]
      have hRA : RA = AC := by rw [← HR.out.1, eR]
      have hRR : RR = s.regs.set K 1 := by rw [← HR.out.2, eR]
      subst hRA hRR
      obtain ⟨_, _, e3, _, hg3⟩ := D.own.opened
      obtain ⟨g, hx'⟩ := hg3 (by rw [HN.out]; omega)
      injection e3 with e3 e4 e5
      subst e3 hx'
      try clear e4
      try clear e5
      have hK : (K : Int) < (n : Int) := by omega
      have hK0 : (0 : Int) ≤ (K : Int) := by omega
      have hgC : g ≠ C := fun e => apart16 D.own D.c (by decide) (by show some g = some C; rw [e])
      have hgR : g ≠ G + 1 + 1 := fun e => apart16 D.own D.b2 (by decide) (by show some g = some (G + 1 + 1); rw [e])
      obtain ⟨⟨u, hu⟩, hfz⟩ := row_cell (by have h := D.own; unfold OwnI at h; rw [HN.out] at h; exact h) K (by omega)
      have hgl : w.heap.size ≤ g := by
        obtain ⟨_, ⟨h0, _⟩ | ⟨g2, _, _, h0, h1, _⟩⟩ := D.own
        · cases h0
        · injection h0 with h0 _ _
          injection h0 with h0
          injection h0 with h0
          omega
      have d1 : (wc.setCell ⟨g, K, none⟩ (.int .i64 1)).heap[C]? = some (.cells #[.int .i64 RA, .slice (some ⟨g, 0, none⟩) n c'] 98 (0, 0)) := by
        rw [heap_setCell_other _ _ _ _ (by show C ≠ g; exact hgC.symm)]
        exact D.c
      have d2 : (wc.setCell ⟨g, K, none⟩ (.int .i64 1)).heap[G + 1 + 1]? = some (.cells #[.int .i64 0, .slice none 0 0] 98 (0, 0)) := by
        rw [heap_setCell_other _ _ _ _ (by show G + 1 + 1 ≠ g; exact hgR.symm)]
        exact D.b2
      have d3 := D.own.put K 1
      have d4 : Below w.heap.size w (wc.setCell ⟨g, K, none⟩ (.int .i64 1)) := D.bel.setCell (p := ⟨g, K, none⟩) hgl _
      have HO := hOut _ RA (s.regs.set K 1) d4 d2 d3
      obtain ⟨y1, y2⟩ := two_cells_of d1
      obtain ⟨z1, z2⟩ := two_cells_of HO.out.1
      have fR2 := fun j => frozen_of_row _ (G + 1 + 1) j _ _ d2
      obtain ⟨p1, p2⟩ := two_cells_of d2
      obtain ⟨WC, hWC⟩ : ∃ W, wc.setCell ⟨g, K, none⟩ (.int .i64 1) = W := ⟨_, rfl⟩
      rw [hWC] at y1 y2 z1 z2 fR2 HO p1 p2
      obtain ⟨_, q2⟩ := three_cells (by have h := D.b0; exact h)
      clear d1 d2 d3 d4 D hOut hg HE HR eR hin hin' q2
      go_upto_region 17 with fail
      try simp only [hWC]
      clear hWC
      go_wp2
      refine bodyPost_ret (by simp [results, Try.results70, go_sem, z1, z2]; try rfl) rfl ?_
      exact ⟨_, rfl, HO.out.2.1, HO.out.2.2⟩
    by_cases h4 : OP = 4
    · subst h4
      have hin' := hin (by decide)
      unfold regIn inB at hin'
      rw [HN.out] at hin'
      simp only [Bool.and_eq_true, decide_eq_true_eq] at hin'
      obtain ⟨K, rfl⟩ : ∃ K : Nat, IA = (K : Int) := ⟨IA.toNat, by omega⟩
      have eR : R = ⟨AC, s.regs.set K 2⟩ := by rw [HE.out, if_neg (by decide), if_neg (by decide), if_pos rfl, Int.toNat_natCast]
      have hRA : RA = AC := by rw [← HR.out.1, eR]
      have hRR : RR = s.regs.set K 2 := by rw [← HR.out.2, eR]
      subst hRA hRR
      obtain ⟨_, _, e3, _, hg3⟩ := D.own.opened
      obtain ⟨g, hx'⟩ := hg3 (by rw [HN.out]; omega)
      injection e3 with e3 e4 e5
      subst e3 hx'
      try clear e4
      try clear e5
      have hK : (K : Int) < (n : Int) := by omega
      have hK0 : (0 : Int) ≤ (K : Int) := by omega
      have hgC : g ≠ C := fun e => apart16 D.own D.c (by decide) (by show some g = some C; rw [e])
      have hgR : g ≠ G + 1 + 1 := fun e => apart16 D.own D.b2 (by decide) (by show some g = some (G + 1 + 1); rw [e])
      obtain ⟨⟨u, hu⟩, hfz⟩ := row_cell (by have h := D.own; unfold OwnI at h; rw [HN.out] at h; exact h) K (by omega)
      have hgl : w.heap.size ≤ g := by
        obtain ⟨_, ⟨h0, _⟩ | ⟨g2, _, _, h0, h1, _⟩⟩ := D.own
        · cases h0
        · injection h0 with h0 _ _
          injection h0 with h0
          injection h0 with h0
          omega
      have d1 : (wc.setCell ⟨g, K, none⟩ (.int .i64 2)).heap[C]? = some (.cells #[.int .i64 RA, .slice (some ⟨g, 0, none⟩) n c'] 98 (0, 0)) := by
        rw [heap_setCell_other _ _ _ _ (by show C ≠ g; exact hgC.symm)]
        exact D.c
      have d2 : (wc.setCell ⟨g, K, none⟩ (.int .i64 2)).heap[G + 1 + 1]? = some (.cells #[.int .i64 0, .slice none 0 0] 98 (0, 0)) := by
        rw [heap_setCell_other _ _ _ _ (by show G + 1 + 1 ≠ g; exact hgR.symm)]
        exact D.b2
      have d3 := D.own.put K 2
      have d4 : Below w.heap.size w (wc.setCell ⟨g, K, none⟩ (.int .i64 2)) := D.bel.setCell (p := ⟨g, K, none⟩) hgl _
      have HO := hOut _ RA (s.regs.set K 2) d4 d2 d3
      obtain ⟨y1, y2⟩ := two_cells_of d1
      obtain ⟨z1, z2⟩ := two_cells_of HO.out.1
      have fR2 := fun j => frozen_of_row _ (G + 1 + 1) j _ _ d2
      obtain ⟨p1, p2⟩ := two_cells_of d2
      obtain ⟨WC, hWC⟩ : ∃ W, wc.setCell ⟨g, K, none⟩ (.int .i64 2) = W := ⟨_, rfl⟩
      rw [hWC] at y1 y2 z1 z2 fR2 HO p1 p2
      obtain ⟨_, q2⟩ := three_cells (by have h := D.b0; exact h)
      clear d1 d2 d3 d4 D hOut hg HE HR eR hin hin' q2
      go_upto_region 17 with fail
      try simp only [hWC]
      clear hWC
      go_wp2
      refine bodyPost_ret (by simp [results, Try.results70, go_sem, z1, z2]; try rfl) rfl ?_
      exact ⟨_, rfl, HO.out.2.1, HO.out.2.2⟩
    have eR : R = ⟨AC, s.regs⟩ := by rw [HE.out, if_neg hg, if_neg h3, if_neg h4]
    have hRA : RA = AC := by rw [← HR.out.1, eR]
    have hRR : RR = s.regs := by rw [← HR.out.2, eR]
    subst hRA hRR
    have HO := hOut _ RA s.regs D.bel D.b2 D.own
    obtain ⟨z1, z2⟩ := two_cells_of HO.out.1
    have hng : ¬ (OP = 1 ∨ OP = 2 ∨ OP = 5 ∨ OP = 7 ∨ OP = 9 ∨ OP = 10 ∨ OP = 11 ∨ OP = 15 ∨ OP = 16) := fun h => hg (by unfold givesB; exact decide_eq_true h)
    have w1 : (OP == 1) = false := by rw [beq_eq_false_iff_ne]; omega
    have w2 : (OP == 2) = false := by rw [beq_eq_false_iff_ne]; omega
    have w3 : (OP == 3) = false := by rw [beq_eq_false_iff_ne]; omega
    have w4 : (OP == 4) = false := by rw [beq_eq_false_iff_ne]; omega
    have w5 : (OP == 5) = false := by rw [beq_eq_false_iff_ne]; omega
    have w7 : (OP == 7) = false := by rw [beq_eq_false_iff_ne]; omega
    have w9 : (OP == 9) = false := by rw [beq_eq_false_iff_ne]; omega
    have w10 : (OP == 10) = false := by rw [beq_eq_false_iff_ne]; omega
    have w11 : (OP == 11) = false := by rw [beq_eq_false_iff_ne]; omega
    have w15 : (OP == 15) = false := by rw [beq_eq_false_iff_ne]; omega
    have w16 : (OP == 16) = false := by rw [beq_eq_false_iff_ne]; omega
    clear D hOut hg HE HR eR hin hng h3 h4
    go_wp2
    refine bodyPost_ret (by simp [results, Try.results70, go_sem, z1, z2]; try rfl) rfl ?_
    exact ⟨_, rfl, HO.out.2.1, HO.out.2.2⟩
end Go.Proofs.Ytbgdapdenbldmaa
