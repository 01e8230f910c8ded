/-
  The specification's States.
-/
import Derived.Test.YtbgdapdenbldmaaVer16V
import Derived.Test.YtbgdapdenbldmaaBoolS16
namespace Go.Proofs.Ytbgdapdenbldmaa
open Go.RowKit Go.Sort
set_option linter.unusedVariables false

/-- states are read at a slice -/
def ArgStas (w : World) (v : Value) (l : List PSta) : Prop := ∃ x c, v = .slice x l.length c ∧ l.length ≤ maxLen ∧ (0 < l.length → ∃ b o, x = some ⟨b, o, none⟩ ∧ b < w.heap.size ∧ ∀ (j : Nat) (s : PSta), l[j]? = some s → ∃ rv, w.cell? ⟨b, o + j * 2, none⟩ = some (.int .i64 s.acc) ∧ w.cell? ⟨b, o + j * 2 + 1, none⟩ = some rv ∧ ArgI w rv s.regs)

theorem ArgStas.below {w w' : World} {v : Value} {l : List PSta} (h : ArgStas w v l) (hb : Below w.heap.size w w') : ArgStas w' v l := by
  obtain ⟨x, c, e, hm, hc⟩ := h
  refine ⟨x, c, e, hm, fun h0 => ?_⟩
  obtain ⟨b, o, e1, h1, h2⟩ := hc h0
  refine ⟨b, o, e1, Nat.lt_of_lt_of_le h1 hb.size, fun j s hj => ?_⟩
  obtain ⟨rv, a1, a2, a3⟩ := h2 j s hj
  exact ⟨rv, (hb.cell (p := ⟨b, _, none⟩) h1).trans a1, (hb.cell (p := ⟨b, _, none⟩) h1).trans a2, a3.below hb⟩

/-- are there states of a function? -/
def stB (p : PImg) (k : Int) : Bool := imgOk p && (inB k 0 ((p.funcs.length : Int) - 1) && (match p.funcs[k.toNat]? with | some f => letB p f | none => false))

/-- what States answers -/
def StaRes (p : PImg) (k : Int) (bb : Bool) (lv hv : Value) (w w' : World) : Prop :=
  Below w.heap.size w w' ∧ (bb = false → ArgStas w' lv [] ∧ ArgBo w' hv []) ∧ (bb = true → ∃ (K : Nat) (f : PFun) (r : RunP), k = (K : Int) ∧ p.funcs[K]? = some f ∧ RunInv p f r ∧ r.todo = [] ∧ r.bad = false ∧ ArgStas w' lv r.list ∧ ArgBo w' hv r.hit)

/-- an element appended, in a region that draws its order -/
theorem step_append16 {P : Program} {w : World} {ops : Array Oper} {o : Oper} {a : Act} {K : Act → World → Prop} {Q : Exit → Act → World → Prop} {E : Prop} (hgd : o.guard = none) (s x : Operand) (t : TypeId)
    (ho : o.op = .call { callee := .builtin .append, args := #[s, x], argTypes := #[t, t] })
    (base : Nat) (e : TypeId) (i : TypeInfo) (z : Value) (size bytes : Nat) (ht : P.underlying t = some (.slice e)) (hi : P.info? e = some i) (hz : i.zero = some z)
    (hsize : i.size = size) (hby : i.bytes = bytes) (hzs : z.cells.size = size) (hsz : 0 < size) (hb64 : bytes ≤ 128)
    (v : Value) (n : Nat) (xs : List Value) (hs : a.eval s = v) (hown : w.ownsRow base e size v n xs)
    (cs : Array Value) (hcs : cs.toList.length = size) (h1 : ∀ u ∈ cs.toList, u.oneCell' = true) (hx : a.eval x = .slice (some ⟨w.heap.size, 0, none⟩) 1 1) (d : Option Tmp) (hd : o.dst = d)
    (hn : n < 1000000000) (hbase : base ≤ w.heap.size)
    (h : ∀ v' w', w'.ownsRow base e size v' (n + 1) (xs ++ cs.toList) → (w.alloc (.cells cs e)).grownBy w' v.ownBlock → K (a.put d v') w') :
    if Region.wanted o (yielded ops a.tmps) = true then Oper.wp P o a (w.alloc (.cells cs e)) K Q else E := by
  subst hd
  have hw : Region.wanted o (yielded ops a.tmps) = true := by simp [Region.wanted, hgd]
  rw [if_pos hw]
  have hal : (w.alloc (.cells cs e)).heap.size = w.heap.size + 1 := by simp
  have hbn : (n + 1) * bytes ≤ 1000000000 * 128 := Nat.mul_le_mul (by omega) hb64
  obtain ⟨v', w', hr, h2, h3, _, _⟩ := run_append_own_at (P := P) (w.alloc (.cells cs e)) base t o.type e i z size bytes ht hi hz hsize hby hzs hsz v n xs (hown.alloc _) ⟨w.heap.size, 0, none⟩ 1 1 cs.toList (by rw [hcs, Nat.one_mul]) (fun j u hj => by
    have hadd : (⟨w.heap.size, 0, none⟩ : Addr).add j = ⟨w.heap.size, j, none⟩ := by unfold Addr.add; split <;> simp_all
    rw [hadd, cell_of_row _ _ j _ _ _ (heap_alloc_new w (.cells cs e))]
    simpa using hj) h1 (by unfold maxLen; omega) (by omega) (by rw [hal]; omega)
  unfold Oper.wp execOp
  simp only [ho, resolve, invoke, builtin, Sem.run_bind, Sem.run_pure, Result.andThen_ok, List.map_toArray, List.map_cons, List.map_nil, hs, hx, hr]
  exact h v' w' h2 h3

/-- states that are copied so far -/
structure OutAt (w5 wr : World) (B k : Nat) (ov : Value) (xs : List Value) (r : RunP) : Prop where
  own : wr.ownsRow B 98 2 ov k xs
  sts : ∀ (q : Nat) (s : PSta), q < k → r.list[q]? = some s → ∃ rv, xs[q * 2]? = some (.int .i64 s.acc) ∧ xs[q * 2 + 1]? = some rv ∧ OwnI wr B rv s.regs
  bel : Below w5.heap.size w5 wr

theorem OutAt.arg {w5 wr : World} {B n : Nat} {ov : Value} {xs : List Value} {r : RunP} (h : OutAt w5 wr B n ov xs r) (hl : r.list.length = n) : ArgStas wr ov r.list := by
  obtain ⟨x, c, e⟩ := row_slice h.own
  have hm : n ≤ maxLen := by
    obtain ⟨_, ⟨_, h0⟩ | ⟨g, cap, cur, _, _, _, h1, h2, _⟩⟩ := h.own
    · omega
    · omega
  refine ⟨x, c, by rw [hl]; exact e, by rw [hl]; exact hm, fun h0 => ?_⟩
  obtain ⟨hlen, ⟨_, h1⟩ | ⟨g, cap, cur, e1, hB, hg, hnc, hcm, hsz, htk⟩⟩ := h.own
  · omega
  · rw [e1] at e
    injection e with e _ _
    refine ⟨g, 0, e.symm, lt16 hg, fun j s hj => ?_⟩
    have hjn : j < n := by have := (List.getElem?_eq_some_iff.1 hj).1; omega
    obtain ⟨rv, a1, a2, a3⟩ := h.sts j s hjn hj
    have hc : ∀ q u, xs[q]? = some u → wr.cell? ⟨g, 0 + q, none⟩ = some u := fun q u hq => by
      have := h.own.cells (g := g) (by rw [e1]; rfl) q u hq
      have hadd : (⟨g, 0, none⟩ : Addr).add q = ⟨g, 0 + q, none⟩ := by unfold Addr.add; split <;> simp_all
      rw [hadd] at this
      exact this
    exact ⟨rv, by rw [Nat.zero_add]; have := hc _ _ a1; rwa [Nat.zero_add] at this, by rw [Nat.zero_add]; have := hc _ _ a2; rwa [Nat.zero_add] at this, a3.arg⟩

/-- one state more -/
theorem OutAt.more {w5 wr w6 w7 : World} {B k : Nat} {ov ov' rv : Value} {xs : List Value} {r : RunP} {s : PSta} (h : OutAt w5 wr B k ov xs r) (hs : r.list[k]? = some s) (hb6 : Below wr.heap.size wr w6) (ho6 : OwnI w6 wr.heap.size rv s.regs) (hw5 : w5.heap.size ≤ B) (hBr : B ≤ wr.heap.size)
    (hg : (w6.alloc (.cells #[.int .i64 s.acc, rv] 98)).grownBy w7 ov.ownBlock) (ho7 : w7.ownsRow B 98 2 ov' (k + 1) (xs ++ [.int .i64 s.acc, rv])) : OutAt w5 w7 B (k + 1) ov' (xs ++ [.int .i64 s.acc, rv]) r := by
  have bA : Below w6.heap.size w6 (w6.alloc (.cells #[.int .i64 s.acc, rv] 98)) := (Below.refl _ _).alloc (Nat.le_refl _) _
  have b67 := chain hb6 bA
  have hxl : xs.length = k * 2 := h.own.1
  have keep : ∀ (v : Value) (l : List Int), OwnI (w6.alloc (.cells #[.int .i64 s.acc, rv] 98)) B v l → OwnI w7 B v l := fun v l hv => by
    refine hv.kept hg ?_
    obtain ⟨_, ⟨h1, _⟩ | ⟨g, cap, cur, h1, _, hgg, _⟩⟩ := hv
    · left; rw [h1]; rfl
    · right
      rw [h1]
      intro e
      obtain ⟨_, ⟨h2, _⟩ | ⟨g2, cap2, cur2, h2, _, hg2, _⟩⟩ := row_keep h.own b67
      · rw [h2] at e; cases e
      · rw [h2] at e
        have e3 : g = g2 := Option.some.inj e
        rw [e3, hg2] at hgg
        injection hgg with hgg
        injection hgg with _ hgg
        exact absurd hgg (by decide)
  refine ⟨ho7, fun q t hq ht => ?_, ?_⟩
  · by_cases e : q = k
    · subst e
      rw [hs] at ht
      injection ht with ht
      subst ht
      refine ⟨rv, ?_, ?_, keep _ _ (row_low (ho6.below bA) hBr)⟩
      · rw [List.getElem?_append_right (by omega), show q * 2 - xs.length = 0 by omega]; rfl
      · rw [List.getElem?_append_right (by omega), show q * 2 + 1 - xs.length = 1 by omega]; rfl
    · obtain ⟨rv2, a1, a2, a3⟩ := h.sts q t (by omega) ht
      refine ⟨rv2, ?_, ?_, keep _ _ (a3.below b67)⟩
      · rw [List.getElem?_append_left (by omega)]; exact a1
      · rw [List.getElem?_append_left (by omega)]; exact a2
  · have h1 : Below w5.heap.size w5 (w6.alloc (.cells #[.int .i64 s.acc, rv] 98)) := chain h.bel b67
    refine ⟨hg.os.trans h1.os, hg.tape.trans h1.tape, hg.output.trans h1.output, Nat.le_trans h1.size hg.size, fun j hj => (hg.block j (Nat.lt_of_lt_of_le hj h1.size) (fun e => ?_)).trans (h1.block j hj)⟩
    obtain ⟨_, ⟨h2, _⟩ | ⟨g2, cap2, cur2, h2, hB2, _⟩⟩ := h.own
    · rw [h2] at e; cases e
    · rw [h2] at e
      have e3 : j = g2 := Option.some.inj e
      omega

end Go.Proofs.Ytbgdapdenbldmaa
