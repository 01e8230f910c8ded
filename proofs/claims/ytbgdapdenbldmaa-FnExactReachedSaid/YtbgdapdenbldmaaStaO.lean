/-
  States that one owns, as both sides' States give them; what both answer is one.
-/
import Derived.Test.YtbgdapdenbldmaaIStaA
import Derived.Test.YtbgdapdenbldmaaVer16K
import Derived.Test.YtbgdapdenbldmaaVer16JW
namespace Go.Proofs.Ytbgdapdenbldmaa
open Go.RowKit Go.Sort
set_option linter.unusedVariables false

/-- states of one's own -/
def OwnSt (w : World) (B : Nat) (v : Value) (l : List PSta) : Prop := (v = .slice none 0 0 ∧ l = []) ∨ ∃ (g : Nat) (rv : Nat → Value) (st : Nat → PSta), v = .slice (some ⟨g, 0, none⟩) l.length l.length ∧ B ≤ g ∧ StM w B g l.length rv st ∧ l.length ≤ 300 ∧ ∀ q s, l[q]? = some s → st q = s

theorem OwnSt.below {w w' : World} {B : Nat} {v : Value} {l : List PSta} (h : OwnSt w B v l) (hb : Below w.heap.size w w') : OwnSt w' B v l := by
  rcases h with h | ⟨g, rv, st, e, hB, hS, hl, hs⟩
  · exact .inl h
  · obtain ⟨cur, h1, h2, h3⟩ := hS.row
    exact .inr ⟨g, rv, st, e, hB, ⟨⟨cur, (hb.block g (lt16 h1)).trans h1, h2, h3⟩, fun q hq => (hS.regs q hq).below hb, hS.apart⟩, hl, hs⟩

theorem OwnSt.arg {w : World} {B : Nat} {v : Value} {l : List PSta} (h : OwnSt w B v l) : ArgStas w v l := by
  rcases h with ⟨rfl, rfl⟩ | ⟨g, rv, st, e, hB, hS, hl, hs⟩
  · exact argStas_nil w none
  · obtain ⟨cur, h1, h2, h3⟩ := hS.row
    refine ⟨_, _, e, by unfold maxLen; omega, fun h0 => ⟨g, 0, rfl, lt16 h1, fun j s hj => ?_⟩⟩
    have hjl : j < l.length := (List.getElem?_eq_some_iff.1 hj).1
    obtain ⟨k1, k2⟩ := h3 j hjl
    have hR := hS.regs j hjl
    rw [hs j s hj] at k1 hR
    exact ⟨rv j, by rw [Nat.zero_add, cell_of_row _ _ _ _ _ _ h1]; exact k1, by rw [Nat.zero_add, cell_of_row _ _ _ _ _ _ h1]; exact k2, hR.arg⟩

/-- how many registers each has -/
def lensOf (l : List PSta) : List Nat := l.map fun s => s.regs.length

theorem nsOf_lens {l : List PSta} {st : Nat → PSta} (hs : ∀ q s, l[q]? = some s → st q = s) : nsOf l.length st = lensOf l := by
  apply List.ext_getElem?
  intro q
  unfold nsOf lensOf
  rw [List.getElem?_map, List.getElem?_map]
  by_cases hq : q < l.length
  · rw [List.getElem?_range hq, List.getElem?_eq_getElem hq]
    simp only [Option.map_some]
    rw [hs q _ (List.getElem?_eq_getElem hq)]
  · rw [List.getElem?_eq_none (by simp; omega), List.getElem?_eq_none (by omega)]
    rfl

theorem mkN_take_le : ∀ (ns : List Nat) (j : Nat), mkN (ns.take j) ≤ mkN ns
  | [], j => by simp
  | a :: l, 0 => by simp [mkN]
  | a :: l, j + 1 => by
    simp only [List.take_succ_cons, mkN]
    have := mkN_take_le l j
    omega

theorem mkN_le {ns : List Nat} {m : Nat} (h : ∀ x ∈ ns, x ≤ m) : mkN ns ≤ (1 + m) * ns.length := by
  induction ns with
  | nil => simp [mkN]
  | cons a l ih =>
    have h1 := h a (by simp)
    have h2 := ih (fun x hx => h x (by simp [hx]))
    simp only [mkN, List.length_cons, Nat.mul_add, Nat.mul_one]
    omega

/-- what a mark leaves as it was -/
structure StKeep (B : Nat) (w w' : World) : Prop where
  bel : Below B w w'
  size : w.heap.size ≤ w'.heap.size
  bools : ∀ (B' : Nat) (u : Value) (l : List Bool), OwnBo w B' u l → OwnBo w' B' u l

theorem row_ne_type {w : World} {B k n g : Nat} {e t : TypeId} {v : Value} {xs : List Value} {cs : Array Value} (h : w.ownsRow B e k v n xs) (hg : w.heap[g]? = some (.cells cs t (0, 0))) (ht : t ≠ e) : v.ownBlock ≠ some g := by
  obtain ⟨_, ⟨rfl, _⟩ | ⟨g2, cap, cur, rfl, _, h2, _⟩⟩ := h
  · simp [Value.ownBlock]
  · intro e1
    simp [Value.ownBlock] at e1
    subst e1
    rw [h2] at hg
    injection hg with hg
    injection hg with _ hg
    exact ht hg.symm

/-- what States answers: the lists -/
def IsRes (p : PImg) (k : Int) (L : List PSta) (Hh : List Bool) : Prop := (stB p k = false ∧ L = [] ∧ Hh = []) ∨ (stB p k = true ∧ ∃ (K : Nat) (f : PFun) (r : RunP), k = (K : Int) ∧ p.funcs[K]? = some f ∧ RunInv p f r ∧ r.todo = [] ∧ r.bad = false ∧ L = r.list ∧ Hh = r.hit)

theorem IsRes.one {p : PImg} {k : Int} {L L' : List PSta} {H H' : List Bool} (h : IsRes p k L H) (h' : IsRes p k L' H') : L = L' ∧ H = H' := by
  rcases h with ⟨hb, rfl, rfl⟩ | ⟨hb, K, f, r, e1, e2, I, t, b, rfl, rfl⟩
  · rcases h' with ⟨_, rfl, rfl⟩ | ⟨hb', _⟩
    · exact ⟨rfl, rfl⟩
    · rw [hb] at hb'; cases hb'
  · rcases h' with ⟨hb', _⟩ | ⟨_, K', f', r', e1', e2', I', t', b', rfl, rfl⟩
    · rw [hb] at hb'; cases hb'
    · have eK : K = K' := by omega
      subst eK
      rw [e2] at e2'
      injection e2' with ef
      subst ef
      exact run_same I t b I' t' b'

theorem stB_ok {p : PImg} {k : Int} (h : stB p k = true) : imgOk p = true := by
  unfold stB at h
  rw [Bool.and_eq_true] at h
  exact h.1

theorem IsRes.few {p : PImg} {k : Int} {L : List PSta} {H : List Bool} (h : IsRes p k L H) : L.length ≤ 300 ∧ H.length ≤ 300 ∧ ∀ s ∈ L, s.regs.length ≤ 1000 := by
  rcases h with ⟨_, rfl, rfl⟩ | ⟨hb, K, f, r, e1, e2, I, t, b, rfl, rfl⟩
  · exact ⟨by simp, by simp, fun s hs => by cases hs⟩
  · have hf := (imgOk_le (stB_ok hb)).funsOk f (List.mem_of_getElem? e2)
    have hl := funOk_le hf
    have h1 := hl.code
    have h2 := hl.regs
    have h3 := hl.params
    refine ⟨by rw [I.ok.len]; omega, by rw [I.ok.hlen]; omega, fun s hs => ?_⟩
    obtain ⟨q, hq⟩ := List.mem_iff_getElem?.1 hs
    by_cases hh : r.hit[q]? = some true
    · have := I.ok.regs q s (fam_of hh hq)
      omega
    · have := I.ok.zero q s hq hh
      rw [this]
      simp

theorem StaRes.lists {p : PImg} {k : Int} {lv hv : Value} {w w' : World} (h : StaRes p k (stB p k) lv hv w w') : ∃ L H, IsRes p k L H ∧ ArgStas w' lv L ∧ ArgBo w' hv H := by
  obtain ⟨hb, h1, h2⟩ := h
  cases e : stB p k with
  | false =>
    obtain ⟨a, b⟩ := h1 e
    exact ⟨[], [], .inl ⟨e, rfl, rfl⟩, a, b⟩
  | true =>
    obtain ⟨K, f, r, e1, e2, I, t, bb, a, b⟩ := h2 e
    exact ⟨r.list, r.hit, .inr ⟨e, K, f, r, e1, e2, I, t, bb, rfl, rfl⟩, a, b⟩

theorem ISta.lists {p : PImg} {k : Int} {lv hv : Value} {w w' : World} {L : List PSta} {H : List Bool} (hr : IsRes p k L H) (h : ISta p k (stB p k) lv hv w w') : OwnSt w' w.heap.size lv L ∧ OwnBo w' w.heap.size hv H := by
  obtain ⟨hb, h1, h2⟩ := h
  cases e : stB p k with
  | false =>
    obtain ⟨rfl, rfl⟩ := h1 e
    obtain ⟨rfl, rfl⟩ := hr.one (.inl ⟨e, rfl, rfl⟩)
    exact ⟨.inl ⟨rfl, rfl⟩, World.ownsRow_nil _ _ _ _⟩
  | true =>
    obtain ⟨K, f, r, g, hh, n, rv, st, e1, e2, I, t, bb, l1, l2, l3, hs, rfl, rfl, hg, hS, hB⟩ := h2 e
    obtain ⟨rfl, rfl⟩ := hr.one (.inr ⟨e, K, f, r, e1, e2, I, t, bb, rfl, rfl⟩)
    exact ⟨.inr ⟨g, rv, st, by rw [l1], hg, by rw [l1]; exact hS, by rw [l1]; exact l3, hs⟩, hB⟩

end Go.Proofs.Ytbgdapdenbldmaa
