/-
  Part 10 of what is proved of drawn right trees.
-/
import Derived.Test.YtbgdapdenbldmaaPaf
import Derived.Test.YtbgdapdenbldmaaPad
import Derived.Test.YtbgdapdenbldmaaPai
import Derived.Lib.MinMax
import Derived.Shelf.Small.Bits
import Derived.Shelf.Strconv.Itoa0
import Derived.Shelf.Slices.Equal
import Derived.Shelf.Slices.Empties2
import Derived.Test.YtbgdapdenbldmaaProg
import Derived.Lib.LazyBuf

namespace Go.Proofs.Ytbgdapdenbldmaa
set_option linter.unusedVariables false
structure SameR (r r' : RunP) : Prop where
  list : r'.list = r.list
  hit : r'.hit = r.hit
  bad : r'.bad = r.bad
  todo : ∀ q, q ∈ r'.todo ↔ q ∈ r.todo
  len : r'.todo.length ≤ r.todo.length
theorem SameR.refl (r : RunP) : SameR r r := ⟨rfl, rfl, rfl, fun _ => Iff.rfl, Nat.le_refl _⟩
theorem SameR.fam {r r' : RunP} (h : SameR r r') : fam r' = fam r := by
  funext q
  unfold Go.Proofs.Ytbgdapdenbldmaa.fam
  rw [h.list, h.hit]
theorem SameR.ge {r r' : RunP} (h : SameR r r') {q : Nat} {s : PSta} (g : Ge r q s) : Ge r' q s := by
  unfold Ge at g ⊢
  rw [h.fam]
  exact g
theorem SameR.ok {n R : Nat} {r r' : RunP} (h : SameR r r') (k : RunOk n R r) : RunOk n R r' := by
  refine ⟨by rw [h.list]; exact k.len, by rw [h.hit]; exact k.hlen, by rw [h.fam]; exact k.regs, by rw [h.list, h.hit]; exact k.zero, fun q hq => ?_⟩
  rw [h.fam]
  exact k.todo q ((h.todo q).1 hq)
theorem SameR.inv {p : PImg} {f : PFun} {r r' : RunP} (h : SameR r r') (k : RunInv p f r) : RunInv p f r' := by
  refine ⟨h.ok k.ok, fun G hG => ?_, ?_, ?_⟩
  · rw [h.bad, h.fam]; exact k.up G hG
  · rw [h.bad]
    exact k.first.imp id h.ge
  · rw [h.bad, h.fam]
    refine k.done.imp id (fun d q t hq => ?_)
    rcases d q t hq with h1 | h1
    · exact .inl ((h.todo q).2 h1)
    · exact .inr (fun i hi => ⟨(h1 i hi).1, fun x hx => h.ge ((h1 i hi).2 x hx)⟩)
theorem SameR.less {R : Nat} {r r' : RunP} (h : SameR r r') : runM R r' ≤ runM R r := by
  unfold runM
  rw [h.list, h.hit]
  have := h.len
  omega
def putL (m : List Nat) (q : Nat) : List Nat := if q ∈ m then m else m ++ [q]
theorem putL_mem (m : List Nat) (q k : Nat) : k ∈ putL m q ↔ k ∈ m ∨ k = q := by
  unfold putL
  split
  · rename_i h
    exact ⟨.inl, fun h1 => h1.elim id (fun e => e ▸ h)⟩
  · simp
theorem putL_len (m : List Nat) (q : Nat) : (putL m q).length ≤ m.length + 1 := by
  unfold putL
  split <;> simp
theorem putL_nodup {m : List Nat} (h : m.Nodup) (q : Nat) : (putL m q).Nodup := by
  unfold putL
  split
  · exact h
  · rename_i hq
    rw [List.nodup_append]
    refine ⟨h, by simp, fun a ha b hb => ?_⟩
    simp at hb
    subst hb
    exact fun e => hq (e ▸ ha)
def flowI (r : RunP) (q : Nat) (s : PSta) : RunP :=
  match r.list[q]? with
  | none => { r with bad := true }
  | some old =>
    if r.hit[q]? = some true then
      if sameS (joinS old s) old then r else { r with list := r.list.set q (joinS old s), todo := putL r.todo q }
    else { r with list := r.list.set q s, hit := r.hit.set q true, todo := putL r.todo q }
def flowsI (r : RunP) (xs : List (Nat × PSta)) : RunP := xs.foldl (fun r x => flowI r x.1 x.2) r
theorem flowsI_app (r : RunP) (xs ys : List (Nat × PSta)) : flowsI r (xs ++ ys) = flowsI (flowsI r xs) ys := by unfold flowsI; rw [List.foldl_append]
theorem put_same {m m' : List Nat} (h : ∀ q, q ∈ m' ↔ q ∈ m) (hl : m'.length ≤ m.length) (q : Nat) : (∀ k, k ∈ putL m' q ↔ k ∈ m ++ [q]) ∧ (putL m' q).length ≤ (m ++ [q]).length := by
  refine ⟨fun k => ?_, ?_⟩
  · rw [putL_mem, h]; simp
  · have := putL_len m' q
    simp
    omega
theorem flow_same {a b : RunP} (h : SameR a b) (q : Nat) (s : PSta) : SameR (flowP a q s) (flowI b q s) := by
  unfold flowP flowI
  rw [h.list, h.hit]
  cases hq : a.list[q]? with
  | none => exact ⟨rfl, rfl, rfl, h.todo, h.len⟩
  | some old =>
    simp only
    obtain ⟨k1, k2⟩ := put_same h.todo h.len q
    split
    · split
      · exact h
      · exact ⟨rfl, rfl, h.bad, k1, k2⟩
    · exact ⟨rfl, rfl, h.bad, k1, k2⟩
theorem flows_same (xs : List (Nat × PSta)) : ∀ {a b : RunP}, SameR a b → SameR (flowsP a xs) (flowsI b xs) := by
  induction xs with
  | nil => exact fun {a b} h => h
  | cons x xs ih => exact fun {a b} h => ih (flow_same h x.1 x.2)
def restP (q : Nat) (i : PIns) (s : PSta) : List (Nat × PSta) := (if jumpsB i.op then [(i.a.toNat, aftS i s)] else []) ++ (if endsB i.op then [] else [(q + 1, aftS i s)])
def hndsP (f : PFun) (q : Nat) (s : PSta) : List (Nat × PSta) := f.hnds.filterMap (hndTo q s)
theorem nexts_split (f : PFun) (q : Nat) (i : PIns) (s : PSta) : nexts f q i s = hndsP f q s ++ restP q i s := rfl
def stepI (p : PImg) (f : PFun) (q : Nat) (i : PIns) (s : PSta) (r : RunP) : RunP :=
  match (flowsI r (hndsP f q s)).list[q]? with
  | none => flowsI r (hndsP f q s)
  | some s1 => if mayB p f i s1 then flowsI (flowsI r (hndsP f q s)) (restP q i s1) else { flowsI r (hndsP f q s) with bad := true }
structure InvH (p : PImg) (f : PFun) (q : Nat) (r : RunP) : Prop where
  ok : RunOk f.code.length f.regs.toNat r
  up : Upper p f r
  first : r.bad = true ∨ Ge r 0 (firstS f)
  done : r.bad = true ∨ ∀ k t, fam r k = some t → k = q ∨ k ∈ r.todo ∨ Closed p f r k t
theorem hole_flows {p : PImg} {f : PFun} {q : Nat} {i : PIns} {s : PSta} {r : RunP} (h : InvH p f q r) (hq : fam r q = some s) (hi : f.code[q]? = some i) (xs : List (Nat × PSta)) (hx : ∀ x ∈ xs, x ∈ nexts f q i s) :
    InvH p f q (flowsP r xs) ∧ Flowed f.regs.toNat r (flowsP r xs) ∧ ((flowsP r xs).bad = true ∨ ∀ x ∈ xs, Ge (flowsP r xs) x.1 x.2) := by
  have hl : ∀ x ∈ xs, x.2.regs.length = f.regs.toNat := fun x k => (nexts_len (hx x k)).trans (h.ok.regs q s hq)
  obtain ⟨a1, a2, a3⟩ := flows_flowed xs h.ok hl
  have hg : ∀ x ∈ xs, ∀ G, Sound p f G → ∃ u, G x.1 = some u ∧ LeS u x.2 := fun x k G hG => by
    obtain ⟨t, ht', hl⟩ := (h.up G hG).2 q s hq
    obtain ⟨y, hy, e1, hl2⟩ := nexts_le hl (hx x k)
    obtain ⟨u, hu, hl3⟩ := hG.goes q t i y ht' hi hy
    rw [e1] at hu
    exact ⟨u, hu, hl3.trans hl2⟩
  refine ⟨⟨a2, flows_upper _ h.ok h.up hl hg, ?_, ?_⟩, a1, a3⟩
  · rcases h.first with h1 | h1
    · exact .inl (a1.bad h1)
    · exact .inr (a1.ge h1)
  · rcases h.done with h1 | h1
    · exact .inl (a1.bad h1)
    · refine .inr (fun k t hk => ?_)
      rcases a1.same k t hk with h2 | h2
      · rcases h1 k t h2 with h3 | h3 | h3
        · exact .inl h3
        · exact .inr (.inl (a1.todo k h3))
        · exact .inr (.inr (fun i' hi' => ⟨(h3 i' hi').1, fun x hx => a1.ge ((h3 i' hi').2 x hx)⟩))
      · exact .inr (.inl h2)
theorem step_hole {p : PImg} {f : PFun} {r : RunP} {q : Nat} {m : List Nat} {i : PIns} {s : PSta} (h : RunInv p f r) (hb : r.bad = false) (ht : r.todo = q :: m) (hs : r.list[q]? = some s) (hi : f.code[q]? = some i) :
    ∃ s1, fam (flowsP { r with todo := m } (hndsP f q s)) q = some s1 ∧ s1.regs.length = f.regs.toNat ∧
      (mayB p f i s1 = true → RunInv p f (flowsP (flowsP { r with todo := m } (hndsP f q s)) (restP q i s1)) ∧ runM f.regs.toNat (flowsP (flowsP { r with todo := m } (hndsP f q s)) (restP q i s1)) < runM f.regs.toNat r) ∧
      (mayB p f i s1 = false → RunInv p f { flowsP { r with todo := m } (hndsP f q s) with bad := true } ∧ runM f.regs.toNat (flowsP { r with todo := m } (hndsP f q s)) < runM f.regs.toNat r) := by
  have hq : fam r q = some s := by
    obtain ⟨t, ht'⟩ := h.ok.todo q (by rw [ht]; simp)
    have e := (fam_at ht').2
    rw [hs] at e
    injection e with e
    rw [e]; exact ht'
  have ok0 : RunOk f.code.length f.regs.toNat { r with todo := m } := ⟨h.ok.len, h.ok.hlen, h.ok.regs, h.ok.zero, fun k hk => h.ok.todo k (by rw [ht]; exact List.mem_cons_of_mem _ hk)⟩
  have H0 : InvH p f q { r with todo := m } := by
    refine ⟨ok0, h.up, h.first, ?_⟩
    rcases h.done with h1 | h1
    · exact .inl h1
    · refine .inr (fun k t hk => ?_)
      rcases h1 k t hk with h2 | h2
      · rw [ht] at h2
        rcases List.mem_cons.1 h2 with h3 | h3
        · exact .inl h3
        · exact .inr (.inl h3)
      · exact .inr (.inr h2)
  have hq0 : fam { r with todo := m } q = some s := hq
  have m0 : runM f.regs.toNat { r with todo := m } < runM f.regs.toNat r := by
    unfold runM
    rw [ht]
    simp only [List.length_cons]
    omega
  obtain ⟨a1, a2, a3⟩ := hole_flows H0 hq0 hi (hndsP f q s) (fun x hx => by rw [nexts_split]; exact List.mem_append_left _ hx)
  have m1 := flows_less (hndsP f q s) ok0 (fun x hx => (nexts_len (f := f) (q := q) (i := i) (s := s) (by rw [nexts_split]; exact List.mem_append_left _ hx)).trans (ok0.regs q s hq0))
  obtain ⟨s1, hs1, l1⟩ := a2.tells q s hq0
  have r1 := a1.ok.regs q s1 hs1
  refine ⟨s1, hs1, r1, fun hm => ?_, fun hm => ?_⟩
  · obtain ⟨b1, b2, b3⟩ := hole_flows a1 hs1 hi (restP q i s1) (fun x hx => by rw [nexts_split]; exact List.mem_append_right _ hx)
    have m2 := flows_less (restP q i s1) a1.ok (fun x hx => (nexts_len (f := f) (q := q) (i := i) (s := s1) (by rw [nexts_split]; exact List.mem_append_right _ hx)).trans r1)
    refine ⟨⟨b1.ok, b1.up, b1.first, ?_⟩, Nat.lt_of_le_of_lt (Nat.le_trans m2 m1) m0⟩
    rcases b1.done with d | d
    · exact .inl d
    · rcases b3 with b3 | b3
      · exact .inl b3
      · rcases a3 with a3 | a3
        · exact .inl (b2.bad a3)
        · refine .inr (fun k t hk => ?_)
          rcases d k t hk with h3 | h3
          · subst h3
            rcases (a2.trans b2).same k t hk with h4 | h4
            · rw [hq0] at h4
              injection h4 with h4
              subst h4
              obtain ⟨u, hu, l2⟩ := b2.tells k s1 hs1
              rw [hk] at hu
              injection hu with hu
              subst hu
              have e : s1 = s := l1.antisymm l2
              subst e
              refine .inr (fun i' hi' => ?_)
              rw [hi] at hi'
              injection hi' with hi'
              subst hi'
              refine ⟨hm, fun x hx => ?_⟩
              rw [nexts_split] at hx
              rcases List.mem_append.1 hx with hx | hx
              · exact b2.ge (a3 x hx)
              · exact b3 x hx
            · exact .inl h4
          · exact h3
  · refine ⟨⟨⟨a1.ok.len, a1.ok.hlen, a1.ok.regs, a1.ok.zero, a1.ok.todo⟩, fun G hG => ?_, .inl rfl, .inl rfl⟩, Nat.lt_of_le_of_lt m1 m0⟩
    obtain ⟨u, hu, hl⟩ := (a1.up G hG).2 q s1 hs1
    have := may_le (p := p) (f := f) (i := i) hl (hG.may q u i hu hi)
    rw [hm] at this
    cases this
theorem stepI_inv {p : PImg} {f : PFun} {r : RunP} {q : Nat} {m : List Nat} {i : PIns} {s : PSta} (h : RunInv p f r) (hb : r.bad = false) (ht : r.todo = q :: m) (hs : r.list[q]? = some s) (hi : f.code[q]? = some i) :
    RunInv p f (stepI p f q i s { r with todo := m }) ∧ runM f.regs.toNat (stepI p f q i s { r with todo := m }) < runM f.regs.toNat r := by
  obtain ⟨s1, h1, _, h2, h3⟩ := step_hole h hb ht hs hi
  have S1 := flows_same (hndsP f q s) (SameR.refl { r with todo := m })
  have e1 : (flowsI { r with todo := m } (hndsP f q s)).list[q]? = some s1 := by rw [S1.list]; exact (fam_at h1).2
  unfold stepI
  rw [e1]
  simp only
  cases hm : mayB p f i s1 with
  | true =>
    obtain ⟨k1, k2⟩ := h2 hm
    have S2 := flows_same (restP q i s1) S1
    rw [if_pos rfl]
    exact ⟨S2.inv k1, Nat.lt_of_le_of_lt S2.less k2⟩
  | false =>
    obtain ⟨k1, k2⟩ := h3 hm
    rw [if_neg (by simp)]
    have S3 : SameR { flowsP { r with todo := m } (hndsP f q s) with bad := true } { flowsI { r with todo := m } (hndsP f q s) with bad := true } := ⟨S1.list, S1.hit, rfl, S1.todo, S1.len⟩
    refine ⟨S3.inv k1, ?_⟩
    exact Nat.lt_of_le_of_lt (S1.less (R := f.regs.toNat)) k2
theorem startI_inv (p : PImg) (f : PFun) : RunInv p f (flowI (noneP f) 0 (firstS f)) := (flow_same (SameR.refl _) 0 (firstS f)).inv (start_inv p f)
theorem nodup_le : ∀ (n : Nat) (l : List Nat), l.Nodup → (∀ q ∈ l, q < n) → l.length ≤ n
  | 0, l, _, h => by
    cases l with
    | nil => simp
    | cons x l => exact absurd (h x (by simp)) (Nat.not_lt_zero _)
  | n + 1, l, hd, h => by
    have h1 := nodup_le n (l.erase n) (hd.erase n) (fun q hq => by
      have := h q (List.mem_of_mem_erase hq)
      have h2 : q ≠ n := fun e => by subst e; exact (List.Nodup.not_mem_erase hd) hq
      omega)
    have := List.length_erase_le (a := n) (l := l)
    have h3 : l.length ≤ (l.erase n).length + 1 := by
      by_cases hm : n ∈ l
      · rw [List.length_erase_of_mem hm]; omega
      · rw [List.erase_of_not_mem hm]; omega
    omega
theorem nodup_lt {n q : Nat} {l : List Nat} (hd : l.Nodup) (h : ∀ k ∈ l, k < n) (hq : q < n) (hn : q ∉ l) : l.length < n := by
  have := nodup_le n (q :: l) (List.nodup_cons.2 ⟨hn, hd⟩) (fun k hk => by
    rcases List.mem_cons.1 hk with e | e
    · omega
    · exact h k e)
  rw [List.length_cons] at this
  omega
theorem joinS_self (s : PSta) : joinS s s = s := by
  obtain ⟨a, l⟩ := s
  unfold joinS
  simp only [if_true]
  congr 1
  apply List.ext_getElem?
  intro j
  unfold joinL
  rw [Nat.max_self, List.getElem?_map]
  rcases Nat.lt_or_ge j l.length with h | h
  · rw [List.getElem?_range h, List.getElem?_eq_getElem h]
    simp [joinAt, h]
  · rw [List.getElem?_eq_none (by simpa using h), List.getElem?_eq_none h]; rfl
end Go.Proofs.Ytbgdapdenbldmaa
namespace Go.Proofs.Ytbgdapdenbldmaa
open Go.RowKit Go.Sort
set_option linter.unusedVariables false
def alk (a b : Int) : Int := if a = b then a else 0
set_option maxHeartbeats 400000 in
theorem iAlike (a b : Int) (w : World) :
    Calls Try.prog 140 #[.int .i64 a, .int .i64 b] w fun e w' => e = .returned (.int .i64 (alk a b)) ∧ w = w' := by
  by_cases h : a = b
  · subst h
    have e1 : alk a a = a := if_pos rfl
    rw [e1]
    go_enter Try.func140, Try.ntmps140
    go_wp2
    go_ret
    exact ⟨rfl, rfl⟩
  · have e1 : alk a b = 0 := if_neg h
    have hne : (a == b) = false := by rw [beq_eq_false_iff_ne]; exact h
    rw [e1]
    go_enter Try.func140, Try.ntmps140
    go_wp2
    go_ret
    exact ⟨rfl, rfl⟩
theorem made16m {P : Program} {t e : TypeId} {z : Value} {k b : Nat} (ht : P.underlying t = some (.slice e)) (hi : (P.info? e).map (fun i => (i.zero, i.size, i.bytes)) = some (some z, k, b)) (hb : b ≤ 32) (n : Nat) (hn : n ≤ 1048576) (W : World) :
    (Instr.makeSlice t (.int .i64 (n : Int)) (.int .i64 (n : Int))).run P W = .ok (.slice (some ⟨W.heap.size, 0, none⟩) n n) (W.alloc (.cells (madeCells z.cells (n * k)) e)) := by
  obtain ⟨i, hi, hz0, hz1, hz2⟩ := info_in hi
  have hbn : b * n ≤ 32 * 1048576 := Nat.mul_le_mul hb hn
  have hc : ((b : Int) * (n : Int)) = ((b * n : Nat) : Int) := by simp
  have h := run_make (P := P) W t e i z ht hi hz0 .i64 .i64 (n : Int) (n : Int) (by omega) (Int.le_refl _) (by rw [hz2, hc]; omega) (by omega)
  rw [Int.toNat_natCast, hz1] at h
  exact h
theorem made_own (W : World) (B N g : Nat) (hg : W.heap[g]? = some (.cells (madeCells #[.int .i64 0] (N * 1)) 3 (0, 0))) (hB : B ≤ g) (hN : N ≤ 1048576) : OwnI W B (.slice (some ⟨g, 0, none⟩) N N) (List.replicate N 0) := by
  unfold OwnI
  have e : (madeCells #[.int .i64 0] (N * 1)).toList = (List.replicate N (0 : Int)).flatMap intC := by
    apply List.ext_getElem?
    intro j
    have e2 : (List.replicate N (0 : Int)).flatMap intC = List.replicate N (Value.int .i64 0) := by
      clear hg hN
      induction N with
      | zero => rfl
      | succ n ih => rw [List.replicate_succ, List.replicate_succ, List.flatMap_cons, ih]; rfl
    rw [e2, Array.getElem?_toList, List.getElem?_replicate]
    rw [Nat.mul_one]
    by_cases hj : j < N
    · simp [madeCells, hj, Nat.mod_one]
    · simp [madeCells, hj]
  have hsz : (madeCells #[Value.int .i64 0] (N * 1)).size = N * 1 := size_madeCells _ _
  rw [List.length_replicate]
  refine ⟨by rw [← e, Array.length_toList, hsz], .inr ⟨g, N, madeCells #[.int .i64 0] (N * 1), rfl, hB, hg, Nat.le_refl _, by unfold maxLen; omega, hsz, ?_⟩⟩
  rw [e, List.take_of_length_le]
  rw [← e, Array.length_toList, hsz]
  exact Nat.le_refl _
theorem joinAt_beyond {l m : List Int} {j : Nat} (h : min l.length m.length ≤ j) : joinAt l m j = 0 := by
  unfold joinAt
  rcases Nat.lt_or_ge j l.length with h1 | h1
  · rw [List.getElem?_eq_none (l := m) (by omega)]
    split <;> first | rfl | (rename_i e _; cases e) | (rename_i e; cases e)
  · rw [List.getElem?_eq_none (l := l) h1]
theorem joinP_end (l m : List Int) : joinP l m (min l.length m.length) ++ List.replicate (max l.length m.length - min l.length m.length) 0 = joinL l m := by
  apply List.ext_getElem?
  intro j
  unfold joinL
  rw [List.getElem?_map]
  rcases Nat.lt_or_ge j (min l.length m.length) with h | h
  · rw [List.getElem?_append_left (by rw [joinP_len]; exact h)]
    unfold joinP
    rw [List.getElem?_map, List.getElem?_range h, List.getElem?_range (by omega)]
  · rw [List.getElem?_append_right (by rw [joinP_len]; exact h), joinP_len, List.getElem?_replicate]
    by_cases h2 : j < max l.length m.length
    · rw [if_pos (by omega), List.getElem?_range h2]
      show _ = some (joinAt l m j)
      rw [joinAt_beyond h]
    · rw [if_neg (by omega), List.getElem?_eq_none (by simpa using Nat.le_of_not_lt h2)]
      rfl
structure JoinI (w : World) (G C g N : Nat) (ca cb : Array Value) (acc : Int) (l : List Int) (wr : World) : Prop where
  b0 : wr.heap[G]? = some (.cells ca 98 (0, 0))
  b1 : wr.heap[G + 1]? = some (.cells cb 98 (0, 0))
  b2 : wr.heap[G + 1 + 1]? = some (.cells #[.int .i64 0, .slice none 0 0] 98 (0, 0))
  c : wr.heap[C]? = some (.cells #[.int .i64 acc, .slice (some ⟨g, 0, none⟩) N N] 98 (0, 0))
  own : OwnI wr w.heap.size (.slice (some ⟨g, 0, none⟩) N N) l
  bel : Below w.heap.size w wr
  lo : w.heap.size ≤ G ∧ G + 1 + 1 < C ∧ w.heap.size ≤ g
theorem JoinI.apart {w : World} {G C g N : Nat} {ca cb : Array Value} {acc : Int} {l : List Int} {wr : World} (h : JoinI w G C g N ca cb acc l wr) : g ≠ G ∧ g ≠ G + 1 ∧ g ≠ G + 1 + 1 ∧ g ≠ C := by
  have ne := fun {X : Nat} {cs : Array Value} (hX : wr.heap[X]? = some (.cells cs 98 (0, 0))) (e : g = X) => apart16 h.own hX (by decide) (by show some g = some X; rw [e])
  exact ⟨ne h.b0, ne h.b1, ne h.b2, ne h.c⟩
theorem JoinI.drawn {w : World} {G C g N : Nat} {ca cb : Array Value} {acc : Int} {l : List Int} {wr : World} (h : JoinI w G C g N ca cb acc l wr) : JoinI w G C g N ca cb acc l wr.drew := by
  have b : Below wr.heap.size wr wr.drew := (Below.refl _ _).drew
  exact ⟨h.b0, h.b1, h.b2, h.c, h.own.below b, h.bel.drew, h.lo⟩
theorem JoinI.put {w : World} {G C g N : Nat} {ca cb : Array Value} {acc : Int} {l : List Int} {wr : World} (h : JoinI w G C g N ca cb acc l wr) (k : Nat) (z : Int) : JoinI w G C g N ca cb acc (l.set k z) (wr.setCell ⟨g, k, none⟩ (.int .i64 z)) := by
  obtain ⟨n0, n1, n2, n3⟩ := h.apart
  have o : ∀ X, g ≠ X → (wr.setCell ⟨g, k, none⟩ (.int .i64 z)).heap[X]? = wr.heap[X]? := fun X hX => heap_setCell_other _ _ _ _ (by show X ≠ g; exact fun e => hX e.symm)
  exact ⟨(o _ n0).trans h.b0, (o _ n1).trans h.b1, (o _ n2).trans h.b2, (o _ n3).trans h.c, h.own.put k z, h.bel.setCell (p := ⟨g, k, none⟩) h.lo.2.2 _, h.lo⟩
set_option maxHeartbeats 2000000 in
set_option maxRecDepth 100000 in
theorem iJoin_any (a b : PSta) (va vb : Value) (w : World) (ha : ArgI w va a.regs) (hb : ArgI w vb b.regs) (la : a.regs.length ≤ 1048576) (lb : b.regs.length ≤ 1048576) :
    Calls Try.prog 130 #[.agg #[.int .i64 a.acc, va], .agg #[.int .i64 b.acc, vb]] w fun e w' => ∃ v, e = .returned (.agg #[.int .i64 (joinS a b).acc, v]) ∧ OwnI w' w.heap.size v (joinS a b).regs ∧ Below w.heap.size w w' := by
  obtain ⟨xa, ca, rfl, hm, oa⟩ := ha.opened
  obtain ⟨xb, cb, rfl, hm', ob⟩ := hb.opened
  clear ha hb
  obtain ⟨p, l⟩ := a
  obtain ⟨q, m⟩ := b
  unfold joinS
  simp only at oa ob la lb hm hm' ⊢
  have hJ := joinP_end l m
  obtain ⟨n, hn⟩ : ∃ n, l.length = n := ⟨_, rfl⟩
  obtain ⟨n', hn'⟩ : ∃ n, m.length = n := ⟨_, rfl⟩
  have HN : Hid (l.length = n ∧ m.length = n') := ⟨hn, hn'⟩
  rw [hn, hn'] at hJ
  rw [hn] at oa la ⊢
  rw [hn'] at ob lb ⊢
  clear hm hm'
  have HA : Hid (0 < n → ∃ b o, xa = some ⟨b, o, none⟩ ∧ b < w.heap.size ∧ ∀ (j : Nat) (z : Int), l[j]? = some z → w.cell? ⟨b, o + j, none⟩ = some (.int .i64 z)) := oa
  have HB : Hid (0 < n' → ∃ b o, xb = some ⟨b, o, none⟩ ∧ b < w.heap.size ∧ ∀ (j : Nat) (z : Int), m[j]? = some z → w.cell? ⟨b, o + j, none⟩ = some (.int .i64 z)) := ob
  obtain ⟨N, hN⟩ : ∃ N, max n n' = N := ⟨_, rfl⟩
  obtain ⟨M, hM⟩ : ∃ M, min n n' = M := ⟨_, rfl⟩
  rw [hN, hM] at hJ
  have HJ : Hid (joinP l m M ++ List.replicate (N - M) 0 = joinL l m) := hJ
  obtain ⟨J, eJ⟩ : ∃ J, joinL l m = J := ⟨_, rfl⟩
  rw [eJ] at HJ ⊢
  clear hn hn' oa ob hJ eJ
  have hMx : max (n : Int) (n' : Int) = (N : Int) := by omega
  have hMn : min (n : Int) (n' : Int) = (M : Int) := by omega
  have HM : Hid (M ≤ n ∧ M ≤ n' ∧ M ≤ N ∧ n ≤ N ∧ n' ≤ N) := ⟨by omega, by omega, by omega, by omega, by omega⟩
  have hNb : N ≤ 1048576 := by omega
  clear hN hM
  obtain ⟨acc, hacc⟩ : ∃ acc, alk p q = acc := ⟨_, rfl⟩
  have hacc2 : (if p = q then p else 0) = acc := hacc
  rw [hacc2]
  have cA : ∀ W, Calls Try.prog 140 #[.int .i64 p, .int .i64 q] W fun e w' => e = .returned (.int .i64 acc) ∧ W = w' := fun W => hacc ▸ iAlike p q W
  clear hacc hacc2
  have T := made_three w (Obj.cells #[.int .i64 p, .slice xa n ca] 98) (Obj.cells #[.int .i64 q, .slice xb n' cb] 98) (Obj.cells #[.int .i64 0, .slice none 0 0] 98)
  obtain ⟨W3, hW3⟩ : ∃ W, (((w.alloc (Obj.cells #[.int .i64 p, .slice xa n ca] 98)).alloc (Obj.cells #[.int .i64 q, .slice xb n' cb] 98)).alloc (Obj.cells #[.int .i64 0, .slice none 0 0] 98)) = W := ⟨_, rfl⟩
  rw [hW3] at T
  have HW3 : Hid (_ = W3) := hW3
  clear hW3
  obtain ⟨t0, t1, t2, tz, tb⟩ := T
  obtain ⟨G, hG⟩ : ∃ G, w.heap.size = G := ⟨_, rfl⟩
  rw [hG] at t0 t1 t2 tz
  obtain ⟨Z, hZ⟩ : ∃ Z, W3.heap.size = Z := ⟨_, rfl⟩
  have HZ : Hid (W3.heap.size = Z ∧ Z = G + 3) := ⟨hZ, by rw [← hZ, tz]⟩
  have HG : Hid (w.heap.size = G) := hG
  have HB3 : Hid (Below w.heap.size w W3) := tb
  have HT : Hid (W3.heap[G]? = some (.cells #[.int .i64 p, .slice xa n ca] 98 (0, 0)) ∧ W3.heap[G + 1]? = some (.cells #[.int .i64 q, .slice xb n' cb] 98 (0, 0)) ∧ W3.heap[G + 1 + 1]? = some (.cells #[.int .i64 0, .slice none 0 0] 98 (0, 0))) := ⟨t0, t1, t2⟩
  have HK : Hid (∀ W, Below W3.heap.size W3 W → (W.cell? ⟨G, 0, none⟩ = some (.int .i64 p) ∧ W.cell? ⟨G, 1, none⟩ = some (.slice xa n ca)) ∧ (W.cell? ⟨G + 1, 0, none⟩ = some (.int .i64 q) ∧ W.cell? ⟨G + 1, 1, none⟩ = some (.slice xb n' cb))) := fun W hW => by
    have z := HZ.out
    exact ⟨two_cells_of ((hW.block G (by omega)).trans HT.out.1), two_cells_of ((hW.block (G + 1) (by omega)).trans HT.out.2.1)⟩
  have hmI : ∀ W, (Instr.makeSlice 35 (.int .i64 (N : Int)) (.int .i64 (N : Int))).run Try.prog W = .ok (.slice (some ⟨W.heap.size, 0, none⟩) N N) (W.alloc (.cells (madeCells #[.int .i64 0] (N * 1)) 3)) := fun W => made16m (P := Try.prog) Try.underlying35 Try.info13I (by decide) N hNb W
  obtain ⟨CI, hCI⟩ : ∃ a, madeCells #[.int .i64 0] (N * 1) = a := ⟨_, rfl⟩
  have HC : Hid (madeCells #[.int .i64 0] (N * 1) = CI) := hCI
  rw [hCI] at hmI
  clear tz hG t0 t1 t2 tb hCI
  go_enter Try.func130, Try.ntmps130
  go_upto_region 1 with fail
  rw [HW3.out]
  clear HW3
  simp only [HG.out]
  go_cut [5] (fun p5 wr => ∃ (C g : Nat), p5 = .pointer (some ⟨C, 0, none⟩) ∧ Hid (JoinI w G C g N #[.int .i64 p, .slice xa n ca] #[.int .i64 q, .slice xb n' cb] acc (List.replicate N 0) wr))
  case first =>
    have bS : ∀ {W : World} (o : Obj), Below W3.heap.size W3 W → Below W3.heap.size W3 (W.alloc o) := fun o h => h.alloc h.size o
    have bP : ∀ (X j : Nat) (u : Value) {W : World}, Below W3.heap.size W3 W → Z ≤ X → Below W3.heap.size W3 (W.setCell ⟨X, j, none⟩ u) := fun X j u W h hX => h.setCell (p := ⟨X, j, none⟩) (by show W3.heap.size ≤ X; omega) u
    have hbS : ∀ (k : Int) (a : Option Addr) (m d : Nat) (W : World), (Instr.build 98 #[(0, .int .i64 k), (1, .slice a m d)]).run Try.prog W = .ok (.agg #[.int .i64 k, .slice a m d]) W := fun k a m d W => run_build W 98 _ _ (by kernel_rfl)
    have hEnd : ∀ (C g : Nat) (W : World), Below W3.heap.size W3 W → W.heap[C]? = some (.cells #[.int .i64 acc, .slice (some ⟨g, 0, none⟩) N N] 98 (0, 0)) → W.heap[g]? = some (.cells CI 3 (0, 0)) → Z ≤ C → Z ≤ g → Hid (JoinI w G C g N #[.int .i64 p, .slice xa n ca] #[.int .i64 q, .slice xb n' cb] acc (List.replicate N 0) W) := fun C g W hB hC hg h1 h2 => by
      have z := HZ.out
      have t := HT.out
      have hwg := HG.out
      exact ⟨(hB.block _ (by omega)).trans t.1, (hB.block _ (by omega)).trans t.2.1, (hB.block _ (by omega)).trans t.2.2, hC, made_own W _ N g (by rw [HC.out]; exact hg) (by omega) hNb, chain HB3.out hB, by omega, by omega, by omega⟩
    have hEndA : Hid (JoinI w G (Z + 1) Z N #[.int .i64 p, .slice xa n ca] #[.int .i64 q, .slice xb n' cb] acc (List.replicate N 0) ((W3.alloc (.cells CI 3)).alloc (.cells #[.int .i64 acc, .slice (some ⟨Z, 0, none⟩) N N] 98)).drew) := by
      refine hEnd _ _ _ (bS _ (bS _ (Below.refl _ _))).drew ?_ ?_ (Nat.le_succ _) (Nat.le_refl _)
      · show ((W3.alloc (.cells CI 3)).alloc _).heap[Z + 1]? = _
        rw [show Z + 1 = (W3.alloc (.cells CI 3)).heap.size by simp; omega]; exact heap_alloc_new _ _
      · show ((W3.alloc (.cells CI 3)).alloc _).heap[Z]? = _
        rw [heap_alloc_old (r := Z) _ _ (by simp; omega), ← hZ]; exact heap_alloc_new _ _
    have hEndB : Hid (JoinI w G Z (Z + 1) N #[.int .i64 p, .slice xa n ca] #[.int .i64 q, .slice xb n' cb] acc (List.replicate N 0) ((W3.alloc (.cells #[.int .i64 acc, .slice (some ⟨Z + 1, 0, none⟩) N N] 98)).alloc (.cells CI 3)).drew) := by
      refine hEnd _ _ _ (bS _ (bS _ (Below.refl _ _))).drew ?_ ?_ (Nat.le_refl _) (Nat.le_succ _)
      · show ((W3.alloc _).alloc (.cells CI 3)).heap[Z]? = _
        rw [heap_alloc_old (r := Z) _ _ (by simp; omega), ← hZ]; exact heap_alloc_new _ _
      · have h := heap_alloc_new (W3.alloc (.cells #[.int .i64 acc, .slice (some ⟨Z + 1, 0, none⟩) N N] 98)) (.cells CI 3)
        rw [show (W3.alloc (.cells #[.int .i64 acc, .slice (some ⟨Z + 1, 0, none⟩) N N] 98)).heap.size = Z + 1 by simp; omega] at h
        exact h
    go_region_held_law (fun W => (W.cell? ⟨G, 0, none⟩ = some (.int .i64 p) ∧ W.cell? ⟨G, 1, none⟩ = some (.slice xa n ca)) ∧ (W.cell? ⟨G + 1, 0, none⟩ = some (.int .i64 q) ∧ W.cell? ⟨G + 1, 1, none⟩ = some (.slice xb n' cb)))
      (exact HK.out _ (by repeat (first | with_reducible exact Below.refl _ _ | (with_reducible refine RowKit.Below.drew ?_) | (with_reducible refine bS _ ?_) | (with_reducible refine bP _ _ _ ?_ (by omega)))))
      (first | (go_at_call 140; (with_reducible refine (cA _).mono ?_); rintro e w' ⟨rfl, rfl⟩))
    all_goals
      clear HK HA HB HT HZ bS bP hEnd
      go_wp2
      go_meet
      case rel => first | exact ⟨_, _, rfl, hEndA⟩ | exact ⟨_, _, rfl, hEndB⟩
  case rest =>
    obtain ⟨C, g, rfl, HD⟩ := hcut
    clear HK HT HZ HB3 hZ cA hmI HC
    have D := HD.out
    obtain ⟨a0, a1⟩ := two_cells_of D.b0
    obtain ⟨e0, e1⟩ := two_cells_of D.b1
    clear D
    go_wp2
    go_loopw [28] (fun i wr => ∃ k : Nat, i = .int .i64 k ∧ k ≤ M ∧ Hid (JoinI w G C g N #[.int .i64 p, .slice xa n ca] #[.int .i64 q, .slice xb n' cb] acc (joinP l m k ++ List.replicate (N - k) 0) wr)) (fun i _ => M - (intOf i).toNat)
    case atStart => exact ⟨0, rfl, Nat.zero_le _, by simpa [joinP] using HD⟩
    case round =>
      clear HD a0 a1 e0 e1
      obtain ⟨k, rfl, hk, HR⟩ := hrel
      have D := HR.out
      obtain ⟨c0, c1⟩ := two_cells_of D.c
      have hM := HM.out
      by_cases hlt : k < M
      · obtain ⟨ga, sa, rfl, hga, hca⟩ := HA.out (by omega)
        obtain ⟨gb, sb, rfl, hgb, hcb⟩ := HB.out (by omega)
        obtain ⟨y, hy⟩ : ∃ s, l[k]? = some s := ⟨_, List.getElem?_eq_getElem (by have := HN.out; omega)⟩
        obtain ⟨z, hz⟩ : ∃ s, m[k]? = some s := ⟨_, List.getElem?_eq_getElem (by have := HN.out; omega)⟩
        have hki : (k : Int) < (n : Int) := by omega
        have hki' : (k : Int) < (n' : Int) := by omega
        have hki2 : (k : Int) < (N : Int) := by omega
        have hki3 : (k : Int) < (M : Int) := by omega
        have hk0 : (0 : Int) ≤ (k : Int) := by omega
        have hS : ∀ W, JoinI w G C g N #[.int .i64 p, .slice (some ⟨ga, sa, none⟩) n ca] #[.int .i64 q, .slice (some ⟨gb, sb, none⟩) n' cb] acc (joinP l m k ++ List.replicate (N - k) 0) W ∨ JoinI w G C g N #[.int .i64 p, .slice (some ⟨ga, sa, none⟩) n ca] #[.int .i64 q, .slice (some ⟨gb, sb, none⟩) n' cb] acc ((joinP l m k ++ List.replicate (N - k) 0).set k (alk y z)) W → W.cell? ⟨G, 1, none⟩ = some (.slice (some ⟨ga, sa, none⟩) n ca) ∧ W.cell? ⟨G + 1, 1, none⟩ = some (.slice (some ⟨gb, sb, none⟩) n' cb) ∧ W.cell? ⟨C, 1, none⟩ = some (.slice (some ⟨g, 0, none⟩) N N) ∧ W.cell? ⟨ga, sa + k, none⟩ = some (.int .i64 y) ∧ W.cell? ⟨gb, sb + k, none⟩ = some (.int .i64 z) := fun W hW => by
          rcases hW with h | h
          · exact ⟨(two_cells_of h.b0).2, (two_cells_of h.b1).2, (two_cells_of h.c).2, (h.bel.cell (p := ⟨ga, sa + k, none⟩) hga).trans (hca k y hy), (h.bel.cell (p := ⟨gb, sb + k, none⟩) hgb).trans (hcb k z hz)⟩
          · exact ⟨(two_cells_of h.b0).2, (two_cells_of h.b1).2, (two_cells_of h.c).2, (h.bel.cell (p := ⟨ga, sa + k, none⟩) hga).trans (hca k y hy), (h.bel.cell (p := ⟨gb, sb + k, none⟩) hgb).trans (hcb k z hz)⟩
        have HP := D.put k (alk y z)
        have K0 := hS _ (.inl D)
        have K1 := hS _ (.inl D.drawn)
        have K2 := hS _ (.inr HP)
        have K3 := hS _ (.inr HP.drawn)
        have KK0 : Hid _ := K0
        have KK1 : Hid _ := K1
        have KK2 : Hid _ := K2
        have KK3 : Hid _ := K3
        have hlN : (joinP l m k ++ List.replicate (N - k) 0).length = N := by rw [List.length_append, joinP_len, List.length_replicate]; omega
        have hO : wr.ownsRow w.heap.size 3 1 (.slice (some ⟨g, 0, none⟩) N N) N ((joinP l m k ++ List.replicate (N - k) 0).flatMap intC) := by
          have h := D.own
          unfold OwnI at h
          rw [hlN] at h
          exact h
        obtain ⟨⟨u, hu⟩, hfz⟩ := row_cell hO k (by omega)
        clear hlN hO
        have hu2 : wr.drew.cell? ⟨g, k, none⟩ = some u := hu
        have hfz2 : wr.drew.frozen? ⟨g, k, none⟩ = false := hfz
        have e3 : (joinP l m k ++ List.replicate (N - k) 0).set k (alk y z) = joinP l m (k + 1) ++ List.replicate (N - (k + 1)) 0 := by
          rw [joinP_more, show joinAt l m k = alk y z by unfold joinAt alk; rw [hy, hz]]
          rw [List.set_append_right (h := by rw [joinP_len]; exact Nat.le_refl _), joinP_len, Nat.sub_self, show N - k = (N - (k + 1)) + 1 by omega, List.replicate_succ, List.set_cons_zero, List.append_assoc]
          rfl
        rw [e3] at HP
        have HE0 : Hid (JoinI w G C g N #[.int .i64 p, .slice (some ⟨ga, sa, none⟩) n ca] #[.int .i64 q, .slice (some ⟨gb, sb, none⟩) n' cb] acc (joinP l m (k + 1) ++ List.replicate (N - (k + 1)) 0) (wr.setCell ⟨g, k, none⟩ (.int .i64 (alk y z)))) := HP
        have HE1 : Hid (JoinI w G C g N #[.int .i64 p, .slice (some ⟨ga, sa, none⟩) n ca] #[.int .i64 q, .slice (some ⟨gb, sb, none⟩) n' cb] acc (joinP l m (k + 1) ++ List.replicate (N - (k + 1)) 0) (wr.setCell ⟨g, k, none⟩ (.int .i64 (alk y z))).drew) := HP.drawn
        have cA := fun W => iAlike y z W
        obtain ⟨AL, hAL⟩ : ∃ x, alk y z = x := ⟨_, rfl⟩
        simp only [hAL] at cA HE0 HE1 KK2 KK3
        clear hS HP K0 K1 K2 K3 e3 hca hcb hy hz D HA HB HR c0 c1 hAL
        go_wp2
        go_region_held_law (fun W => W.cell? ⟨G, 1, none⟩ = some (.slice (some ⟨ga, sa, none⟩) n ca) ∧ W.cell? ⟨G + 1, 1, none⟩ = some (.slice (some ⟨gb, sb, none⟩) n' cb) ∧ W.cell? ⟨C, 1, none⟩ = some (.slice (some ⟨g, 0, none⟩) N N) ∧ W.cell? ⟨ga, sa + k, none⟩ = some (.int .i64 y) ∧ W.cell? ⟨gb, sb + k, none⟩ = some (.int .i64 z))
          (first | with_reducible exact KK0.out | with_reducible exact KK1.out | with_reducible exact KK2.out | with_reducible exact KK3.out)
          (first | (go_at_call 140; (with_reducible refine (cA _).mono ?_); rintro e w' ⟨rfl, rfl⟩))
        all_goals
          go_wp2
          go_roundw
          case rel => first | exact ⟨k + 1, by go_num, by omega, HE0⟩ | exact ⟨k + 1, by go_num, by omega, HE1⟩
          case measure => simp [intOf]; omega
      · have e : k = M := by omega
        subst e
        obtain ⟨b20, b21⟩ := two_cells_of D.b2
        have hne : C ≠ G + 1 + 1 := by have := D.lo; omega
        have fR := fun j => frozen_of_row wr (G + 1 + 1) j _ _ D.b2
        have k0 := heap_setCell_same wr (G + 1 + 1) 0 _ _ (.int .i64 acc) D.b2
        have k1 := heap_setCell_same _ (G + 1 + 1) 1 _ _ (.slice (some ⟨g, 0, none⟩) N N) k0
        have ne := apart16 D.own D.b2 (by decide)
        have qB : ∀ (W : World) (j : Nat) (u : Value), Below w.heap.size w W → Below w.heap.size w (W.setCell ⟨G + 1 + 1, j, none⟩ u) := fun W j u h => h.setCell (p := ⟨G + 1 + 1, j, none⟩) (by have := D.lo; show _ ≤ G + 1 + 1; omega) u
        have HO : Hid (OwnI ((wr.setCell ⟨G + 1 + 1, 0, none⟩ (.int .i64 acc)).setCell ⟨G + 1 + 1, 1, none⟩ (.slice (some ⟨g, 0, none⟩) N N)) w.heap.size (.slice (some ⟨g, 0, none⟩) N N) J ∧ Below w.heap.size w ((wr.setCell ⟨G + 1 + 1, 0, none⟩ (.int .i64 acc)).setCell ⟨G + 1 + 1, 1, none⟩ (.slice (some ⟨g, 0, none⟩) N N))) := by
          have h := far16 (o := 1) (u := .slice (some ⟨g, 0, none⟩) N N) (far16 (o := 0) (u := .int .i64 acc) D.own ne) ne
          rw [HJ.out] at h
          exact ⟨h, qB _ _ _ (qB _ _ _ D.bel)⟩
        obtain ⟨z1, z2⟩ := two_cells_of k1
        have hkk : ¬ (k : Int) < (k : Int) := by omega
        clear D HR HA HB HJ k0 k1 qB HN
        go_wp2
        refine bodyPost_ret (by simp [results, Try.results130, go_sem, z1, z2]; try rfl) rfl ?_
        exact ⟨_, rfl, HO.out.1, HO.out.2⟩
end Go.Proofs.Ytbgdapdenbldmaa
namespace Go.Proofs
open Go.Shelf
def Try.lays111_ren : Go.Shelf.Ren := ⟨fun | 111 => 141 | n => n, fun | 28 => 35 | 3 => 3 | 4 => 4 | 0 => 0 | n => n, fun | n => n⟩
theorem Try.lays111 : Go.Proofs.Lays.n111 Try.prog Try.lays111_ren := {
  mixed := by kernel_rfl
  f111 := Try.func141.trans (congrArg some (by kernel_rfl))
  t0 := Try.underlying0
  a0 := Try.isAgg0
  z0 := Try.sizeOf0
  v0 := Try.zeroValue0
  t3 := Try.underlying3
  a3 := Try.isAgg3
  z3 := Try.sizeOf3
  v3 := Try.zeroValue3
  t4 := Try.underlying4
  a4 := Try.isAgg4
  z4 := Try.sizeOf4
  v4 := Try.zeroValue4
  t28 := Try.underlying35
  a28 := Try.isAgg35
  z28 := Try.sizeOf35
  v28 := Try.zeroValue35 }
open Go.RowKit Go.Lib in
theorem Try.slices_Equal_int (b1 o1 n c b2 o2 m d : Nat) (xs ys : List Int) (w : World) (hx : n ≤ xs.length) (hy : m ≤ ys.length) (hbig : n ≤ 9223372036854775807) (hbig2 : m ≤ 9223372036854775807) (hc1 : ∀ j, j < xs.length → w.cell? ⟨b1, o1 + j, none⟩ = some (.int .i64 (xs.getD j 0))) (hc2 : ∀ j, j < ys.length → w.cell? ⟨b2, o2 + j, none⟩ = some (.int .i64 (ys.getD j 0))) :
    Calls Try.prog 141 #[.slice (some ⟨b1, o1, none⟩) n c, .slice (some ⟨b2, o2, none⟩) m d] w fun e w' => e = .returned (.bool (xs.take n == ys.take m)) ∧ ∃ q, w' = w.drewN q := Any.slices_Equal_int Try.lays111 b1 o1 n c b2 o2 m d xs ys w hx hy hbig hbig2 hc1 hc2
open Go.RowKit Go.Lib in
theorem Try.slices_Equal_int_empty (a1 a2 : Option Addr) (c m d : Nat) (w : World) (hbig2 : m ≤ 9223372036854775807) :
    Calls Try.prog 141 #[.slice a1 0 c, .slice a2 m d] w fun e w' => e = .returned (.bool (decide (m = 0))) ∧ w' = w := Any.slices_Equal_int_empty Try.lays111 a1 a2 c m d w hbig2
open Go.RowKit Go.Lib in
theorem Try.slices_Equal_int_lens (a1 a2 : Option Addr) (n c m d : Nat) (w : World) (hnm : n ≠ m) :
    Calls Try.prog 141 #[.slice a1 n c, .slice a2 m d] w fun e w' => e = .returned (.bool false) ∧ w' = w := Any.slices_Equal_int_lens Try.lays111 a1 a2 n c m d w hnm
end Go.Proofs
namespace Go.Proofs.Ytbgdapdenbldmaa
open Go.RowKit Go.Sort
set_option linter.unusedVariables false
set_option maxHeartbeats 1000000 in
set_option maxRecDepth 100000 in
theorem iClone (l : List Int) (v : Value) (w : World) (h : ArgI w v l) (hl : l.length ≤ 1000000) :
    Calls Try.prog 136 #[v] w fun e w' => ∃ v', e = .returned v' ∧ OwnI w' w.heap.size v' l ∧ Below w.heap.size w w' := by
  obtain ⟨i0, hi, hz0, hz1, hz2⟩ := info_in Try.info13I
  have hnil : ∀ (a : Option Addr) (n c : Nat) (w : World), (binOp .eql 35 (.slice a n c) (.slice none 0 0)).run Try.prog w = .ok (.bool a.isNone) w := fun a n c w => Go.run_eql_slice_nil w 35 3 a n c Try.underlying35
  have HA : Hid (ArgI w v l) := h
  obtain ⟨x, c, rfl, hm, hc⟩ := h.opened
  obtain ⟨n, hn⟩ : ∃ n, l.length = n := ⟨_, rfl⟩
  have HN : Hid (l.length = n) := hn
  rw [hn] at hl hc hm HA ⊢
  clear hn h
  cases x with
  | none =>
    have h0 : l = [] := by
      rcases Nat.eq_zero_or_pos n with h | h
      · exact List.eq_nil_of_length_eq_zero (HN.out.trans h)
      · obtain ⟨b, o, e1, _⟩ := hc h
        cases e1
    subst h0
    clear hc HN HA
    go_enter Try.func136, Try.ntmps136
    go_wp2
    go_ret
    exact ⟨_, rfl, ⟨rfl, .inl ⟨rfl, rfl⟩⟩, Below.refl _ _⟩
  | some a =>
    clear hc
    have b0 : Below w.heap.size w (w.alloc (.cells #[] 3)) := (Below.refl _ _).alloc (Nat.le_refl _) _
    have hG : (w.alloc (.cells #[] 3)).heap[w.heap.size]? = some (.cells #[] 3 (0, 0)) := heap_alloc_new w _
    have hAr : ArgFlat (w.alloc (.cells #[] 3)) (.slice (some a) n c) 1 n (l.flatMap intC) := by
      have h := HA.out.below b0
      unfold ArgI at h
      rw [HN.out] at h
      exact h
    have hown := own16 (size := 1) hG (Nat.le_refl w.heap.size)
    have hone := one_int l
    have hsz : w.heap.size ≤ (w.alloc (.cells #[] 3)).heap.size := by simp
    have hn9 : n ≤ 1000000000 := by omega
    go_enter Try.func136, Try.ntmps136
    go_wp2_with (at_builtin; refine walk_copyI rfl _ _ 35 rfl w.heap.size 3 i0 _ 1 8 Try.underlying35 hi hz0 hz1 hz2 rfl (by decide) (by decide) _ rfl hown (.slice (some a) n c) rfl n _ hAr hone hn9 hsz ?_)
    intro v' w2 ho hg
    have HO : Hid (OwnI w2 w.heap.size v' l) := by
      show OwnI w2 w.heap.size v' l
      unfold OwnI
      rw [HN.out]
      exact ho
    have HB : Hid (Below w.heap.size w w2) := Below.grown b0 hg hsz (fun k e => by have e2 : w.heap.size = k := Option.some.inj e; omega)
    obtain ⟨x2, c2, rfl⟩ := row_slice ho
    clear ho hg
    go_wp2
    go_ret
    exact ⟨_, rfl, HO.out, HB.out⟩
theorem getD_of {l : List Int} {j : Nat} (hj : j < l.length) : l[j]? = some (l.getD j 0) := by
  rw [List.getD_eq_getElem?_getD, List.getElem?_eq_getElem hj]
  rfl
theorem iEqualI (l m : List Int) (u v : Value) (w : World) (hu : ArgI w u l) (hv : ArgI w v m) :
    Calls Try.prog 141 #[u, v] w fun e w' => e = .returned (.bool (decide (l = m))) ∧ Below w.heap.size w w' := by
  obtain ⟨xa, ca, rfl, hm1, oa⟩ := hu.opened
  obtain ⟨xb, cb, rfl, hm2, ob⟩ := hv.opened
  unfold maxLen at hm1 hm2
  by_cases hl : l.length = m.length
  · by_cases h0 : l.length = 0
    · have e1 : l = [] := List.eq_nil_of_length_eq_zero h0
      have e2 : m = [] := List.eq_nil_of_length_eq_zero (by omega)
      subst e1 e2
      refine (Try.slices_Equal_int_empty xa xb ca 0 cb w (by omega)).mono ?_
      rintro e w' ⟨rfl, rfl⟩
      exact ⟨by simp, Below.refl _ _⟩
    · obtain ⟨g1, o1, rfl, _, c1⟩ := oa (by omega)
      obtain ⟨g2, o2, rfl, _, c2⟩ := ob (by omega)
      refine (Try.slices_Equal_int g1 o1 l.length ca g2 o2 m.length cb l m w (Nat.le_refl _) (Nat.le_refl _) (by omega) (by omega) (fun j hj => c1 j _ (getD_of hj)) (fun j hj => c2 j _ (getD_of hj))).mono ?_
      rintro e w' ⟨rfl, q, rfl⟩
      refine ⟨?_, below_drewN (Below.refl _ _) _⟩
      rw [List.take_length, List.take_length]
      have e : (l == m) = decide (l = m) := by
        by_cases h : l = m
        · subst h; simp
        · rw [decide_eq_false h, beq_eq_false_iff_ne]; exact h
      rw [e]
  · refine (Try.slices_Equal_int_lens xa xb l.length ca m.length cb w hl).mono ?_
    rintro e w' ⟨rfl, rfl⟩
    exact ⟨by rw [decide_eq_false (fun h => hl (congrArg List.length h))], Below.refl _ _⟩
set_option maxHeartbeats 1000000 in
set_option maxRecDepth 100000 in
theorem iSameState (p q : PSta) (u v : Value) (w : World) (hu : ArgI w u p.regs) (hv : ArgI w v q.regs) :
    Calls Try.prog 131 #[.agg #[.int .i64 p.acc, u], .agg #[.int .i64 q.acc, v]] w fun e w' => e = .returned (.bool (sameS p q)) ∧ Below w.heap.size w w' := by
  have HU : Hid (ArgI w u p.regs) := hu
  have HV : Hid (ArgI w v q.regs) := hv
  obtain ⟨xa, ca, rfl, hm, _⟩ := hu.opened
  obtain ⟨xb, cb, rfl, hm', _⟩ := hv.opened
  clear hu hv
  obtain ⟨A, ls⟩ := p
  obtain ⟨B, ms⟩ := q
  simp only at HU HV hm hm' ⊢
  obtain ⟨n, hn⟩ : ∃ n, ls.length = n := ⟨_, rfl⟩
  obtain ⟨m, hmm⟩ : ∃ n, ms.length = n := ⟨_, rfl⟩
  rw [hn] at HU hm ⊢
  rw [hmm] at HV hm' ⊢
  clear hn hmm
  have T : Below w.heap.size w ((w.alloc (.cells #[.int .i64 A, .slice xa n ca] 98)).alloc (.cells #[.int .i64 B, .slice xb m cb] 98)) := ((Below.refl _ _).alloc (Nat.le_refl _) _).alloc (by simp) _
  by_cases hAB : A = B
  · subst hAB
    have e0 : sameS ⟨A, ls⟩ ⟨A, ms⟩ = decide (ls = ms) := by unfold sameS; simp
    rw [e0]
    have cE := iEqualI ls ms _ _ _ (HU.out.below T) (HV.out.below T)
    obtain ⟨F, hF⟩ : ∃ F, decide (ls = ms) = F := ⟨_, rfl⟩
    rw [hF] at cE ⊢
    clear hF e0
    go_enter Try.func131, Try.ntmps131
    go_wp2_with (go_at_call 141; (with_reducible refine cE.mono ?_); rintro e w5 ⟨rfl, hb5⟩)
    go_ret
    exact ⟨rfl, chain T hb5⟩
  · have e0 : sameS ⟨A, ls⟩ ⟨B, ms⟩ = false := by unfold sameS; simp [hAB]
    rw [e0]
    have hne : (A == B) = false := by rw [beq_eq_false_iff_ne]; exact hAB
    go_enter Try.func131, Try.ntmps131
    go_wp2
    go_ret
    exact ⟨rfl, T⟩
set_option maxHeartbeats 400000 in
set_option maxRecDepth 100000 in
theorem iIsInFunc (x : Option Addr) (n c : Nat) (k : Int) (w : World) (hn : n ≤ maxLen) :
    Calls Try.prog 51 #[.slice x n c, .int .i64 k] w fun e w' => e = .returned (.bool (inB k 0 ((n : Int) - 1))) ∧ w = w' := by
  unfold maxLen at hn
  obtain ⟨F, hF⟩ : ∃ F, inB k 0 ((n : Int) - 1) = F := ⟨_, rfl⟩
  rw [hF]
  have HF : Hid (inB k 0 ((n : Int) - 1) = F) := hF
  clear hF
  by_cases h0 : 0 ≤ k
  case neg =>
    have e : F = false := by rw [← HF.out]; unfold inB; rw [decide_eq_false h0]; rfl
    subst e
    go_enter Try.func51, Try.ntmps51
    go_wp2
    go_ret
    exact ⟨rfl, rfl⟩
  case pos =>
    by_cases h1 : k < (n : Int)
    · have e : F = true := by rw [← HF.out]; unfold inB; rw [decide_eq_true h0, decide_eq_true (p := k ≤ (n : Int) - 1) (by omega)]; rfl
      subst e
      go_enter Try.func51, Try.ntmps51
      go_wp2
      go_ret
      exact ⟨rfl, rfl⟩
    · have e : F = false := by rw [← HF.out]; unfold inB; rw [decide_eq_false (p := k ≤ (n : Int) - 1) (by omega), Bool.and_false]
      subst e
      go_enter Try.func51, Try.ntmps51
      go_wp2
      go_ret
      exact ⟨rfl, rfl⟩
set_option maxHeartbeats 400000 in
set_option maxRecDepth 100000 in
theorem iIsInIns (x : Option Addr) (n c : Nat) (k : Int) (w : World) (hn : n ≤ maxLen) :
    Calls Try.prog 36 #[.slice x n c, .int .i64 k] w fun e w' => e = .returned (.bool (inB k 0 ((n : Int) - 1))) ∧ w = w' := by
  unfold maxLen at hn
  obtain ⟨F, hF⟩ : ∃ F, inB k 0 ((n : Int) - 1) = F := ⟨_, rfl⟩
  rw [hF]
  have HF : Hid (inB k 0 ((n : Int) - 1) = F) := hF
  clear hF
  by_cases h0 : 0 ≤ k
  case neg =>
    have e : F = false := by rw [← HF.out]; unfold inB; rw [decide_eq_false h0]; rfl
    subst e
    go_enter Try.func36, Try.ntmps36
    go_wp2
    go_ret
    exact ⟨rfl, rfl⟩
  case pos =>
    by_cases h1 : k < (n : Int)
    · have e : F = true := by rw [← HF.out]; unfold inB; rw [decide_eq_true h0, decide_eq_true (p := k ≤ (n : Int) - 1) (by omega)]; rfl
      subst e
      go_enter Try.func36, Try.ntmps36
      go_wp2
      go_ret
      exact ⟨rfl, rfl⟩
    · have e : F = false := by rw [← HF.out]; unfold inB; rw [decide_eq_false (p := k ≤ (n : Int) - 1) (by omega), Bool.and_false]
      subst e
      go_enter Try.func36, Try.ntmps36
      go_wp2
      go_ret
      exact ⟨rfl, rfl⟩
end Go.Proofs.Ytbgdapdenbldmaa
