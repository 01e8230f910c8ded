/-
  The program's own run, over no program: each place stands once at most among what is to do; handlers are gone to ahead of asking whether the instruction may be done.
-/
import Derived.Test.YtbgdapdenbldmaaVer16B
namespace Go.Proofs.Ytbgdapdenbldmaa
set_option linter.unusedVariables false

/-- the same but for the order of what is to do, and how often it is told -/
structure SameR (r r' : RunP) : Prop where
  list : r'.list = r.list
  hit : r'.hit = r.hit
  bad : r'.bad = r.bad
  todo : ∀ q, q ∈ r'.todo ↔ q ∈ r.todo
  len : r'.todo.length ≤ r.todo.length

theorem SameR.refl (r : RunP) : SameR r r := ⟨rfl, rfl, rfl, fun _ => Iff.rfl, Nat.le_refl _⟩
theorem SameR.fam {r r' : RunP} (h : SameR r r') : fam r' = fam r := by
  funext q
  unfold Go.Proofs.Ytbgdapdenbldmaa.fam
  rw [h.list, h.hit]
theorem SameR.ge {r r' : RunP} (h : SameR r r') {q : Nat} {s : PSta} (g : Ge r q s) : Ge r' q s := by
  unfold Ge at g ⊢
  rw [h.fam]
  exact g
theorem SameR.ok {n R : Nat} {r r' : RunP} (h : SameR r r') (k : RunOk n R r) : RunOk n R r' := by
  refine ⟨by rw [h.list]; exact k.len, by rw [h.hit]; exact k.hlen, by rw [h.fam]; exact k.regs, by rw [h.list, h.hit]; exact k.zero, fun q hq => ?_⟩
  rw [h.fam]
  exact k.todo q ((h.todo q).1 hq)
theorem SameR.inv {p : PImg} {f : PFun} {r r' : RunP} (h : SameR r r') (k : RunInv p f r) : RunInv p f r' := by
  refine ⟨h.ok k.ok, fun G hG => ?_, ?_, ?_⟩
  · rw [h.bad, h.fam]; exact k.up G hG
  · rw [h.bad]
    exact k.first.imp id h.ge
  · rw [h.bad, h.fam]
    refine k.done.imp id (fun d q t hq => ?_)
    rcases d q t hq with h1 | h1
    · exact .inl ((h.todo q).2 h1)
    · exact .inr (fun i hi => ⟨(h1 i hi).1, fun x hx => h.ge ((h1 i hi).2 x hx)⟩)
theorem SameR.less {R : Nat} {r r' : RunP} (h : SameR r r') : runM R r' ≤ runM R r := by
  unfold runM
  rw [h.list, h.hit]
  have := h.len
  omega

/-- a place is put behind what is to do, if it is not there -/
def putL (m : List Nat) (q : Nat) : List Nat := if q ∈ m then m else m ++ [q]
theorem putL_mem (m : List Nat) (q k : Nat) : k ∈ putL m q ↔ k ∈ m ∨ k = q := by
  unfold putL
  split
  · rename_i h
    exact ⟨.inl, fun h1 => h1.elim id (fun e => e ▸ h)⟩
  · simp
theorem putL_len (m : List Nat) (q : Nat) : (putL m q).length ≤ m.length + 1 := by
  unfold putL
  split <;> simp
theorem putL_nodup {m : List Nat} (h : m.Nodup) (q : Nat) : (putL m q).Nodup := by
  unfold putL
  split
  · exact h
  · rename_i hq
    rw [List.nodup_append]
    refine ⟨h, by simp, fun a ha b hb => ?_⟩
    simp at hb
    subst hb
    exact fun e => hq (e ▸ ha)

/-- a state comes to a place, as the program lets it -/
def flowI (r : RunP) (q : Nat) (s : PSta) : RunP :=
  match r.list[q]? with
  | none => { r with bad := true }
  | some old =>
    if r.hit[q]? = some true then
      if sameS (joinS old s) old then r else { r with list := r.list.set q (joinS old s), todo := putL r.todo q }
    else { r with list := r.list.set q s, hit := r.hit.set q true, todo := putL r.todo q }
def flowsI (r : RunP) (xs : List (Nat × PSta)) : RunP := xs.foldl (fun r x => flowI r x.1 x.2) r
theorem flowsI_nil (r : RunP) : flowsI r [] = r := rfl
theorem flowsI_one (r : RunP) (x : Nat × PSta) : flowsI r [x] = flowI r x.1 x.2 := rfl
theorem flowsI_app (r : RunP) (xs ys : List (Nat × PSta)) : flowsI r (xs ++ ys) = flowsI (flowsI r xs) ys := by unfold flowsI; rw [List.foldl_append]
theorem flowsI_cons (r : RunP) (x : Nat × PSta) (ys : List (Nat × PSta)) : flowsI r (x :: ys) = flowsI (flowI r x.1 x.2) ys := rfl

theorem put_same {m m' : List Nat} (h : ∀ q, q ∈ m' ↔ q ∈ m) (hl : m'.length ≤ m.length) (q : Nat) : (∀ k, k ∈ putL m' q ↔ k ∈ m ++ [q]) ∧ (putL m' q).length ≤ (m ++ [q]).length := by
  refine ⟨fun k => ?_, ?_⟩
  · rw [putL_mem, h]; simp
  · have := putL_len m' q
    simp
    omega

theorem flow_same {a b : RunP} (h : SameR a b) (q : Nat) (s : PSta) : SameR (flowP a q s) (flowI b q s) := by
  unfold flowP flowI
  rw [h.list, h.hit]
  cases hq : a.list[q]? with
  | none => exact ⟨rfl, rfl, rfl, h.todo, h.len⟩
  | some old =>
    simp only
    obtain ⟨k1, k2⟩ := put_same h.todo h.len q
    split
    · split
      · exact h
      · exact ⟨rfl, rfl, h.bad, k1, k2⟩
    · exact ⟨rfl, rfl, h.bad, k1, k2⟩

theorem flows_same (xs : List (Nat × PSta)) : ∀ {a b : RunP}, SameR a b → SameR (flowsP a xs) (flowsI b xs) := by
  induction xs with
  | nil => exact fun {a b} h => h
  | cons x xs ih => exact fun {a b} h => ih (flow_same h x.1 x.2)

theorem flow_nodup {r : RunP} (h : r.todo.Nodup) (q : Nat) (s : PSta) : (flowI r q s).todo.Nodup := by
  unfold flowI
  cases hq : r.list[q]? with
  | none => exact h
  | some old =>
    simp only
    split
    · split
      · exact h
      · exact putL_nodup h q
    · exact putL_nodup h q
theorem flows_nodup (xs : List (Nat × PSta)) : ∀ {r : RunP}, r.todo.Nodup → (flowsI r xs).todo.Nodup := by
  induction xs with
  | nil => exact fun {r} h => h
  | cons x xs ih => exact fun {r} h => ih (flow_nodup h x.1 x.2)

/-- places behind an instruction that is done -/
def restP (q : Nat) (i : PIns) (s : PSta) : List (Nat × PSta) := (if jumpsB i.op then [(i.a.toNat, aftS i s)] else []) ++ (if endsB i.op then [] else [(q + 1, aftS i s)])
def hndsP (f : PFun) (q : Nat) (s : PSta) : List (Nat × PSta) := f.hnds.filterMap (hndTo q s)
theorem nexts_split (f : PFun) (q : Nat) (i : PIns) (s : PSta) : nexts f q i s = hndsP f q s ++ restP q i s := rfl

/-- one place is done -/
def stepI (p : PImg) (f : PFun) (q : Nat) (i : PIns) (s : PSta) (r : RunP) : RunP :=
  match (flowsI r (hndsP f q s)).list[q]? with
  | none => flowsI r (hndsP f q s)
  | some s1 => if mayB p f i s1 then flowsI (flowsI r (hndsP f q s)) (restP q i s1) else { flowsI r (hndsP f q s) with bad := true }

theorem stepI_nodup {p : PImg} {f : PFun} {q : Nat} {i : PIns} {s : PSta} {r : RunP} (h : r.todo.Nodup) : (stepI p f q i s r).todo.Nodup := by
  have h1 := flows_nodup (hndsP f q s) h
  unfold stepI
  cases (flowsI r (hndsP f q s)).list[q]? with
  | none => exact h1
  | some s1 =>
    simp only
    split
    · exact flows_nodup _ h1
    · exact h1

/-- all is told but of one place -/
structure InvH (p : PImg) (f : PFun) (q : Nat) (r : RunP) : Prop where
  ok : RunOk f.code.length f.regs.toNat r
  up : Upper p f r
  first : r.bad = true ∨ Ge r 0 (firstS f)
  done : r.bad = true ∨ ∀ k t, fam r k = some t → k = q ∨ k ∈ r.todo ∨ Closed p f r k t

theorem hole_flows {p : PImg} {f : PFun} {q : Nat} {i : PIns} {s : PSta} {r : RunP} (h : InvH p f q r) (hq : fam r q = some s) (hi : f.code[q]? = some i) (xs : List (Nat × PSta)) (hx : ∀ x ∈ xs, x ∈ nexts f q i s) :
    InvH p f q (flowsP r xs) ∧ Flowed f.regs.toNat r (flowsP r xs) ∧ ((flowsP r xs).bad = true ∨ ∀ x ∈ xs, Ge (flowsP r xs) x.1 x.2) := by
  have hl : ∀ x ∈ xs, x.2.regs.length = f.regs.toNat := fun x k => (nexts_len (hx x k)).trans (h.ok.regs q s hq)
  obtain ⟨a1, a2, a3⟩ := flows_flowed xs h.ok hl
  have hg : ∀ x ∈ xs, ∀ G, Sound p f G → ∃ u, G x.1 = some u ∧ LeS u x.2 := fun x k G hG => by
    obtain ⟨t, ht', hl⟩ := (h.up G hG).2 q s hq
    obtain ⟨y, hy, e1, hl2⟩ := nexts_le hl (hx x k)
    obtain ⟨u, hu, hl3⟩ := hG.goes q t i y ht' hi hy
    rw [e1] at hu
    exact ⟨u, hu, hl3.trans hl2⟩
  refine ⟨⟨a2, flows_upper _ h.ok h.up hl hg, ?_, ?_⟩, a1, a3⟩
  · rcases h.first with h1 | h1
    · exact .inl (a1.bad h1)
    · exact .inr (a1.ge h1)
  · rcases h.done with h1 | h1
    · exact .inl (a1.bad h1)
    · refine .inr (fun k t hk => ?_)
      rcases a1.same k t hk with h2 | h2
      · rcases h1 k t h2 with h3 | h3 | h3
        · exact .inl h3
        · exact .inr (.inl (a1.todo k h3))
        · exact .inr (.inr (fun i' hi' => ⟨(h3 i' hi').1, fun x hx => a1.ge ((h3 i' hi').2 x hx)⟩))
      · exact .inr (.inl h2)

/-- the same step, over the run that tells a place as often as it comes -/
theorem step_hole {p : PImg} {f : PFun} {r : RunP} {q : Nat} {m : List Nat} {i : PIns} {s : PSta} (h : RunInv p f r) (hb : r.bad = false) (ht : r.todo = q :: m) (hs : r.list[q]? = some s) (hi : f.code[q]? = some i) :
    ∃ s1, fam (flowsP { r with todo := m } (hndsP f q s)) q = some s1 ∧ s1.regs.length = f.regs.toNat ∧
      (mayB p f i s1 = true → RunInv p f (flowsP (flowsP { r with todo := m } (hndsP f q s)) (restP q i s1)) ∧ runM f.regs.toNat (flowsP (flowsP { r with todo := m } (hndsP f q s)) (restP q i s1)) < runM f.regs.toNat r) ∧
      (mayB p f i s1 = false → RunInv p f { flowsP { r with todo := m } (hndsP f q s) with bad := true } ∧ runM f.regs.toNat (flowsP { r with todo := m } (hndsP f q s)) < runM f.regs.toNat r) := by
  have hq : fam r q = some s := by
    obtain ⟨t, ht'⟩ := h.ok.todo q (by rw [ht]; simp)
    have e := (fam_at ht').2
    rw [hs] at e
    injection e with e
    rw [e]; exact ht'
  have ok0 : RunOk f.code.length f.regs.toNat { r with todo := m } := ⟨h.ok.len, h.ok.hlen, h.ok.regs, h.ok.zero, fun k hk => h.ok.todo k (by rw [ht]; exact List.mem_cons_of_mem _ hk)⟩
  have H0 : InvH p f q { r with todo := m } := by
    refine ⟨ok0, h.up, h.first, ?_⟩
    rcases h.done with h1 | h1
    · exact .inl h1
    · refine .inr (fun k t hk => ?_)
      rcases h1 k t hk with h2 | h2
      · rw [ht] at h2
        rcases List.mem_cons.1 h2 with h3 | h3
        · exact .inl h3
        · exact .inr (.inl h3)
      · exact .inr (.inr h2)
  have hq0 : fam { r with todo := m } q = some s := hq
  have m0 : runM f.regs.toNat { r with todo := m } < runM f.regs.toNat r := by
    unfold runM
    rw [ht]
    simp only [List.length_cons]
    omega
  obtain ⟨a1, a2, a3⟩ := hole_flows H0 hq0 hi (hndsP f q s) (fun x hx => by rw [nexts_split]; exact List.mem_append_left _ hx)
  have m1 := flows_less (hndsP f q s) ok0 (fun x hx => (nexts_len (f := f) (q := q) (i := i) (s := s) (by rw [nexts_split]; exact List.mem_append_left _ hx)).trans (ok0.regs q s hq0))
  obtain ⟨s1, hs1, l1⟩ := a2.tells q s hq0
  have r1 := a1.ok.regs q s1 hs1
  refine ⟨s1, hs1, r1, fun hm => ?_, fun hm => ?_⟩
  · obtain ⟨b1, b2, b3⟩ := hole_flows a1 hs1 hi (restP q i s1) (fun x hx => by rw [nexts_split]; exact List.mem_append_right _ hx)
    have m2 := flows_less (restP q i s1) a1.ok (fun x hx => (nexts_len (f := f) (q := q) (i := i) (s := s1) (by rw [nexts_split]; exact List.mem_append_right _ hx)).trans r1)
    refine ⟨⟨b1.ok, b1.up, b1.first, ?_⟩, Nat.lt_of_le_of_lt (Nat.le_trans m2 m1) m0⟩
    rcases b1.done with d | d
    · exact .inl d
    · rcases b3 with b3 | b3
      · exact .inl b3
      · rcases a3 with a3 | a3
        · exact .inl (b2.bad a3)
        · refine .inr (fun k t hk => ?_)
          rcases d k t hk with h3 | h3
          · subst h3
            rcases (a2.trans b2).same k t hk with h4 | h4
            · rw [hq0] at h4
              injection h4 with h4
              subst h4
              obtain ⟨u, hu, l2⟩ := b2.tells k s1 hs1
              rw [hk] at hu
              injection hu with hu
              subst hu
              have e : s1 = s := l1.antisymm l2
              subst e
              refine .inr (fun i' hi' => ?_)
              rw [hi] at hi'
              injection hi' with hi'
              subst hi'
              refine ⟨hm, fun x hx => ?_⟩
              rw [nexts_split] at hx
              rcases List.mem_append.1 hx with hx | hx
              · exact b2.ge (a3 x hx)
              · exact b3 x hx
            · exact .inl h4
          · exact h3
  · refine ⟨⟨⟨a1.ok.len, a1.ok.hlen, a1.ok.regs, a1.ok.zero, a1.ok.todo⟩, fun G hG => ?_, .inl rfl, .inl rfl⟩, Nat.lt_of_le_of_lt m1 m0⟩
    obtain ⟨u, hu, hl⟩ := (a1.up G hG).2 q s1 hs1
    have := may_le (p := p) (f := f) (i := i) hl (hG.may q u i hu hi)
    rw [hm] at this
    cases this

theorem stepI_inv {p : PImg} {f : PFun} {r : RunP} {q : Nat} {m : List Nat} {i : PIns} {s : PSta} (h : RunInv p f r) (hb : r.bad = false) (ht : r.todo = q :: m) (hs : r.list[q]? = some s) (hi : f.code[q]? = some i) :
    RunInv p f (stepI p f q i s { r with todo := m }) ∧ runM f.regs.toNat (stepI p f q i s { r with todo := m }) < runM f.regs.toNat r := by
  obtain ⟨s1, h1, _, h2, h3⟩ := step_hole h hb ht hs hi
  have S1 := flows_same (hndsP f q s) (SameR.refl { r with todo := m })
  have e1 : (flowsI { r with todo := m } (hndsP f q s)).list[q]? = some s1 := by rw [S1.list]; exact (fam_at h1).2
  unfold stepI
  rw [e1]
  simp only
  cases hm : mayB p f i s1 with
  | true =>
    obtain ⟨k1, k2⟩ := h2 hm
    have S2 := flows_same (restP q i s1) S1
    rw [if_pos rfl]
    exact ⟨S2.inv k1, Nat.lt_of_le_of_lt S2.less k2⟩
  | false =>
    obtain ⟨k1, k2⟩ := h3 hm
    rw [if_neg (by simp)]
    have S3 : SameR { flowsP { r with todo := m } (hndsP f q s) with bad := true } { flowsI { r with todo := m } (hndsP f q s) with bad := true } := ⟨S1.list, S1.hit, rfl, S1.todo, S1.len⟩
    refine ⟨S3.inv k1, ?_⟩
    exact Nat.lt_of_le_of_lt (S1.less (R := f.regs.toNat)) k2

theorem startI_inv (p : PImg) (f : PFun) : RunInv p f (flowI (noneP f) 0 (firstS f)) := (flow_same (SameR.refl _) 0 (firstS f)).inv (start_inv p f)

/-- what stands to do, told once each, is no longer than the code -/
theorem nodup_le : ∀ (n : Nat) (l : List Nat), l.Nodup → (∀ q ∈ l, q < n) → l.length ≤ n
  | 0, l, _, h => by
    cases l with
    | nil => simp
    | cons x l => exact absurd (h x (by simp)) (Nat.not_lt_zero _)
  | n + 1, l, hd, h => by
    have h1 := nodup_le n (l.erase n) (hd.erase n) (fun q hq => by
      have := h q (List.mem_of_mem_erase hq)
      have h2 : q ≠ n := fun e => by subst e; exact (List.Nodup.not_mem_erase hd) hq
      omega)
    have := List.length_erase_le (a := n) (l := l)
    have h3 : l.length ≤ (l.erase n).length + 1 := by
      by_cases hm : n ∈ l
      · rw [List.length_erase_of_mem hm]; omega
      · rw [List.erase_of_not_mem hm]; omega
    omega
theorem nodup_lt {n q : Nat} {l : List Nat} (hd : l.Nodup) (h : ∀ k ∈ l, k < n) (hq : q < n) (hn : q ∉ l) : l.length < n := by
  have := nodup_le n (q :: l) (List.nodup_cons.2 ⟨hn, hd⟩) (fun k hk => by
    rcases List.mem_cons.1 hk with e | e
    · omega
    · exact h k e)
  rw [List.length_cons] at this
  omega

theorem joinS_self (s : PSta) : joinS s s = s := by
  obtain ⟨a, l⟩ := s
  unfold joinS
  simp only [if_true]
  congr 1
  apply List.ext_getElem?
  intro j
  unfold joinL
  rw [Nat.max_self, List.getElem?_map]
  rcases Nat.lt_or_ge j l.length with h | h
  · rw [List.getElem?_range h, List.getElem?_eq_getElem h]
    simp [joinAt, h]
  · rw [List.getElem?_eq_none (by simpa using h), List.getElem?_eq_none h]; rfl

end Go.Proofs.Ytbgdapdenbldmaa
