/-
  Part 6 of what is proved of drawn right trees.
-/
import Derived.Test.YtbgdapdenbldmaaPac
import Derived.Test.YtbgdapdenbldmaaPae

namespace Go.Proofs.Ytbgdapdenbldmaa
set_option linter.unusedVariables false
def regIs (s : PSta) (r want : Int) : Bool := inB r 0 ((s.regs.length : Int) - 1) && decide (s.regs[r.toNat]? = some want)
def regIn (s : PSta) (r : Int) : Bool := inB r 0 ((s.regs.length : Int) - 1)
def capMay (f : PFun) (s : PSta) (c : PCap) : Bool := if c.reg then regIs s c.index 2 else decide (c.index < f.caps.length)
def capsMay (p : PImg) (f : PFun) (s : PSta) (a : Int) : Bool := match p.funcs[a.toNat]? with | some g => g.caps.all (capMay f s) | none => false
def mayB (p : PImg) (f : PFun) (i : PIns) (s : PSta) : Bool :=
  if i.op = 1 then decide (i.a < p.consts.length)
  else if i.op = 2 then regIs s i.a 1
  else if i.op = 3 ∨ i.op = 4 then regIn s i.a && decide (s.acc = 1)
  else if i.op = 5 then regIs s i.a 2
  else if i.op = 6 then regIs s i.a 2 && decide (s.acc = 1)
  else if i.op = 7 then decide (i.a < f.caps.length)
  else if i.op = 8 then decide (i.a < f.caps.length) && decide (s.acc = 1)
  else if i.op = 9 then inB i.a 1 11 && (regIs s i.b 1 && decide (s.acc = 1))
  else if i.op = 13 ∨ i.op = 14 then decide (i.a < f.code.length) && decide (s.acc = 1)
  else if i.op = 12 then decide (i.a < f.code.length)
  else if i.op = 15 then inB i.a 1 ((p.funcs.length : Int) - 1) && capsMay p f s i.a
  else if i.op = 16 then (List.range (i.b + 1).toNat).all fun (k : Nat) => regIs s (i.a + k) 1
  else decide (s.acc = 1)
def givesB (o : Int) : Bool := decide (o = 1 ∨ o = 2 ∨ o = 5 ∨ o = 7 ∨ o = 9 ∨ o = 10 ∨ o = 11 ∨ o = 15 ∨ o = 16)
def aftS (i : PIns) (s : PSta) : PSta :=
  if givesB i.op then ⟨1, s.regs⟩ else if i.op = 3 then ⟨s.acc, s.regs.set i.a.toNat 1⟩ else if i.op = 4 then ⟨s.acc, s.regs.set i.a.toNat 2⟩ else s
structure LeS (t s : PSta) : Prop where
  len : t.regs.length = s.regs.length
  acc : t.acc = 0 ∨ t.acc = s.acc
  regs : ∀ (j : Nat) (x y : Int), t.regs[j]? = some x → s.regs[j]? = some y → x = 0 ∨ x = y
theorem LeS.refl (s : PSta) : LeS s s := ⟨rfl, .inr rfl, fun j x y hx hy => .inr (by rw [hx] at hy; injection hy)⟩
theorem LeS.trans {a b c : PSta} (h : LeS a b) (k : LeS b c) : LeS a c := by
  refine ⟨h.len.trans k.len, ?_, fun j x z hx hz => ?_⟩
  · rcases h.acc with h | h
    · exact .inl h
    · rcases k.acc with k | k
      · exact .inl (h.trans k)
      · exact .inr (h.trans k)
  · obtain ⟨y, hy⟩ : ∃ y, b.regs[j]? = some y := ⟨_, List.getElem?_eq_getElem (by have := (List.getElem?_eq_some_iff.1 hx).1; have := h.len; omega)⟩
    rcases h.regs j x y hx hy with h1 | h1
    · exact .inl h1
    · rcases k.regs j y z hy hz with h2 | h2
      · exact .inl (h1.trans h2)
      · exact .inr (h1.trans h2)
theorem LeS.antisymm {a b : PSta} (h : LeS a b) (k : LeS b a) : a = b := by
  obtain ⟨aa, ar⟩ := a
  obtain ⟨ba, br⟩ := b
  have e1 : aa = ba := by
    rcases h.acc with h1 | h1
    · rcases k.acc with k1 | k1
      · exact h1.trans k1.symm
      · exact k1.symm
    · exact h1
  have e2 : ar = br := by
    apply List.ext_getElem?
    intro j
    rcases Nat.lt_or_ge j ar.length with hj | hj
    · have hj2 : j < br.length := by have := h.len; simp at this; omega
      have ha := List.getElem?_eq_getElem hj
      have hb := List.getElem?_eq_getElem hj2
      rcases h.regs j _ _ ha hb with h1 | h1
      · rcases k.regs j _ _ hb ha with k1 | k1
        · rw [ha, hb, h1, k1]
        · rw [ha, hb, k1]
      · rw [ha, hb, h1]
    · rw [List.getElem?_eq_none hj, List.getElem?_eq_none (by have := h.len; simp at this; omega)]
  rw [e1, e2]
theorem join_at {l m : List Int} {j : Nat} {z : Int} (h : (joinL l m)[j]? = some z) : z = joinAt l m j := by
  unfold joinL at h
  rw [List.getElem?_map] at h
  cases e : (List.range (max l.length m.length))[j]? with
  | none => rw [e] at h; cases h
  | some i =>
    rw [e] at h
    obtain ⟨h1, h2⟩ := List.getElem?_eq_some_iff.1 e
    rw [List.getElem_range] at h2
    subst h2
    simp only [Option.map_some, Option.some.injEq] at h
    exact h.symm
theorem joinL_size (l m : List Int) : (joinL l m).length = max l.length m.length := by simp [joinL]
theorem join_le (a b : PSta) (h : a.regs.length = b.regs.length) : LeS (joinS a b) a ∧ LeS (joinS a b) b := by
  refine ⟨⟨?_, ?_, fun j x y hx hy => ?_⟩, ⟨?_, ?_, fun j x y hx hy => ?_⟩⟩
  · show (joinL a.regs b.regs).length = _
    rw [joinL_size]; omega
  · show (if a.acc = b.acc then a.acc else 0) = 0 ∨ (if a.acc = b.acc then a.acc else 0) = a.acc
    split
    · exact .inr rfl
    · exact .inl rfl
  · have e := join_at (l := a.regs) (m := b.regs) hx
    unfold joinAt at e
    rw [hy] at e
    cases h2 : b.regs[j]? with
    | none => rw [h2] at e; exact .inl e
    | some z =>
      rw [h2] at e
      simp only at e
      by_cases h3 : y = z
      · rw [if_pos h3] at e; exact .inr e
      · rw [if_neg h3] at e; exact .inl e
  · show (joinL a.regs b.regs).length = _
    rw [joinL_size]; omega
  · show (if a.acc = b.acc then a.acc else 0) = 0 ∨ (if a.acc = b.acc then a.acc else 0) = b.acc
    split
    · rename_i h; exact .inr h
    · exact .inl rfl
  · have e := join_at (l := a.regs) (m := b.regs) hx
    unfold joinAt at e
    rw [hy] at e
    cases h2 : a.regs[j]? with
    | none => rw [h2] at e; exact .inl e
    | some z =>
      rw [h2] at e
      simp only at e
      by_cases h3 : z = y
      · rw [if_pos h3] at e; exact .inr (e.trans h3)
      · rw [if_neg h3] at e; exact .inl e
theorem le_join {t a b : PSta} (h : LeS t a) (k : LeS t b) : LeS t (joinS a b) := by
  refine ⟨?_, ?_, fun j x y hx hy => ?_⟩
  · show _ = (joinL a.regs b.regs).length
    rw [joinL_size]
    have := h.len
    have := k.len
    omega
  · show t.acc = 0 ∨ t.acc = (if a.acc = b.acc then a.acc else 0)
    rcases h.acc with h1 | h1
    · exact .inl h1
    · rcases k.acc with k1 | k1
      · exact .inl k1
      · rw [if_pos (h1.symm.trans k1)]; exact .inr h1
  · have e := join_at (l := a.regs) (m := b.regs) hy
    have hj := (List.getElem?_eq_some_iff.1 hx).1
    obtain ⟨u, hu⟩ : ∃ u, a.regs[j]? = some u := ⟨_, List.getElem?_eq_getElem (by have := h.len; omega)⟩
    obtain ⟨v, hv⟩ : ∃ u, b.regs[j]? = some u := ⟨_, List.getElem?_eq_getElem (by have := k.len; omega)⟩
    unfold joinAt at e
    rw [hu, hv] at e
    simp only at e
    rcases h.regs j x u hx hu with h1 | h1
    · exact .inl h1
    · rcases k.regs j x v hx hv with k1 | k1
      · exact .inl k1
      · rw [if_pos (h1.symm.trans k1)] at e; exact .inr (h1.trans e.symm)
theorem regIs_le {t s : PSta} (h : LeS t s) {r w : Int} (hw : w ≠ 0) (ht : regIs t r w = true) : regIs s r w = true := by
  unfold regIs at ht ⊢
  simp only [Bool.and_eq_true, decide_eq_true_eq] at ht ⊢
  obtain ⟨h1, h2⟩ := ht
  rw [h.len] at h1
  refine ⟨h1, ?_⟩
  obtain ⟨y, hy⟩ : ∃ y, s.regs[r.toNat]? = some y := ⟨_, List.getElem?_eq_getElem (by have := (List.getElem?_eq_some_iff.1 h2).1; have := h.len; omega)⟩
  rcases h.regs _ _ _ h2 hy with h3 | h3
  · exact absurd h3 hw
  · rw [hy, h3]
theorem regIn_le {t s : PSta} (h : LeS t s) {r : Int} (ht : regIn t r = true) : regIn s r = true := by
  unfold regIn at ht ⊢
  rw [← h.len]
  exact ht
theorem acc_le {t s : PSta} (h : LeS t s) (ht : t.acc = 1) : s.acc = 1 := by
  rcases h.acc with h1 | h1
  · rw [h1] at ht; cases ht
  · rw [← h1]; exact ht
theorem capsMay_le {p : PImg} {f : PFun} {t s : PSta} (h : LeS t s) {a : Int} (ht : capsMay p f t a = true) : capsMay p f s a = true := by
  unfold capsMay at ht ⊢
  cases hg : p.funcs[a.toNat]? with
  | none => rw [hg] at ht; cases ht
  | some g =>
    rw [hg] at ht
    simp only [List.all_eq_true] at ht ⊢
    intro c hc
    have h1 := ht c hc
    unfold capMay at h1 ⊢
    split at h1
    · rename_i hr
      rw [if_pos hr]
      exact regIs_le h (by decide) h1
    · rename_i hr
      rw [if_neg hr]
      exact h1
theorem may_le {p : PImg} {f : PFun} {i : PIns} {t s : PSta} (h : LeS t s) (ht : mayB p f i t = true) : mayB p f i s = true := by
  have r1 := fun (x : Int) => regIs_le (r := x) h (show (1 : Int) ≠ 0 by decide)
  have r2 := fun (x : Int) => regIs_le (r := x) h (show (2 : Int) ≠ 0 by decide)
  have r3 := acc_le h
  have r4 := fun (x : Int) => regIn_le (r := x) h
  have r5 := fun (x : Int) => capsMay_le (p := p) (f := f) (a := x) h
  have dec1 : s.acc = 1 → decide (s.acc = 1) = true := fun h => decide_eq_true h
  unfold mayB at ht ⊢
  by_cases c0 : i.op = 1
  · rw [if_pos c0] at ht ⊢
    exact ht
  rw [if_neg c0] at ht ⊢
  by_cases c1 : i.op = 2
  · rw [if_pos c1] at ht ⊢
    exact r1 _ ht
  rw [if_neg c1] at ht ⊢
  by_cases c2 : i.op = 3 ∨ i.op = 4
  · rw [if_pos c2] at ht ⊢
    rw [Bool.and_eq_true] at ht ⊢; exact ⟨r4 _ ht.1, dec1 (r3 (of_decide_eq_true ht.2))⟩
  rw [if_neg c2] at ht ⊢
  by_cases c3 : i.op = 5
  · rw [if_pos c3] at ht ⊢
    exact r2 _ ht
  rw [if_neg c3] at ht ⊢
  by_cases c4 : i.op = 6
  · rw [if_pos c4] at ht ⊢
    rw [Bool.and_eq_true] at ht ⊢; exact ⟨r2 _ ht.1, dec1 (r3 (of_decide_eq_true ht.2))⟩
  rw [if_neg c4] at ht ⊢
  by_cases c5 : i.op = 7
  · rw [if_pos c5] at ht ⊢
    exact ht
  rw [if_neg c5] at ht ⊢
  by_cases c6 : i.op = 8
  · rw [if_pos c6] at ht ⊢
    rw [Bool.and_eq_true] at ht ⊢; exact ⟨ht.1, dec1 (r3 (of_decide_eq_true ht.2))⟩
  rw [if_neg c6] at ht ⊢
  by_cases c7 : i.op = 9
  · rw [if_pos c7] at ht ⊢
    rw [Bool.and_eq_true, Bool.and_eq_true] at ht ⊢; exact ⟨ht.1, r1 _ ht.2.1, dec1 (r3 (of_decide_eq_true ht.2.2))⟩
  rw [if_neg c7] at ht ⊢
  by_cases c8 : i.op = 13 ∨ i.op = 14
  · rw [if_pos c8] at ht ⊢
    rw [Bool.and_eq_true] at ht ⊢; exact ⟨ht.1, dec1 (r3 (of_decide_eq_true ht.2))⟩
  rw [if_neg c8] at ht ⊢
  by_cases c9 : i.op = 12
  · rw [if_pos c9] at ht ⊢
    exact ht
  rw [if_neg c9] at ht ⊢
  by_cases c10 : i.op = 15
  · rw [if_pos c10] at ht ⊢
    rw [Bool.and_eq_true] at ht ⊢; exact ⟨ht.1, r5 _ ht.2⟩
  rw [if_neg c10] at ht ⊢
  by_cases c11 : i.op = 16
  · rw [if_pos c11] at ht ⊢
    rw [List.all_eq_true] at ht ⊢; exact fun k hk => r1 _ (ht k hk)
  rw [if_neg c11] at ht ⊢
  exact dec1 (r3 (of_decide_eq_true ht))
theorem aft_len (i : PIns) (s : PSta) : (aftS i s).regs.length = s.regs.length := by
  unfold aftS
  split
  · rfl
  split
  · simp
  split
  · simp
  · rfl
theorem set_le {t s : List Int} (h : ∀ (j : Nat) (x y : Int), t[j]? = some x → s[j]? = some y → x = 0 ∨ x = y) (a : Nat) (z : Int) (j : Nat) (x y : Int) (hx : (t.set a z)[j]? = some x) (hy : (s.set a z)[j]? = some y) : x = 0 ∨ x = y := by
  rw [List.getElem?_set] at hx hy
  by_cases e : a = j
  · subst e
    rw [if_pos rfl] at hx hy
    by_cases l1 : a < t.length
    · rw [if_pos l1] at hx
      by_cases l2 : a < s.length
      · rw [if_pos l2] at hy
        injection hx with hx
        injection hy with hy
        exact .inr (hx.symm.trans hy)
      · rw [if_neg l2] at hy; cases hy
    · rw [if_neg l1] at hx; cases hx
  · rw [if_neg e] at hx hy
    exact h j x y hx hy
theorem aft_le {i : PIns} {t s : PSta} (h : LeS t s) : LeS (aftS i t) (aftS i s) := by
  refine ⟨by rw [aft_len, aft_len]; exact h.len, ?_, ?_⟩
  · unfold aftS
    by_cases c1 : givesB i.op
    · rw [if_pos c1, if_pos c1]; exact .inr rfl
    rw [if_neg c1, if_neg c1]
    by_cases c2 : i.op = 3
    · rw [if_pos c2, if_pos c2]; exact h.acc
    rw [if_neg c2, if_neg c2]
    by_cases c3 : i.op = 4
    · rw [if_pos c3, if_pos c3]; exact h.acc
    rw [if_neg c3, if_neg c3]
    exact h.acc
  · unfold aftS
    by_cases c1 : givesB i.op
    · rw [if_pos c1, if_pos c1]; exact h.regs
    rw [if_neg c1, if_neg c1]
    by_cases c2 : i.op = 3
    · rw [if_pos c2, if_pos c2]; exact set_le h.regs _ _
    rw [if_neg c2, if_neg c2]
    by_cases c3 : i.op = 4
    · rw [if_pos c3, if_pos c3]; exact set_le h.regs _ _
    rw [if_neg c3, if_neg c3]
    exact h.regs
def hndTo (q : Nat) (s : PSta) (h : PHnd) : Option (Nat × PSta) := if h.lo ≤ q ∧ (q : Int) < h.hi then some (h.target.toNat, ⟨1, s.regs⟩) else none
def jumpsB (o : Int) : Bool := decide (o = 14 ∨ o = 13 ∨ o = 12)
def endsB (o : Int) : Bool := decide (o = 12 ∨ o = 17 ∨ o = 18)
def nexts (f : PFun) (q : Nat) (i : PIns) (s : PSta) : List (Nat × PSta) :=
  f.hnds.filterMap (hndTo q s) ++ ((if jumpsB i.op then [(i.a.toNat, aftS i s)] else []) ++ (if endsB i.op then [] else [(q + 1, aftS i s)]))
theorem nexts_len {f : PFun} {q : Nat} {i : PIns} {s : PSta} {x : Nat × PSta} (h : x ∈ nexts f q i s) : x.2.regs.length = s.regs.length := by
  unfold nexts at h
  simp only [List.mem_append, List.mem_filterMap] at h
  rcases h with ⟨k, _, hk⟩ | h | h
  · unfold hndTo at hk
    split at hk
    · injection hk with hk; rw [← hk]
    · cases hk
  · split at h
    · simp at h; rw [h]; exact aft_len i s
    · cases h
  · split at h
    · cases h
    · simp at h; rw [h]; exact aft_len i s
theorem nexts_le {f : PFun} {q : Nat} {i : PIns} {t s : PSta} (h : LeS t s) {x : Nat × PSta} (hx : x ∈ nexts f q i s) : ∃ y, y ∈ nexts f q i t ∧ y.1 = x.1 ∧ LeS y.2 x.2 := by
  unfold nexts at hx ⊢
  simp only [List.mem_append, List.mem_filterMap] at hx ⊢
  rcases hx with ⟨k, hk0, hk⟩ | hx | hx
  · unfold hndTo at hk
    split at hk
    · rename_i hc
      injection hk with hk
      subst hk
      exact ⟨(k.target.toNat, ⟨1, t.regs⟩), .inl ⟨k, hk0, by unfold hndTo; rw [if_pos hc]⟩, rfl, ⟨h.len, .inr rfl, h.regs⟩⟩
    · cases hk
  · split at hx
    · rename_i hc
      simp at hx
      subst hx
      exact ⟨(i.a.toNat, aftS i t), .inr (.inl (by rw [if_pos hc]; simp)), rfl, aft_le h⟩
    · cases hx
  · split at hx
    · cases hx
    · rename_i hc
      simp at hx
      subst hx
      exact ⟨(q + 1, aftS i t), .inr (.inr (by rw [if_neg hc]; simp)), rfl, aft_le h⟩
def firstS (f : PFun) : PSta := ⟨0, (List.range f.regs.toNat).map fun (k : Nat) => if (k : Int) < f.params then (1 : Int) else 0⟩
theorem firstS_len (f : PFun) : (firstS f).regs.length = f.regs.toNat := by simp [firstS]
structure Sound (p : PImg) (f : PFun) (F : Nat → Option PSta) : Prop where
  within : ∀ q t, F q = some t → q < f.code.length ∧ t.regs.length = f.regs.toNat
  first : ∃ t, F 0 = some t ∧ LeS t (firstS f)
  may : ∀ q t i, F q = some t → f.code[q]? = some i → mayB p f i t = true
  goes : ∀ q t i x, F q = some t → f.code[q]? = some i → x ∈ nexts f q i t → ∃ u, F x.1 = some u ∧ LeS u x.2
structure Best (p : PImg) (f : PFun) (F : Nat → Option PSta) : Prop where
  sound : Sound p f F
  most : ∀ G, Sound p f G → ∀ q t, F q = some t → ∃ u, G q = some u ∧ LeS u t
theorem Best.unique {p : PImg} {f : PFun} {F G : Nat → Option PSta} (h : Best p f F) (k : Best p f G) : F = G := by
  funext q
  cases hF : F q with
  | none =>
    cases hG : G q with
    | none => rfl
    | some u =>
      obtain ⟨t, ht, _⟩ := k.most F h.sound q u hG
      rw [hF] at ht
      cases ht
  | some t =>
    obtain ⟨u, hu, hl⟩ := h.most G k.sound q t hF
    obtain ⟨t', ht', hl'⟩ := k.most F h.sound q u hu
    rw [hF] at ht'
    injection ht' with ht'
    subst ht'
    rw [hu, hl.antisymm hl']
structure RunP where
  list : List PSta
  hit : List Bool
  todo : List Nat
  bad : Bool
def fam (r : RunP) (q : Nat) : Option PSta := if r.hit[q]? = some true then r.list[q]? else none
def sameS (a b : PSta) : Bool := decide (a.acc = b.acc) && decide (a.regs = b.regs)
theorem sameS_eq {a b : PSta} (h : sameS a b = true) : a = b := by
  unfold sameS at h
  simp only [Bool.and_eq_true, decide_eq_true_eq] at h
  obtain ⟨aa, ar⟩ := a
  obtain ⟨ba, br⟩ := b
  rw [show aa = ba from h.1, show ar = br from h.2]
def flowP (r : RunP) (q : Nat) (s : PSta) : RunP :=
  match r.list[q]? with
  | none => { r with bad := true }
  | some old =>
    if r.hit[q]? = some true then
      if sameS (joinS old s) old then r else { r with list := r.list.set q (joinS old s), todo := r.todo ++ [q] }
    else { r with list := r.list.set q s, hit := r.hit.set q true, todo := r.todo ++ [q] }
def flowsP (r : RunP) (xs : List (Nat × PSta)) : RunP := xs.foldl (fun r x => flowP r x.1 x.2) r
theorem flowsP_nil (r : RunP) : flowsP r [] = r := rfl
theorem flowsP_one (r : RunP) (x : Nat × PSta) : flowsP r [x] = flowP r x.1 x.2 := rfl
theorem flowsP_app (r : RunP) (xs ys : List (Nat × PSta)) : flowsP r (xs ++ ys) = flowsP (flowsP r xs) ys := by unfold flowsP; rw [List.foldl_append]
theorem flowsP_cons (r : RunP) (x : Nat × PSta) (ys : List (Nat × PSta)) : flowsP r (x :: ys) = flowsP (flowP r x.1 x.2) ys := rfl
def Ge (r : RunP) (q : Nat) (s : PSta) : Prop := ∃ t, fam r q = some t ∧ LeS t s
structure RunOk (n R : Nat) (r : RunP) : Prop where
  len : r.list.length = n
  hlen : r.hit.length = n
  regs : ∀ q t, fam r q = some t → t.regs.length = R
  zero : ∀ (q : Nat) (t : PSta), r.list[q]? = some t → r.hit[q]? ≠ some true → t = PSta.mk 0 []
  todo : ∀ q, q ∈ r.todo → ∃ t, fam r q = some t
theorem fam_at {r : RunP} {q : Nat} {t : PSta} (h : fam r q = some t) : r.hit[q]? = some true ∧ r.list[q]? = some t := by
  unfold fam at h
  split at h
  · rename_i c; exact ⟨c, h⟩
  · cases h
theorem fam_of {r : RunP} {q : Nat} {t : PSta} (h : r.hit[q]? = some true) (k : r.list[q]? = some t) : fam r q = some t := by
  unfold fam
  rw [if_pos h, k]
theorem flow_cases (n R : Nat) (r : RunP) (h : RunOk n R r) (q : Nat) (s : PSta) (hs : s.regs.length = R) :
    (n ≤ q ∧ flowP r q s = { r with bad := true }) ∨
    (Ge r q s ∧ flowP r q s = r) ∨
    (∃ t, q < n ∧ fam r q = some t ∧ ¬ LeS t s ∧ flowP r q s = { r with list := r.list.set q (joinS t s), todo := r.todo ++ [q] }) ∨
    (q < n ∧ fam r q = none ∧ flowP r q s = { r with list := r.list.set q s, hit := r.hit.set q true, todo := r.todo ++ [q] }) := by
  cases hq : r.list[q]? with
  | none =>
    refine .inl ⟨?_, by unfold flowP; rw [hq]⟩
    have := List.getElem?_eq_none_iff.1 hq
    have := h.len
    omega
  | some old =>
    have hlt : q < n := by have := (List.getElem?_eq_some_iff.1 hq).1; have := h.len; omega
    by_cases hh : r.hit[q]? = some true
    · have hf := fam_of hh hq
      have hl : old.regs.length = s.regs.length := by rw [h.regs q old hf, hs]
      by_cases hj : sameS (joinS old s) old = true
      · refine .inr (.inl ⟨⟨old, hf, ?_⟩, by unfold flowP; rw [hq]; simp only; rw [if_pos hh, if_pos hj]⟩)
        have := (join_le old s hl).2
        rw [sameS_eq hj] at this
        exact this
      · refine .inr (.inr (.inl ⟨old, hlt, hf, fun hle => hj ?_, by unfold flowP; rw [hq]; simp only; rw [if_pos hh, if_neg hj]⟩))
        have e : joinS old s = old := ((join_le old s hl).1).antisymm (le_join (LeS.refl old) hle)
        rw [e]
        unfold sameS
        simp
    · exact .inr (.inr (.inr ⟨hlt, by unfold fam; rw [if_neg hh], by unfold flowP; rw [hq]; simp only; rw [if_neg hh]⟩))
theorem fam_set {r : RunP} {n : Nat} (hl : r.list.length = n) (q : Nat) (hq : q < n) (t : PSta) (m : List Nat) (h : r.hit[q]? = some true) (k : Nat) :
    fam { r with list := r.list.set q t, todo := m } k = if q = k then some t else fam r k := by
  unfold fam
  simp only
  by_cases e : q = k
  · subst e
    rw [if_pos h, if_pos rfl, List.getElem?_set_self (by omega)]
  · rw [if_neg e, List.getElem?_set_ne e]
theorem fam_new {r : RunP} {n : Nat} (hl : r.list.length = n) (hh : r.hit.length = n) (q : Nat) (hq : q < n) (t : PSta) (m : List Nat) (k : Nat) :
    fam { r with list := r.list.set q t, hit := r.hit.set q true, todo := m } k = if q = k then some t else fam r k := by
  unfold fam
  simp only
  by_cases e : q = k
  · subst e
    rw [List.getElem?_set_self (by omega), if_pos rfl, List.getElem?_set_self (by omega), if_pos rfl]
  · rw [if_neg e, List.getElem?_set_ne e, List.getElem?_set_ne e]
structure Flowed (R : Nat) (r r' : RunP) : Prop where
  bad : r.bad = true → r'.bad = true
  todo : ∀ q, q ∈ r.todo → q ∈ r'.todo
  tells : ∀ q t, fam r q = some t → ∃ u, fam r' q = some u ∧ LeS u t
  same : ∀ q t, fam r' q = some t → fam r q = some t ∨ q ∈ r'.todo
theorem Flowed.refl (R : Nat) (r : RunP) : Flowed R r r := ⟨id, fun _ => id, fun q t h => ⟨t, h, LeS.refl t⟩, fun q t h => .inl h⟩
theorem Flowed.trans {R : Nat} {a b c : RunP} (h : Flowed R a b) (k : Flowed R b c) : Flowed R a c := by
  refine ⟨fun x => k.bad (h.bad x), fun q x => k.todo q (h.todo q x), fun q t ht => ?_, fun q t ht => ?_⟩
  · obtain ⟨u, hu, l1⟩ := h.tells q t ht
    obtain ⟨v, hv, l2⟩ := k.tells q u hu
    exact ⟨v, hv, l2.trans l1⟩
  · rcases k.same q t ht with h1 | h1
    · rcases h.same q t h1 with h2 | h2
      · exact .inl h2
      · exact .inr (k.todo q h2)
    · exact .inr h1
theorem Flowed.ge {R : Nat} {r r' : RunP} (h : Flowed R r r') {q : Nat} {s : PSta} (g : Ge r q s) : Ge r' q s := by
  obtain ⟨t, ht, hl⟩ := g
  obtain ⟨u, hu, hl2⟩ := h.tells q t ht
  exact ⟨u, hu, hl2.trans hl⟩
theorem flow_flowed {n R : Nat} {r : RunP} (h : RunOk n R r) (q : Nat) (s : PSta) (hs : s.regs.length = R) : Flowed R r (flowP r q s) ∧ RunOk n R (flowP r q s) ∧ ((flowP r q s).bad = true ∨ Ge (flowP r q s) q s) := by
  rcases flow_cases n R r h q s hs with ⟨h1, e⟩ | ⟨h1, e⟩ | ⟨t, h1, h2, h3, e⟩ | ⟨h1, h2, e⟩
  · rw [e]
    exact ⟨⟨fun _ => rfl, fun _ => id, fun q t h => ⟨t, h, LeS.refl t⟩, fun q t h => .inl h⟩, ⟨h.len, h.hlen, h.regs, h.zero, h.todo⟩, .inl rfl⟩
  · rw [e]
    exact ⟨Flowed.refl R r, h, .inr h1⟩
  · rw [e]
    have hh := (fam_at h2).1
    have hl : t.regs.length = s.regs.length := by rw [h.regs q t h2, hs]
    have F := fam_set h.len q h1 (joinS t s) (r.todo ++ [q]) hh
    refine ⟨⟨id, fun k hk => List.mem_append_left _ hk, fun k u hu => ?_, fun k u hu => ?_⟩, ⟨by simp [h.len], h.hlen, fun k u hu => ?_, fun k u hu hn => ?_, fun k hk => ?_⟩, .inr ⟨joinS t s, by rw [F, if_pos rfl], (join_le t s hl).2⟩⟩
    · rw [F]
      by_cases e2 : q = k
      · subst e2
        rw [if_pos rfl]
        rw [h2] at hu
        injection hu with hu
        subst hu
        exact ⟨_, rfl, (join_le t s hl).1⟩
      · rw [if_neg e2]; exact ⟨u, hu, LeS.refl u⟩
    · rw [F] at hu
      by_cases e2 : q = k
      · subst e2; exact .inr (by simp)
      · rw [if_neg e2] at hu; exact .inl hu
    · rw [F] at hu
      by_cases e2 : q = k
      · subst e2
        rw [if_pos rfl] at hu
        injection hu with hu
        subst hu
        rw [(join_le t s hl).1.len]
        exact h.regs q t h2
      · rw [if_neg e2] at hu; exact h.regs k u hu
    · by_cases e2 : q = k
      · subst e2; exact absurd hh hn
      · have hu' : (r.list.set q (joinS t s))[k]? = some u := hu
        rw [List.getElem?_set_ne e2] at hu'
        exact h.zero k u hu' hn
    · rw [F]
      by_cases e2 : q = k
      · rw [if_pos e2]; exact ⟨_, rfl⟩
      · rw [if_neg e2]
        rcases List.mem_append.1 hk with h5 | h5
        · exact h.todo k h5
        · simp at h5; exact absurd h5.symm e2
  · rw [e]
    have F := fam_new h.len h.hlen q h1 s (r.todo ++ [q])
    refine ⟨⟨id, fun k hk => List.mem_append_left _ hk, fun k u hu => ?_, fun k u hu => ?_⟩, ⟨by simp [h.len], by simp [h.hlen], fun k u hu => ?_, fun k u hu hn => ?_, fun k hk => ?_⟩, .inr ⟨s, by rw [F, if_pos rfl], LeS.refl s⟩⟩
    · rw [F]
      by_cases e2 : q = k
      · subst e2; rw [h2] at hu; cases hu
      · rw [if_neg e2]; exact ⟨u, hu, LeS.refl u⟩
    · rw [F] at hu
      by_cases e2 : q = k
      · subst e2; exact .inr (by simp)
      · rw [if_neg e2] at hu; exact .inl hu
    · rw [F] at hu
      by_cases e2 : q = k
      · rw [if_pos e2] at hu; injection hu with hu; rw [← hu]; exact hs
      · rw [if_neg e2] at hu; exact h.regs k u hu
    · have hu' : (r.list.set q s)[k]? = some u := hu
      have hn' : (r.hit.set q true)[k]? ≠ some true := hn
      by_cases e2 : q = k
      · subst e2; rw [List.getElem?_set_self (by have := h.hlen; omega)] at hn'; exact absurd rfl hn'
      · rw [List.getElem?_set_ne e2] at hu' hn'; exact h.zero k u hu' hn'
    · rw [F]
      by_cases e2 : q = k
      · rw [if_pos e2]; exact ⟨_, rfl⟩
      · rw [if_neg e2]
        rcases List.mem_append.1 hk with h5 | h5
        · exact h.todo k h5
        · simp at h5; exact absurd h5.symm e2
theorem flows_flowed {n R : Nat} (xs : List (Nat × PSta)) : ∀ {r : RunP}, RunOk n R r → (∀ x ∈ xs, x.2.regs.length = R) → Flowed R r (flowsP r xs) ∧ RunOk n R (flowsP r xs) ∧ ((flowsP r xs).bad = true ∨ ∀ x ∈ xs, Ge (flowsP r xs) x.1 x.2) := by
  induction xs with
  | nil => exact fun {r} h _ => ⟨Flowed.refl R r, h, .inr (fun x hx => by cases hx)⟩
  | cons x xs ih =>
    intro r h hx
    obtain ⟨a1, a2, a3⟩ := flow_flowed h x.1 x.2 (hx x (by simp))
    obtain ⟨b1, b2, b3⟩ := ih a2 (fun y hy => hx y (by simp [hy]))
    rw [flowsP_cons]
    refine ⟨a1.trans b1, b2, ?_⟩
    rcases b3 with b3 | b3
    · exact .inl b3
    · rcases a3 with a3 | a3
      · exact .inl (b1.bad a3)
      · refine .inr (fun y hy => ?_)
        rcases List.mem_cons.1 hy with rfl | hy
        · exact b1.ge a3
        · exact b3 y hy
def Upper (p : PImg) (f : PFun) (r : RunP) : Prop := ∀ G, Sound p f G → r.bad = false ∧ ∀ q t, fam r q = some t → ∃ u, G q = some u ∧ LeS u t
theorem flow_upper {p : PImg} {f : PFun} {r : RunP} (h : RunOk f.code.length f.regs.toNat r) (hu : Upper p f r) (q : Nat) (s : PSta) (hs : s.regs.length = f.regs.toNat) (hg : ∀ G, Sound p f G → ∃ u, G q = some u ∧ LeS u s) : Upper p f (flowP r q s) := by
  intro G hG
  obtain ⟨b, k⟩ := hu G hG
  obtain ⟨v, hv, hl⟩ := hg G hG
  rcases flow_cases _ _ r h q s hs with ⟨h1, e⟩ | ⟨h1, e⟩ | ⟨t, h1, h2, h3, e⟩ | ⟨h1, h2, e⟩
  · have := (hG.within q v hv).1
    omega
  · rw [e]; exact ⟨b, k⟩
  · rw [e]
    refine ⟨b, fun k' u hu' => ?_⟩
    rw [fam_set h.len q h1 (joinS t s) (r.todo ++ [q]) (fam_at h2).1] at hu'
    by_cases e2 : q = k'
    · subst e2
      rw [if_pos rfl] at hu'
      injection hu' with hu'
      subst hu'
      obtain ⟨w, hw, hl2⟩ := k q t h2
      rw [hv] at hw
      injection hw with hw
      subst hw
      exact ⟨v, hv, le_join hl2 hl⟩
    · rw [if_neg e2] at hu'; exact k k' u hu'
  · rw [e]
    refine ⟨b, fun k' u hu' => ?_⟩
    rw [fam_new h.len h.hlen q h1 s (r.todo ++ [q])] at hu'
    by_cases e2 : q = k'
    · subst e2
      rw [if_pos rfl] at hu'
      injection hu' with hu'
      subst hu'
      exact ⟨v, hv, hl⟩
    · rw [if_neg e2] at hu'; exact k k' u hu'
theorem flows_upper {p : PImg} {f : PFun} (xs : List (Nat × PSta)) : ∀ {r : RunP}, RunOk f.code.length f.regs.toNat r → Upper p f r → (∀ x ∈ xs, x.2.regs.length = f.regs.toNat) → (∀ x ∈ xs, ∀ G, Sound p f G → ∃ u, G x.1 = some u ∧ LeS u x.2) → Upper p f (flowsP r xs) := by
  induction xs with
  | nil => exact fun {r} _ h _ _ => h
  | cons x xs ih =>
    intro r h hu hx hg
    rw [flowsP_cons]
    exact ih (flow_flowed h x.1 x.2 (hx x (by simp))).2.1 (flow_upper h hu x.1 x.2 (hx x (by simp)) (hg x (by simp))) (fun y hy => hx y (by simp [hy])) (fun y hy => hg y (by simp [hy]))
def Closed (p : PImg) (f : PFun) (r : RunP) (q : Nat) (t : PSta) : Prop := ∀ i, f.code[q]? = some i → mayB p f i t = true ∧ ∀ x ∈ nexts f q i t, Ge r x.1 x.2
structure RunInv (p : PImg) (f : PFun) (r : RunP) : Prop where
  ok : RunOk f.code.length f.regs.toNat r
  up : Upper p f r
  first : r.bad = true ∨ Ge r 0 (firstS f)
  done : r.bad = true ∨ ∀ q t, fam r q = some t → q ∈ r.todo ∨ Closed p f r q t
def stepP (f : PFun) (q : Nat) (i : PIns) (s : PSta) (r : RunP) : RunP := flowsP r (nexts f q i s)
theorem step_inv {p : PImg} {f : PFun} {r : RunP} {q : Nat} {m : List Nat} {i : PIns} {s : PSta} (h : RunInv p f r) (hb : r.bad = false) (ht : r.todo = q :: m) (hs : r.list[q]? = some s) (hi : f.code[q]? = some i) (hm : mayB p f i s = true) : RunInv p f (stepP f q i s { r with todo := m }) := by
  have hq : fam r q = some s := by
    obtain ⟨t, ht'⟩ := h.ok.todo q (by rw [ht]; simp)
    have e := (fam_at ht').2
    rw [hs] at e
    injection e with e
    rw [e]; exact ht'
  have ok1 : RunOk f.code.length f.regs.toNat { r with todo := m } := ⟨h.ok.len, h.ok.hlen, h.ok.regs, h.ok.zero, fun k hk => h.ok.todo k (by rw [ht]; exact List.mem_cons_of_mem _ hk)⟩
  have up1 : Upper p f { r with todo := m } := h.up
  have hR := h.ok.regs q s hq
  have hx : ∀ x ∈ nexts f q i s, x.2.regs.length = f.regs.toNat := fun x hx => (nexts_len hx).trans hR
  obtain ⟨a1, a2, a3⟩ := flows_flowed (nexts f q i s) ok1 hx
  have hg : ∀ x ∈ nexts f q i s, ∀ G, Sound p f G → ∃ u, G x.1 = some u ∧ LeS u x.2 := fun x hx G hG => by
    obtain ⟨t, ht', hl⟩ := (h.up G hG).2 q s hq
    obtain ⟨y, hy, e1, hl2⟩ := nexts_le hl hx
    obtain ⟨u, hu, hl3⟩ := hG.goes q t i y ht' hi hy
    rw [e1] at hu
    exact ⟨u, hu, hl3.trans hl2⟩
  refine ⟨a2, flows_upper _ ok1 up1 hx hg, ?_, ?_⟩
  · rcases h.first with h1 | h1
    · rw [hb] at h1; cases h1
    · exact .inr (a1.ge (r := { r with todo := m }) h1)
  · rcases a3 with a3 | a3
    · exact .inl a3
    · rcases h.done with h1 | h1
      · rw [hb] at h1; cases h1
      · refine .inr (fun k t hk => ?_)
        rcases a1.same k t hk with h2 | h2
        · have h2' : fam r k = some t := h2
          by_cases e : k = q
          · subst e
            rw [hq] at h2'
            injection h2' with h2'
            subst h2'
            refine .inr (fun i' hi' => ?_)
            rw [hi] at hi'
            injection hi' with hi'
            subst hi'
            exact ⟨hm, a3⟩
          · rcases h1 k t h2' with h3 | h3
            · rw [ht] at h3
              rcases List.mem_cons.1 h3 with h4 | h4
              · exact absurd h4 e
              · exact .inl (a1.todo k h4)
            · refine .inr (fun i' hi' => ?_)
              obtain ⟨h4, h5⟩ := h3 i' hi'
              exact ⟨h4, fun x hx => a1.ge (r := { r with todo := m }) (h5 x hx)⟩
        · exact .inl h2
theorem may_no {p : PImg} {f : PFun} {r : RunP} {q : Nat} {i : PIns} {s : PSta} (h : RunInv p f r) (ht : q ∈ r.todo) (hs : r.list[q]? = some s) (hi : f.code[q]? = some i) (hm : mayB p f i s = false) : ∀ F, ¬ Sound p f F := by
  intro G hG
  obtain ⟨t, ht'⟩ := h.ok.todo q ht
  have e := (fam_at ht').2
  rw [hs] at e
  injection e with e
  subst e
  obtain ⟨u, hu, hl⟩ := (h.up G hG).2 q s ht'
  have := may_le (p := p) (f := f) (i := i) hl (hG.may q u i hu hi)
  rw [hm] at this
  cases this
theorem bad_no {p : PImg} {f : PFun} {r : RunP} (h : RunInv p f r) (hb : r.bad = true) : ∀ F, ¬ Sound p f F := by
  intro G hG
  have := (h.up G hG).1
  rw [hb] at this
  cases this
theorem end_best {p : PImg} {f : PFun} {r : RunP} (h : RunInv p f r) (hb : r.bad = false) (ht : r.todo = []) : Best p f (fam r) := by
  refine ⟨⟨fun q t hq => ⟨?_, h.ok.regs q t hq⟩, ?_, fun q t i hq hi => ?_, fun q t i x hq hi hx => ?_⟩, fun G hG => (h.up G hG).2⟩
  · have := (List.getElem?_eq_some_iff.1 (fam_at hq).2).1
    have := h.ok.len
    omega
  · rcases h.first with h1 | h1
    · rw [hb] at h1; cases h1
    · exact h1
  · rcases h.done with h1 | h1
    · rw [hb] at h1; cases h1
    · rcases h1 q t hq with h2 | h2
      · rw [ht] at h2; cases h2
      · exact (h2 i hi).1
  · rcases h.done with h1 | h1
    · rw [hb] at h1; cases h1
    · rcases h1 q t hq with h2 | h2
      · rw [ht] at h2; cases h2
      · exact (h2 i hi).2 x hx
def noneP (f : PFun) : RunP := ⟨List.replicate f.code.length ⟨0, []⟩, List.replicate f.code.length false, [], false⟩
theorem none_fam (f : PFun) (q : Nat) : fam (noneP f) q = none := by
  unfold fam noneP
  simp only
  rw [if_neg]
  rw [List.getElem?_replicate]
  split <;> simp
theorem start_inv (p : PImg) (f : PFun) : RunInv p f (flowP (noneP f) 0 (firstS f)) := by
  have ok : RunOk f.code.length f.regs.toNat (noneP f) := by
    refine ⟨by simp [noneP], by simp [noneP], fun q t h => ?_, fun q t h _ => ?_, fun q h => ?_⟩
    · rw [none_fam] at h; cases h
    · have h' : (List.replicate f.code.length (PSta.mk 0 []))[q]? = some t := h
      rw [List.getElem?_replicate] at h'
      split at h'
      · injection h' with h'; exact h'.symm
      · cases h'
    · cases h
  have hF := firstS_len f
  obtain ⟨a1, a2, a3⟩ := flow_flowed ok 0 (firstS f) hF
  refine ⟨a2, flow_upper ok (fun G hG => ⟨rfl, fun q t h => by rw [none_fam] at h; cases h⟩) 0 _ hF (fun G hG => hG.first), a3, ?_⟩
  refine .inr (fun q t hq => ?_)
  rcases a1.same q t hq with h | h
  · rw [none_fam] at h; cases h
  · exact .inl h
def nzS (s : PSta) : Nat := (if s.acc = 0 then 0 else 1) + (s.regs.filter (fun x => decide (x ≠ 0))).length
def wsum (R : Nat) : List PSta → List Bool → Nat
  | s :: l, h :: m => (if h then nzS s else R + 2) + wsum R l m
  | _, _ => 0
def runM (R : Nat) (r : RunP) : Nat := 2 * wsum R r.list r.hit + r.todo.length
theorem nzS_le (s : PSta) : nzS s ≤ s.regs.length + 1 := by
  unfold nzS
  have := List.length_filter_le (fun x : Int => decide (x ≠ 0)) s.regs
  split <;> omega
theorem wsum_set (R : Nat) : ∀ (l : List PSta) (m : List Bool) (q : Nat) (s t : PSta) (b : Bool), l.length = m.length → l[q]? = some t → m[q]? = some b → wsum R (l.set q s) (m.set q true) + (if b then nzS t else R + 2) = wsum R l m + nzS s
  | [], _, q, s, t, b, _, h, _ => by simp at h
  | x :: l, [], q, s, t, b, h, _, _ => by simp at h
  | x :: l, y :: m, 0, s, t, b, h, h1, h2 => by
    simp at h1 h2
    subst h1 h2
    simp only [List.set_cons_zero, wsum]
    simp
    omega
  | x :: l, y :: m, q + 1, s, t, b, h, h1, h2 => by
    rw [List.getElem?_cons_succ] at h1 h2
    have := wsum_set R l m q s t b (by simpa using h) h1 h2
    simp only [List.set_cons_succ, wsum]
    omega
theorem nz_list : ∀ (t s : List Int), t.length = s.length → (∀ (j : Nat) (x y : Int), t[j]? = some x → s[j]? = some y → x = 0 ∨ x = y) → (t.filter (fun x => decide (x ≠ 0))).length ≤ (s.filter (fun x => decide (x ≠ 0))).length ∧ ((t.filter (fun x => decide (x ≠ 0))).length = (s.filter (fun x => decide (x ≠ 0))).length → t = s)
  | [], [], _, _ => ⟨Nat.le_refl _, fun _ => rfl⟩
  | [], y :: s, h, _ => by simp at h
  | x :: t, [], h, _ => by simp at h
  | x :: t, y :: s, h, hl => by
    obtain ⟨h1, h2⟩ := nz_list t s (by simpa using h) (fun j a b ha hb => hl (j + 1) a b (by simpa using ha) (by simpa using hb))
    have h0 := hl 0 x y rfl rfl
    by_cases hx : x = 0
    · subst hx
      by_cases hy : y = 0
      · subst hy
        simp only [List.filter_cons, ne_eq, not_true_eq_false, decide_false, Bool.false_eq_true, if_false]
        exact ⟨h1, fun e => by rw [h2 e]⟩
      · have d : decide (y ≠ 0) = true := decide_eq_true hy
        simp only [List.filter_cons, d, ne_eq, not_true_eq_false, decide_false, Bool.false_eq_true, if_false, if_true, List.length_cons]
        refine ⟨Nat.le_succ_of_le h1, fun e => ?_⟩
        simp only [ne_eq] at h1
        omega
    · have e : x = y := by
        rcases h0 with h0 | h0
        · exact absurd h0 hx
        · exact h0
      subst e
      have d : decide (x ≠ 0) = true := decide_eq_true hx
      simp only [List.filter_cons, d, if_true, List.length_cons]
      exact ⟨Nat.succ_le_succ h1, fun e => by rw [h2 (Nat.succ.inj e)]⟩
theorem nz_le {t s : PSta} (h : LeS t s) (hne : t ≠ s) : nzS t + 1 ≤ nzS s := by
  obtain ⟨h1, h2⟩ := nz_list t.regs s.regs h.len h.regs
  unfold nzS
  rcases h.acc with ha | ha
  · by_cases hs : s.acc = 0
    · have : t.regs ≠ s.regs := fun e => hne (by obtain ⟨a, b⟩ := t; obtain ⟨c, d⟩ := s; simp at ha hs e; subst ha hs e; rfl)
      have : (t.regs.filter (fun x => decide (x ≠ 0))).length ≠ (s.regs.filter (fun x => decide (x ≠ 0))).length := fun e => this (h2 e)
      rw [if_pos ha, if_pos hs]
      omega
    · rw [if_pos ha, if_neg hs]; omega
  · have : t.regs ≠ s.regs := fun e => hne (by obtain ⟨a, b⟩ := t; obtain ⟨c, d⟩ := s; simp at ha e; subst ha e; rfl)
    have : (t.regs.filter (fun x => decide (x ≠ 0))).length ≠ (s.regs.filter (fun x => decide (x ≠ 0))).length := fun e => this (h2 e)
    rw [ha]
    omega
theorem set_same {α : Type} {l : List α} {q : Nat} {x : α} (h : l[q]? = some x) : l.set q x = l := by
  apply List.ext_getElem?
  intro j
  by_cases e : q = j
  · subst e
    rw [List.getElem?_set_self (List.getElem?_eq_some_iff.1 h).1, h]
  · rw [List.getElem?_set_ne e]
theorem flow_less {n R : Nat} {r : RunP} (h : RunOk n R r) (q : Nat) (s : PSta) (hs : s.regs.length = R) : runM R (flowP r q s) ≤ runM R r := by
  rcases flow_cases n R r h q s hs with ⟨h1, e⟩ | ⟨h1, e⟩ | ⟨t, h1, h2, h3, e⟩ | ⟨h1, h2, e⟩
  · rw [e]; exact Nat.le_refl _
  · rw [e]; exact Nat.le_refl _
  · rw [e]
    obtain ⟨k1, k2⟩ := fam_at h2
    have hl : t.regs.length = s.regs.length := by rw [h.regs q t h2, hs]
    have w := wsum_set R r.list r.hit q (joinS t s) t true (by rw [h.len, h.hlen]) k2 k1
    rw [set_same k1] at w
    have := nz_le (join_le t s hl).1 (fun e2 => h3 (by have := (join_le t s hl).2; rw [e2] at this; exact this))
    unfold runM
    simp only [List.length_append, List.length_cons, List.length_nil]
    simp only [if_true] at w
    omega
  · rw [e]
    obtain ⟨t, k2⟩ : ∃ t, r.list[q]? = some t := ⟨_, List.getElem?_eq_getElem (by have := h.len; omega)⟩
    obtain ⟨b, k1⟩ : ∃ t, r.hit[q]? = some t := ⟨_, List.getElem?_eq_getElem (by have := h.hlen; omega)⟩
    have hb : b = false := by
      cases b with
      | false => rfl
      | true => rw [fam_of k1 k2] at h2; cases h2
    subst hb
    have w := wsum_set R r.list r.hit q s t false (by rw [h.len, h.hlen]) k2 k1
    have := nzS_le s
    unfold runM
    simp only [List.length_append, List.length_cons, List.length_nil]
    simp only [Bool.false_eq_true, if_false] at w
    omega
theorem flows_less {n R : Nat} (xs : List (Nat × PSta)) : ∀ {r : RunP}, RunOk n R r → (∀ x ∈ xs, x.2.regs.length = R) → runM R (flowsP r xs) ≤ runM R r := by
  induction xs with
  | nil => exact fun {r} _ _ => Nat.le_refl _
  | cons x xs ih =>
    intro r h hx
    rw [flowsP_cons]
    exact Nat.le_trans (ih (flow_flowed h x.1 x.2 (hx x (by simp))).2.1 (fun y hy => hx y (by simp [hy]))) (flow_less h x.1 x.2 (hx x (by simp)))
theorem step_less {p : PImg} {f : PFun} {r : RunP} {q : Nat} {m : List Nat} {i : PIns} {s : PSta} (h : RunInv p f r) (ht : r.todo = q :: m) (hs : r.list[q]? = some s) : runM f.regs.toNat (stepP f q i s { r with todo := m }) < runM f.regs.toNat r := by
  have hq : fam r q = some s := by
    obtain ⟨t, ht'⟩ := h.ok.todo q (by rw [ht]; simp)
    have e := (fam_at ht').2
    rw [hs] at e
    injection e with e
    rw [e]; exact ht'
  have ok1 : RunOk f.code.length f.regs.toNat { r with todo := m } := ⟨h.ok.len, h.ok.hlen, h.ok.regs, h.ok.zero, fun k hk => h.ok.todo k (by rw [ht]; exact List.mem_cons_of_mem _ hk)⟩
  have := flows_less (nexts f q i s) ok1 (fun x hx => (nexts_len hx).trans (h.ok.regs q s hq))
  unfold stepP
  refine Nat.lt_of_le_of_lt this ?_
  unfold runM
  rw [ht]
  simp only [List.length_cons]
  omega
def badR (r : RunP) : RunP := { r with bad := true }
def takeR (r : RunP) (m : List Nat) : RunP := { r with todo := m }
def runF (p : PImg) (f : PFun) : Nat → RunP → RunP
  | 0, r => r
  | k + 1, r => if r.bad then r else match r.todo with
    | [] => r
    | q :: m => match r.list[q]?, f.code[q]? with
      | some s, some i => if mayB p f i s then runF p f k (stepP f q i s (takeR r m)) else badR r
      | _, _ => badR r
theorem runF_end {p : PImg} {f : PFun} : ∀ (k : Nat) (r : RunP), RunInv p f r → runM f.regs.toNat r < k → RunInv p f (runF p f k r) ∧ ((runF p f k r).bad = true ∨ (runF p f k r).todo = [])
  | 0, r, h, hk => absurd hk (Nat.not_lt_zero _)
  | k + 1, r, h, hk => by
    unfold runF
    cases hb : r.bad with
    | true => rw [if_pos rfl]; exact ⟨h, .inl hb⟩
    | false =>
      rw [if_neg (by simp)]
      cases ht : r.todo with
      | nil => exact ⟨h, .inr ht⟩
      | cons q m =>
        obtain ⟨t, hq⟩ := h.ok.todo q (by rw [ht]; simp)
        have hs := (fam_at hq).2
        obtain ⟨i, hi⟩ : ∃ i, f.code[q]? = some i := ⟨_, List.getElem?_eq_getElem (by have := (List.getElem?_eq_some_iff.1 hs).1; have := h.ok.len; omega)⟩
        simp only
        rw [hs, hi]
        simp only
        cases hm : mayB p f i t with
        | true =>
          rw [if_pos rfl]
          have hl : runM f.regs.toNat (stepP f q i t (takeR r m)) < runM f.regs.toNat r := step_less (i := i) h ht hs
          exact runF_end k _ (step_inv h hb ht hs hi hm) (by omega)
        | false =>
          rw [if_neg (by simp)]
          have no := may_no h (by rw [ht]; simp) hs hi hm
          exact ⟨⟨⟨h.ok.len, h.ok.hlen, h.ok.regs, h.ok.zero, h.ok.todo⟩, fun G hG => absurd hG (no G), .inl rfl, .inl rfl⟩, .inl rfl⟩
def letB (p : PImg) (f : PFun) : Bool := !(runF p f (runM f.regs.toNat (flowP (noneP f) 0 (firstS f)) + 1) (flowP (noneP f) 0 (firstS f))).bad
theorem letB_yes {p : PImg} {f : PFun} {F : Nat → Option PSta} (h : Sound p f F) : letB p f = true := by
  obtain ⟨k1, _⟩ := runF_end _ _ (start_inv p f) (Nat.lt_succ_self _)
  unfold letB
  rw [(k1.up F h).1]
  rfl
theorem letB_no {p : PImg} {f : PFun} (h : ∀ F, ¬ Sound p f F) : letB p f = false := by
  obtain ⟨k1, k2⟩ := runF_end _ _ (start_inv p f) (Nat.lt_succ_self _)
  unfold letB
  rcases k2 with k2 | k2
  · rw [k2]; rfl
  · cases hb : (runF p f (runM f.regs.toNat (flowP (noneP f) 0 (firstS f)) + 1) (flowP (noneP f) 0 (firstS f))).bad with
    | true => rfl
    | false => exact absurd (end_best k1 hb k2).sound (h _)
end Go.Proofs.Ytbgdapdenbldmaa
