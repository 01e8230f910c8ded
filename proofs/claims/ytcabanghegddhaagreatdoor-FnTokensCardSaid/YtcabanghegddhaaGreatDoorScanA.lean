/-
  Several texts in one: Tok8R, Scan8B.
-/
import Derived.Test.YtcabanghegddhaaGreatDoorReadA
import Derived.Test.YtcabanghegddhaaGreatDoorTokC
namespace Go.Proofs.YtcabanghegddhaaGreatDoor

theorem cut_is (l : List UInt8) (c : UInt8) : (c ∉ l ∧ Lib.cut l [c] = (l, [], false)) ∨ ∃ a q, l = a ++ c :: q ∧ c ∉ a ∧ Lib.cut l [c] = (a, q, true) := by
  by_cases h : c ∈ l
  · obtain ⟨a, q, rfl, hn⟩ := List.eq_append_cons_of_mem h
    exact .inr ⟨a, q, rfl, hn, cut_some hn⟩
  · exact .inl ⟨h, cut_none h⟩

theorem sign_len (q : List UInt8) : q.length ≤ (signR q).2.length + 1 := by
  cases q with
  | nil => simp
  | cons c q =>
    rw [signR]
    split
    · simp
    · split
      · simp
      · simp

theorem exp_told8 {q : List UInt8} (h : (expI q).2 = true) : (∃ x, expR (101 :: q) = some (x, [])) ∧ q.length ≤ 4 := by
  unfold expI at h
  by_cases hf : figB (signR q).2 3 = true
  · obtain ⟨ff, l1, l2⟩ := fig_figs hf
    have hr := run_all ff
    refine ⟨⟨if (signR q).1 = true then -(digV (signR q).2 : Int) else (digV (signR q).2 : Int), ?_⟩, ?_⟩
    · rw [expR, if_pos (by decide), if_pos ⟨by omega, by omega⟩, hr, List.take_length, List.drop_length]
    · have := sign_len q
      omega
  · rw [if_neg hf] at h
    cases h

theorem ok_read {t : List UInt8} (h : okI t = true) : readB t = true := by
  unfold okI at h
  simp only [Bool.and_eq_true, Bool.or_eq_true, Bool.not_eq_true'] at h
  obtain ⟨h1, h2, h3⟩ := h
  obtain ⟨fa, a1, a2⟩ := fig_figs h1
  obtain ⟨e, he, ⟨x, hx⟩, hl, hs⟩ : ∃ e, t = sideI t ++ e ∧ (∃ x, expR e = some (x, [])) ∧ e.length ≤ 5 ∧ (e = [] ∨ ∃ q, e = 101 :: q) := by
    rcases cut_is t 101 with ⟨_, hc⟩ | ⟨a, q, ht, hn, hc⟩
    · refine ⟨[], ?_, ⟨0, rfl⟩, by simp, .inl rfl⟩
      unfold sideI; rw [hc]; simp
    · have k1 : hasE t = true := by unfold hasE; rw [hc]
      have k2 : tailI t = q := by unfold tailI; rw [hc]
      have k3 : sideI t = a := by unfold sideI; rw [hc]
      rw [k1, k2] at h3
      have h4 : (expI q).2 = true := by
        rcases h3 with h3 | h3
        · cases h3
        · exact h3
      obtain ⟨k4, k5⟩ := exp_told8 h4
      exact ⟨101 :: q, by rw [k3]; exact ht, k4, by simp; omega, .inr ⟨q, rfl⟩⟩
  have noFig : e = [] ∨ ∃ c r, e = c :: r ∧ isFig c = false := by
    rcases hs with rfl | ⟨q, rfl⟩
    · exact .inl rfl
    · exact .inr ⟨101, q, rfl, by decide⟩
  unfold readB
  rcases cut_is (sideI t) 46 with ⟨_, hc⟩ | ⟨a, b, ht, hn, hc⟩
  · rw [hc] at fa a1 a2
    simp only at fa a1 a2
    have hd : dotR e = some ([], e) := by
      rcases hs with rfl | ⟨q, rfl⟩
      · rfl
      · rw [dotR, if_neg (by decide)]
    have h80 : t.length ≤ 80 := by rw [he, List.length_append]; omega
    rw [read_of he fa noFig h80 a1 a2 hd hx]
    rfl
  · rw [hc] at fa a1 a2 h2
    simp only at fa a1 a2 h2
    have h2' : figB b 30 = true := by
      rcases h2 with h2 | h2
      · cases h2
      · exact h2
    obtain ⟨fb, b1, b2⟩ := fig_figs h2'
    have hr : runN (b ++ e) = b.length := run_append fb noFig
    have hd : dotR (46 :: (b ++ e)) = some (b, e) := by
      rw [dotR, if_pos (by decide), hr, if_pos ⟨b1, b2⟩, List.take_left, List.drop_left]
    have ht2 : t = a ++ 46 :: (b ++ e) := by
      have e1 := he
      rw [ht] at e1
      rw [e1]; simp
    have h80 : t.length ≤ 80 := by rw [ht2]; simp; omega
    rw [read_of ht2 fa (.inr ⟨46, b ++ e, rfl, by decide⟩) h80 a1 a2 hd hx]
    rfl

theorem ok_is (t : List UInt8) : okI t = readB t := by
  cases hr : readB t with
  | true =>
    unfold readB at hr
    cases h : readR t with
    | none => rw [h] at hr; cases hr
    | some p =>
      obtain ⟨f, x⟩ := p
      exact (readI_of h).1
  | false =>
    rw [Bool.eq_false_iff]
    intro h
    rw [ok_read h] at hr
    cases hr

end Go.Proofs.YtcabanghegddhaaGreatDoor

namespace Go.Proofs.YtcabanghegddhaaGreatDoor

/-- the token at the head, its number as the program reads it -/
def tokI (l : List UInt8) : Tok × Int :=
  if isLet (l.getD 0 0) = true then
    (⟨if l.take (nameN l) ∈ wordsL then 5 else 1, l.take (nameN l), 0⟩, if 12 < nameN l then -1 else nameN l)
  else if isFig (l.getD 0 0) = true then
    (⟨2, l.take (numbN l), readI (l.take (numbN l))⟩, if okI (l.take (numbN l)) = true then numbN l else -1)
  else if (l.getD 0 0).toNat = 34 then
    (⟨3, if 0 < textZ (l.drop 1) then (l.drop 1).take (textZ (l.drop 1) - 2).toNat else [], 0⟩, textZ (l.drop 1))
  else
    (⟨4, if 0 < markZ l then l.take (markZ l).toNat else [], 0⟩, markZ l)
theorem tok_same (l : List UInt8) : (tokI l).2 = (tokN l).2 := by
  unfold tokI tokN
  split
  · rfl
  · split
    · simp only
      rw [ok_is]
    · split <;> rfl

def isBlk (c : UInt8) : Bool := decide (c.toNat = 32) || decide (c.toNat = 10) || decide (c.toNat = 9)
def scanN (T : List UInt8 → Tok × Int) : Nat → List UInt8 → Nat → List (Tok × Nat) → List (Tok × Nat) × Int
  | 0, _, _, acc => (acc, -1)
  | _ + 1, [], _, acc => (acc, -1)
  | n + 1, c :: r, a, acc => if isBlk c = true then scanN T n r (a + 1) acc
      else if (T (c :: r)).2 < 0 ∨ acc.length = 200 then ([], a)
      else scanN T n ((c :: r).drop (T (c :: r)).2.toNat) (a + (T (c :: r)).2.toNat) (acc ++ [((T (c :: r)).1, a)])
def scanL (T : List UInt8 → Tok × Int) (l : List UInt8) : List (Tok × Nat) × Int := if 600 < l.length then ([], 600) else scanN T l.length l 0 []

/-- both readers find the same fault -/
theorem scan_same : ∀ (n : Nat) (l : List UInt8) (a : Nat) (x y : List (Tok × Nat)), x.length = y.length → (scanN tokI n l a x).2 = (scanN tokN n l a y).2
  | 0, _, _, _, _, _ => rfl
  | _ + 1, [], _, _, _, _ => rfl
  | n + 1, c :: r, a, x, y, h => by
    rw [scanN, scanN]
    by_cases hb : isBlk c = true
    · rw [if_pos hb, if_pos hb]
      exact scan_same n r (a + 1) x y h
    · rw [if_neg hb, if_neg hb, tok_same, h]
      by_cases hf : (tokN (c :: r)).2 < 0 ∨ y.length = 200
      · rw [if_pos hf, if_pos hf]
      · rw [if_neg hf, if_neg hf]
        exact scan_same n _ _ _ _ (by simp [h])
theorem scanL_same (l : List UInt8) : (scanL tokI l).2 = (scanL tokN l).2 := by
  unfold scanL
  split
  · rfl
  · exact scan_same _ _ _ _ _ rfl

/-- a run that is followed by what isn't of it -/
theorem while_app {p : UInt8 → Bool} {b : List UInt8} (hb : b = [] ∨ ∃ c q, b = c :: q ∧ p c = false) : ∀ a : List UInt8, (∀ c ∈ a, p c = true) → (a ++ b).takeWhile p = a
  | [], _ => by
    rcases hb with rfl | ⟨c, q, rfl, hc⟩
    · rfl
    · simp [hc]
  | x :: a, ha => by
    rw [List.cons_append, List.takeWhile_cons, if_pos (ha x (by simp)), while_app hb a (fun c hc => ha c (by simp [hc]))]
theorem mem_while {p : UInt8 → Bool} : ∀ (l : List UInt8) (c : UInt8), c ∈ l.takeWhile p → p c = true
  | [], _, h => by cases h
  | d :: l, c, h => by
    rw [List.takeWhile_cons] at h
    by_cases hd : p d = true
    · rw [if_pos hd] at h
      rcases List.mem_cons.1 h with rfl | h
      · exact hd
      · exact mem_while l c h
    · rw [if_neg hd] at h; cases h
theorem take_while {p : UInt8 → Bool} (l : List UInt8) : l.take (l.takeWhile p).length = l.takeWhile p := by
  induction l with
  | nil => rfl
  | cons c l ih =>
    rw [List.takeWhile_cons]
    split
    · rw [List.length_cons, List.take_succ_cons, ih]
    · rfl

/-- what may stand behind a token that is written with blanks -/
def EndQ (q : List UInt8) : Prop := q = [] ∨ ∃ r, q = 32 :: r
theorem EndQ.not {q : List UInt8} (h : EndQ q) {p : UInt8 → Bool} (hp : p 32 = false) : q = [] ∨ ∃ c r, q = c :: r ∧ p c = false := by
  rcases h with rfl | ⟨r, rfl⟩
  · exact .inl rfl
  · exact .inr ⟨32, r, rfl, hp⟩

theorem name_cons {c : UInt8} {r : List UInt8} (hc : isLet c = true) : nameN (c :: r) = (r.takeWhile fun c => isLet c || isFig c).length + 1 := by
  show (if isLet c = true then _ else 0) = _
  rw [if_pos hc]
theorem name_again {c : UInt8} {r q : List UInt8} (hc : isLet c = true) (hq : EndQ q) : nameN ((c :: r).take (nameN (c :: r)) ++ q) = nameN (c :: r) ∧ ((c :: r).take (nameN (c :: r))).length = nameN (c :: r) := by
  rw [name_cons hc, List.take_succ_cons, take_while]
  refine ⟨?_, by simp⟩
  rw [List.cons_append, name_cons hc, while_app (hq.not (by decide)) _ (fun d hd => mem_while (p := fun c => isLet c || isFig c) r d hd)]

/-- the parts of a number among tokens -/
structure NumP (S E : List UInt8) : Prop where
  side : ∃ a, Figs a ∧ 1 ≤ a.length ∧ (S = a ∨ ∃ b, Figs b ∧ 1 ≤ b.length ∧ S = a ++ 46 :: b)
  tail : E = [] ∨ ∃ sg d, (sg = [] ∨ sg = [43] ∨ sg = [45]) ∧ Figs d ∧ 1 ≤ d.length ∧ E = 101 :: (sg ++ d)

theorem run_split (l : List UInt8) : ∃ a u, l = a ++ u ∧ Figs a ∧ runN l = a.length ∧ (u = [] ∨ ∃ c r, u = c :: r ∧ isFig c = false) := by
  refine ⟨l.take (runN l), l.drop (runN l), (List.take_append_drop _ _).symm, run_figs l, ?_, ?_⟩
  · rw [List.length_take]; have := run_le l; omega
  · unfold runN
    induction l with
    | nil => exact .inl rfl
    | cons c l ih =>
      rw [List.takeWhile_cons]
      by_cases h : isFig c = true
      · rw [if_pos h, List.length_cons, List.drop_succ_cons]
        exact ih
      · rw [if_neg h]
        exact .inr ⟨c, l, rfl, by simpa using h⟩
theorem fig_not_run {c : UInt8} {r : List UInt8} (h : isFig c = true) : 1 ≤ runN (c :: r) := by
  unfold runN
  rw [List.takeWhile_cons, if_pos h]
  simp
theorem figs_head {b : List UInt8} (h : Figs b) (h1 : 1 ≤ b.length) : ∃ d r, b = d :: r ∧ isFig d = true := by
  cases b with
  | nil => simp at h1
  | cons d r => exact ⟨d, r, rfl, isFig_of (h d (by simp))⟩

theorem side_is {S v : List UInt8} (h : ∃ a, Figs a ∧ 1 ≤ a.length ∧ (S = a ∨ ∃ b, Figs b ∧ 1 ≤ b.length ∧ S = a ++ 46 :: b)) (hv : v = [] ∨ ∃ c r, v = c :: r ∧ isFig c = false ∧ (c.toNat ≠ 46)) : fracN (S ++ v) (runN (S ++ v)) = S.length := by
  have hv' : v = [] ∨ ∃ c r, v = c :: r ∧ isFig c = false := by
    rcases hv with h | ⟨c, r, h, h', _⟩
    · exact .inl h
    · exact .inr ⟨c, r, h, h'⟩
  obtain ⟨a, fa, a1, rfl | ⟨b, fb, b1, rfl⟩⟩ := h
  · rw [run_append fa hv']
    unfold fracN
    rw [List.drop_left]
    rcases hv with rfl | ⟨c, r, rfl, _, h46⟩
    · rfl
    · cases r with
      | nil => rfl
      | cons d r => simp only; rw [if_neg (fun h => h46 h.1)]
  · have e : a ++ 46 :: b ++ v = a ++ 46 :: (b ++ v) := by simp
    rw [e, run_append fa (.inr ⟨46, _, rfl, by decide⟩)]
    unfold fracN
    rw [List.drop_left]
    obtain ⟨d, r, rfl, hd⟩ := figs_head fb b1
    rw [List.cons_append]
    simp only
    rw [if_pos ⟨by decide, hd⟩, ← List.cons_append, run_append fb hv']
    simp
    omega

theorem numb_again {S E q : List UInt8} (h : NumP S E) (hq : EndQ q) : numbN (S ++ E ++ q) = (S ++ E).length := by
  obtain ⟨h1, h2⟩ := h
  unfold numbN
  rcases h2 with rfl | ⟨sg, d, hs, fd, d1, rfl⟩
  · rw [List.append_nil]
    have hv : q = [] ∨ ∃ c r, q = c :: r ∧ isFig c = false ∧ (c.toNat ≠ 46) := by
      rcases hq with rfl | ⟨r, rfl⟩
      · exact .inl rfl
      · exact .inr ⟨32, r, rfl, by decide, by decide⟩
    rw [side_is h1 hv]
    unfold tailN
    rw [List.drop_left]
    rcases hq with rfl | ⟨r, rfl⟩
    · rfl
    · cases r with
      | nil => rfl
      | cons x r => simp only; rw [if_neg (by decide)]
  · have e : S ++ 101 :: (sg ++ d) ++ q = S ++ 101 :: (sg ++ (d ++ q)) := by simp
    rw [e, side_is h1 (.inr ⟨101, _, rfl, by decide, by decide⟩)]
    unfold tailN
    rw [List.drop_left]
    have hq' := hq.not (p := isFig) (by decide)
    have hr := run_append fd hq'
    obtain ⟨f, r, rfl, hf⟩ := figs_head fd d1
    have hn := Bool.and_eq_true_iff.1 hf
    have hf1 := of_decide_eq_true hn.1
    have hf2 := of_decide_eq_true hn.2
    rcases hs with rfl | rfl | rfl
    · have hz : signN8 f = 0 := by unfold signN8; rw [if_neg (by omega)]
      simp only [List.nil_append, List.cons_append] at hr ⊢
      rw [if_pos (by decide), hz, List.drop_zero]
      simp only
      rw [if_pos hf, hr]
      simp
      omega
    · have hz : signN8 43 = 1 := by decide
      simp only [List.cons_append, List.nil_append] at hr ⊢
      rw [if_pos (by decide), hz, List.drop_succ_cons, List.drop_zero]
      simp only
      rw [if_pos hf, hr]
      simp
      omega
    · have hz : signN8 45 = 1 := by decide
      simp only [List.cons_append, List.nil_append] at hr ⊢
      rw [if_pos (by decide), hz, List.drop_succ_cons, List.drop_zero]
      simp only
      rw [if_pos hf, hr]
      simp
      omega

theorem side_split {l : List UInt8} (h : 1 ≤ runN l) : ∃ S v, l = S ++ v ∧ fracN l (runN l) = S.length ∧ (∃ a, Figs a ∧ 1 ≤ a.length ∧ (S = a ∨ ∃ b, Figs b ∧ 1 ≤ b.length ∧ S = a ++ 46 :: b)) := by
  obtain ⟨a, u, rfl, fa, ha, hu⟩ := run_split l
  rw [ha] at h
  by_cases hd : ∃ d r, u = 46 :: d :: r ∧ isFig d = true
  · obtain ⟨d, r, rfl, hf⟩ := hd
    obtain ⟨b, v, hb, fb, hbl, hv⟩ := run_split (d :: r)
    have b1 := fig_not_run (r := r) hf
    refine ⟨a ++ 46 :: b, v, by rw [hb]; simp, ?_, ⟨a, fa, h, .inr ⟨b, fb, by omega, rfl⟩⟩⟩
    rw [ha]
    unfold fracN
    rw [List.drop_left]
    simp only
    rw [if_pos ⟨by decide, hf⟩, hbl]
    simp
    omega
  · refine ⟨a, u, rfl, ?_, ⟨a, fa, h, .inl rfl⟩⟩
    rw [ha]
    unfold fracN
    rw [List.drop_left]
    cases u with
    | nil => rfl
    | cons c r =>
      cases r with
      | nil => rfl
      | cons d r =>
        simp only
        rw [if_neg]
        rintro ⟨h1, h2⟩
        exact hd ⟨d, r, by rw [show c = 46 from UInt8.toNat_inj.1 h1], h2⟩

theorem numb_split {l : List UInt8} (h : 1 ≤ runN l) : ∃ S E v, l = S ++ E ++ v ∧ numbN l = (S ++ E).length ∧ NumP S E := by
  obtain ⟨S, v, rfl, hS, hP⟩ := side_split h
  unfold numbN
  rw [hS]
  by_cases hE : ∃ sg d v', (sg = [] ∨ sg = [43] ∨ sg = [45]) ∧ Figs d ∧ 1 ≤ d.length ∧ v = 101 :: (sg ++ d) ++ v' ∧ (v' = [] ∨ ∃ c r, v' = c :: r ∧ isFig c = false)
  · obtain ⟨sg, d, v', hs, fd, d1, rfl, hv'⟩ := hE
    refine ⟨S, 101 :: (sg ++ d), v', by simp, ?_, ⟨hP, .inr ⟨sg, d, hs, fd, d1, rfl⟩⟩⟩
    have hr := run_append fd hv'
    unfold tailN
    rw [List.drop_left]
    obtain ⟨f, r, rfl, hf⟩ := figs_head fd d1
    have hn := Bool.and_eq_true_iff.1 hf
    have hf1 := of_decide_eq_true hn.1
    have hf2 := of_decide_eq_true hn.2
    rcases hs with rfl | rfl | rfl
    · have hz : signN8 f = 0 := by unfold signN8; rw [if_neg (by omega)]
      simp only [List.nil_append, List.cons_append] at hr ⊢
      rw [if_pos (by decide), hz, List.drop_zero]
      simp only
      rw [if_pos hf, hr]
      simp
      omega
    · have hz : signN8 43 = 1 := by decide
      simp only [List.cons_append, List.nil_append] at hr ⊢
      rw [if_pos (by decide), hz, List.drop_succ_cons, List.drop_zero]
      simp only
      rw [if_pos hf, hr]
      simp
      omega
    · have hz : signN8 45 = 1 := by decide
      simp only [List.cons_append, List.nil_append] at hr ⊢
      rw [if_pos (by decide), hz, List.drop_succ_cons, List.drop_zero]
      simp only
      rw [if_pos hf, hr]
      simp
      omega
  · refine ⟨S, [], v, by simp, ?_, ⟨hP, .inl rfl⟩⟩
    unfold tailN
    rw [List.drop_left, List.append_nil]
    cases v with
    | nil => rfl
    | cons c w =>
      cases w with
      | nil => rfl
      | cons d w =>
        simp only
        by_cases hc : c.toNat = 101
        · rw [if_pos hc]
          have hc' : c = 101 := UInt8.toNat_inj.1 hc
          have none : ∀ sg f q, (sg = [] ∨ sg = [43] ∨ sg = [45]) → d :: w = sg ++ f :: q → ¬ isFig f = true := by
            intro sg f q hsg hdw hf
            obtain ⟨b, v', hb, fb, hbl, hv⟩ := run_split (f :: q)
            have b1 := fig_not_run (r := q) hf
            exact hE ⟨sg, b, v', hsg, fb, by omega, by rw [hc', hdw, hb]; simp, hv⟩
          by_cases hs : d.toNat = 43 ∨ d.toNat = 45
          · have hz : signN8 d = 1 := by unfold signN8; rw [if_pos hs]
            rw [hz, List.drop_succ_cons, List.drop_zero]
            cases w with
            | nil => rfl
            | cons f q =>
              simp only
              rw [if_neg]
              refine none [d] f q ?_ rfl
              rcases hs with hs | hs
              · right; left; rw [show d = 43 from UInt8.toNat_inj.1 hs]
              · right; right; rw [show d = 45 from UInt8.toNat_inj.1 hs]
          · have hz : signN8 d = 0 := by unfold signN8; rw [if_neg hs]
            rw [hz, List.drop_zero]
            simp only
            rw [if_neg (none [] d w (.inl rfl) rfl)]
        · rw [if_neg hc]

theorem quote_some : ∀ {r : List UInt8} {i : Nat}, quoteN r = some i → i < r.length ∧ r.take (i + 1) = r.take i ++ [34] ∧ ∀ q, quoteN (r.take i ++ 34 :: q) = some i
  | [], i, h => by cases h
  | c :: r, i, h => by
    rw [quoteN] at h
    by_cases h34 : c.toNat = 34
    · rw [if_pos h34] at h
      obtain rfl := Option.some.inj h
      have hc : c = 34 := UInt8.toNat_inj.1 h34
      refine ⟨by simp, by simp [hc], fun q => ?_⟩
      show (if (34 : UInt8).toNat = 34 then some 0 else _) = _
      rw [if_pos (by decide)]
    · rw [if_neg h34] at h
      by_cases hb : c.toNat < 32 ∨ 126 < c.toNat
      · rw [if_pos hb] at h; cases h
      · rw [if_neg hb] at h
        cases hr : quoteN r with
        | none => rw [hr] at h; cases h
        | some j =>
          rw [hr] at h
          obtain rfl := Option.some.inj h
          obtain ⟨k1, k2, k3⟩ := quote_some hr
          refine ⟨by simp; omega, ?_, fun q => ?_⟩
          · rw [List.take_succ_cons, List.take_succ_cons, k2]; rfl
          · rw [List.take_succ_cons, List.cons_append, quoteN, if_neg h34, if_neg hb, k3 q]
            rfl

/-- a token as it is written -/
def fullT (t : Tok) : List UInt8 := if t.kind = 3 then 34 :: t.text ++ [34] else t.text
/-- what a token at the head is, also where a blank or nothing follows -/
structure Stable (t : Tok) (x : List UInt8) : Prop where
  full : fullT t = x
  again : ∀ q, EndQ q → tokI (x ++ q) = (t, (x.length : Int))
  head : ∃ c r, x = c :: r ∧ isBlk c = false

theorem let_blk {c : UInt8} (h : isLet c = true) : isBlk c = false := by
  unfold isLet at h
  unfold isBlk
  simp only [Bool.or_eq_true, Bool.and_eq_true, decide_eq_true_eq] at h
  simp only [Bool.or_eq_false_iff, decide_eq_false_iff_not]
  omega
theorem fig_blk {c : UInt8} (h : isFig c = true) : isBlk c = false := by
  unfold isFig at h
  unfold isBlk
  simp only [Bool.and_eq_true, decide_eq_true_eq] at h
  simp only [Bool.or_eq_false_iff, decide_eq_false_iff_not]
  omega

theorem tok_stable {c : UInt8} {r : List UInt8} (h : 0 ≤ (tokI (c :: r)).2) : Stable (tokI (c :: r)).1 ((c :: r).take (tokI (c :: r)).2.toNat) ∧ (tokI (c :: r)).2.toNat ≤ (c :: r).length ∧ 1 ≤ (tokI (c :: r)).2.toNat := by
  have head : ∀ l : List UInt8, (c :: l).getD 0 0 = c := fun _ => rfl
  by_cases hl : isLet c = true
  · have e : tokI (c :: r) = ((⟨if (c :: r).take (nameN (c :: r)) ∈ wordsL then 5 else 1, (c :: r).take (nameN (c :: r)), 0⟩ : Tok), (if 12 < nameN (c :: r) then -1 else (nameN (c :: r) : Int) : Int)) := by
      unfold tokI
      rw [head, if_pos hl]
    rw [e] at h ⊢
    simp only at h ⊢
    by_cases h12 : 12 < nameN (c :: r)
    · rw [if_pos h12] at h; omega
    · rw [if_neg h12] at h ⊢
      rw [Int.toNat_natCast]
      have h1 : 1 ≤ nameN (c :: r) := by rw [name_cons hl]; omega
      refine ⟨⟨?_, ?_, ?_⟩, name_le _, h1⟩
      · unfold fullT
        rw [if_neg]
        simp only
        split <;> decide
      · intro q hq
        obtain ⟨k1, k2⟩ := name_again (r := r) hl hq
        obtain ⟨x, hx⟩ : ∃ x, (c :: r).take (nameN (c :: r)) = x := ⟨_, rfl⟩
        obtain ⟨m, hm⟩ : ∃ m, nameN (c :: r) = m := ⟨_, rfl⟩
        rw [hx] at k1 k2 ⊢
        rw [hm] at k1 k2 h12 h1 hx
        have hxc : ∃ y, x = c :: y := ⟨r.take (m - 1), by rw [← hx]; obtain ⟨j, rfl⟩ : ∃ j, m = j + 1 := ⟨m - 1, by omega⟩; rfl⟩
        obtain ⟨y, rfl⟩ := hxc
        unfold tokI
        rw [List.cons_append, head, if_pos hl, ← List.cons_append, k1, if_neg h12]
        have ht : (c :: y ++ q).take m = c :: y := by rw [← k2, List.take_left]
        rw [ht, k2]
      · obtain ⟨j, hj⟩ : ∃ j, nameN (c :: r) = j + 1 := ⟨nameN (c :: r) - 1, by omega⟩
        rw [hj, List.take_succ_cons]
        exact ⟨c, _, rfl, let_blk hl⟩
  · by_cases hf : isFig c = true
    · have e : tokI (c :: r) = ((⟨2, (c :: r).take (numbN (c :: r)), readI ((c :: r).take (numbN (c :: r)))⟩ : Tok), (if okI ((c :: r).take (numbN (c :: r))) = true then (numbN (c :: r) : Int) else -1 : Int)) := by
        unfold tokI
        rw [head, if_neg hl, if_pos hf]
      rw [e] at h ⊢
      simp only at h ⊢
      by_cases hok : okI ((c :: r).take (numbN (c :: r))) = true
      · rw [if_pos hok] at h ⊢
        rw [Int.toNat_natCast]
        obtain ⟨S, E, v, hl2, hn, hP⟩ := numb_split (fig_not_run (r := r) hf)
        have ht : (c :: r).take (numbN (c :: r)) = S ++ E := by rw [hn, hl2, List.take_left]
        rw [ht] at hok ⊢
        have hSE : ∃ y, S ++ E = c :: y := by
          obtain ⟨a, fa, a1, hS⟩ := hP.side
          obtain ⟨d, a', rfl, _⟩ := figs_head fa a1
          have : ∃ y, S = d :: y := by
            rcases hS with rfl | ⟨b, _, _, rfl⟩
            · exact ⟨_, rfl⟩
            · exact ⟨_, rfl⟩
          obtain ⟨y, rfl⟩ := this
          rw [List.append_assoc, List.cons_append] at hl2
          injection hl2 with hd _
          exact ⟨y ++ E, by rw [hd]; rfl⟩
        have hlen : 1 ≤ (S ++ E).length := by obtain ⟨y, hy⟩ := hSE; rw [hy]; simp
        refine ⟨⟨?_, ?_, ?_⟩, ?_, by rw [hn]; exact hlen⟩
        · unfold fullT
          rw [if_neg (show ¬((2 : Int) = 3) by decide)]
        · intro q hq
          have k := numb_again hP hq
          obtain ⟨y, hy⟩ := hSE
          rw [hy] at k hok ⊢
          unfold tokI
          rw [List.cons_append, head, if_neg hl, if_pos hf, ← List.cons_append, k, List.take_left, if_pos hok]
        · obtain ⟨y, hy⟩ := hSE
          rw [hy]
          exact ⟨c, y, rfl, fig_blk hf⟩
        · rw [hn, hl2, List.length_append (bs := v)]; omega
      · rw [if_neg hok] at h; omega
    · by_cases hq : c.toNat = 34
      · have hc : c = 34 := UInt8.toNat_inj.1 hq
        have e : tokI (c :: r) = (⟨3, if 0 < textZ r then r.take (textZ r - 2).toNat else [], 0⟩, textZ r) := by
          unfold tokI
          rw [head, if_neg hl, if_neg hf, if_pos hq]
          rfl
        rw [e] at h ⊢
        simp only at h ⊢
        cases hqq : quoteN r with
        | none =>
          have : textZ r = -1 := by unfold textZ; rw [hqq]
          rw [this] at h; omega
        | some i =>
          have hz : textZ r = (i : Int) + 2 := by unfold textZ; rw [hqq]
          obtain ⟨k1, k2, k3⟩ := quote_some hqq
          have h2 : ((i : Int) + 2).toNat = i + 1 + 1 := by omega
          have h3 : ((i : Int) + 2 - 2).toNat = i := by omega
          rw [hz, if_pos (by omega), h2, h3, List.take_succ_cons, k2]
          refine ⟨⟨?_, ?_, ⟨c, _, rfl, by rw [hc]; decide⟩⟩, by simp; omega, by omega⟩
          · unfold fullT
            rw [if_pos rfl, hc]
            rfl
          · intro q hq2
            have kk := k3 q
            have e3 : c :: (r.take i ++ [34]) ++ q = c :: (r.take i ++ 34 :: q) := by simp
            rw [e3]
            unfold tokI
            rw [head, if_neg hl, if_neg hf, if_pos hq, List.drop_succ_cons, List.drop_zero]
            have hz2 : textZ (r.take i ++ 34 :: q) = (i : Int) + 2 := by unfold textZ; rw [kk]
            have ht : (r.take i ++ 34 :: q).take i = r.take i := by
              have : (r.take i).length = i := by rw [List.length_take]; omega
              rw [List.take_left' this]
            rw [hz2, if_pos (by omega), h3, ht]
            have hlen : (c :: (r.take i ++ [34])).length = i + 2 := by simp; omega
            rw [hlen]
            rfl
      · have e : tokI (c :: r) = (⟨4, if 0 < markZ (c :: r) then (c :: r).take (markZ (c :: r)).toNat else [], 0⟩, markZ (c :: r)) := by
          unfold tokI
          rw [head, if_neg hl, if_neg hf, if_neg hq]
        rw [e] at h ⊢
        simp only at h ⊢
        have blk : isBlk c = false ∨ c ∉ oneMarks ∧ ∀ d q, [c, d] ++ q ∉ twoMarks := by
          by_cases hb : isBlk c = true
          · right
            unfold isBlk at hb
            simp only [Bool.or_eq_true, decide_eq_true_eq] at hb
            constructor
            · intro hm
              simp only [oneMarks, List.mem_cons, List.not_mem_nil, or_false] at hm
              rcases hm with rfl | rfl | rfl | rfl | rfl | rfl | rfl | rfl | rfl | rfl | rfl | rfl | rfl | rfl | rfl <;> revert hb <;> decide
            · intro d q hm
              simp only [twoMarks, List.mem_cons, List.not_mem_nil, or_false, List.cons_append, List.cons.injEq] at hm
              rcases hm with h | h | h | h | h | h <;> (obtain ⟨rfl, _⟩ := h; revert hb; decide)
          · left; simpa using hb
        unfold markZ at h ⊢
        by_cases h2 : 2 ≤ (c :: r).length ∧ (c :: r).take 2 ∈ twoMarks
        · rw [if_pos h2] at h ⊢
          obtain ⟨hlen, hm⟩ := h2
          cases r with
          | nil => simp at hlen
          | cons d r =>
            have t2 : (c :: d :: r).take 2 = [c, d] := rfl
            rw [t2] at hm
            show Stable ⟨4, [c, d], 0⟩ [c, d] ∧ 2 ≤ _ ∧ _
            refine ⟨⟨?_, ?_, ⟨c, [d], rfl, ?_⟩⟩, hlen, by decide⟩
            · unfold fullT; rw [if_neg (show ¬((4 : Int) = 3) by decide)]
            · intro q _
              show tokI (c :: d :: q) = _
              unfold tokI
              rw [head, if_neg hl, if_neg hf, if_neg hq]
              have hz : markZ (c :: d :: q) = 2 := by
                unfold markZ
                rw [if_pos ⟨by simp, hm⟩]
              rw [hz]
              rfl
            · rcases blk with h | ⟨_, h⟩
              · exact h
              · exact absurd hm (h d [])
        · rw [if_neg h2] at h ⊢
          by_cases h1 : (c :: r).getD 0 0 ∈ oneMarks
          · rw [if_pos h1] at h ⊢
            have h1' : c ∈ oneMarks := h1
            show Stable ⟨4, [c], 0⟩ [c] ∧ 1 ≤ _ ∧ _
            refine ⟨⟨?_, ?_, ⟨c, [], rfl, ?_⟩⟩, by simp, by decide⟩
            · unfold fullT; rw [if_neg (show ¬((4 : Int) = 3) by decide)]
            · intro q hq2
              show tokI (c :: q) = _
              unfold tokI
              rw [head, if_neg hl, if_neg hf, if_neg hq]
              have hz : markZ (c :: q) = 1 := by
                unfold markZ
                rw [if_neg, if_pos (show (c :: q).getD 0 0 ∈ oneMarks from h1')]
                rintro ⟨hl2, hm⟩
                rcases hq2 with rfl | ⟨s, rfl⟩
                · simp at hl2
                · have t2 : (c :: 32 :: s).take 2 = [c, 32] := rfl
                  rw [t2] at hm
                  simp only [twoMarks, List.mem_cons, List.not_mem_nil, or_false, List.cons.injEq] at hm
                  rcases hm with h | h | h | h | h | h <;> (obtain ⟨_, h, _⟩ := h; revert h; decide)
              rw [hz]
              rfl
            · rcases blk with h | ⟨h, _⟩
              · exact h
              · exact absurd h1' h
          · rw [if_neg h1] at h; omega

/-- the tokens stand in order, each where its text is -/
def InOrder (s : List UInt8) : Nat → List (Tok × Nat) → Prop
  | _, [] => True
  | e, (t, p) :: ts => e ≤ p ∧ p + (fullT t).length ≤ s.length ∧ (s.drop p).take (fullT t).length = fullT t ∧ InOrder s (p + (fullT t).length) ts
theorem InOrder.less {s : List UInt8} {e e' : Nat} {ts : List (Tok × Nat)} (h : InOrder s e ts) (he : e' ≤ e) : InOrder s e' ts := by
  cases ts with
  | nil => trivial
  | cons t ts => exact ⟨Nat.le_trans he h.1, h.2⟩
theorem scan_good (s : List UInt8) : ∀ (n a : Nat) (acc R : List (Tok × Nat)), a ≤ s.length → s.length - a ≤ n → acc.length ≤ 200 → scanN tokI n (s.drop a) a acc = (R, -1) →
    ∃ new, R = acc ++ new ∧ InOrder s a new ∧ (∀ t ∈ new, Stable t.1 (fullT t.1)) ∧ R.length ≤ 200
  | 0, a, acc, R, ha, hn, h2, h => by
    rw [scanN] at h
    obtain rfl : acc = R := congrArg Prod.fst h
    exact ⟨[], by simp, trivial, by simp, h2⟩
  | n + 1, a, acc, R, ha, hn, h2, h => by
    cases hd : s.drop a with
    | nil =>
      rw [hd, scanN] at h
      obtain rfl : acc = R := congrArg Prod.fst h
      exact ⟨[], by simp, trivial, by simp, h2⟩
    | cons c r =>
      have hlt : a < s.length := by
        rcases Nat.lt_or_ge a s.length with h | h
        · exact h
        · rw [List.drop_eq_nil_of_le h] at hd; cases hd
      have hr : s.drop (a + 1) = r := by rw [← List.tail_drop, hd]; rfl
      rw [hd, scanN] at h
      by_cases hb : isBlk c = true
      · rw [if_pos hb, ← hr] at h
        obtain ⟨new, k1, k2, k3⟩ := scan_good s n (a + 1) acc R hlt (by omega) h2 h
        exact ⟨new, k1, k2.less (by omega), k3⟩
      · rw [if_neg hb] at h
        by_cases hf : (tokI (c :: r)).2 < 0 ∨ acc.length = 200
        · rw [if_pos hf] at h
          have := congrArg Prod.snd h
          simp only at this
          omega
        · rw [if_neg hf] at h
          obtain ⟨st, hk1, hk2⟩ := tok_stable (c := c) (r := r) (by omega)
          obtain ⟨k, hk⟩ : ∃ k, (tokI (c :: r)).2.toNat = k := ⟨_, rfl⟩
          obtain ⟨t, ht⟩ : ∃ t, (tokI (c :: r)).1 = t := ⟨_, rfl⟩
          rw [hk, ht] at st h
          rw [hk] at hk1 hk2
          have hlen : (c :: r).length = s.length - a := by rw [← hd, List.length_drop]
          have hfull := st.full
          have hxl : ((c :: r).take k).length = k := by rw [List.length_take]; omega
          rw [← hd, List.drop_drop] at h
          obtain ⟨new, m1, m2, m3, m4⟩ := scan_good s n (a + k) (acc ++ [(t, a)]) R (by omega) (by omega) (by simp; omega) h
          refine ⟨(t, a) :: new, by rw [m1]; simp, ⟨Nat.le_refl _, ?_, ?_, ?_⟩, ?_, m4⟩
          · rw [hfull, hxl]; omega
          · rw [hfull, hxl, hd]
          · rw [hfull, hxl]; exact m2
          · intro x hx
            rcases List.mem_cons.1 hx with rfl | hx
            · simp only
              rw [hfull]; exact st
            · exact m3 x hx

/-- the tokens written with a blank ahead of each -/
def wideL : List (Tok × Nat) → List UInt8
  | [] => []
  | t :: ts => 32 :: (fullT t.1 ++ wideL ts)
theorem wide_end (ts : List (Tok × Nat)) : EndQ (wideL ts) := by
  cases ts with
  | nil => exact .inl rfl
  | cons t ts => exact .inr ⟨_, rfl⟩
theorem scan_wide : ∀ (ts : List (Tok × Nat)) (n a : Nat) (acc : List (Tok × Nat)), (wideL ts).length ≤ n → acc.length + ts.length ≤ 200 → (∀ t ∈ ts, Stable t.1 (fullT t.1)) →
    ∃ ys, scanN tokI n (wideL ts) a acc = (acc ++ ys, -1) ∧ ys.map Prod.fst = ts.map Prod.fst
  | [], n, a, acc, _, _, _ => by
    refine ⟨[], ?_, rfl⟩
    cases n <;> simp [wideL, scanN]
  | t :: ts, n, a, acc, hn, h2, hst => by
    have st := hst t (by simp)
    obtain ⟨c, x, hx, hb⟩ := st.head
    have hx1 : (fullT t.1).length = x.length + 1 := by rw [hx]; rfl
    rw [wideL, List.length_cons, List.length_append] at hn
    obtain ⟨m, rfl⟩ : ∃ m, n = m + 1 + 1 := ⟨n - 2, by omega⟩
    have e := st.again (wideL ts) (wide_end ts)
    obtain ⟨ys, hy, hym⟩ := scan_wide ts m (a + 1 + (fullT t.1).length) (acc ++ [(t.1, a + 1)]) (by omega) (by simp at h2 ⊢; omega) (fun z hz => hst z (by simp [hz]))
    refine ⟨(t.1, a + 1) :: ys, ?_, by simp [hym]⟩
    rw [wideL, scanN, if_pos (by decide)]
    have e2 : fullT t.1 ++ wideL ts = c :: (x ++ wideL ts) := by rw [hx]; rfl
    rw [e2] at e ⊢
    rw [scanN, if_neg (by rw [hb]; decide), e]
    simp only
    rw [if_neg (by simp at h2; omega), Int.toNat_natCast, ← e2, List.drop_left, hy]
    simp

/-- what FnTokens asks of a source -/
theorem scan_law {s : List UInt8} {R : List (Tok × Nat)} (h : scanL tokI s = (R, -1)) : InOrder s 0 R ∧ R.length ≤ 200 ∧ s.length ≤ 600 ∧ ((wideL R).length ≤ 600 → ∃ ys, scanL tokI (wideL R) = (ys, -1) ∧ ys.map Prod.fst = R.map Prod.fst) := by
  unfold scanL at h
  by_cases h6 : 600 < s.length
  · rw [if_pos h6] at h
    have := congrArg Prod.snd h
    simp at this
  · rw [if_neg h6] at h
    obtain ⟨new, k1, k2, k3, k4⟩ := scan_good s s.length 0 [] R (Nat.zero_le _) (by omega) (by simp) (by rw [List.drop_zero]; exact h)
    rw [List.nil_append] at k1
    subst k1
    refine ⟨k2, k4, by omega, fun hw => ?_⟩
    unfold scanL
    rw [if_neg (by omega)]
    obtain ⟨ys, hy, hm⟩ := scan_wide R (wideL R).length 0 [] (Nat.le_refl _) (by simpa using k4) k3
    exact ⟨ys, by simpa using hy, hm⟩
theorem scan_fault {s : List UInt8} : (scanL tokI s).2 = -1 ∨ (0 ≤ (scanL tokI s).2 ∧ (scanL tokI s).1 = []) := by
  have key : ∀ (n : Nat) (l : List UInt8) (a : Nat) (acc : List (Tok × Nat)), (scanN tokI n l a acc).2 = -1 ∨ (0 ≤ (scanN tokI n l a acc).2 ∧ (scanN tokI n l a acc).1 = []) := by
    intro n
    induction n with
    | zero => intro l a acc; exact .inl rfl
    | succ n ih =>
      intro l a acc
      cases l with
      | nil => exact .inl rfl
      | cons c r =>
        rw [scanN]
        split
        · exact ih _ _ _
        · split
          · exact .inr ⟨by simp, rfl⟩
          · exact ih _ _ _
  unfold scanL
  split
  · exact .inr ⟨by simp, rfl⟩
  · exact key _ _ _ _

end Go.Proofs.YtcabanghegddhaaGreatDoor
