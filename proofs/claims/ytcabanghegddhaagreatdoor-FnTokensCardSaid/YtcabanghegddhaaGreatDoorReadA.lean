/-
  Several texts in one: ReadI, IRead, IReadN, HandS.
-/
import Derived.Test.YtcabanghegddhaaGreatDoorShortA
import Derived.Lib.IndexMore
import Derived.Lib.SlTrimSet
import Derived.Lib.Atoi
import Derived.Test.YtcabanghegddhaaGreatDoorINought
import Derived.Shelf.Strings.SlTrimAscii
import Derived.BigQuiet
import Derived.Lib.SmallJoins
import Derived.Test.YtcabanghegddhaaGreatDoorINear
import Derived.HandedShaped
import Derived.Handed
namespace Go.Proofs.YtcabanghegddhaaGreatDoor

def tenL : List UInt8 := [48, 49, 50, 51, 52, 53, 54, 55, 56, 57]
def figB (l : List UInt8) (most : Nat) : Bool := !l.isEmpty && (decide (l.length ≤ most) && (Lib.trimS l tenL).isEmpty)
def expI (l : List UInt8) : Int × Bool := if figB (signR l).2 3 = true then (if (signR l).1 = true then -(digV (signR l).2 : Int) else (digV (signR l).2 : Int), true) else (0, false)
def sideI (l : List UInt8) : List UInt8 := (Lib.cut l [101]).1
def tailI (l : List UInt8) : List UInt8 := (Lib.cut l [101]).2.1
def hasE (l : List UInt8) : Bool := (Lib.cut l [101]).2.2
def okI (l : List UInt8) : Bool := figB (Lib.cut (sideI l) [46]).1 30 && ((!(Lib.cut (sideI l) [46]).2.2 || figB (Lib.cut (sideI l) [46]).2.1 30) && (!hasE l || (expI (tailI l)).2))
def readI (l : List UInt8) : Nat := if okI l = true then nearN (trimL ((Lib.cut (sideI l) [46]).1 ++ (Lib.cut (sideI l) [46]).2.1)) ((expI (tailI l)).1 - (Lib.cut (sideI l) [46]).2.1.length) else 0

theorem ten_has {c : UInt8} (h : 48 ≤ c.toNat ∧ c.toNat ≤ 57) : tenL.contains c = true := by
  obtain ⟨n, hn⟩ : ∃ n, c.toNat = n := ⟨_, rfl⟩
  have hc : c = UInt8.ofNat n := by rw [← hn]; simp
  rw [hn] at h
  rcases (by omega : n = 48 ∨ n = 49 ∨ n = 50 ∨ n = 51 ∨ n = 52 ∨ n = 53 ∨ n = 54 ∨ n = 55 ∨ n = 56 ∨ n = 57) with rfl | rfl | rfl | rfl | rfl | rfl | rfl | rfl | rfl | rfl <;> (rw [hc]; decide)
theorem ten_is {c : UInt8} (h : tenL.contains c = true) : 48 ≤ c.toNat ∧ c.toNat ≤ 57 := by
  rw [List.contains_iff_mem] at h
  simp only [tenL, List.mem_cons, List.not_mem_nil, or_false] at h
  rcases h with rfl | rfl | rfl | rfl | rfl | rfl | rfl | rfl | rfl | rfl <;> decide
theorem drop_all {p : UInt8 → Bool} : ∀ {l : List UInt8}, (∀ c ∈ l, p c = true) → l.dropWhile p = []
  | [], _ => rfl
  | c :: l, h => by
    rw [List.dropWhile_cons, if_pos (h c (by simp))]
    exact drop_all fun d hd => h d (by simp [hd])
theorem all_drop {p : UInt8 → Bool} : ∀ {l : List UInt8}, l.dropWhile p = [] → ∀ c ∈ l, p c = true
  | [], _ => fun c hc => by cases hc
  | c :: l, h => by
    rw [List.dropWhile_cons] at h
    by_cases hp : p c = true
    · rw [if_pos hp] at h
      intro d hd
      rcases List.mem_cons.1 hd with rfl | hd
      · exact hp
      · exact all_drop h d hd
    · rw [if_neg hp] at h; cases h
theorem trim_nil {l : List UInt8} : Lib.trimS l tenL = [] ↔ Figs l := by
  unfold Lib.trimS Lib.trimLeftS Lib.trimRightS
  constructor
  · intro h c hc
    have h1 := all_drop h
    by_cases hk : tenL.contains c = true
    · exact ten_is hk
    · exfalso
      have hne : l.reverse.dropWhile (tenL.contains ·) = [] := by
        cases hd : l.reverse.dropWhile (tenL.contains ·) with
        | nil => rfl
        | cons d r =>
          exfalso
          have hh := List.head?_dropWhile_not (tenL.contains ·) l.reverse
          rw [hd] at hh
          rw [hd] at h1
          have := h1 d (by simp)
          have hh' : tenL.contains d = false := by simpa using hh
          rw [this] at hh'
          cases hh'
      exact hk (all_drop hne c (by simp [hc]))
  · intro h
    have : l.reverse.dropWhile (tenL.contains ·) = [] := drop_all fun c hc => ten_has (h c (by simpa using hc))
    rw [this]; rfl
theorem fig_yes {l : List UInt8} {m : Nat} (h : Figs l) (h1 : 1 ≤ l.length) (h2 : l.length ≤ m) : figB l m = true := by
  unfold figB
  rw [trim_nil.2 h, decide_eq_true h2]
  cases l with
  | nil => simp at h1
  | cons c l => rfl
theorem fig_figs {l : List UInt8} {m : Nat} (h : figB l m = true) : Figs l ∧ 1 ≤ l.length ∧ l.length ≤ m := by
  unfold figB at h
  simp only [Bool.and_eq_true, Bool.not_eq_true', decide_eq_true_eq, List.isEmpty_iff, List.isEmpty_eq_false_iff] at h
  exact ⟨trim_nil.1 h.2.2, List.length_pos_iff.2 h.1, h.2.1⟩

theorem atoi_figs {l : List UInt8} (h : Figs l) (h1 : 1 ≤ l.length) : Lib.atoi l = some (digV l : Int) := by
  have key : ∀ (l : List UInt8) (n : Nat), Figs l → Lib.decFrom n l = some (l.foldl (fun n c => 10 * n + (c.toNat - 48)) n) := by
    intro l
    induction l with
    | nil => intro n _; rfl
    | cons c l ih =>
      intro n h
      have hc := h c (by simp)
      have hd : Lib.digitVal c = some (c.toNat - 48) := by unfold Lib.digitVal; rw [if_pos hc]
      simp only [Lib.decFrom, hd, List.foldl_cons]
      rw [ih _ fun d hd => h d (by simp [hd]), Nat.mul_comm n 10]
  cases l with
  | nil => simp at h1
  | cons c l =>
    have hc := h c (by simp)
    have n45 : (c == 45) = false := by rw [beq_eq_false_iff_ne]; rintro rfl; exact absurd hc (by decide)
    have n43 : (c == 43) = false := by rw [beq_eq_false_iff_ne]; rintro rfl; exact absurd hc (by decide)
    have hk := key _ 0 h
    unfold Lib.atoi
    simp only [n45, n43, Bool.false_eq_true, if_false]
    unfold Lib.decNat
    simp only [List.isEmpty_cons, Bool.false_eq_true, if_false, hk, Option.map_some]
    rfl

theorem cut_none {l : List UInt8} {c : UInt8} (h : c ∉ l) : Lib.cut l [c] = (l, [], false) := by
  have hi : Lib.index l [c] = -1 := Lib.index_none fun j _ => by
    rw [Bool.eq_false_iff]
    intro ho
    exact h (List.mem_of_getElem? (Lib.occAt_head rfl ho))
  unfold Lib.cut
  rw [hi, if_neg (by decide)]
theorem cut_some {a q : List UInt8} {c : UInt8} (h : c ∉ a) : Lib.cut (a ++ c :: q) [c] = (a, q, true) := by
  have hi : Lib.index (a ++ c :: q) [c] = (a.length : Nat) := Lib.index_first (by simp) (by unfold Lib.occAt; rw [List.drop_left]; simp [List.isPrefixOf]) fun j hj => by
    rw [Bool.eq_false_iff]
    intro ho
    have := Lib.occAt_head rfl ho
    rw [List.getElem?_append_left hj] at this
    exact h (List.mem_of_getElem? this)
  unfold Lib.cut
  rw [hi, if_pos (by omega), Int.toNat_natCast, List.take_left]
  have e : a ++ c :: q = (a ++ [c]) ++ q := by simp
  rw [e, List.drop_left' (by simp)]

theorem figs_not {l : List UInt8} (h : Figs l) : (101 : UInt8) ∉ l ∧ (46 : UInt8) ∉ l := ⟨fun hm => absurd (h _ hm) (by decide), fun hm => absurd (h _ hm) (by decide)⟩
theorem run_figs (l : List UInt8) : Figs (l.take (runN l)) := by
  have : ∀ l : List UInt8, l.take (runN l) = l.takeWhile isFig := by
    intro l
    unfold runN
    induction l with
    | nil => rfl
    | cons c l ih =>
      rw [List.takeWhile_cons]
      split
      · rw [List.length_cons, List.take_succ_cons, ih]
      · rfl
  rw [this]
  intro c hc
  have hall : ∀ l : List UInt8, ∀ c ∈ l.takeWhile isFig, isFig c = true := by
    intro l
    induction l with
    | nil => intro c hc; cases hc
    | cons d l ih =>
      intro c hc
      rw [List.takeWhile_cons] at hc
      split at hc
      · rcases List.mem_cons.1 hc with rfl | hc
        · assumption
        · exact ih c hc
      · cases hc
  have := hall l c hc
  unfold isFig at this
  simp only [Bool.and_eq_true, decide_eq_true_eq] at this
  exact this

/-- what follows the figures: nothing, or an e, a sign or none, and up to three figures -/
theorem exp_is {d : List UInt8} {x : Int} (h : expR d = some (x, [])) : (d = [] ∧ x = 0) ∨ ∃ q, d = 101 :: q ∧ expI q = (x, true) := by
  cases d with
  | nil => left; simp [expR] at h; exact ⟨rfl, h.symm⟩
  | cons c q =>
    right
    rw [expR] at h
    by_cases hc : c.toNat = 101
    · rw [if_pos hc] at h
      by_cases hr : 1 ≤ runN (signR q).2 ∧ runN (signR q).2 ≤ 3
      · rw [if_pos hr] at h
        simp only [Option.some.injEq, Prod.mk.injEq] at h
        obtain ⟨h1, h2⟩ := h
        have hf := run_figs (signR q).2
        have hl : (signR q).2.take (runN (signR q).2) = (signR q).2 := by
          have := List.take_append_drop (runN (signR q).2) (signR q).2
          rw [h2, List.append_nil] at this
          exact this
        rw [hl] at hf h1
        have hle : (signR q).2.length = runN (signR q).2 := (run_all hf).symm
        refine ⟨q, by rw [show c = 101 from UInt8.toNat_inj.1 hc], ?_⟩
        unfold expI
        rw [fig_yes hf (by omega) (by omega), if_pos rfl, h1]
      · rw [if_neg hr] at h; cases h
    · rw [if_neg hc] at h; simp at h

theorem exp_nil : expI [] = (0, false) := by
  unfold expI figB; rfl

theorem told_both {a b : List UInt8} {x : Int} {t : List UInt8} (hok : okI t = true) (h1 : (Lib.cut (sideI t) [46]).1 = a) (h2 : (Lib.cut (sideI t) [46]).2.1 = b) (h3 : (expI (tailI t)).1 = x) : readI t = nearN (trimL (a ++ b)) (x - b.length) := by
  unfold readI
  rw [if_pos hok, h1, h2, h3]

theorem readI_of {t f : List UInt8} {x : Int} (h : readR t = some (f, x)) : okI t = true ∧ readI t = nearN (trimL f) x := by
  unfold readR at h
  by_cases hc : t.length ≤ 80 ∧ 1 ≤ runN t ∧ runN t ≤ 30
  · rw [if_pos hc] at h
    obtain ⟨_, c1, c2⟩ := hc
    obtain ⟨a, ha⟩ : ∃ a, t.take (runN t) = a := ⟨_, rfl⟩
    obtain ⟨q, hq⟩ : ∃ q, t.drop (runN t) = q := ⟨_, rfl⟩
    have ht : t = a ++ q := by rw [← ha, ← hq, List.take_append_drop]
    have fa : Figs a := by rw [← ha]; exact run_figs t
    have la : a.length = runN t := by rw [← ha, List.length_take]; have := run_le t; omega
    rw [ha, hq] at h
    clear ha hq
    have ya := fig_yes fa (by omega) (by omega : a.length ≤ 30)
    obtain ⟨n101, n46⟩ := figs_not fa
    cases hd : dotR q with
    | none => rw [hd] at h; simp at h
    | some d =>
      rw [hd] at h
      simp only [Option.bind_some] at h
      cases he : expR d.2 with
      | none => rw [he] at h; simp at h
      | some y =>
        rw [he] at h
        simp only [Option.bind_some] at h
        by_cases hy : y.2 = []
        · rw [if_pos hy] at h
          simp only [Option.some.injEq, Prod.mk.injEq] at h
          obtain ⟨rfl, rfl⟩ := h
          obtain ⟨v, r⟩ := y
          obtain rfl : r = [] := hy
          have hE := exp_is he
          have dots : (d.1 = [] ∧ q = d.2) ∨ (Figs d.1 ∧ 1 ≤ d.1.length ∧ d.1.length ≤ 30 ∧ q = 46 :: (d.1 ++ d.2)) := by
            cases q with
            | nil => left; simp [dotR] at hd; rw [← hd]; exact ⟨rfl, rfl⟩
            | cons c q =>
              rw [dotR] at hd
              by_cases hc : c.toNat = 46
              · rw [if_pos hc] at hd
                by_cases hr : 1 ≤ runN q ∧ runN q ≤ 30
                · rw [if_pos hr] at hd
                  right
                  have hl := run_le q
                  obtain rfl := Option.some.inj hd
                  refine ⟨run_figs q, by rw [List.length_take]; omega, by rw [List.length_take]; omega, ?_⟩
                  rw [List.take_append_drop, show c = 46 from UInt8.toNat_inj.1 hc]
                · rw [if_neg hr] at hd; cases hd
              · rw [if_neg hc] at hd
                left
                obtain rfl := Option.some.inj hd
                exact ⟨rfl, rfl⟩
          obtain ⟨b, e⟩ := d
          simp only at dots hE ⊢
          -- the side ahead of the e
          obtain ⟨S, hS, hn, hcut⟩ : ∃ S, t = S ++ e ∧ (101 : UInt8) ∉ S ∧ ((b = [] ∧ Lib.cut S [46] = (a, [], false)) ∨ (figB b 30 = true ∧ Lib.cut S [46] = (a, b, true))) := by
            rcases dots with ⟨rfl, rfl⟩ | ⟨fb, b1, b2, rfl⟩
            · exact ⟨a, ht, n101, .inl ⟨rfl, cut_none n46⟩⟩
            · refine ⟨a ++ 46 :: b, by rw [ht]; simp, ?_, .inr ⟨fig_yes fb b1 b2, cut_some n46⟩⟩
              intro hm
              rcases List.mem_append.1 hm with hm | hm
              · exact n101 hm
              · rcases List.mem_cons.1 hm with hm | hm
                · exact absurd hm (by decide)
                · exact (figs_not fb).1 hm
          have parts : sideI t = S ∧ (expI (tailI t)).1 = v ∧ (!hasE t || (expI (tailI t)).2) = true := by
            rcases hE with ⟨rfl, rfl⟩ | ⟨p, rfl, hp⟩
            · rw [List.append_nil] at hS
              unfold sideI tailI hasE
              rw [hS, cut_none hn]
              exact ⟨rfl, by rw [exp_nil], rfl⟩
            · unfold sideI tailI hasE
              rw [hS, cut_some hn, hp]
              exact ⟨rfl, rfl, rfl⟩
          obtain ⟨p1, p2, p3⟩ := parts
          have hok : okI t = true := by
            unfold okI
            rw [p1, p3]
            rcases hcut with ⟨_, k⟩ | ⟨k1, k⟩
            · rw [k]; simp [ya]
            · rw [k]; simp [ya, k1]
          refine ⟨hok, ?_⟩
          rcases hcut with ⟨rfl, k⟩ | ⟨k1, k⟩
          · rw [told_both hok (by rw [p1, k]) (by rw [p1, k]) p2]
          · rw [told_both hok (by rw [p1, k]) (by rw [p1, k]) p2]
        · rw [if_neg hy] at h; cases h
  · rw [if_neg hc] at h; cases h

/-- where it is not told to be what is infinite, it is what the text tells -/
theorem readI_told {t : List UInt8} {v : Nat} (h1 : readV t = v) (h2 : readB t = true) (h3 : v ≠ 9218868437227405312) : readI t = v ∧ okI t = true := by
  unfold readV at h1
  unfold readB at h2
  cases hr : readR t with
  | none => rw [hr] at h2; cases h2
  | some p =>
    obtain ⟨f, x⟩ := p
    rw [hr] at h1
    simp only at h1
    obtain ⟨k1, k2⟩ := readI_of hr
    refine ⟨?_, k1⟩
    rw [k2, ← h1]
    unfold tellN at h1 ⊢
    by_cases z : zeroB (trimL f) = true
    · rw [if_pos z]
      unfold nearN
      rw [if_neg (by rw [z]; simp)]
    · rw [if_neg z] at h1 ⊢
      by_cases g : 500 < x
      · rw [if_pos g] at h1
        exact absurd h1.symm h3
      · rw [if_neg g]
        by_cases s : x < -500
        · rw [if_pos s]
          unfold nearN
          rw [if_neg (by omega)]
        · rw [if_neg s]

end Go.Proofs.YtcabanghegddhaaGreatDoor

namespace Go.Proofs.YtcabanghegddhaaGreatDoor
open Go.RowKit
set_option linter.unusedVariables false

theorem full_string {s : ByteArray} (h : s.data.toList ≠ []) : s.toList.isEmpty = false := by
  rw [Lib.toList_data, List.isEmpty_eq_false_iff]; exact h
theorem nil_string {s : ByteArray} (h : s.data.toList = []) : s = ⟨#[]⟩ := by
  obtain ⟨⟨l⟩⟩ := s
  simp at h
  rw [h]

set_option maxHeartbeats 1000000 in
set_option maxRecDepth 100000 in
theorem areFigs (s : ByteArray) (m : Nat) (w : World) (hs : s.size ≤ 1048576) (hm : m ≤ 100) :
    Calls Tryz.prog 61 #[.string s, .int .i64 m] w fun e w' => e = .returned (.bool (figB s.data.toList m)) ∧ Below w.heap.size w w' := by
  have hsl : s.data.toList.length = s.size := size_list s
  by_cases h0 : s.data.toList = []
  · obtain rfl := nil_string h0
    clear h0 hsl hs
    go_enter Tryz.func61, Tryz.ntmps61
    go_wp2_with fail
    go_ret
    exact ⟨rfl, Below.refl _ _⟩
  · have hne := full_string h0
    by_cases hl : s.size ≤ m
    · have hl' : (s.size : Int) ≤ (m : Int) := by omega
      have cT := fun W => Any.strings_Trim_laid Tryz.lays160 (by kernel_rfl) s ⟨#[48, 49, 50, 51, 52, 53, 54, 55, 56, 57]⟩ W (by omega) (by decide) (ascii_of_all rfl)
      have e10 : (⟨#[48, 49, 50, 51, 52, 53, 54, 55, 56, 57]⟩ : ByteArray).data.toList = tenL := rfl
      have e41 : Tryz.lays160_ren.f 160 = 72 := rfl
      rw [e10, e41] at cT
      obtain ⟨T, hT⟩ : ∃ T, (⟨(Lib.trimS s.data.toList tenL).toArray⟩ : ByteArray) = T := ⟨_, rfl⟩
      have hTl : T.data.toList = Lib.trimS s.data.toList tenL := by rw [← hT]
      have hF : figB s.data.toList m = T.data.toList.isEmpty := by
        unfold figB
        rw [hTl, hsl, decide_eq_true hl, (List.isEmpty_eq_false_iff.2 h0)]
        rfl
      rw [hT] at cT
      rw [hF]
      clear hT hTl hF e10 e41 h0 hsl hl
      by_cases hk : T.data.toList = []
      · obtain rfl := nil_string hk
        clear hk
        go_enter Tryz.func61, Tryz.ntmps61
        go_wp2_with fail
        with_reducible refine (cT _).mono ?_
        rintro e w1 ⟨rfl, b1⟩
        go_wp2
        go_ret
        exact ⟨rfl, b1⟩
      · have hke := full_string hk
        have hk2 : T.data.toList.isEmpty = false := List.isEmpty_eq_false_iff.2 hk
        rw [hk2]
        clear hk hk2
        go_enter Tryz.func61, Tryz.ntmps61
        go_wp2_with fail
        with_reducible refine (cT _).mono ?_
        rintro e w1 ⟨rfl, b1⟩
        go_wp2
        go_ret
        exact ⟨rfl, b1⟩
    · have hl' : ¬((s.size : Int) ≤ (m : Int)) := by omega
      have hF : figB s.data.toList m = false := by
        unfold figB
        rw [hsl, decide_eq_false hl]
        simp
      rw [hF]
      clear hF h0 hsl hl
      go_enter Tryz.func61, Tryz.ntmps61
      go_wp2_with fail
      go_ret
      exact ⟨rfl, Below.refl _ _⟩

theorem areFigs3 (s : ByteArray) (w : World) (hs : s.size ≤ 1048576) :
    Calls Tryz.prog 61 #[.string s, .int .i64 3] w fun e w' => e = .returned (.bool (figB s.data.toList 3)) ∧ Below w.heap.size w w' := areFigs s 3 w hs (by decide)
theorem areFigs30 (s : ByteArray) (w : World) (hs : s.size ≤ 1048576) :
    Calls Tryz.prog 61 #[.string s, .int .i64 30] w fun e w' => e = .returned (.bool (figB s.data.toList 30)) ∧ Below w.heap.size w w' := areFigs s 30 w hs (by decide)

theorem three_figs {l : List UInt8} (h : Figs l) (h3 : l.length ≤ 3) : digV l < 1000 := by
  have := digV_lt h
  exact Nat.lt_of_lt_of_le this (Nat.pow_le_pow_right (by decide) h3)
theorem prefix_one {l : List UInt8} {c : UInt8} (h : Lib.hasPrefix l [c] = true) : ∃ q, l = c :: q := by
  cases l with
  | nil => simp [Lib.hasPrefix] at h
  | cons d q =>
    simp [Lib.hasPrefix, List.isPrefixOf] at h
    exact ⟨q, by rw [h]⟩
theorem prefix_not {l : List UInt8} {c : UInt8} (h : Lib.hasPrefix l [c] = false) : ∀ d q, l = d :: q → d.toNat ≠ c.toNat := by
  rintro d q rfl he
  rw [UInt8.toNat_inj.1 he] at h
  simp [Lib.hasPrefix, List.isPrefixOf] at h
theorem tail_of {s : ByteArray} {c : UInt8} {q : List UInt8} (h : s.data.toList = c :: q) : (s.extract 1 s.size).data.toList = q ∧ 1 ≤ s.size := by
  have hl : s.data.toList.length = s.size := size_list s
  rw [h] at hl
  refine ⟨?_, by rw [← hl]; simp⟩
  rw [Lib.extract_eq, h, List.drop_succ_cons, List.drop_zero, List.take_of_length_le]
  simp at hl
  omega

set_option maxHeartbeats 1000000 in
set_option maxRecDepth 100000 in
theorem readExpWalk (s : ByteArray) (w : World) (hs : s.size ≤ 1048576) :
    Calls Tryz.prog 60 #[.string s] w fun e w' => e = .returned (.tuple #[.int .i64 (expI s.data.toList).1, .bool (expI s.data.toList).2]) ∧ Below w.heap.size w w' := by
  have hsl : s.data.toList.length = s.size := size_list s
  have c45 := fun W => Tryz.strings_HasPrefix s ⟨#[45]⟩ W
  have c43 := fun W => Tryz.strings_HasPrefix s ⟨#[43]⟩ W
  have e45 : (⟨#[45]⟩ : ByteArray).data.toList = [45] := rfl
  have e43 : (⟨#[43]⟩ : ByteArray).data.toList = [43] := rfl
  rw [e45] at c45
  rw [e43] at c43
  clear e45 e43
  by_cases h1 : Lib.hasPrefix s.data.toList [45] = true
  · rw [h1] at c45
    obtain ⟨q, hq⟩ := prefix_one h1
    obtain ⟨t1, t2⟩ := tail_of hq
    have HS : signR s.data.toList = (true, q) := by rw [hq]; rfl
    have hRs : (s.extract 1 s.size).size ≤ 1048576 := by rw [ByteArray.size_extract]; omega
    obtain ⟨R, hR⟩ : ∃ R, s.extract 1 s.size = R := ⟨_, rfl⟩
    rw [hR] at t1 hRs
    have hRl := t1
    have cF := fun W => areFigs3 R W hRs
    have t3 : (1 : Int) ≤ s.size := by omega
    clear t1 h1 hq c43
    by_cases hf : figB R.data.toList 3 = true
    · obtain ⟨f1, f2, f3⟩ := fig_figs hf
      have hR3 : R.size ≤ 18 := by rw [← size_list]; omega
      have cA := fun W => Tryz.strconv_Atoi R (digV R.data.toList : Int) hR3 (atoi_figs f1 f2) W
      have hD := three_figs f1 f3
      obtain ⟨D, hDD⟩ : ∃ D, digV R.data.toList = D := ⟨_, rfl⟩
      have HX : Hid (expI s.data.toList = (-(D : Int), true)) := by
        show expI s.data.toList = (-(D : Int), true)
        unfold expI
        rw [HS, ← hRl, hf, if_pos rfl, hDD]; rfl
      rw [hDD] at cA hD
      rw [hf] at cF
      clear hDD hf f1 f2 f3 HS hRl hR3 hsl
      go_enter Tryz.func60, Tryz.ntmps60
      go_wp2_with fail
      with_reducible refine (c45 _).mono ?_
      rintro e w0 ⟨rfl, rfl⟩
      go_wp2_with fail
      try rw [hR]
      go_wp2_with fail
      with_reducible refine (cF _).mono ?_
      rintro e w1 ⟨rfl, b1⟩
      go_wp2_with fail
      with_reducible refine (cA _).mono ?_
      rintro e w2 ⟨rfl, t2, rfl⟩
      go_wp2
      go_quiet (fail)
      go_wp2
      go_ret2
      exact ⟨by rw [HX.out]; rfl, chain b1 (below_drewN (Joins.below_bytesWorld _ _ _ _ (Nat.le_refl _)) _)⟩
    · have hf2 : figB R.data.toList 3 = false := by simpa using hf
      have HX : Hid (expI s.data.toList = (0, false)) := by
        show expI s.data.toList = (0, false)
        unfold expI
        rw [HS, ← hRl, hf2]; rfl
      rw [hf2] at cF
      clear hf hf2 HS hRl hsl
      go_enter Tryz.func60, Tryz.ntmps60
      go_wp2_with fail
      with_reducible refine (c45 _).mono ?_
      rintro e w0 ⟨rfl, rfl⟩
      go_wp2_with fail
      try rw [hR]
      go_wp2_with fail
      with_reducible refine (cF _).mono ?_
      rintro e w1 ⟨rfl, b1⟩
      go_wp2
      go_ret2
      exact ⟨by rw [HX.out]; rfl, b1⟩
  · have h1' : Lib.hasPrefix s.data.toList [45] = false := by simpa using h1
    rw [h1'] at c45
    by_cases h2 : Lib.hasPrefix s.data.toList [43] = true
    · rw [h2] at c43
      obtain ⟨q, hq⟩ := prefix_one h2
      obtain ⟨t1, t2⟩ := tail_of hq
      have HS : signR s.data.toList = (false, q) := by rw [hq]; rfl
      have hRs : (s.extract 1 s.size).size ≤ 1048576 := by rw [ByteArray.size_extract]; omega
      obtain ⟨R, hR⟩ : ∃ R, s.extract 1 s.size = R := ⟨_, rfl⟩
      rw [hR] at t1 hRs
      have hRl := t1
      have cF := fun W => areFigs3 R W hRs
      have t3 : (1 : Int) ≤ s.size := by omega
      clear t1 h1 h1' h2 hq
      by_cases hf : figB R.data.toList 3 = true
      · obtain ⟨f1, f2, f3⟩ := fig_figs hf
        have hR3 : R.size ≤ 18 := by rw [← size_list]; omega
        have cA := fun W => Tryz.strconv_Atoi R (digV R.data.toList : Int) hR3 (atoi_figs f1 f2) W
        have hD := three_figs f1 f3
        obtain ⟨D, hDD⟩ : ∃ D, digV R.data.toList = D := ⟨_, rfl⟩
        have HX : Hid (expI s.data.toList = ((D : Int), true)) := by
          show expI s.data.toList = ((D : Int), true)
          unfold expI
          rw [HS, ← hRl, hf, if_pos rfl, hDD]; rfl
        rw [hDD] at cA hD
        rw [hf] at cF
        clear hDD hf f1 f2 f3 HS hRl hR3 hsl
        go_enter Tryz.func60, Tryz.ntmps60
        go_wp2_with fail
        with_reducible refine (c45 _).mono ?_
        rintro e w0 ⟨rfl, rfl⟩
        go_wp2_with fail
        with_reducible refine (c43 _).mono ?_
        rintro e w0 ⟨rfl, rfl⟩
        go_wp2_with fail
        try rw [hR]
        go_wp2_with fail
        with_reducible refine (cF _).mono ?_
        rintro e w1 ⟨rfl, b1⟩
        go_wp2_with fail
        with_reducible refine (cA _).mono ?_
        rintro e w2 ⟨rfl, t2, rfl⟩
        go_wp2
        go_quiet (fail)
        go_wp2
        go_ret2
        exact ⟨by rw [HX.out]; rfl, chain b1 (below_drewN (Joins.below_bytesWorld _ _ _ _ (Nat.le_refl _)) _)⟩
      · have hf2 : figB R.data.toList 3 = false := by simpa using hf
        have HX : Hid (expI s.data.toList = (0, false)) := by
          show expI s.data.toList = (0, false)
          unfold expI
          rw [HS, ← hRl, hf2]; rfl
        rw [hf2] at cF
        clear hf hf2 HS hRl hsl
        go_enter Tryz.func60, Tryz.ntmps60
        go_wp2_with fail
        with_reducible refine (c45 _).mono ?_
        rintro e w0 ⟨rfl, rfl⟩
        go_wp2_with fail
        with_reducible refine (c43 _).mono ?_
        rintro e w0 ⟨rfl, rfl⟩
        go_wp2_with fail
        try rw [hR]
        go_wp2_with fail
        with_reducible refine (cF _).mono ?_
        rintro e w1 ⟨rfl, b1⟩
        go_wp2
        go_ret2
        exact ⟨by rw [HX.out]; rfl, b1⟩
    · have h2' : Lib.hasPrefix s.data.toList [43] = false := by simpa using h2
      rw [h2'] at c43
      have HS : signR s.data.toList = (false, s.data.toList) := by
        cases hl : s.data.toList with
        | nil => rfl
        | cons d q =>
          rw [signR, if_neg (show ¬d.toNat = 45 from prefix_not h1' d q hl), if_neg (show ¬d.toNat = 43 from prefix_not h2' d q hl)]
      have cF := fun W => areFigs3 s W hs
      clear h1 h1' h2 h2'
      by_cases hf : figB s.data.toList 3 = true
      · obtain ⟨f1, f2, f3⟩ := fig_figs hf
        have hR3 : s.size ≤ 18 := by rw [← size_list]; omega
        have cA := fun W => Tryz.strconv_Atoi s (digV s.data.toList : Int) hR3 (atoi_figs f1 f2) W
        have hD := three_figs f1 f3
        obtain ⟨D, hDD⟩ : ∃ D, digV s.data.toList = D := ⟨_, rfl⟩
        have HX : Hid (expI s.data.toList = ((D : Int), true)) := by
          show expI s.data.toList = ((D : Int), true)
          unfold expI
          rw [HS, hf, if_pos rfl, hDD]; rfl
        rw [hDD] at cA hD
        rw [hf] at cF
        clear hDD hf f1 f2 f3 HS hR3 hsl
        go_enter Tryz.func60, Tryz.ntmps60
        go_wp2_with fail
        with_reducible refine (c45 _).mono ?_
        rintro e w0 ⟨rfl, rfl⟩
        go_wp2_with fail
        with_reducible refine (c43 _).mono ?_
        rintro e w0 ⟨rfl, rfl⟩
        go_wp2_with fail
        with_reducible refine (cF _).mono ?_
        rintro e w1 ⟨rfl, b1⟩
        go_wp2_with fail
        with_reducible refine (cA _).mono ?_
        rintro e w2 ⟨rfl, t2, rfl⟩
        go_wp2
        go_quiet (fail)
        go_wp2
        go_ret2
        exact ⟨by rw [HX.out]; rfl, chain b1 (below_drewN (Joins.below_bytesWorld _ _ _ _ (Nat.le_refl _)) _)⟩
      · have hf2 : figB s.data.toList 3 = false := by simpa using hf
        have HX : Hid (expI s.data.toList = (0, false)) := by
          show expI s.data.toList = (0, false)
          unfold expI
          rw [HS, hf2]; rfl
        rw [hf2] at cF
        clear hf hf2 HS hsl
        go_enter Tryz.func60, Tryz.ntmps60
        go_wp2_with fail
        with_reducible refine (c45 _).mono ?_
        rintro e w0 ⟨rfl, rfl⟩
        go_wp2_with fail
        with_reducible refine (c43 _).mono ?_
        rintro e w0 ⟨rfl, rfl⟩
        go_wp2_with fail
        with_reducible refine (cF _).mono ?_
        rintro e w1 ⟨rfl, b1⟩
        go_wp2
        go_ret2
        exact ⟨by rw [HX.out]; rfl, b1⟩

end Go.Proofs.YtcabanghegddhaaGreatDoor

namespace Go.Proofs.YtcabanghegddhaaGreatDoor
open Go.RowKit
set_option linter.unusedVariables false

theorem trim_len61 {a b : List UInt8} (ha : a.length ≤ 30) (hb : b.length ≤ 30) : (trimL (a ++ b)).length ≤ 61 := by
  rw [trim_shelf]
  split
  · simp
  · unfold Lib.trimLeftB
    have := (List.dropWhile_sublist (fun x => x == (48 : UInt8)) (l := a ++ b)).length_le
    rw [List.length_append] at this
    omega

/-- the cell that the library's search reads -/
def SeekOk (w : World) : Prop := ∃ m : Int, w.cell? ⟨1, 0, none⟩ = some (.int .i64 m)
theorem seek_kept {w w' : World} (h : SeekOk w) (hb : Below w.heap.size w w') : SeekOk w' := by
  obtain ⟨m, hm⟩ := h
  refine ⟨m, ?_⟩
  rw [hb.cell (World.block_lt_of_cell? w _ hm)]
  exact hm

theorem cut_le (l : List UInt8) (c : UInt8) : (Lib.cut l [c]).1.length ≤ l.length ∧ (Lib.cut l [c]).2.1.length ≤ l.length ∧ ((Lib.cut l [c]).2.2 = false → (Lib.cut l [c]).2.1 = []) := by
  unfold Lib.cut
  split
  · exact ⟨by rw [List.length_take]; omega, by rw [List.length_drop]; omega, fun h => by cases h⟩
  · exact ⟨Nat.le_refl _, by simp, fun _ => rfl⟩
theorem expI_small (l : List UInt8) : -1000 ≤ (expI l).1 ∧ (expI l).1 ≤ 1000 := by
  unfold expI
  split
  · rename_i h
    obtain ⟨f1, f2, f3⟩ := fig_figs h
    have := three_figs f1 f3
    split <;> exact ⟨by omega, by omega⟩
  · exact ⟨by decide, by decide⟩

set_option maxHeartbeats 1000000 in
set_option maxRecDepth 100000 in
theorem iReadNumber (s : ByteArray) (w : World) (hs : s.size ≤ 1048576) (hm : SeekOk w) :
    Calls Tryz.prog 49 #[.string s] w fun e w' => e = .returned (.tuple #[.int .u64 (readI s.data.toList : Nat), .bool (okI s.data.toList)]) ∧ Below w.heap.size w w' := by
  obtain ⟨m, hm⟩ := hm
  have hsl : s.data.toList.length = s.size := size_list s
  obtain ⟨l, hl⟩ : ∃ l, s.data.toList = l := ⟨_, rfl⟩
  have cC1 := Tryz.strings_Cut s ⟨#[101]⟩ m w (by omega) hm
  have e1 : (⟨#[101]⟩ : ByteArray).data.toList = [101] := rfl
  have e2 : (⟨#[46]⟩ : ByteArray).data.toList = [46] := rfl
  rw [e1, hl] at cC1
  obtain ⟨u1, u2, _⟩ := cut_le l 101
  obtain ⟨v1, v2, v3⟩ := cut_le (sideI l) 46
  obtain ⟨S, hS⟩ : ∃ S : ByteArray, ⟨(Lib.cut l [101]).1.toArray⟩ = S := ⟨_, rfl⟩
  obtain ⟨E, hE⟩ : ∃ S : ByteArray, ⟨(Lib.cut l [101]).2.1.toArray⟩ = S := ⟨_, rfl⟩
  obtain ⟨he, hhe⟩ : ∃ b, (Lib.cut l [101]).2.2 = b := ⟨_, rfl⟩
  have lS : S.data.toList = sideI l := by rw [← hS]; rfl
  have lE : E.data.toList = tailI l := by rw [← hE]; rfl
  have zS : S.size ≤ 1048576 := by rw [← size_list, lS]; unfold sideI; rw [hl] at hsl; omega
  have zE : E.size ≤ 1048576 := by rw [← size_list, lE]; unfold tailI; rw [hl] at hsl; omega
  rw [hS, hE, hhe] at cC1
  have cC2 := fun n => Tryz.strings_Cut S ⟨#[46]⟩ m (w.drewN n) (by omega) hm
  rw [e2, lS] at cC2
  obtain ⟨B, hB⟩ : ∃ S : ByteArray, ⟨(Lib.cut (sideI l) [46]).1.toArray⟩ = S := ⟨_, rfl⟩
  obtain ⟨P, hP⟩ : ∃ S : ByteArray, ⟨(Lib.cut (sideI l) [46]).2.1.toArray⟩ = S := ⟨_, rfl⟩
  obtain ⟨hd, hhd⟩ : ∃ b, (Lib.cut (sideI l) [46]).2.2 = b := ⟨_, rfl⟩
  have lB : B.data.toList = (Lib.cut (sideI l) [46]).1 := by rw [← hB]
  have lP : P.data.toList = (Lib.cut (sideI l) [46]).2.1 := by rw [← hP]
  rw [hB, hP, hhd] at cC2
  have zB : B.size ≤ 1048576 := by rw [← size_list, lB]; rw [← lS, size_list] at v1; rw [lS] at v1; omega
  have zP : P.size ≤ 1048576 := by rw [← size_list, lP]; rw [← lS, size_list] at v2; rw [lS] at v2; omega
  have cE := fun W => readExpWalk E W zE
  have cB := fun W => areFigs30 B W zB
  have cP := fun W => areFigs30 P W zP
  obtain ⟨x1, x2⟩ := expI_small (tailI l)
  rw [lE] at cE
  obtain ⟨X, hX⟩ : ∃ X, (expI (tailI l)).1 = X := ⟨_, rfl⟩
  obtain ⟨xo, hxo⟩ : ∃ X, (expI (tailI l)).2 = X := ⟨_, rfl⟩
  obtain ⟨fB, hfB⟩ : ∃ X, figB B.data.toList 30 = X := ⟨_, rfl⟩
  obtain ⟨fP, hfP⟩ : ∃ X, figB P.data.toList 30 = X := ⟨_, rfl⟩
  have HO : Hid (okI l = (fB && ((!hd || fP) && (!he || xo)))) := by
    show okI l = _
    unfold okI hasE
    rw [← lB, ← lP, hfB, hfP, hhd, hhe, hxo]
  have HV : Hid (Unit → readI l = if okI l = true then nearN (trimL (B.data.toList ++ P.data.toList)) (X - P.size) else 0) := fun _ => by
    unfold readI
    rw [← lB, ← lP, hX, size_list]
  have sB : fB = true → B.size ≤ 30 := fun h => by rw [h] at hfB; rw [← size_list]; exact (fig_figs hfB).2.2
  have sP : (hd = true → fP = true) → P.size ≤ 30 := fun h => by
    rw [← size_list]
    cases hd with
    | false => rw [lP, v3 hhd]; simp
    | true => exact (fig_figs (hfP.trans (h rfl))).2.2
  rw [hX, hxo] at cE
  rw [hX] at x1 x2
  rw [hfB] at cB
  rw [hfP] at cP
  rw [hl]
  clear hX hxo hfB hfP hB hP hS hE hhe hhd lS lE lB lP e1 e2 u1 u2 v1 v2 v3 hsl hl zS zE zB zP hm
  cases fB
  · clear cP sB sP x1 x2
    go_enter Tryz.func49, Tryz.ntmps49
    go_wp2_with fail
    with_reducible refine cC1.mono ?_
    rintro e w1 ⟨rfl, n1, rfl⟩
    go_wp2_with fail
    with_reducible refine (cC2 _).mono ?_
    rintro e w2 ⟨rfl, n2, rfl⟩
    go_wp2_with fail
    with_reducible refine (cE _).mono ?_
    rintro e w3 ⟨rfl, b3⟩
    go_wp2_with fail
    with_reducible refine (cB _).mono ?_
    rintro e w4 ⟨rfl, b4⟩
    go_wp2
    go_ret2
    have hok := HO.out
    have hv := HV.out ()
    have ho : okI l = false := hok
    rw [ho] at hv ⊢
    exact ⟨by rw [hv]; rfl, chain (chain (below_drewN (Below.refl _ w) (n1 + n2)) b3) b4⟩
  · cases hd
    · have HO2 : Hid (okI l = (!he || xo)) := by
        show okI l = _
        rw [HO.out]; rfl
      replace HO := HO2
      cases he
      · have z1 := sB rfl
        have z2 := sP (fun h => by cases h)
        have hok : okI l = true := HO.out
        have hv := HV.out ()
        rw [hok, if_pos rfl] at hv
        have jBP : (B ++ P).data.toList = B.data.toList ++ P.data.toList := by simp
        have cA := fun W => aheadWalk (B ++ P) W
        have hTl : (trimL (B.data.toList ++ P.data.toList)).length ≤ 61 := trim_len61 (by rw [size_list]; omega) (by rw [size_list]; omega)
        rw [jBP] at cA
        have cN := fun W => iNearest (txt (trimL (B.data.toList ++ P.data.toList))) (X - P.size) W (by rw [txt_size]; omega) (by omega) (by omega)
        rw [txt_data, ← hv] at cN
        obtain ⟨T, hT⟩ : ∃ T, txt (trimL (B.data.toList ++ P.data.toList)) = T := ⟨_, rfl⟩
        rw [hT] at cA cN
        rw [hok]
        have z3 : (B.size : Int) ≤ 30 := by omega
        have z4 : (P.size : Int) ≤ 30 := by omega
        clear hT hTl hv hok jBP sB sP HO HV z1 z2
        go_enter Tryz.func49, Tryz.ntmps49
        go_wp2_with fail
        with_reducible refine cC1.mono ?_
        rintro e w1 ⟨rfl, n1, rfl⟩
        go_wp2_with fail
        with_reducible refine (cC2 _).mono ?_
        rintro e w2 ⟨rfl, n2, rfl⟩
        go_wp2_with fail
        with_reducible refine (cE _).mono ?_
        rintro e w3 ⟨rfl, b3⟩
        go_wp2_with fail
        with_reducible refine (cB _).mono ?_
        rintro e w4 ⟨rfl, b4⟩
        go_wp2_with fail
        with_reducible refine (cA _).mono ?_
        rintro e w6 ⟨rfl, rfl⟩
        go_wp2_with fail
        with_reducible refine (cN _).mono ?_
        rintro e w7 ⟨rfl, b7⟩
        go_wp2
        go_ret2
        exact ⟨rfl, chain (chain (chain (below_drewN (Below.refl _ w) (n1 + n2)) b3) b4) b7⟩
      · cases xo
        · clear sB sP
          go_enter Tryz.func49, Tryz.ntmps49
          go_wp2_with fail
          with_reducible refine cC1.mono ?_
          rintro e w1 ⟨rfl, n1, rfl⟩
          go_wp2_with fail
          with_reducible refine (cC2 _).mono ?_
          rintro e w2 ⟨rfl, n2, rfl⟩
          go_wp2_with fail
          with_reducible refine (cE _).mono ?_
          rintro e w3 ⟨rfl, b3⟩
          go_wp2_with fail
          with_reducible refine (cB _).mono ?_
          rintro e w4 ⟨rfl, b4⟩
          go_wp2
          go_ret2
          have hok := HO.out
          have hv := HV.out ()
          have ho : okI l = false := hok
          rw [ho] at hv ⊢
          exact ⟨by rw [hv]; rfl, chain (chain (below_drewN (Below.refl _ w) (n1 + n2)) b3) b4⟩
        · have z1 := sB rfl
          have z2 := sP (fun h => by cases h)
          have hok : okI l = true := HO.out
          have hv := HV.out ()
          rw [hok, if_pos rfl] at hv
          have jBP : (B ++ P).data.toList = B.data.toList ++ P.data.toList := by simp
          have cA := fun W => aheadWalk (B ++ P) W
          have hTl : (trimL (B.data.toList ++ P.data.toList)).length ≤ 61 := trim_len61 (by rw [size_list]; omega) (by rw [size_list]; omega)
          rw [jBP] at cA
          have cN := fun W => iNearest (txt (trimL (B.data.toList ++ P.data.toList))) (X - P.size) W (by rw [txt_size]; omega) (by omega) (by omega)
          rw [txt_data, ← hv] at cN
          obtain ⟨T, hT⟩ : ∃ T, txt (trimL (B.data.toList ++ P.data.toList)) = T := ⟨_, rfl⟩
          rw [hT] at cA cN
          rw [hok]
          have z3 : (B.size : Int) ≤ 30 := by omega
          have z4 : (P.size : Int) ≤ 30 := by omega
          clear hT hTl hv hok jBP sB sP HO HV z1 z2
          go_enter Tryz.func49, Tryz.ntmps49
          go_wp2_with fail
          with_reducible refine cC1.mono ?_
          rintro e w1 ⟨rfl, n1, rfl⟩
          go_wp2_with fail
          with_reducible refine (cC2 _).mono ?_
          rintro e w2 ⟨rfl, n2, rfl⟩
          go_wp2_with fail
          with_reducible refine (cE _).mono ?_
          rintro e w3 ⟨rfl, b3⟩
          go_wp2_with fail
          with_reducible refine (cB _).mono ?_
          rintro e w4 ⟨rfl, b4⟩
          go_wp2_with fail
          with_reducible refine (cA _).mono ?_
          rintro e w6 ⟨rfl, rfl⟩
          go_wp2_with fail
          with_reducible refine (cN _).mono ?_
          rintro e w7 ⟨rfl, b7⟩
          go_wp2
          go_ret2
          exact ⟨rfl, chain (chain (chain (below_drewN (Below.refl _ w) (n1 + n2)) b3) b4) b7⟩
    · cases fP
      · clear sB sP
        go_enter Tryz.func49, Tryz.ntmps49
        go_wp2_with fail
        with_reducible refine cC1.mono ?_
        rintro e w1 ⟨rfl, n1, rfl⟩
        go_wp2_with fail
        with_reducible refine (cC2 _).mono ?_
        rintro e w2 ⟨rfl, n2, rfl⟩
        go_wp2_with fail
        with_reducible refine (cE _).mono ?_
        rintro e w3 ⟨rfl, b3⟩
        go_wp2_with fail
        with_reducible refine (cB _).mono ?_
        rintro e w4 ⟨rfl, b4⟩
        go_wp2_with fail
        with_reducible refine (cP _).mono ?_
        rintro e w5 ⟨rfl, b5⟩
        go_wp2
        go_ret2
        have hok := HO.out
        have hv := HV.out ()
        have ho : okI l = false := hok
        rw [ho] at hv ⊢
        exact ⟨by rw [hv]; rfl, chain (chain (chain (below_drewN (Below.refl _ w) (n1 + n2)) b3) b4) b5⟩
      · cases he
        · have z1 := sB rfl
          have z2 := sP (fun _ => rfl)
          have hok : okI l = true := HO.out
          have hv := HV.out ()
          rw [hok, if_pos rfl] at hv
          have jBP : (B ++ P).data.toList = B.data.toList ++ P.data.toList := by simp
          have cA := fun W => aheadWalk (B ++ P) W
          have hTl : (trimL (B.data.toList ++ P.data.toList)).length ≤ 61 := trim_len61 (by rw [size_list]; omega) (by rw [size_list]; omega)
          rw [jBP] at cA
          have cN := fun W => iNearest (txt (trimL (B.data.toList ++ P.data.toList))) (X - P.size) W (by rw [txt_size]; omega) (by omega) (by omega)
          rw [txt_data, ← hv] at cN
          obtain ⟨T, hT⟩ : ∃ T, txt (trimL (B.data.toList ++ P.data.toList)) = T := ⟨_, rfl⟩
          rw [hT] at cA cN
          rw [hok]
          have z3 : (B.size : Int) ≤ 30 := by omega
          have z4 : (P.size : Int) ≤ 30 := by omega
          clear hT hTl hv hok jBP sB sP HO HV z1 z2
          go_enter Tryz.func49, Tryz.ntmps49
          go_wp2_with fail
          with_reducible refine cC1.mono ?_
          rintro e w1 ⟨rfl, n1, rfl⟩
          go_wp2_with fail
          with_reducible refine (cC2 _).mono ?_
          rintro e w2 ⟨rfl, n2, rfl⟩
          go_wp2_with fail
          with_reducible refine (cE _).mono ?_
          rintro e w3 ⟨rfl, b3⟩
          go_wp2_with fail
          with_reducible refine (cB _).mono ?_
          rintro e w4 ⟨rfl, b4⟩
          go_wp2_with fail
          with_reducible refine (cP _).mono ?_
          rintro e w5 ⟨rfl, b5⟩
          go_wp2_with fail
          with_reducible refine (cA _).mono ?_
          rintro e w6 ⟨rfl, rfl⟩
          go_wp2_with fail
          with_reducible refine (cN _).mono ?_
          rintro e w7 ⟨rfl, b7⟩
          go_wp2
          go_ret2
          exact ⟨rfl, chain (chain (chain (chain (below_drewN (Below.refl _ w) (n1 + n2)) b3) b4) b5) b7⟩
        · cases xo
          · clear sB sP
            go_enter Tryz.func49, Tryz.ntmps49
            go_wp2_with fail
            with_reducible refine cC1.mono ?_
            rintro e w1 ⟨rfl, n1, rfl⟩
            go_wp2_with fail
            with_reducible refine (cC2 _).mono ?_
            rintro e w2 ⟨rfl, n2, rfl⟩
            go_wp2_with fail
            with_reducible refine (cE _).mono ?_
            rintro e w3 ⟨rfl, b3⟩
            go_wp2_with fail
            with_reducible refine (cB _).mono ?_
            rintro e w4 ⟨rfl, b4⟩
            go_wp2_with fail
            with_reducible refine (cP _).mono ?_
            rintro e w5 ⟨rfl, b5⟩
            go_wp2
            go_ret2
            have hok := HO.out
            have hv := HV.out ()
            have ho : okI l = false := hok
            rw [ho] at hv ⊢
            exact ⟨by rw [hv]; rfl, chain (chain (chain (below_drewN (Below.refl _ w) (n1 + n2)) b3) b4) b5⟩
          · have z1 := sB rfl
            have z2 := sP (fun _ => rfl)
            have hok : okI l = true := HO.out
            have hv := HV.out ()
            rw [hok, if_pos rfl] at hv
            have jBP : (B ++ P).data.toList = B.data.toList ++ P.data.toList := by simp
            have cA := fun W => aheadWalk (B ++ P) W
            have hTl : (trimL (B.data.toList ++ P.data.toList)).length ≤ 61 := trim_len61 (by rw [size_list]; omega) (by rw [size_list]; omega)
            rw [jBP] at cA
            have cN := fun W => iNearest (txt (trimL (B.data.toList ++ P.data.toList))) (X - P.size) W (by rw [txt_size]; omega) (by omega) (by omega)
            rw [txt_data, ← hv] at cN
            obtain ⟨T, hT⟩ : ∃ T, txt (trimL (B.data.toList ++ P.data.toList)) = T := ⟨_, rfl⟩
            rw [hT] at cA cN
            rw [hok]
            have z3 : (B.size : Int) ≤ 30 := by omega
            have z4 : (P.size : Int) ≤ 30 := by omega
            clear hT hTl hv hok jBP sB sP HO HV z1 z2
            go_enter Tryz.func49, Tryz.ntmps49
            go_wp2_with fail
            with_reducible refine cC1.mono ?_
            rintro e w1 ⟨rfl, n1, rfl⟩
            go_wp2_with fail
            with_reducible refine (cC2 _).mono ?_
            rintro e w2 ⟨rfl, n2, rfl⟩
            go_wp2_with fail
            with_reducible refine (cE _).mono ?_
            rintro e w3 ⟨rfl, b3⟩
            go_wp2_with fail
            with_reducible refine (cB _).mono ?_
            rintro e w4 ⟨rfl, b4⟩
            go_wp2_with fail
            with_reducible refine (cP _).mono ?_
            rintro e w5 ⟨rfl, b5⟩
            go_wp2_with fail
            with_reducible refine (cA _).mono ?_
            rintro e w6 ⟨rfl, rfl⟩
            go_wp2_with fail
            with_reducible refine (cN _).mono ?_
            rintro e w7 ⟨rfl, b7⟩
            go_wp2
            go_ret2
            exact ⟨rfl, chain (chain (chain (chain (below_drewN (Below.refl _ w) (n1 + n2)) b3) b4) b5) b7⟩

end Go.Proofs.YtcabanghegddhaaGreatDoor

namespace Go.Proofs.YtcabanghegddhaaGreatDoor
open Go.RowKit

theorem seek_of {w : World} (h : w.ShapedOpen Tryz.prog) : SeekOk w := Tryz.laysM145.s1_3 w h

theorem handed_shaped {H : Type} {enc : TypeId × Value → H} {a : Assume} {C : Checked} {os : Os} {f : FuncId} {fn : Func} {s : ChangeSpec} {conds : List PathCond} {apart fresh handsOn again : Bool} {X : World → Array Value → Prop}
    (hX : ∀ (w w' : World) (args : Array Value), w.heap = w'.heap → X w args → X w' args)
    (own : ownKnob C.prog.godebug = none) (started : os.Started) (noInit : C.prog.inits.idxOf? f = none) (hfn : C.prog.funcs[f]? = some fn)
    (witness : ∃ (w : World) (tape : Tape) (i : Input), w.os = os ∧ (w.forCall tape i).Shaped C.prog ∧ i.vars = [] ∧ Input.okWide C.prog (w.forCall tape i) .any w.heap.size f i ∧
      ((s.pre enc C.prog fn conds apart (w.forCall tape i).memory i.args ∧ X (w.forCall tape i).memory i.args) ∧ sizedMet enc C.prog fn (OpenSpec.ofChange s) apart (w.forCall tape i).memory i.args) ∧ a.holds C.prog (lone (Frame.enter C.prog f i.args .normal) [] (w.forCall tape i)))
    (contract : ∀ (W : World) (base : Nat) (args : Array Value) (ds gs : List (DataW H)) (before : List MemPlace),
      (∀ (j : Nat) t v, fn.params[j]? = some t → args[j]? = some v → Value.okWide C.prog W .any base t v) →
      DataW.Whole enc C.prog fn.params.toList s.vars apart W args.toList ds gs before →
      X W args → W.ShapedOpen C.prog →
      Calls C.prog f args W fun e W' => ∃ v, e = .returned v ∧ s.post enc C.prog fn apart fresh handsOn again W args v W') :
    ReturnsInHanded a C os f .any (fun w args => (s.pre enc C.prog fn conds apart w args ∧ X w args) ∧ sizedMet enc C.prog fn (OpenSpec.ofChange s) apart w args) (s.post enc C.prog fn apart fresh handsOn again) := by
  refine returnsInHanded_of_calls own started noInit witness ?_
  intro w tape i _ hsh _ hok hpre _
  obtain ⟨_, _, _, fn', hfn', _, _, _, _, hval⟩ := hok
  obtain rfl : fn' = fn := Option.some.inj (hfn'.symm.trans hfn)
  obtain ⟨⟨⟨ds, gs, before, hw, _⟩, hx⟩, _⟩ := hpre
  refine (contract (w.forCall tape i) w.heap.size i.args ds gs before hval (DataW.Whole.of_heap (by rfl) hw) (hX _ _ _ (by rfl) hx) hsh).mono fun e W' ⟨v, he, hp⟩ => ?_
  subst he
  exact ChangeSpec.post_blind hp

end Go.Proofs.YtcabanghegddhaaGreatDoor
