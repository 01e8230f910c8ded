/-
  Several texts in one: Tok8B, Read7, Tok8, Tok8M.
-/
import Derived.Test.YtcabanghegddhaaGreatDoorShortA
import Derived.Deep.DeepCutAuto
import Derived.BigQuiet
namespace Go.Proofs.YtcabanghegddhaaGreatDoor

def isLet (c : UInt8) : Bool := (decide (97 ≤ c.toNat) && decide (c.toNat ≤ 122)) || (decide (65 ≤ c.toNat) && decide (c.toNat ≤ 90)) || decide (c.toNat = 95)
/-- how many bytes of a name stand at the head -/
def nameN : List UInt8 → Nat
  | [] => 0
  | c :: l => if isLet c = true then (l.takeWhile fun c => isLet c || isFig c).length + 1 else 0
/-- .. of a number: behind the figures a dot with figures, behind that an exponent with figures -/
def fracN (l : List UInt8) (e : Nat) : Nat := match l.drop e with
  | c :: d :: r => if c.toNat = 46 ∧ isFig d = true then e + 1 + runN (d :: r) else e
  | _ => e
def signN8 (d : UInt8) : Nat := if d.toNat = 43 ∨ d.toNat = 45 then 1 else 0
def tailN (l : List UInt8) (e : Nat) : Nat := match l.drop e with
  | c :: d :: r => if c.toNat = 101 then (match (d :: r).drop (signN8 d) with
      | f :: q => if isFig f = true then e + 1 + signN8 d + runN (f :: q) else e
      | [] => e) else e
  | _ => e
def numbN (l : List UInt8) : Nat := tailN l (fracN l (runN l))
/-- the place of the quote that ends a text, behind the one that opens it -/
def quoteN : List UInt8 → Option Nat
  | [] => none
  | c :: l => if c.toNat = 34 then some 0 else if c.toNat < 32 ∨ 126 < c.toNat then none else (quoteN l).map (· + 1)

/-- where a run stands still -/
theorem while_is {p : UInt8 → Bool} {l : List UInt8} {k : Nat} (hk : k ≤ l.length) (h1 : ∀ c ∈ l.take k, p c = true) (h2 : k = l.length ∨ ∃ h : k < l.length, p l[k] = false) : (l.takeWhile p).length = k := by
  have e : l = l.take k ++ l.drop k := (List.take_append_drop k l).symm
  have hl : (l.take k).length = k := by rw [List.length_take]; omega
  have key : ∀ (a b : List UInt8), (∀ c ∈ a, p c = true) → (b = [] ∨ ∃ c q, b = c :: q ∧ p c = false) → ((a ++ b).takeWhile p).length = a.length := by
    intro a b ha hb
    induction a with
    | nil =>
      rcases hb with rfl | ⟨c, q, rfl, hc⟩
      · rfl
      · simp [hc]
    | cons x a ih =>
      have hx := ha x (by simp)
      rw [List.cons_append, List.takeWhile_cons, if_pos hx, List.length_cons, List.length_cons, ih (fun c hc => ha c (by simp [hc]))]
  rw [e, key _ _ h1, hl]
  rcases h2 with h2 | ⟨h2, h3⟩
  · left
    exact List.drop_eq_nil_of_le (by omega)
  · right
    exact ⟨l[k], l.drop (k + 1), List.drop_eq_getElem_cons h2, h3⟩

theorem name_is {l : List UInt8} {k : Nat} (hk : k ≤ l.length) (h0 : ∀ h : 0 < k, isLet (l[0]'(by omega)) = true) (h1 : ∀ i, 0 < i → ∀ h : i < k, (isLet (l[i]'(by omega)) || isFig (l[i]'(by omega))) = true)
    (h2 : k = l.length ∨ ∃ h : k < l.length, (isLet l[k] || (decide (0 < k) && isFig l[k])) = false) : nameN l = k := by
  match l, hk, h0, h1, h2 with
  | [], hk, _, _, _ => simp at hk; subst hk; rfl
  | c :: r, hk, h0, h1, h2 =>
    rcases Nat.eq_zero_or_pos k with hz | hz
    · subst hz
      rcases h2 with h2 | ⟨h2, h3⟩
      · simp at h2
      · have : isLet c = false := by simpa using h3
        show (if isLet c = true then _ else 0) = 0
        rw [if_neg (by rw [this]; decide)]
    · have hc : isLet c = true := h0 hz
      obtain ⟨j, rfl⟩ : ∃ j, k = j + 1 := ⟨k - 1, by omega⟩
      show (if isLet c = true then (r.takeWhile fun c => isLet c || isFig c).length + 1 else 0) = j + 1
      rw [if_pos hc]
      congr 1
      refine while_is (by simpa using hk) ?_ ?_
      · intro x hx
        obtain ⟨i, hi, rfl⟩ := List.getElem_of_mem hx
        rw [List.length_take] at hi
        have h := h1 (i + 1) (by omega) (by omega)
        simpa using h
      · rcases h2 with h2 | ⟨h2, h3⟩
        · left; simpa using h2
        · right
          refine ⟨by simpa using h2, ?_⟩
          simpa using h3

end Go.Proofs.YtcabanghegddhaaGreatDoor

namespace Go.Proofs.YtcabanghegddhaaGreatDoor
open Go.RowKit
set_option linter.unusedVariables false

theorem drop_at (s : ByteArray) (a k : Nat) (h : a + k < s.size) : (s.data.toList.drop a)[k]? = some s[a + k] := by
  rw [List.getElem?_drop, List.getElem?_eq_getElem (by rw [size_list]; exact h)]
  rfl
theorem drop_cons (s : ByteArray) (a : Nat) (h : a < s.size) : s.data.toList.drop a = s[a] :: s.data.toList.drop (a + 1) := List.drop_eq_getElem_cons (by rw [size_list]; exact h)
theorem drop_end (s : ByteArray) : s.data.toList.drop s.size = [] := List.drop_eq_nil_of_le (by rw [size_list]; exact Nat.le_refl _)
theorem sl_drop (s : ByteArray) (a k : Nat) : sl s a (a + k) = (s.data.toList.drop a).take k := by
  unfold sl
  rw [Nat.add_sub_cancel_left]
theorem run_here {s : ByteArray} {a k : Nat} (h : a + k ≤ s.size) (h1 : Figs (sl s a (a + k))) (h2 : a + k = s.size ∨ ∃ h : a + k < s.size, ¬(48 ≤ (s[a + k]).toNat ∧ (s[a + k]).toNat ≤ 57)) : runN (s.data.toList.drop a) = k := by
  have hl : (s.data.toList.drop a).length = s.size - a := by rw [List.length_drop, size_list]
  refine run_is (by omega) (by rw [← sl_drop]; exact h1) ?_
  rcases h2 with h2 | ⟨h2, h3⟩
  · left; omega
  · right
    refine ⟨by omega, ?_⟩
    have e := drop_at s a k h2
    rw [List.getElem?_eq_getElem (by omega)] at e
    rw [Option.some.inj e]
    exact isFig_not h3

set_option maxHeartbeats 1000000 in
set_option maxRecDepth 100000 in
theorem l07Run_any (s : ByteArray) (a : Nat) (w : World) (ha : a ≤ s.size) (hs : s.size ≤ 1048576) :
    Calls Tryz.prog 52 #[.string s, .int .i64 a] w fun e w' => e = .returned (.int .i64 (runN (s.data.toList.drop a) : Nat)) ∧ w = w' := by
  obtain ⟨R, hR⟩ : ∃ R, runN (s.data.toList.drop a) = R := ⟨_, rfl⟩
  have HR : Hid (Unit → runN (s.data.toList.drop a) = R) := fun _ => hR
  rw [hR]
  clear hR
  go_enter Tryz.func52, Tryz.ntmps52
  go_upto_region 2 with fail
  go_loop [5] (fun x => ∃ k : Nat, x = .int .i64 k ∧ a + k ≤ s.size ∧ Hid (Figs (sl s a (a + k)))) (fun x => s.size - (intOf x).toNat)
  case atStart => exact ⟨0, rfl, by omega, by rw [Nat.add_zero, sl_self]; exact figs_nil⟩
  case round =>
    obtain ⟨k, rfl, hk, HK⟩ := hrel
    obtain ⟨K, hK⟩ : ∃ K, a + k = K := ⟨_, rfl⟩
    have hK' : (a : Int) + k = K := by omega
    by_cases hlt : K < s.size
    · have hlt' : (K : Int) < s.size := by omega
      by_cases hc1 : 48 ≤ (s[K]).toNat
      · have hc1' : (48 : Int) ≤ ((s[K]).toNat : Int) := by omega
        by_cases hc2 : (s[K]).toNat ≤ 57
        · have hc2' : ((s[K]).toNat : Int) ≤ 57 := by omega
          have HN : Hid (Figs (sl s a (a + (k + 1)))) := by
            show Figs _
            rw [← Nat.add_assoc, sl_snoc (by omega) (by omega)]
            refine figs_snoc HK.out ?_
            simp only [hK]
            exact ⟨hc1, hc2⟩
          go_wp2
          go_round
          case rel => exact ⟨k + 1, by go_num, by omega, HN⟩
          case measure => simp [intOf]; omega
        · have hc2' : decide (((s[K]).toNat : Int) ≤ 57) = false := by simp; omega
          have HE : Hid (R = k) := by
            show _ = _
            rw [← HR.out ()]
            exact run_here hk HK.out (.inr ⟨by omega, by simp only [hK]; omega⟩)
          go_wp2
          go_ret
          exact ⟨by rw [HE.out]; rfl, rfl⟩
      · have hc1' : decide ((48 : Int) ≤ ((s[K]).toNat : Int)) = false := by simp; omega
        have HE : Hid (R = k) := by
          show _ = _
          rw [← HR.out ()]
          exact run_here hk HK.out (.inr ⟨by omega, by simp only [hK]; omega⟩)
        go_wp2
        go_ret
        exact ⟨by rw [HE.out]; rfl, rfl⟩
    · have hlt' : decide ((K : Int) < s.size) = false := by simp; omega
      have HE : Hid (R = k) := by
        show _ = _
        rw [← HR.out ()]
        exact run_here hk HK.out (.inl (by omega))
      go_wp2
      go_ret
      exact ⟨by rw [HE.out]; rfl, rfl⟩

theorem run_figs : ∀ l : List UInt8, Figs (l.take (runN l))
  | [] => figs_nil
  | c :: l => by
    unfold runN
    rw [List.takeWhile_cons]
    split
    · rename_i h
      intro x hx
      rw [List.length_cons, List.take_succ_cons, List.mem_cons] at hx
      rcases hx with rfl | hx
      · unfold isFig at h
        rw [Bool.and_eq_true, decide_eq_true_eq, decide_eq_true_eq] at h
        exact h
      · exact run_figs l x hx
    · exact figs_nil

theorem txt_append (a b : List UInt8) : txt a ++ txt b = txt (a ++ b) := by
  apply ByteArray.ext
  simp [txt, ByteArray.data_append]
theorem extract_txt (s : ByteArray) (a b : Nat) : s.extract a b = txt (sl s a b) := by
  rw [Lib.extract_eq]; rfl

/-- what is answered once the text is gone through -/
def lastV (t : List UInt8) (n a b : Nat) (f : List UInt8) (e : Int) : Prop := dotR (t.drop n) = some (f, t.drop a) ∧ expR (t.drop a) = some (e, t.drop b)
theorem read_end {t : List UInt8} {n b : Nat} {f : List UInt8} {e : Int} {a : Nat} (hn : runN t = n) (h80 : t.length ≤ 80) (h1 : 1 ≤ n) (h2 : n ≤ 30) (h : lastV t n a b f e) (hb : b ≤ t.length) :
    (b = t.length → readV t = tellN (t.take n ++ f) (e - f.length) ∧ readB t = true) ∧ (b ≠ t.length → readV t = 0 ∧ readB t = false) := by
  have hR : readR t = if t.drop b = [] then some (t.take n ++ f, e - f.length) else none := by
    unfold readR
    rw [hn, if_pos ⟨h80, h1, h2⟩, h.1]
    simp [h.2]
  constructor
  · intro hbe
    rw [if_pos (List.drop_eq_nil_of_le (by omega))] at hR
    unfold readV readB
    rw [hR]
    exact ⟨rfl, rfl⟩
  · intro hbe
    rw [if_neg (by rw [List.drop_eq_nil_iff]; omega)] at hR
    unfold readV readB
    rw [hR]
    exact ⟨rfl, rfl⟩
theorem read_none {t : List UInt8} (h : readR t = none) : readV t = 0 ∧ readB t = false := by
  unfold readV readB
  rw [h]
  exact ⟨rfl, rfl⟩

set_option maxHeartbeats 4000000 in
set_option maxRecDepth 100000 in
theorem specReadNumber_any (s : ByteArray) (w : World) (hs : s.size ≤ 1048576) :
    Calls Tryz.prog 35 #[.string s] w fun e w' => e = .returned (.tuple #[.int .u64 (readV s.data.toList : Nat), .bool (readB s.data.toList)]) ∧ Below w.heap.size w w' := by
  obtain ⟨V, hV⟩ : ∃ V, readV s.data.toList = V := ⟨_, rfl⟩
  obtain ⟨O, hO⟩ : ∃ V, readB s.data.toList = V := ⟨_, rfl⟩
  have HV : Hid (Unit → readV s.data.toList = V ∧ readB s.data.toList = O) := fun _ => ⟨hV, hO⟩
  rw [hV, hO]
  clear hV hO
  have HNone : Hid (Unit → readR s.data.toList = none → V = 0 ∧ O = false) := fun _ h => by
    have := read_none h
    rw [(HV.out ()).1, (HV.out ()).2] at this
    exact this
  by_cases h80 : 80 < s.size
  · have h80' : (80 : Int) < s.size := by omega
    obtain ⟨hv, ho⟩ := HNone.out () (by unfold readR; rw [if_neg (fun h => by rw [size_list] at h; omega)])
    subst hv ho
    clear HV HNone
    go_enter Tryz.func35, Tryz.ntmps35
    go_wp2
    go_ret2
    exact ⟨rfl, Below.refl _ _⟩
  have h80' : decide ((80 : Int) < s.size) = false := by simp; omega
  have cR := fun (a : Nat) (ha : a ≤ s.size) W => l07Run_any s a W ha hs
  have cR0 := cR 0 (by omega)
  rw [List.drop_zero] at cR0
  obtain ⟨n, hn⟩ : ∃ n, runN s.data.toList = n := ⟨_, rfl⟩
  have hnl := run_le s.data.toList
  rw [size_list, hn] at hnl
  rw [hn] at cR0
  have cI := fun W => l01In_any (n : Int) 1 30 W
  have HN : Hid (Unit → runN s.data.toList = n) := fun _ => hn
  clear hn
  by_cases h30 : 1 ≤ n ∧ n ≤ 30
  · rw [decide_eq_true (by omega : (1 : Int) ≤ n), decide_eq_true (by omega : (n : Int) ≤ 30)] at cI
    have hn1 : (1 : Int) ≤ n := by omega
    have hn2 : (n : Int) ≤ 30 := by omega
    have hs8 : (s.size : Int) ≤ 80 := by omega
    obtain ⟨A, hA⟩ : ∃ A, s.extract 0 n = A := ⟨_, rfl⟩
    have hAs : A.size = n := by rw [← hA, ByteArray.size_extract]; omega
    have HA : Hid (Unit → A = txt (s.data.toList.take n)) := fun _ => by
      rw [← hA, extract_txt]
      unfold sl
      rw [List.drop_zero, Nat.sub_zero]
    go_enter Tryz.func35, Tryz.ntmps35
    go_wp2_with fail
    refine (cR0 _).mono ?_
    rintro e w' ⟨rfl, rfl⟩
    go_wp2_with fail
    refine (cI _).mono ?_
    rintro e w' ⟨rfl, rfl⟩
    clear cI cR0
    go_upto_region 9 with fail
    go_cut [34] (fun x wx => ∃ d : Bool, x = .bool d ∧ w = wx ∧ Hid (Unit → (d = true → ∃ h : n < s.size, (s[n]).toNat = 46) ∧ (d = false → ¬∃ h : n < s.size, (s[n]).toNat = 46)))
    case first =>
      by_cases hlt : n < s.size
      · have hlt' : (n : Int) < s.size := by omega
        by_cases hc : (s[n]).toNat = 46
        · have hc' : ((s[n]).toNat : Int) = 46 := by omega
          go_wp2
          go_meet
          case rel => exact ⟨true, rfl, rfl, fun _ => ⟨fun _ => ⟨hlt, hc⟩, fun h => by simp at h⟩⟩
        · have hc' : (((s[n]).toNat : Int) == 46) = false := by rw [beq_eq_false_iff_ne]; omega
          go_wp2
          go_meet
          case rel => exact ⟨false, rfl, rfl, fun _ => ⟨fun h => by simp at h, fun _ h => hc h.2⟩⟩
      · have hlt' : decide ((n : Int) < s.size) = false := by simp; omega
        go_wp2
        go_meet
        case rel => exact ⟨false, rfl, rfl, fun _ => ⟨fun h => by simp at h, fun _ h => hlt h.1⟩⟩
    case rest =>
      obtain ⟨d, rfl, rfl, HD⟩ := hcut
      go_upto_if 34 with fail
      go_cut [5, 6, 7] (fun v5 v6 v7 wx => ∃ (f : List UInt8) (a : Nat) (B : ByteArray), v5 = .string B ∧ v6 = .int .i64 (-(f.length : Int)) ∧ v7 = .int .i64 a ∧ a ≤ s.size ∧ (f.length : Int) ≤ 30 ∧ (B.size : Int) ≤ 60 ∧ w = wx ∧ Hid (Unit → dotR (s.data.toList.drop n) = some (f, s.data.toList.drop a) ∧ B = txt (s.data.toList.take n ++ f)))
      case first =>
        cases d
        · have HF : Hid (Unit → dotR (s.data.toList.drop n) = some ([], s.data.toList.drop n)) := fun _ => by
            have h := (HD.out ()).2 rfl
            by_cases hlt : n < s.size
            · rw [drop_cons s n hlt, dotR, if_neg (fun hc => h ⟨hlt, hc⟩)]
            · rw [(by omega : n = s.size), drop_end]; rfl
          go_wp2
          go_meet
          case rel => exact ⟨[], n, A, rfl, by simp, rfl, by omega, by simp, by omega, rfl, fun _ => ⟨HF.out (), by rw [List.append_nil]; exact HA.out ()⟩⟩
        · obtain ⟨hlt, hc⟩ := (HD.out ()).1 rfl
          have hc' : ((s[n]).toNat : Int) = 46 := by omega
          obtain ⟨k, hk⟩ : ∃ k, runN (s.data.toList.drop (n + 1)) = k := ⟨_, rfl⟩
          have hkl := run_le (s.data.toList.drop (n + 1))
          rw [List.length_drop, size_list, hk] at hkl
          have c1 : ∀ W : World, Calls Tryz.prog 52 #[.string s, .int .i64 ((n : Int) + 1)] W fun e w' => e = .returned (.int .i64 (k : Nat)) ∧ W = w' := fun W => by
            have h := cR (n + 1) (by omega) W
            rw [hk, Int.natCast_add] at h
            exact h
          have c2 := fun W => l01In_any (k : Int) 1 30 W
          have HK : Hid (Unit → dotR (s.data.toList.drop n) = if 1 ≤ k ∧ k ≤ 30 then some ((s.data.toList.drop (n + 1)).take k, s.data.toList.drop (n + 1 + k)) else none) := fun _ => by
            rw [drop_cons s n hlt, dotR, if_pos hc, hk, List.drop_drop]
          clear hk
          by_cases hk30 : 1 ≤ k ∧ k ≤ 30
          · rw [decide_eq_true (by omega : (1 : Int) ≤ k), decide_eq_true (by omega : (k : Int) ≤ 30)] at c2
            obtain ⟨b, hb⟩ : ∃ b, n + 1 + k = b := ⟨_, rfl⟩
            have hb' : (n : Int) + 1 + k = b := by omega
            obtain ⟨m, hm⟩ : ∃ m, n + 1 = m := ⟨_, rfl⟩
            have hm' : (n : Int) + 1 = m := by omega
            obtain ⟨T, hT⟩ : ∃ T, s.extract m b = T := ⟨_, rfl⟩
            have hTs : T.size = k := by rw [← hT, ByteArray.size_extract]; omega
            have HT : Hid (Unit → T = txt ((s.data.toList.drop (n + 1)).take k)) := fun _ => by
              rw [← hT, extract_txt, ← hm, ← hb, sl_drop]
            have hbs : (b : Int) ≤ s.size := by omega
            have hmb : (m : Int) ≤ b := by omega
            obtain ⟨U, hU⟩ : ∃ U, A ++ T = U := ⟨_, rfl⟩
            have hUs : U.size = n + k := by rw [← hU, ByteArray.size_append, hAs, hTs]
            have HU : Hid (Unit → U = txt (s.data.toList.take n ++ (s.data.toList.drop (n + 1)).take k)) := fun _ => by
              rw [← hU, HA.out (), HT.out (), txt_append]
            have hk3 : (k : Int) ≤ 30 := by omega
            have hlenf : ((s.data.toList.drop (n + 1)).take k).length = k := by rw [List.length_take, List.length_drop, size_list]; omega
            have HLF : Hid (Unit → ((s.data.toList.drop (n + 1)).take k).length = k) := fun _ => hlenf
            clear hlenf
            have c1' := c1
            rw [hm'] at c1'
            clear c1
            go_wp2_with fail
            refine (c1' _).mono ?_
            rintro e w' ⟨rfl, rfl⟩
            go_wp2_with fail
            refine (c2 _).mono ?_
            rintro e w' ⟨rfl, rfl⟩
            go_wp2
            go_meet
            case rel =>
              refine ⟨(s.data.toList.drop (n + 1)).take k, b, U, ?_, ?_, ?_, by omega, ?_, by omega, rfl, fun _ => ⟨?_, HU.out ()⟩⟩
              · rw [← hU, ← hT, ← hb, ← hm]
              · rw [HLF.out ()]
              · go_num
              · rw [HLF.out ()]; exact hk3
              · rw [HK.out (), if_pos hk30, hb]
          · have e1 : (decide ((1 : Int) ≤ k) && decide ((k : Int) ≤ 30)) = false := by
              rw [Bool.and_eq_false_iff, decide_eq_false_iff_not, decide_eq_false_iff_not]; omega
            rw [e1] at c2
            obtain ⟨hv, ho⟩ := HNone.out () (by
              unfold readR
              rw [HN.out (), if_pos ⟨by rw [size_list]; omega, h30.1, h30.2⟩, HK.out (), if_neg hk30]
              rfl)
            clear e1
            go_wp2_with fail
            refine (c1 _).mono ?_
            rintro e w' ⟨rfl, rfl⟩
            go_wp2_with fail
            refine (c2 _).mono ?_
            rintro e w' ⟨rfl, rfl⟩
            go_wp2
            go_ret2
            exact ⟨by rw [hv, ho]; rfl, Below.refl _ _⟩
      case rest =>
        clear HD HA hAs hA
        clear A d
        obtain ⟨f, a, B, rfl, rfl, rfl, ha, hf30, hB60, rfl, HF⟩ := hcut
        obtain ⟨fl, hfl⟩ : ∃ fl, f.length = fl := ⟨_, rfl⟩
        have HFL : Hid (Unit → f.length = fl) := fun _ => hfl
        rw [hfl] at hf30
        simp only [hfl]
        clear hfl
        go_upto_region 16 with fail
        go_cut [67] (fun x wx => ∃ d : Bool, x = .bool d ∧ w = wx ∧ Hid (Unit → (d = true → ∃ h : a < s.size, (s[a]).toNat = 101) ∧ (d = false → ¬∃ h : a < s.size, (s[a]).toNat = 101)))
        case first =>
          by_cases hlt : a < s.size
          · have hlt' : (a : Int) < s.size := by omega
            by_cases hc : (s[a]).toNat = 101
            · have hc' : ((s[a]).toNat : Int) = 101 := by omega
              go_wp2
              go_meet
              case rel => exact ⟨true, rfl, rfl, fun _ => ⟨fun _ => ⟨hlt, hc⟩, fun h => by simp at h⟩⟩
            · have hc' : (((s[a]).toNat : Int) == 101) = false := by rw [beq_eq_false_iff_ne]; omega
              go_wp2
              go_meet
              case rel => exact ⟨false, rfl, rfl, fun _ => ⟨fun h => by simp at h, fun _ h => hc h.2⟩⟩
          · have hlt' : decide ((a : Int) < s.size) = false := by simp; omega
            go_wp2
            go_meet
            case rel => exact ⟨false, rfl, rfl, fun _ => ⟨fun h => by simp at h, fun _ h => hlt h.1⟩⟩
        case rest =>
          obtain ⟨d, rfl, rfl, HD⟩ := hcut
          go_upto_if 67 with fail
          go_cut [6, 7] (fun v6 v7 wx => ∃ (e : Int) (b : Nat), v6 = .int .i64 (e - fl) ∧ v7 = .int .i64 b ∧ b ≤ s.size ∧ -1000 < e ∧ e < 1000 ∧ w = wx ∧ Hid (Unit → expR (s.data.toList.drop a) = some (e, s.data.toList.drop b)))
          case first =>
            cases d
            · have HX : Hid (Unit → expR (s.data.toList.drop a) = some (0, s.data.toList.drop a)) := fun _ => by
                have h := (HD.out ()).2 rfl
                by_cases hlt : a < s.size
                · rw [drop_cons s a hlt, expR, if_neg (fun hc => h ⟨hlt, hc⟩)]
                · rw [(by omega : a = s.size), drop_end]; rfl
              go_wp2
              go_meet
              case rel => exact ⟨0, a, by go_num, rfl, by omega, by omega, by omega, rfl, HX⟩
            · obtain ⟨hlt, hc⟩ := (HD.out ()).1 rfl
              obtain ⟨q, hq⟩ : ∃ q, a + 1 = q := ⟨_, rfl⟩
              have hq' : (a : Int) + 1 = q := by omega
              have HXC : Hid (Unit → s.data.toList.drop a = s[a] :: s.data.toList.drop q ∧ (s[a]).toNat = 101) := fun _ => ⟨by rw [← hq]; exact drop_cons s a hlt, hc⟩
              clear hc HD
              go_upto_region 18 with fail
              go_cut [9] (fun x wx => ∃ neg : Bool, x = .bool neg ∧ w = wx ∧ Hid (Unit → neg = (signR (s.data.toList.drop q)).1))
              case first =>
                by_cases hl2 : q < s.size
                · have hl2' : (q : Int) < s.size := by omega
                  by_cases hc : (s[q]).toNat = 45
                  · have hc' : ((s[q]).toNat : Int) = 45 := by omega
                    go_wp2
                    go_meet
                    case rel => exact ⟨true, rfl, rfl, fun _ => by rw [drop_cons s q hl2, signR, if_pos hc]⟩
                  · have hc' : (((s[q]).toNat : Int) == 45) = false := by rw [beq_eq_false_iff_ne]; omega
                    go_wp2
                    go_meet
                    case rel => exact ⟨false, rfl, rfl, fun _ => by rw [drop_cons s q hl2, signR, if_neg hc]; split <;> rfl⟩
                · have hl2' : decide ((q : Int) < s.size) = false := by simp; omega
                  go_wp2
                  go_meet
                  case rel => exact ⟨false, rfl, rfl, fun _ => by rw [(by omega : q = s.size), drop_end]; rfl⟩
              case rest =>
                obtain ⟨neg, rfl, rfl, HG⟩ := hcut
                go_upto_region 19 with fail
                go_cut [95] (fun x wx => ∃ d : Bool, x = .bool d ∧ w = wx ∧ Hid (Unit → (d = true → ∃ h : q < s.size, (s[q]).toNat = 45 ∨ (s[q]).toNat = 43) ∧ (d = false → ¬∃ h : q < s.size, (s[q]).toNat = 45 ∨ (s[q]).toNat = 43)))
                case first =>
                  by_cases hl2 : q < s.size
                  · have hl2' : (q : Int) < s.size := by omega
                    by_cases hc : (s[q]).toNat = 45
                    · have hc' : ((s[q]).toNat : Int) = 45 := by omega
                      go_wp2
                      go_meet
                      case rel => exact ⟨true, rfl, rfl, fun _ => ⟨fun _ => ⟨hl2, .inl hc⟩, fun h => by simp at h⟩⟩
                    · have hc' : (((s[q]).toNat : Int) == 45) = false := by rw [beq_eq_false_iff_ne]; omega
                      by_cases hd : (s[q]).toNat = 43
                      · have hd' : ((s[q]).toNat : Int) = 43 := by omega
                        go_wp2
                        go_meet
                        case rel => exact ⟨true, rfl, rfl, fun _ => ⟨fun _ => ⟨hl2, .inr hd⟩, fun h => by simp at h⟩⟩
                      · have hd' : (((s[q]).toNat : Int) == 43) = false := by rw [beq_eq_false_iff_ne]; omega
                        go_wp2
                        go_meet
                        case rel => exact ⟨false, rfl, rfl, fun _ => ⟨fun h => by simp at h, fun _ h => by rcases h.2 with h' | h'; exact hc h'; exact hd h'⟩⟩
                  · have hl2' : decide ((q : Int) < s.size) = false := by simp; omega
                    go_wp2
                    go_meet
                    case rel => exact ⟨false, rfl, rfl, fun _ => ⟨fun h => by simp at h, fun _ h => hl2 h.1⟩⟩
                case rest =>
                  obtain ⟨d, rfl, rfl, HD⟩ := hcut
                  go_upto_if 95 with fail
                  go_cut [7] (fun v7 wx => ∃ p : Nat, v7 = .int .i64 p ∧ p ≤ s.size ∧ w = wx ∧ Hid (Unit → signR (s.data.toList.drop q) = (neg, s.data.toList.drop p)))
                  case first =>
                    cases d
                    · have HP : Hid (Unit → signR (s.data.toList.drop q) = (neg, s.data.toList.drop q)) := fun _ => by
                        have h := (HD.out ()).2 rfl
                        rw [HG.out ()]
                        by_cases hl2 : q < s.size
                        · rw [drop_cons s q hl2, signR, if_neg (fun hc => h ⟨hl2, .inl hc⟩), if_neg (fun hc => h ⟨hl2, .inr hc⟩)]
                        · rw [(by omega : q = s.size), drop_end]; rfl
                      go_wp2
                      go_meet
                      case rel => exact ⟨q, rfl, by omega, rfl, HP⟩
                    · have HP : Hid (Unit → signR (s.data.toList.drop q) = (neg, s.data.toList.drop (q + 1))) := fun _ => by
                        obtain ⟨hl2, hc⟩ := (HD.out ()).1 rfl
                        rw [HG.out (), drop_cons s q hl2, signR]
                        rcases hc with hc | hc
                        · rw [if_pos hc]
                        · rw [if_neg (by omega), if_pos hc]
                      have hl2 := ((HD.out ()).1 rfl).1
                      go_wp2
                      go_meet
                      case rel => exact ⟨q + 1, by go_num, by omega, rfl, HP⟩
                  case rest =>
                    clear HD HG
                    clear d
                    obtain ⟨p, rfl, hp, rfl, HP⟩ := hcut
                    obtain ⟨k, hk⟩ : ∃ k, runN (s.data.toList.drop p) = k := ⟨_, rfl⟩
                    have hkl := run_le (s.data.toList.drop p)
                    rw [List.length_drop, size_list, hk] at hkl
                    have c1 := cR p hp
                    rw [hk] at c1
                    have c2 := fun W => l01In_any (k : Int) 1 3 W
                    have HK : Hid (Unit → expR (s.data.toList.drop a) = if 1 ≤ k ∧ k ≤ 3 then some (if neg = true then -(digV (sl s p (p + k)) : Int) else (digV (sl s p (p + k)) : Int), s.data.toList.drop (p + k)) else none) := fun _ => by
                      rw [(HXC.out ()).1, expR, if_pos (HXC.out ()).2, HP.out ()]
                      simp only [hk, List.drop_drop, sl_drop]
                    have HFK : Hid (Unit → Figs (sl s p (p + k))) := fun _ => by
                      rw [sl_drop, ← hk]
                      exact run_figs _
                    clear hk HXC HP
                    by_cases hk3 : 1 ≤ k ∧ k ≤ 3
                    · rw [decide_eq_true (by omega : (1 : Int) ≤ k), decide_eq_true (by omega : (k : Int) ≤ 3)] at c2
                      go_wp2_with fail
                      refine (c1 _).mono ?_
                      rintro e w' ⟨rfl, rfl⟩
                      go_wp2_with fail
                      refine (c2 _).mono ?_
                      rintro e w' ⟨rfl, rfl⟩
                      clear c1 c2 cR
                      have hpk : (p : Int) + k ≤ s.size := by omega
                      have hk3' : (k : Int) ≤ 3 := by omega
                      go_upto_region 26 with fail
                      go_loop [11, 12] (fun x y => ∃ i v : Nat, y = .int .i64 i ∧ x = .int .i64 v ∧ (i : Int) ≤ k ∧ (v : Int) < 1000 ∧ Hid (Unit → v = digV (sl s p (p + i)))) (fun _ y => (k - (intOf y)).toNat)
                      case atStart => exact ⟨0, 0, rfl, rfl, by omega, by omega, fun _ => by rw [Nat.add_zero, sl_self]; rfl⟩
                      case round =>
                        obtain ⟨i, v, rfl, rfl, hik, hv3, HI⟩ := hrel
                        by_cases hi : (i : Int) < k
                        · obtain ⟨j, hj⟩ : ∃ j, p + i = j := ⟨_, rfl⟩
                          have hj' : (p : Int) + i = j := by omega
                          have hjs : j < s.size := by omega
                          obtain ⟨c, hc⟩ : ∃ c : Nat, (s[j]).toNat = c := ⟨_, rfl⟩
                          have HS : Hid (Unit → sl s p (p + (i + 1)) = sl s p (p + i) ++ [s[j]]) := fun _ => by
                            rw [← Nat.add_assoc, sl_snoc (by omega) (by omega)]
                            simp only [hj]
                          have hc1 : 48 ≤ c ∧ c ≤ 57 := by
                            rw [← hc]
                            refine HFK.out () _ ?_
                            have hin : s[j] ∈ sl s p (p + (i + 1)) := by rw [HS.out ()]; simp
                            rw [sl_drop] at hin ⊢
                            exact (List.take_subset_take_left _ (by omega)) hin
                          have HV2 : Hid (Unit → 10 * v + (c - 48) = digV (sl s p (p + (i + 1))) ∧ 10 * v + (c - 48) < 1000) := fun _ => by
                            have e1 : 10 * v + (c - 48) = digV (sl s p (p + (i + 1))) := by rw [HS.out (), digV_snoc, hc, ← HI.out ()]
                            refine ⟨e1, ?_⟩
                            rw [e1]
                            have hF : Figs (sl s p (p + (i + 1))) := fun x hx => HFK.out () x (by
                              rw [sl_drop] at hx ⊢
                              exact (List.take_subset_take_left _ (by omega)) hx)
                            have h1 := digV_lt hF
                            rw [sl_length (by omega)] at h1
                            have h2 : 10 ^ (p + (i + 1) - p) ≤ 10 ^ 3 := Nat.pow_le_pow_right (by decide) (by omega)
                            omega
                          have hc2 : ((s[j]).toNat : Int) = c := by omega
                          have q1 : (48 : Int) ≤ c := by omega
                          have q2 : (c : Int) ≤ 57 := by omega
                          clear hc hc1 HS
                          go_wp2
                          go_round
                          case rel => exact ⟨i + 1, 10 * v + (c - 48), by go_num, by go_num, by omega, by have := (HV2.out ()).2; omega, fun _ => (HV2.out ()).1⟩
                          case measure => simp [intOf]; omega
                        · have hie : i = k := by omega
                          subst hie
                          have hi' : decide ((i : Int) < i) = false := by simp
                          cases neg
                          · go_wp2
                            go_meet
                            case rel => exact ⟨v, p + i, by go_num, by go_num, by omega, by omega, by omega, rfl, fun _ => by rw [HK.out (), if_pos hk3, HI.out ()]; rfl⟩
                          · go_wp2
                            go_meet
                            case rel => exact ⟨-(v : Int), p + i, by go_num, by go_num, by omega, by omega, by omega, rfl, fun _ => by rw [HK.out (), if_pos hk3, HI.out ()]; rfl⟩
                    · have e1 : (decide ((1 : Int) ≤ k) && decide ((k : Int) ≤ 3)) = false := by
                        rw [Bool.and_eq_false_iff, decide_eq_false_iff_not, decide_eq_false_iff_not]; omega
                      rw [e1] at c2
                      obtain ⟨hv, ho⟩ := HNone.out () (by
                        unfold readR
                        rw [HN.out (), if_pos ⟨by rw [size_list]; omega, h30.1, h30.2⟩, (HF.out ()).1]
                        show (expR (s.data.toList.drop a)).bind _ = none
                        rw [HK.out (), if_neg hk3]
                        rfl)
                      clear e1
                      go_wp2_with fail
                      refine (c1 _).mono ?_
                      rintro e w' ⟨rfl, rfl⟩
                      go_wp2_with fail
                      refine (c2 _).mono ?_
                      rintro e w' ⟨rfl, rfl⟩
                      go_wp2
                      go_ret2
                      exact ⟨by rw [hv, ho]; rfl, Below.refl _ _⟩
          case rest =>
            clear HD cR
            clear d
            obtain ⟨e, b, rfl, rfl, hb, he1, he2, rfl, HX⟩ := hcut
            have hE := read_end (t := s.data.toList) (n := n) (a := a) (b := b) (f := f) (e := e) (HN.out ()) (by rw [size_list]; omega) h30.1 h30.2 ⟨(HF.out ()).1, HX.out ()⟩ (by rw [size_list]; exact hb)
            rw [(HV.out ()).1, (HV.out ()).2, size_list, HFL.out ()] at hE
            have HBL : Hid (Unit → B.data.toList = s.data.toList.take n ++ f) := fun _ => by rw [(HF.out ()).2, txt_data]
            rw [← HBL.out ()] at hE
            obtain ⟨X, hX⟩ : ∃ X, e - (fl : Int) = X := ⟨_, rfl⟩
            rw [hX] at hE
            simp only [hX]
            have hX1 : -1100 < X := by omega
            have hX2 : X < 1100 := by omega
            have HEE : Hid ((b = s.size → V = tellN B.data.toList X ∧ O = true) ∧ (b ≠ s.size → V = 0 ∧ O = false)) := hE
            clear hE hX HX HF HFL HN HV HNone he1 he2
            by_cases hbe : b = s.size
            · have hbe' : (b : Int) = s.size := by omega
              obtain ⟨hv, ho⟩ := HEE.out.1 hbe
              subst ho
              obtain ⟨G, hG⟩ : ∃ G, txt (trimL B.data.toList) = G := ⟨_, rfl⟩
              have hGl : trimL B.data.toList = G.data.toList := by rw [← hG, txt_data]
              have cT := fun W => l06Trim_any B W (by omega)
              rw [hG] at cT
              have hGs : G.size ≤ 1000 := by
                rw [← size_list, ← hGl]
                have h1 : ∀ l : List UInt8, (trimL l).length ≤ l.length + 1 := by
                  intro l
                  induction l with
                  | nil => simp [trimL]
                  | cons x k ih =>
                    cases k with
                    | nil => simp [trimL]
                    | cons y r =>
                      unfold trimL
                      split
                      · simp at ih ⊢; omega
                      · simp
                have h2 := h1 B.data.toList
                rw [size_list] at h2
                omega
              have cZ := fun W => l07Zero_any G W (by omega)
              unfold tellN at hv
              rw [hGl] at hv
              obtain ⟨z, hz⟩ : ∃ z, zeroB G.data.toList = z := ⟨_, rfl⟩
              rw [hz] at hv cZ
              have cN := fun W => specNearest_any G X W (by omega) (by omega) (by omega)
              clear hG hGl hz HEE hbe
              cases z
              · rw [if_neg (by decide)] at hv
                by_cases g1 : 500 < X
                · rw [if_pos g1] at hv
                  subst hv
                  go_wp2_with fail
                  refine (cT _).mono ?_
                  rintro e w' ⟨rfl, rfl⟩
                  go_wp2_with fail
                  refine (cZ _).mono ?_
                  rintro e w' ⟨rfl, rfl⟩
                  go_wp2
                  go_ret2
                  exact ⟨rfl, Below.refl _ _⟩
                · rw [if_neg g1] at hv
                  have d1 : decide (500 < X) = false := by simp; omega
                  by_cases g2 : X < -500
                  · rw [if_pos g2] at hv
                    subst hv
                    go_wp2_with fail
                    refine (cT _).mono ?_
                    rintro e w' ⟨rfl, rfl⟩
                    go_wp2_with fail
                    refine (cZ _).mono ?_
                    rintro e w' ⟨rfl, rfl⟩
                    go_wp2
                    go_ret2
                    exact ⟨rfl, Below.refl _ _⟩
                  · rw [if_neg g2] at hv
                    have d2 : decide (X < -500) = false := by simp; omega
                    rw [← hv] at cN
                    clear hv
                    go_wp2_with fail
                    refine (cT _).mono ?_
                    rintro e w' ⟨rfl, rfl⟩
                    go_wp2_with fail
                    refine (cZ _).mono ?_
                    rintro e w' ⟨rfl, rfl⟩
                    go_wp2_with fail
                    refine (cN _).mono ?_
                    rintro e w' ⟨rfl, b1⟩
                    go_wp2
                    go_ret2
                    exact ⟨rfl, b1⟩
              · rw [if_pos rfl] at hv
                subst hv
                go_wp2_with fail
                refine (cT _).mono ?_
                rintro e w' ⟨rfl, rfl⟩
                go_wp2_with fail
                refine (cZ _).mono ?_
                rintro e w' ⟨rfl, rfl⟩
                go_wp2
                go_ret2
                exact ⟨rfl, Below.refl _ _⟩
            · obtain ⟨hv, ho⟩ := HEE.out.2 hbe
              subst hv ho
              have hbe' : ((b : Int) == s.size) = false := by rw [beq_eq_false_iff_ne]; omega
              clear HEE
              go_wp2
              go_ret2
              exact ⟨rfl, Below.refl _ _⟩
  · have e1 : (decide ((1 : Int) ≤ n) && decide ((n : Int) ≤ 30)) = false := by
      rw [Bool.and_eq_false_iff, decide_eq_false_iff_not, decide_eq_false_iff_not]; omega
    rw [e1] at cI
    obtain ⟨hv, ho⟩ := HNone.out () (by unfold readR; rw [HN.out (), if_neg (fun h => h30 ⟨h.2.1, h.2.2⟩)])
    subst hv ho
    clear HV HNone e1 h30
    go_enter Tryz.func35, Tryz.ntmps35
    go_wp2_with fail
    refine (cR0 _).mono ?_
    rintro e w' ⟨rfl, rfl⟩
    go_wp2_with fail
    refine (cI _).mono ?_
    rintro e w' ⟨rfl, rfl⟩
    go_wp2
    go_ret2
    exact ⟨rfl, Below.refl _ _⟩

end Go.Proofs.YtcabanghegddhaaGreatDoor

namespace Go.Proofs.YtcabanghegddhaaGreatDoor
open Go.RowKit
set_option linter.unusedVariables false

set_option maxHeartbeats 400000 in
set_option maxRecDepth 100000 in
theorem l08Figure_any (c : UInt8) (w : World) :
    Calls Tryz.prog 33 #[.int .u8 (c.toNat : Int)] w fun e w' => e = .returned (.bool (isFig c)) ∧ w = w' := by
  obtain ⟨R, hR⟩ : ∃ R, isFig c = R := ⟨_, rfl⟩
  rw [hR]
  unfold isFig at hR
  obtain ⟨n, hn⟩ : ∃ n, c.toNat = n := ⟨_, rfl⟩
  rw [hn] at hR ⊢
  clear hn
  by_cases h1 : 48 ≤ n
  · have h1' : (48 : Int) ≤ n := by omega
    by_cases h2 : n ≤ 57
    · have h2' : (n : Int) ≤ 57 := by omega
      rw [decide_eq_true h1, decide_eq_true h2] at hR
      subst hR
      go_enter Tryz.func33, Tryz.ntmps33
      go_wp2
      go_ret
      exact ⟨rfl, rfl⟩
    · have h2' : decide ((n : Int) ≤ 57) = false := by simp; omega
      rw [decide_eq_true h1, decide_eq_false h2] at hR
      subst hR
      go_enter Tryz.func33, Tryz.ntmps33
      go_wp2
      go_ret
      exact ⟨rfl, rfl⟩
  · have h1' : decide ((48 : Int) ≤ n) = false := by simp; omega
    rw [decide_eq_false h1] at hR
    subst hR
    go_enter Tryz.func33, Tryz.ntmps33
    go_wp2
    go_ret
    exact ⟨rfl, rfl⟩

set_option maxHeartbeats 400000 in
set_option maxRecDepth 100000 in
theorem l08Letter_any (c : UInt8) (w : World) :
    Calls Tryz.prog 29 #[.int .u8 (c.toNat : Int)] w fun e w' => e = .returned (.bool (isLet c)) ∧ w = w' := by
  obtain ⟨R, hR⟩ : ∃ R, isLet c = R := ⟨_, rfl⟩
  rw [hR]
  unfold isLet at hR
  obtain ⟨n, hn⟩ : ∃ n, c.toNat = n := ⟨_, rfl⟩
  rw [hn] at hR ⊢
  clear hn
  by_cases h1 : 97 ≤ n
  · have h1' : (97 : Int) ≤ n := by omega
    by_cases h2 : n ≤ 122
    · have h2' : (n : Int) ≤ 122 := by omega
      rw [decide_eq_true h1, decide_eq_true h2] at hR
      subst hR
      go_enter Tryz.func29, Tryz.ntmps29
      go_wp2
      go_ret
      exact ⟨rfl, rfl⟩
    · have h2' : decide ((n : Int) ≤ 122) = false := by simp; omega
      have h3' : (65 : Int) ≤ n := by omega
      have h4' : decide ((n : Int) ≤ 90) = false := by simp; omega
      have h5' : ((n : Int) == 95) = false := by rw [beq_eq_false_iff_ne]; omega
      rw [decide_eq_false h2, decide_eq_false (by omega : ¬n ≤ 90), decide_eq_false (by omega : ¬n = 95), Bool.and_false, Bool.and_false] at hR
      subst hR
      go_enter Tryz.func29, Tryz.ntmps29
      go_wp2
      go_ret
      exact ⟨rfl, rfl⟩
  · have h1' : decide ((97 : Int) ≤ n) = false := by simp; omega
    rw [decide_eq_false h1, Bool.false_and, Bool.false_or] at hR
    by_cases h3 : 65 ≤ n
    · have h3' : (65 : Int) ≤ n := by omega
      by_cases h4 : n ≤ 90
      · have h4' : (n : Int) ≤ 90 := by omega
        rw [decide_eq_true h3, decide_eq_true h4] at hR
        subst hR
        go_enter Tryz.func29, Tryz.ntmps29
        go_wp2
        go_ret
        exact ⟨rfl, rfl⟩
      · have h4' : decide ((n : Int) ≤ 90) = false := by simp; omega
        rw [decide_eq_false h4, Bool.and_false, Bool.false_or] at hR
        by_cases h5 : n = 95
        · rw [decide_eq_true h5] at hR
          subst hR
          have h5' : (n : Int) = 95 := by omega
          go_enter Tryz.func29, Tryz.ntmps29
          go_wp2
          go_ret
          exact ⟨rfl, rfl⟩
        · rw [decide_eq_false h5] at hR
          subst hR
          have h5' : ((n : Int) == 95) = false := by rw [beq_eq_false_iff_ne]; omega
          go_enter Tryz.func29, Tryz.ntmps29
          go_wp2
          go_ret
          exact ⟨rfl, rfl⟩
    · have h3' : decide ((65 : Int) ≤ n) = false := by simp; omega
      have h5' : ((n : Int) == 95) = false := by rw [beq_eq_false_iff_ne]; omega
      rw [decide_eq_false h3, decide_eq_false (by omega : ¬n = 95)] at hR
      subst hR
      go_enter Tryz.func29, Tryz.ntmps29
      go_wp2
      go_ret
      exact ⟨rfl, rfl⟩

theorem name_here {s : ByteArray} {a k : Nat} (h : a + k ≤ s.size) (h0 : ∀ i, ∀ h : i < k, (isLet (s[a + i]'(by omega)) || (decide (0 < i) && isFig (s[a + i]'(by omega)))) = true)
    (h2 : a + k = s.size ∨ ∃ h : a + k < s.size, (isLet s[a + k] || (decide (0 < k) && isFig s[a + k])) = false) : nameN (s.data.toList.drop a) = k := by
  have hl : (s.data.toList.drop a).length = s.size - a := by rw [List.length_drop, size_list]
  have at_ : ∀ i, ∀ hi : i < (s.data.toList.drop a).length, (s.data.toList.drop a)[i] = s[a + i]'(by omega) := fun i hi => by
    have e := drop_at s a i (by omega)
    rw [List.getElem?_eq_getElem hi] at e
    exact Option.some.inj e
  refine name_is (by omega) (fun hk => ?_) (fun i hi hk => ?_) ?_
  · have := h0 0 hk
    rw [at_ 0 (by omega)]
    simpa using this
  · have := h0 i hk
    rw [at_ i (by omega)]
    rw [decide_eq_true hi, Bool.true_and] at this
    exact this
  · rcases h2 with h2 | ⟨h2, h3⟩
    · left; omega
    · right
      refine ⟨by omega, ?_⟩
      rw [at_ k (by omega)]
      exact h3

set_option maxHeartbeats 1000000 in
set_option maxRecDepth 100000 in
theorem l08Name_any (s : ByteArray) (a : Nat) (w : World) (ha : a ≤ s.size) (hs : s.size ≤ 1048576) :
    Calls Tryz.prog 30 #[.string s, .int .i64 a] w fun e w' => e = .returned (.int .i64 (nameN (s.data.toList.drop a) : Nat)) ∧ w = w' := by
  obtain ⟨R, hR⟩ : ∃ R, nameN (s.data.toList.drop a) = R := ⟨_, rfl⟩
  have HR : Hid (Unit → nameN (s.data.toList.drop a) = R) := fun _ => hR
  rw [hR]
  clear hR
  go_enter Tryz.func30, Tryz.ntmps30
  go_upto_region 2 with fail
  go_loop [5] (fun x => ∃ k : Nat, x = .int .i64 k ∧ (a : Int) + k ≤ s.size ∧ Hid (Unit → ∀ i, ∀ h : i < k, ∀ hh : a + i < s.size, (isLet (s[a + i]) || (decide (0 < i) && isFig (s[a + i]))) = true)) (fun x => s.size - (intOf x).toNat)
  case atStart => exact ⟨0, rfl, by omega, fun _ i h => by omega⟩
  case round =>
    obtain ⟨k, rfl, hk, HK⟩ := hrel
    obtain ⟨K, hK⟩ : ∃ K, a + k = K := ⟨_, rfl⟩
    have hK' : (a : Int) + k = K := by omega
    have HE : Hid (Unit → (K = s.size ∨ ∃ h : K < s.size, (isLet s[K] || (decide (0 < k) && isFig s[K])) = false) → R = k) := fun _ h => by
      rw [← HR.out ()]
      refine name_here (by omega) (fun i hi => HK.out () i hi (by omega)) ?_
      rcases h with h | ⟨h, h'⟩
      · left; omega
      · right
        refine ⟨by omega, ?_⟩
        simp only [hK]
        exact h'
    have HN : Hid (Unit → (∃ h : K < s.size, (isLet s[K] || (decide (0 < k) && isFig s[K])) = true) → ∀ i, ∀ h : i < k + 1, ∀ hh : a + i < s.size, (isLet (s[a + i]) || (decide (0 < i) && isFig (s[a + i]))) = true) := fun _ h i hi hh => by
      rcases (by omega : i < k ∨ i = k) with h' | h'
      · exact HK.out () i h' hh
      · subst h'
        obtain ⟨_, h2⟩ := h
        simp only [hK]
        exact h2
    by_cases hlt : K < s.size
    · have hlt' : (K : Int) < s.size := by omega
      have cL := fun W => l08Letter_any s[K] W
      have cF := fun W => l08Figure_any s[K] W
      obtain ⟨x, hx⟩ : ∃ x, isLet s[K] = x := ⟨_, rfl⟩
      obtain ⟨y, hy⟩ : ∃ y, isFig s[K] = y := ⟨_, rfl⟩
      rw [hx] at cL
      rw [hy] at cF
      have HXY : Hid (Unit → isLet s[K] = x ∧ isFig s[K] = y) := fun _ => ⟨hx, hy⟩
      clear hx hy HK
      cases x
      · by_cases hk0 : 0 < k
        · have hk0' : (0 : Int) < k := by omega
          cases y
          · have HQ : Hid (Unit → R = k) := fun _ => HE.out () (.inr ⟨hlt, by rw [(HXY.out ()).1, (HXY.out ()).2]; simp⟩)
            go_wp2_with fail
            refine (cL _).mono ?_
            rintro e w' ⟨rfl, rfl⟩
            go_wp2_with fail
            refine (cF _).mono ?_
            rintro e w' ⟨rfl, rfl⟩
            go_wp2
            go_ret
            exact ⟨by rw [HQ.out ()]; rfl, rfl⟩
          · have HQ : Hid (Unit → ∀ i, ∀ h : i < k + 1, ∀ hh : a + i < s.size, (isLet (s[a + i]) || (decide (0 < i) && isFig (s[a + i]))) = true) := fun _ => HN.out () ⟨hlt, by rw [(HXY.out ()).1, (HXY.out ()).2, decide_eq_true hk0]; rfl⟩
            go_wp2_with fail
            refine (cL _).mono ?_
            rintro e w' ⟨rfl, rfl⟩
            go_wp2_with fail
            refine (cF _).mono ?_
            rintro e w' ⟨rfl, rfl⟩
            go_wp2
            go_round
            case rel => exact ⟨k + 1, by go_num, by omega, HQ⟩
            case measure => simp [intOf]; omega
        · have hk0' : k = 0 := by omega
          have HQ : Hid (Unit → R = k) := fun _ => HE.out () (.inr ⟨hlt, by rw [(HXY.out ()).1, decide_eq_false hk0]; rfl⟩)
          subst hk0'
          obtain rfl : K = a := by omega
          clear hK hK' HXY HE HN
          go_wp2_with fail
          refine (cL _).mono ?_
          rintro e w' ⟨rfl, rfl⟩
          go_wp2
          go_ret
          exact ⟨by rw [HQ.out ()]; rfl, rfl⟩
      · have HQ : Hid (Unit → ∀ i, ∀ h : i < k + 1, ∀ hh : a + i < s.size, (isLet (s[a + i]) || (decide (0 < i) && isFig (s[a + i]))) = true) := fun _ => HN.out () ⟨hlt, by rw [(HXY.out ()).1]; rfl⟩
        go_wp2_with fail
        refine (cL _).mono ?_
        rintro e w' ⟨rfl, rfl⟩
        go_wp2
        go_round
        case rel => exact ⟨k + 1, by go_num, by omega, HQ⟩
        case measure => simp [intOf]; omega
    · have hlt' : decide ((K : Int) < s.size) = false := by simp; omega
      have HQ : Hid (Unit → R = k) := fun _ => HE.out () (.inl (by omega))
      go_wp2
      go_ret
      exact ⟨by rw [HQ.out ()]; rfl, rfl⟩

/-- a text's length with its quotes, or -1 -/
def textZ (l : List UInt8) : Int := match quoteN l with
  | none => -1
  | some i => (i : Int) + 2
theorem quote_more {s : ByteArray} {a i : Nat} (h : a + i < s.size) (h0 : (s[a + i]).toNat ≠ 34) (h1 : 32 ≤ (s[a + i]).toNat) (h2 : (s[a + i]).toNat ≤ 126) : quoteN (s.data.toList.drop (a + i)) = (quoteN (s.data.toList.drop (a + (i + 1)))).map (· + 1) := by
  rw [drop_cons s (a + i) h]
  show (if (s[a + i]).toNat = 34 then some 0 else if (s[a + i]).toNat < 32 ∨ 126 < (s[a + i]).toNat then none else (quoteN (s.data.toList.drop (a + i + 1))).map (· + 1)) = _
  rw [if_neg h0, if_neg (by omega)]
  rfl
theorem quote_end {s : ByteArray} {a : Nat} (h : a < s.size) : ((s[a]).toNat = 34 → quoteN (s.data.toList.drop a) = some 0) ∧ ((s[a]).toNat ≠ 34 → ((s[a]).toNat < 32 ∨ 126 < (s[a]).toNat) → quoteN (s.data.toList.drop a) = none) := by
  rw [drop_cons s a h]
  show (_ → (if (s[a]).toNat = 34 then some 0 else if (s[a]).toNat < 32 ∨ 126 < (s[a]).toNat then none else (quoteN (s.data.toList.drop (a + 1))).map (· + 1)) = some 0) ∧ (_ → _ → (if (s[a]).toNat = 34 then some 0 else if (s[a]).toNat < 32 ∨ 126 < (s[a]).toNat then none else (quoteN (s.data.toList.drop (a + 1))).map (· + 1)) = none)
  exact ⟨fun h => by rw [if_pos h], fun h h' => by rw [if_neg h, if_pos h']⟩

set_option maxHeartbeats 1000000 in
set_option maxRecDepth 100000 in
theorem l08Text_any (s : ByteArray) (a : Nat) (w : World) (ha : a < s.size) (hs : s.size ≤ 1048576) :
    Calls Tryz.prog 36 #[.string s, .int .i64 a] w fun e w' => e = .returned (.int .i64 (textZ (s.data.toList.drop (a + 1)))) ∧ w = w' := by
  obtain ⟨R, hR⟩ : ∃ R, textZ (s.data.toList.drop (a + 1)) = R := ⟨_, rfl⟩
  have HR : Hid (Unit → textZ (s.data.toList.drop (a + 1)) = R) := fun _ => hR
  rw [hR]
  clear hR
  obtain ⟨b, hb⟩ : ∃ b, a + 1 = b := ⟨_, rfl⟩
  have hb' : (a : Int) + 1 = b := by omega
  go_enter Tryz.func36, Tryz.ntmps36
  go_upto_region 2 with fail
  go_loop [5] (fun x => ∃ k : Nat, x = .int .i64 k ∧ (b : Int) ≤ k ∧ (k : Int) ≤ s.size ∧ Hid (Unit → quoteN (s.data.toList.drop b) = (quoteN (s.data.toList.drop k)).map (· + (k - b)))) (fun x => s.size - (intOf x).toNat)
  case atStart => exact ⟨b, by go_num, by omega, by omega, fun _ => by simp⟩
  case round =>
    obtain ⟨k, rfl, hk1, hk2, HK⟩ := hrel
    by_cases hlt : k < s.size
    · have hlt' : (k : Int) < s.size := by omega
      by_cases hq : (s[k]).toNat = 34
      · have hq' : ((s[k]).toNat : Int) = 34 := by omega
        have HE : Hid (Unit → (k : Int) + 1 - a = R) := fun _ => by
          rw [← HR.out (), hb]
          unfold textZ
          rw [HK.out (), (quote_end hlt).1 hq]
          show (k : Int) + 1 - a = ((0 + (k - b) : Nat) : Int) + 2
          omega
        go_wp2
        go_ret
        exact ⟨by rw [← HE.out ()]; rfl, rfl⟩
      · have hq' : (((s[k]).toNat : Int) == 34) = false := by rw [beq_eq_false_iff_ne]; omega
        by_cases h1 : (s[k]).toNat < 32
        · have h1' : ((s[k]).toNat : Int) < 32 := by omega
          have HE : Hid (Unit → R = -1) := fun _ => by
            rw [← HR.out (), hb]
            unfold textZ
            rw [HK.out (), (quote_end hlt).2 hq (.inl h1)]
            rfl
          go_wp2
          go_ret
          exact ⟨by rw [HE.out ()]; rfl, rfl⟩
        · have h1' : decide (((s[k]).toNat : Int) < 32) = false := by simp; omega
          by_cases h2 : 126 < (s[k]).toNat
          · have h2' : (126 : Int) < ((s[k]).toNat : Int) := by omega
            have HE : Hid (Unit → R = -1) := fun _ => by
              rw [← HR.out (), hb]
              unfold textZ
              rw [HK.out (), (quote_end hlt).2 hq (.inr h2)]
              rfl
            go_wp2
            go_ret
            exact ⟨by rw [HE.out ()]; rfl, rfl⟩
          · have h2' : decide ((126 : Int) < ((s[k]).toNat : Int)) = false := by simp; omega
            have HQ : Hid (Unit → quoteN (s.data.toList.drop b) = (quoteN (s.data.toList.drop (k + 1))).map (· + (k + 1 - b))) := fun _ => by
              have h := quote_more (a := k) (i := 0) hlt hq (by simpa using Nat.le_of_not_lt h1) (by simpa using Nat.le_of_not_lt h2)
              rw [Nat.add_zero] at h
              rw [HK.out (), h, Option.map_map]
              congr 1
              funext i
              show i + 1 + (k - b) = i + (k + 1 - b)
              omega
            go_wp2
            go_round
            case rel => exact ⟨k + 1, by go_num, by omega, by omega, HQ⟩
            case measure => simp [intOf]; omega
    · have hlt' : decide ((k : Int) < s.size) = false := by simp; omega
      have HE : Hid (Unit → R = -1) := fun _ => by
        rw [← HR.out (), hb]
        unfold textZ
        rw [HK.out (), (by omega : k = s.size), drop_end]
        rfl
      go_wp2
      go_ret
      exact ⟨by rw [HE.out ()]; rfl, rfl⟩

end Go.Proofs.YtcabanghegddhaaGreatDoor

namespace Go.Proofs.YtcabanghegddhaaGreatDoor
open Go.RowKit
set_option linter.unusedVariables false

set_option maxHeartbeats 1000000 in
set_option maxRecDepth 100000 in
theorem l08In_any (g cap : Nat) (xs : List (List UInt8)) (x : ByteArray) (w : World) (hn : xs.length ≤ 1048576) (hc : ∀ j, ∀ h : j < xs.length, w.cell? ⟨g, j, none⟩ = some (.string (txt xs[j]))) :
    Calls Tryz.prog 31 #[.slice (some ⟨g, 0, none⟩) xs.length cap, .string x] w fun e w' => e = .returned (.bool (decide (x.data.toList ∈ xs))) ∧ w = w' := by
  obtain ⟨R, hR⟩ : ∃ R, decide (x.data.toList ∈ xs) = R := ⟨_, rfl⟩
  have HR : Hid (Unit → decide (x.data.toList ∈ xs) = R) := fun _ => hR
  have HC : Hid (∀ j, ∀ h : j < xs.length, w.cell? ⟨g, j, none⟩ = some (.string (txt xs[j]))) := hc
  rw [hR]
  obtain ⟨n, hnn⟩ : ∃ n, xs.length = n := ⟨_, rfl⟩
  have HNN : Hid (xs.length = n) := hnn
  rw [hnn] at hn ⊢
  clear hR hc hnn
  go_enter Tryz.func31, Tryz.ntmps31
  go_upto_region 2 with fail
  go_loop [5] (fun y => ∃ i : Nat, y = .int .i64 i ∧ (i : Int) ≤ n ∧ Hid (Unit → x.data.toList ∉ xs.take i)) (fun y => n - (intOf y).toNat)
  case atStart => exact ⟨0, rfl, by omega, fun _ h => by simp at h⟩
  case round =>
    obtain ⟨i, rfl, hi, HI⟩ := hrel
    by_cases hlt : i < n
    · have hlt' : (i : Int) < n := by omega
      obtain ⟨z, hz⟩ : ∃ y, xs[i]'(by rw [HNN.out]; exact hlt) = y := ⟨_, rfl⟩
      have hcell := HC.out i (by rw [HNN.out]; exact hlt)
      rw [hz] at hcell
      obtain ⟨y, hy⟩ : ∃ y, txt z = y := ⟨_, rfl⟩
      rw [hy] at hcell
      have hyz : y.data.toList = z := by rw [← hy, txt_data]
      have HY : Hid (Unit → xs.take (i + 1) = xs.take i ++ [y.data.toList]) := fun _ => by
        rw [List.take_succ_eq_append_getElem (by rw [HNN.out]; exact hlt), hz, hyz]
      have HM : Hid (Unit → y.data.toList ∈ xs) := fun _ => by rw [hyz, ← hz]; exact List.getElem_mem _
      clear hy hz hyz
      by_cases he : y = x
      · subst he
        have HE : Hid (Unit → R = true) := fun _ => by rw [← HR.out ()]; exact decide_eq_true (HM.out ())
        go_wp2
        go_ret
        exact ⟨by rw [HE.out ()]; rfl, rfl⟩
      · have he' : (y.toList == x.toList) = false := by
          rw [beq_eq_false_iff_ne, ByteArray.toList_eq, ByteArray.toList_eq]
          intro h
          exact he (by rw [← txt_self y, ← txt_self x, h])
        have HN : Hid (Unit → x.data.toList ∉ xs.take (i + 1)) := fun _ h => by
          rw [HY.out (), List.mem_append, List.mem_singleton] at h
          rcases h with h | h
          · exact HI.out () h
          · exact he (by rw [← txt_self y, ← txt_self x, h])
        go_wp2
        go_round
        case rel => exact ⟨i + 1, by go_num, by omega, HN⟩
        case measure => simp [intOf]; omega
    · have hlt' : decide ((i : Int) < n) = false := by simp; omega
      have HE : Hid (Unit → R = false) := fun _ => by
        rw [← HR.out ()]
        refine decide_eq_false (fun h => HI.out () ?_)
        rw [List.take_of_length_le (by rw [HNN.out]; omega)]
        exact h
      go_wp2
      go_ret
      exact ⟨by rw [HE.out ()]; rfl, rfl⟩

/-- marks of two signs, and of one -/
def twoMarks : List (List UInt8) := [[61, 61], [33, 61], [60, 61], [62, 61], [38, 38], [124, 124]]
def oneMarks : List UInt8 := [43, 45, 42, 47, 37, 60, 62, 61, 33, 40, 41, 123, 125, 44, 59]
def markZ (l : List UInt8) : Int := if 2 ≤ l.length ∧ l.take 2 ∈ twoMarks then 2 else if l.getD 0 0 ∈ oneMarks then 1 else -1

theorem mark_two {s : ByteArray} {a : Nat} (h : a + 2 ≤ s.size) : (s.data.toList.drop a).take 2 = sl s a (a + 2) ∧ 2 ≤ (s.data.toList.drop a).length := by
  refine ⟨(sl_drop s a 2).symm, ?_⟩
  rw [List.length_drop, size_list]; omega
theorem mark_head {s : ByteArray} {a : Nat} (h : a < s.size) : (s.data.toList.drop a).getD 0 0 = s[a] := by
  rw [drop_cons s a h]
  rfl
theorem one_txt8 : (⟨#[43, 45, 42, 47, 37, 60, 62, 61, 33, 40, 41, 123, 125, 44, 59]⟩ : ByteArray) = txt oneMarks := rfl

set_option maxHeartbeats 2000000 in
set_option maxRecDepth 100000 in
theorem l08Mark_any (s : ByteArray) (a : Nat) (w : World) (ha : a < s.size) (hs : s.size ≤ 1048576) :
    Calls Tryz.prog 37 #[.string s, .int .i64 a] w fun e w' => e = .returned (.int .i64 (markZ (s.data.toList.drop a))) ∧ Below w.heap.size w w' := by
  obtain ⟨R, hR⟩ : ∃ R, markZ (s.data.toList.drop a) = R := ⟨_, rfl⟩
  have HR : Hid (Unit → markZ (s.data.toList.drop a) = R) := fun _ => hR
  rw [hR]
  clear hR
  obtain ⟨w1, hw1⟩ : ∃ w1, w.alloc (.cells #[.string ⟨#[61, 61]⟩, .string ⟨#[33, 61]⟩, .string ⟨#[60, 61]⟩, .string ⟨#[62, 61]⟩, .string ⟨#[38, 38]⟩, .string ⟨#[124, 124]⟩] 9) = w1 := ⟨_, rfl⟩
  have b1 : Below w.heap.size w w1 := by rw [← hw1]; exact (Below.refl _ _).alloc (Nat.le_refl _) _
  have hblk := heap_alloc_new w (.cells #[.string ⟨#[61, 61]⟩, .string ⟨#[33, 61]⟩, .string ⟨#[60, 61]⟩, .string ⟨#[62, 61]⟩, .string ⟨#[38, 38]⟩, .string ⟨#[124, 124]⟩] 9)
  rw [hw1] at hblk
  have cI := fun x => l08In_any w.heap.size 6 twoMarks x w1 (by decide) (fun j hj => by
    rw [cell_of_row _ _ _ _ _ _ hblk]
    match j, hj with
    | 0, _ => rfl
    | 1, _ => rfl
    | 2, _ => rfl
    | 3, _ => rfl
    | 4, _ => rfl
    | 5, _ => rfl)
  have h6 : twoMarks.length = 6 := rfl
  rw [h6] at cI
  clear hblk h6
  have HH : Hid (Unit → (s.data.toList.drop a).getD 0 0 = s[a]) := fun _ => mark_head ha
  have hai : (a : Int) < s.size := by omega
  go_enter Tryz.func37, Tryz.ntmps37
  go_upto_region 2 with fail
  try simp only [hw1]
  clear hw1
  go_cut [22] (fun x wx => ∃ d : Bool, x = .bool d ∧ wx = w1 ∧ Hid (Unit → d = decide (2 ≤ (s.data.toList.drop a).length ∧ (s.data.toList.drop a).take 2 ∈ twoMarks)))
  case first =>
    by_cases h2 : a + 2 ≤ s.size
    · have h2' : (a : Int) + 2 ≤ s.size := by omega
      obtain ⟨b, hb⟩ : ∃ b, a + 2 = b := ⟨_, rfl⟩
      have hb' : (a : Int) + 2 = b := by omega
      have hbs : (b : Int) ≤ s.size := by omega
      have hab : (a : Int) ≤ b := by omega
      obtain ⟨T, hT⟩ : ∃ T, s.extract a b = T := ⟨_, rfl⟩
      have c1 := cI T
      obtain ⟨y, hy⟩ : ∃ y, decide (T.data.toList ∈ twoMarks) = y := ⟨_, rfl⟩
      rw [hy] at c1
      have HY : Hid (Unit → y = decide (2 ≤ (s.data.toList.drop a).length ∧ (s.data.toList.drop a).take 2 ∈ twoMarks)) := fun _ => by
        rw [← hy, ← hT, extract_txt, txt_data, ← hb, (mark_two h2).1]
        by_cases hm : sl s a (a + 2) ∈ twoMarks
        · rw [decide_eq_true hm, decide_eq_true ⟨(mark_two h2).2, hm⟩]
        · rw [decide_eq_false hm, decide_eq_false (fun h => hm h.2)]
      clear hy
      go_wp2_with fail
      refine c1.mono ?_
      rintro e w' ⟨rfl, rfl⟩
      go_wp2
      go_meet
      case rel => exact ⟨y, rfl, rfl, HY⟩
    · have h2' : decide ((a : Int) + 2 ≤ s.size) = false := by simp; omega
      go_wp2
      go_meet
      case rel => exact ⟨false, rfl, rfl, fun _ => (decide_eq_false (fun h => by rw [List.length_drop, size_list] at h; omega)).symm⟩
  case rest =>
    obtain ⟨d, rfl, rfl, HD⟩ := hcut
    clear cI
    cases d
    · have HR2 : Hid (Unit → R = if s[a] ∈ oneMarks then 1 else -1) := fun _ => by
        have h := HD.out ()
        rw [← HR.out ()]
        unfold markZ
        rw [if_neg (of_decide_eq_false h.symm), HH.out ()]
      obtain ⟨c, hc⟩ : ∃ c, s[a] = c := ⟨_, rfl⟩
      have HC : Hid (Unit → s[a] = c) := fun _ => hc
      obtain ⟨m, hm⟩ : ∃ m, c.toNat = m := ⟨_, rfl⟩
      have hm' : ((s[a]).toNat : Int) = m := by rw [hc, hm]
      have HM : Hid (Unit → c.toNat = m) := fun _ => hm
      obtain ⟨O, hO⟩ : ∃ O, (⟨#[43, 45, 42, 47, 37, 60, 62, 61, 33, 40, 41, 123, 125, 44, 59]⟩ : ByteArray) = O := ⟨_, rfl⟩
      have hOs : O.size = 15 := by rw [← hO]; rfl
      have HO : Hid (Unit → O.data.toList = oneMarks) := fun _ => by rw [← hO]; rfl
      go_upto_region 6 with fail
      try simp only [hO]
      clear hO hc hm
      go_loopw [7] (fun y wr => ∃ i : Nat, y = .int .i64 i ∧ (i : Int) ≤ 15 ∧ Below w.heap.size w wr ∧ Hid (Unit → c ∉ oneMarks.take i)) (fun y _ => 15 - (intOf y).toNat)
      case atStart => exact ⟨0, rfl, by omega, b1, fun _ h => by simp at h⟩
      case round =>
        obtain ⟨i, rfl, hi, bb, HI⟩ := hrel
        by_cases hlt : i < 15
        · have hlt' : (i : Int) < 15 := by omega
          have hiO : i < O.size := by omega
          have hiO' : (i : Int) < O.size := by omega
          obtain ⟨z, hz⟩ : ∃ z, O[i] = z := ⟨_, rfl⟩
          obtain ⟨q, hq⟩ : ∃ q, z.toNat = q := ⟨_, rfl⟩
          have hq' : ((O[i]).toNat : Int) = q := by rw [hz, hq]
          have HZ : Hid (Unit → oneMarks.take (i + 1) = oneMarks.take i ++ [z] ∧ z ∈ oneMarks ∧ z.toNat = q) := fun _ => by
            have h := take_snoc O i hiO
            rw [HO.out (), hz] at h
            refine ⟨h, ?_, hq⟩
            rw [← HO.out (), ← hz]
            have e : O[i] = O.data.toList[i]'(by rw [size_list]; exact hiO) := rfl
            rw [e]
            exact List.getElem_mem _
          clear hz hq
          by_cases he : q = m
          · subst he
            have HE : Hid (Unit → R = 1) := fun _ => by
              have h1 : z = c := UInt8.toNat_inj.1 (by rw [(HZ.out ()).2.2, HM.out ()])
              rw [HR2.out (), HC.out (), ← h1, if_pos (HZ.out ()).2.1]
            go_wp2_with fail
            go_quiet (fail)
            go_wp2
            go_ret
            exact ⟨by rw [HE.out ()]; rfl, below_drewN bb _⟩
          · have he' : ((q : Int) == m) = false := by rw [beq_eq_false_iff_ne]; omega
            have HN : Hid (Unit → c ∉ oneMarks.take (i + 1)) := fun _ h => by
              rw [(HZ.out ()).1, List.mem_append, List.mem_singleton] at h
              rcases h with h | h
              · exact HI.out () h
              · exact he (by rw [← (HZ.out ()).2.2, ← HM.out (), h])
            go_wp2_with fail
            go_quiet (fail)
            go_wp2
            go_roundw
            case rel => exact ⟨i + 1, by go_num, by omega, below_drewN bb _, HN⟩
            case measure => simp [intOf]; omega
        · have hie : i = 15 := by omega
          subst hie
          have HE : Hid (Unit → R = -1) := fun _ => by
            have hn : c ∉ oneMarks := fun h => HI.out () h
            rw [HR2.out (), HC.out (), if_neg hn]
          go_wp2
          go_ret
          exact ⟨by rw [HE.out ()]; rfl, bb⟩
    · have HE : Hid (Unit → R = 2) := fun _ => by
        have h := HD.out ()
        rw [← HR.out ()]
        unfold markZ
        rw [if_pos (of_decide_eq_true h.symm)]
      go_wp2
      go_ret
      exact ⟨by rw [HE.out ()]; rfl, b1⟩

end Go.Proofs.YtcabanghegddhaaGreatDoor
