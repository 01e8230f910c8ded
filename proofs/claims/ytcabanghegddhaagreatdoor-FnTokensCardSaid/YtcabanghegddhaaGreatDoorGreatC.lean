/-
  Several texts in one: LimbTxt, LimbTxt2, LimbPow, Greats, GreatLs, GreatSb.
-/
import Derived.Test.YtcabanghegddhaaGreatDoorGreatA
import Derived.Test.YtcabanghegddhaaGreatDoorFigA
namespace Go.Proofs.YtcabanghegddhaaGreatDoor
open Go.RowKit
set_option linter.unusedVariables false

/-- figures as a text -/
def txt (l : List UInt8) : ByteArray := ⟨l.toArray⟩
theorem txt_data (l : List UInt8) : (txt l).data.toList = l := rfl
theorem txt_self (s : ByteArray) : txt s.data.toList = s := by
  apply ByteArray.ext
  simp [txt]
theorem txt_size (l : List UInt8) : (txt l).size = l.length := by rw [← size_list, txt_data]
theorem extract_tail (s : ByteArray) (k : Nat) : s.extract k s.size = txt (s.data.toList.drop k) := by
  rw [Lib.extract_eq, List.take_of_length_le (by rw [List.length_drop, size_list]; omega)]
  rfl

theorem trim_go {s : ByteArray} {k : Nat} (h : k + 1 < s.size) (hc : (s[k]'(by omega)).toNat = 48) : trimL (s.data.toList.drop k) = trimL (s.data.toList.drop (k + 1)) := by
  have h1 : s.data.toList.drop k = s[k] :: s.data.toList.drop (k + 1) := List.drop_eq_getElem_cons (by rw [size_list]; omega)
  have h2 : s.data.toList.drop (k + 1) = s[k + 1] :: s.data.toList.drop (k + 2) := List.drop_eq_getElem_cons (by rw [size_list]; omega)
  rw [h1, h2]
  simp [trimL, hc]
theorem trim_end {s : ByteArray} {k : Nat} (h : k < s.size) (hc : s.size ≤ k + 1 ∨ (s[k]).toNat ≠ 48) : trimL (s.data.toList.drop k) = s.data.toList.drop k := by
  have h1 : s.data.toList.drop k = s[k] :: s.data.toList.drop (k + 1) := List.drop_eq_getElem_cons (by rw [size_list]; omega)
  rw [h1]
  by_cases h2 : s.size ≤ k + 1
  · rw [List.drop_eq_nil_of_le (by rw [size_list]; omega)]
    rfl
  · have h3 : (s[k]).toNat ≠ 48 := by rcases hc with h' | h'; exact absurd h' h2; exact h'
    have h4 : s.data.toList.drop (k + 1) = s[k + 1] :: s.data.toList.drop (k + 2) := List.drop_eq_getElem_cons (by rw [size_list]; omega)
    rw [h4]
    simp [trimL, h3]

set_option maxHeartbeats 1000000 in
set_option maxRecDepth 100000 in
theorem l06Trim_any (s : ByteArray) (w : World) (hs : s.size ≤ 10000000) :
    Calls Tryz.prog 54 #[.string s] w fun e w' => e = .returned (.string (txt (trimL s.data.toList))) ∧ w = w' := by
  obtain ⟨R, hR⟩ : ∃ R, txt (trimL s.data.toList) = R := ⟨_, rfl⟩
  have HR : Hid (txt (trimL s.data.toList) = R) := hR
  rw [hR]
  clear hR
  go_enter Tryz.func54, Tryz.ntmps54
  go_upto_region 2 with fail
  go_loop [3] (fun x => ∃ k : Nat, x = .int .i64 k ∧ k ≤ s.size ∧ (k < s.size ∨ s.size = 0) ∧ Hid (trimL (s.data.toList.drop k) = trimL s.data.toList)) (fun x => s.size - (intOf x).toNat)
  case atStart => exact ⟨0, rfl, by omega, by omega, by rw [List.drop_zero]; exact rfl⟩
  case round =>
    obtain ⟨k, rfl, hk, hk2, HK⟩ := hrel
    by_cases h1 : (k : Int) + 1 < s.size
    · have hks : k < s.size := by omega
      by_cases h2 : (s[k]).toNat = 48
      · have h2' : ((s[k]).toNat : Int) = 48 := by omega
        have HN : Hid (trimL (s.data.toList.drop (k + 1)) = trimL s.data.toList) := by
          show _ = _
          rw [← trim_go (by omega) h2]; exact HK.out
        go_wp2
        go_round
        case rel => exact ⟨k + 1, by go_num, by omega, by omega, HN⟩
        case measure => simp [intOf]; omega
      · have h2' : (((s[k]).toNat : Int) == 48) = false := by rw [beq_eq_false_iff_ne]; omega
        have HE : Hid (s.extract k s.size = R) := by
          show _ = _
          rw [extract_tail, ← trim_end hks (.inr h2), HK.out]; exact HR.out
        have hz : ((s.size : Int) == 0) = false := by rw [beq_eq_false_iff_ne]; omega
        have hz2 : s.size ≠ 0 := by omega
        go_wp2
        go_ret
        exact ⟨by rw [← HE.out]; rfl, rfl⟩
    · have h1' : decide ((k : Int) + 1 < s.size) = false := by simp; omega
      by_cases h0 : s.size = 0
      · have HE : Hid (R = ⟨#[48]⟩) := by
          show _ = _
          rw [← HR.out]
          have : s.data.toList = [] := List.eq_nil_of_length_eq_zero (by rw [size_list]; exact h0)
          rw [this]; rfl
        go_wp2
        go_ret
        exact ⟨by rw [HE.out]; rfl, rfl⟩
      · have hks : k < s.size := by omega
        have HE : Hid (s.extract k s.size = R) := by
          show _ = _
          rw [extract_tail, ← trim_end hks (.inl (by omega)), HK.out]; exact HR.out
        have hz : ((s.size : Int) == 0) = false := by rw [beq_eq_false_iff_ne]; omega
        go_wp2
        go_ret
        exact ⟨by rw [← HE.out]; rfl, rfl⟩

end Go.Proofs.YtcabanghegddhaaGreatDoor

namespace Go.Proofs.YtcabanghegddhaaGreatDoor
open Go.RowKit
set_option linter.unusedVariables false

theorem fill_text {N n : Nat} {zs : List Nat} (h : FillAt N n n zs) (hN : N < 10 ^ n) : trimL (strOfNums (zs.map fun (x : Nat) => (x : Int))).data.toList = Lib.decDigits N := by
  have e : (strOfNums (zs.map fun (x : Nat) => (x : Int))).data.toList = padD N n := by
    rw [strOfNums_data, List.map_map, ← fill_end h]
    rfl
  rw [e, ← dec_trim _ (padD_figs N n), padD_digV N n hN]

end Go.Proofs.YtcabanghegddhaaGreatDoor

namespace Go.Proofs.YtcabanghegddhaaGreatDoor
open Go.RowKit
set_option linter.unusedVariables false

theorem row_take {w : World} {B : Nat} {g L cap n : Nat} {xs : List Nat} (h : Row w B (.slice (some ⟨g, 0, none⟩) L cap) xs) (hn : n ≤ xs.length) : Row w B (.slice (some ⟨g, 0, none⟩) n cap) (xs.take n) := by
  have hl : (xs.take n).length = n := by rw [List.length_take]; omega
  unfold Row
  rw [hl]
  unfold Row at h
  rcases h.2 with ⟨h', _⟩ | ⟨g', cap', cur, h', h1, h2, h3, h4, h5, h6⟩
  · simp at h'
  · simp only [Value.slice.injEq, Option.some.injEq, Addr.mk.injEq, and_true] at h'
    obtain ⟨rfl, rfl, rfl⟩ := h'
    refine ⟨by simp; omega, .inr ⟨g, cap, cur, rfl, h1, h2, by omega, h4, h5, ?_⟩⟩
    rw [List.map_take, ← h6, Nat.mul_one, Nat.mul_one, List.take_take, Nat.min_eq_left hn]
theorem row_cap {w : World} {B : Nat} {g L cap : Nat} {xs : List Nat} (h : Row w B (.slice (some ⟨g, 0, none⟩) L cap) xs) : L = xs.length ∧ xs.length ≤ cap ∧ cap ≤ maxLen := by
  rcases h.2 with ⟨h', _⟩ | ⟨g', cap', cur, h', h1, h2, h3, h4, h5, h6⟩
  · simp at h'
  · simp only [Value.slice.injEq, Option.some.injEq, Addr.mk.injEq, and_true] at h'
    obtain ⟨rfl, rfl, rfl⟩ := h'
    exact ⟨rfl, h3, h4⟩

/-- a power on the way -/
structure PowAt (T m U : Nat) (os bs : List Nat) : Prop where
  oo : LimbsOk os
  ob : LimbsOk bs
  eq : limbV os * limbV bs ^ m = T
  lo : 1 ≤ os.length ∧ os.length < U
  lb : 1 ≤ bs.length ∧ bs.length + 1 ≤ U

theorem pow_odd {T m U : Nat} {os bs rs ts : List Nat} (h : PowAt T m U os bs) (hm : m % 2 = 1) (or_ : LimbsOk rs) (ot : LimbsOk ts) (hr : limbV rs = limbV os * limbV bs) (ht : limbV ts = limbV bs * limbV bs)
    (lr : 1 ≤ rs.length ∧ rs.length ≤ os.length + bs.length + 1) (lt : 1 ≤ ts.length ∧ ts.length ≤ bs.length + bs.length + 1) : PowAt T (m / 2) (2 * U) rs ts := by
  refine ⟨or_, ot, ?_, ⟨lr.1, by have := h.lo; have := h.lb; omega⟩, ⟨lt.1, by have := h.lb; omega⟩⟩
  have e : m = 2 * (m / 2) + 1 := by omega
  rw [← h.eq, hr, ht]
  conv => rhs; rw [e]
  rw [Nat.pow_succ, Nat.pow_mul, Nat.pow_two, Nat.mul_assoc, Nat.mul_comm (limbV bs)]
theorem pow_even {T m U : Nat} {os bs ts : List Nat} (h : PowAt T m U os bs) (hm : m % 2 = 0) (ot : LimbsOk ts) (ht : limbV ts = limbV bs * limbV bs)
    (lt : 1 ≤ ts.length ∧ ts.length ≤ bs.length + bs.length + 1) : PowAt T (m / 2) (2 * U) os ts := by
  refine ⟨h.oo, ot, ?_, ⟨h.lo.1, by have := h.lo; omega⟩, ⟨lt.1, by have := h.lb; omega⟩⟩
  have e : m = 2 * (m / 2) := by omega
  rw [← h.eq, ht]
  conv => rhs; rw [e]
  rw [Nat.pow_mul, Nat.pow_two]

end Go.Proofs.YtcabanghegddhaaGreatDoor

namespace Go.Proofs.YtcabanghegddhaaGreatDoor
open Go.RowKit
set_option linter.unusedVariables false

/-- a great number as it is answered: its figures, and whether they are not too many -/
def greatS (n : Nat) : ByteArray := if (Lib.decDigits n).length ≤ 800 then txt (Lib.decDigits n) else ⟨#[]⟩
def greatB (n : Nat) : Bool := decide ((Lib.decDigits n).length ≤ 800)
/-- what is answered of two texts: the text, and whether there is one -/
def opS (f : Nat → Nat → Nat) (a b : ByteArray) : ByteArray := if figsOk a.data.toList = true ∧ figsOk b.data.toList = true then greatS (f (digV a.data.toList) (digV b.data.toList)) else ⟨#[]⟩
def opB (f : Nat → Nat → Nat) (a b : ByteArray) : Bool := if figsOk a.data.toList = true ∧ figsOk b.data.toList = true then greatB (f (digV a.data.toList) (digV b.data.toList)) else false
def powS (b n : Int) : ByteArray := if 2 ≤ b ∧ b ≤ 10 ∧ 0 ≤ n ∧ n ≤ 1100 then greatS (b.toNat ^ n.toNat) else ⟨#[]⟩
def powB (b n : Int) : Bool := if 2 ≤ b ∧ b ≤ 10 ∧ 0 ≤ n ∧ n ≤ 1100 then greatB (b.toNat ^ n.toNat) else false

theorem figsOk_size {s : ByteArray} (h : figsOk s.data.toList = true) : s.size ≤ 800 := by
  unfold figsOk at h
  simp only [Bool.and_eq_true, decide_eq_true_eq] at h
  rw [← size_list]; exact h.1.1.2

end Go.Proofs.YtcabanghegddhaaGreatDoor

namespace Go.Proofs.YtcabanghegddhaaGreatDoor
open Go.RowKit
set_option linter.unusedVariables false

/-- less, by the numbers -/
def lessG (a b : ByteArray) : Bool := figsOk a.data.toList && figsOk b.data.toList && decide (digV a.data.toList < digV b.data.toList)

/-- fewer right figures are a lesser number -/
theorem figs_fewer {l m : List UInt8} (hl : figsOk l = true) (hm : figsOk m = true) (h : l.length < m.length) : digV l < digV m := by
  have h1 := digV_lt (figsOk_figs hl)
  have hf := figsOk_figs hm
  unfold figsOk at hl hm
  simp only [Bool.and_eq_true, Bool.or_eq_true, decide_eq_true_eq] at hl hm
  have h2 : 1 < m.length := by omega
  match m, h2, hm, hf with
  | c :: r, h2, hm, hf =>
    have hc := hf c (by simp)
    have hn : c.toNat ≠ 48 := by
      rcases hm.1.2 with h' | h'
      · omega
      · simpa using h'
    have e := digV_append [c] r
    rw [List.singleton_append] at e
    have e2 : digV [c] = c.toNat - 48 := by simp [digV]
    rw [e, e2]
    have h3 : 10 ^ l.length ≤ 10 ^ r.length := Nat.pow_le_pow_right (by decide) (by simp at h; omega)
    have h4 : 1 * 10 ^ r.length ≤ (c.toNat - 48) * 10 ^ r.length := Nat.mul_le_mul_right _ (by omega)
    omega

theorem digV_cons (c : UInt8) (r : List UInt8) : digV (c :: r) = (c.toNat - 48) * 10 ^ r.length + digV r := by
  have e := digV_append [c] r
  rw [List.singleton_append] at e
  have e2 : digV [c] = c.toNat - 48 := by simp [digV]
  rw [e, e2]

/-- as many figures: byte by byte -/
theorem less_bytes : ∀ (l m : List UInt8), Figs l → Figs m → l.length = m.length → Op.bytesLess l m = decide (digV l < digV m)
  | [], [], _, _, _ => by simp [Op.bytesLess, digV_nil]
  | [], _ :: _, _, _, h => by simp at h
  | _ :: _, [], _, _, h => by simp at h
  | a :: l, b :: m, hl, hm, h => by
    have hlen : l.length = m.length := by simpa using h
    have hl' : Figs l := fun c hc => hl c (by simp [hc])
    have hm' : Figs m := fun c hc => hm c (by simp [hc])
    have ih := less_bytes l m hl' hm' hlen
    have ha := hl a (by simp)
    have hb := hm b (by simp)
    have v1 := digV_lt hl'
    have v2 := digV_lt hm'
    rw [Op.bytesLess, ih, digV_cons, digV_cons, hlen]
    rw [hlen] at v1
    have hP : 0 < 10 ^ m.length := Nat.pow_pos (by decide)
    rcases Nat.lt_trichotomy a.toNat b.toNat with h1 | h1 | h1
    · have h2 : a < b := UInt8.lt_iff_toNat_lt.2 h1
      have h3 : (a.toNat - 48 + 1) * 10 ^ m.length ≤ (b.toNat - 48) * 10 ^ m.length := Nat.mul_le_mul_right _ (by omega)
      rw [Nat.add_mul] at h3
      rw [decide_eq_true h2, Bool.true_or, decide_eq_true (by omega)]
    · have h2 : a = b := UInt8.toNat_inj.1 h1
      subst h2
      have h3 : ¬a < a := by rw [UInt8.lt_iff_toNat_lt]; omega
      rw [decide_eq_false h3, Bool.false_or, beq_self_eq_true, Bool.true_and, Bool.eq_iff_iff, decide_eq_true_iff, decide_eq_true_iff]
      omega
    · have h2 : ¬a < b := by rw [UInt8.lt_iff_toNat_lt]; omega
      have h3 : (a == b) = false := by
        rw [beq_eq_false_iff_ne]
        intro e; subst e; omega
      have h4 : (b.toNat - 48 + 1) * 10 ^ m.length ≤ (a.toNat - 48) * 10 ^ m.length := Nat.mul_le_mul_right _ (by omega)
      rw [Nat.add_mul] at h4
      rw [decide_eq_false h2, h3, Bool.false_and, Bool.or_false, decide_eq_false (by omega)]

end Go.Proofs.YtcabanghegddhaaGreatDoor

namespace Go.Proofs.YtcabanghegddhaaGreatDoor
open Go.RowKit
set_option linter.unusedVariables false

def subS (a b : ByteArray) : ByteArray := if figsOk a.data.toList = true ∧ figsOk b.data.toList = true ∧ digV b.data.toList ≤ digV a.data.toList then txt (Lib.decDigits (digV a.data.toList - digV b.data.toList)) else ⟨#[]⟩
def subB (a b : ByteArray) : Bool := decide (figsOk a.data.toList = true ∧ figsOk b.data.toList = true ∧ digV b.data.toList ≤ digV a.data.toList)

theorem limbV_split (xs : List Nat) (i : Nat) : limbV xs = limbV (xs.take i) + 10 ^ (9 * i) * limbV (xs.drop i) := by
  induction i generalizing xs with
  | zero => simp [limbV]
  | succ i ih =>
    cases xs with
    | nil => simp [limbV]
    | cons a l =>
      rw [List.take_succ_cons, List.drop_succ_cons, limbV, limbV, ih l, nine_pow, Nat.mul_add, Nat.mul_assoc]
      omega

/-- a difference of limbs up to a place -/
structure SubAt (ls ms xs : List Nat) (i c : Nat) : Prop where
  ok : LimbsOk xs
  len : xs.length = i
  eq : limbV (ls.take i) + 10 ^ (9 * i) * c = limbV xs + limbV (ms.take i)
theorem subAt_start (ls ms : List Nat) : SubAt ls ms [] 0 0 := ⟨limbsOk_nil, rfl, by simp [limbV]⟩
theorem subAt_step {ls ms xs : List Nat} {i c c' z : Nat} (h : SubAt ls ms xs i c) (hz : z < 1000000000) (he : z + ms.getD i 0 + c = ls.getD i 0 + 1000000000 * c') : SubAt ls ms (xs ++ [z]) (i + 1) c' := by
  obtain ⟨h1, h2, h3⟩ := h
  refine ⟨limbsOk_snoc h1 hz, by simp [h2], ?_⟩
  rw [limbV_snoc, limbV_take, limbV_take, h2, nine_pow]
  generalize ls.getD i 0 = x at *
  generalize ms.getD i 0 = y at *
  generalize 10 ^ (9 * i) = P at *
  have e2 : P * (z + y + c) = P * (x + 1000000000 * c') := by rw [he]
  rw [Nat.mul_add, Nat.mul_add, Nat.mul_add] at e2
  have e3 : 1000000000 * P * c' = P * (1000000000 * c') := by rw [Nat.mul_comm 1000000000, Nat.mul_assoc]
  omega
theorem subAt_end {ls ms xs : List Nat} {c : Nat} (h : SubAt ls ms xs ls.length c) (hl : LimbsOk ls) (hle : limbV ms ≤ limbV ls) : limbV xs = limbV ls - limbV ms := by
  obtain ⟨h1, h2, h3⟩ := h
  have a1 := limbV_lt hl
  have a2 := limbV_lt h1
  rw [h2] at a2
  have a3 := limbV_split ms ls.length
  rw [List.take_length] at h3
  generalize 10 ^ (9 * ls.length) = P at *
  have a4 : limbV (ms.drop ls.length) = 0 := by
    rcases Nat.eq_zero_or_pos (limbV (ms.drop ls.length)) with h' | h'
    · exact h'
    · have : P * 1 ≤ P * limbV (ms.drop ls.length) := Nat.mul_le_mul_left _ h'
      omega
  rw [a4, Nat.mul_zero, Nat.add_zero] at a3
  rw [← a3] at h3
  have a5 : c = 0 := by
    rcases Nat.eq_zero_or_pos c with h' | h'
    · exact h'
    · have : P * 1 ≤ P * c := Nat.mul_le_mul_left _ h'
      omega
  subst a5
  omega

end Go.Proofs.YtcabanghegddhaaGreatDoor
