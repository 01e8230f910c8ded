/-
  The parts of a line, as plain functions.
-/
import Derived.Test.YtemgbffdllhhfaiDoorHexB
import Derived.Lib.Fields
namespace Go.Proofs.YtemgbffdllhhfaiDoor
open Go.RowKit

def asText (l : List UInt8) : ByteArray := ⟨l.toArray⟩
def plainB (c : UInt8) : Bool := decide (32 ≤ c.toNat ∧ c.toNat ≤ 126)
def plainS (s : ByteArray) : Bool := s.data.toList.all plainB
def okParts (s : ByteArray) : Bool := decide (s.size ≤ 300) && s.data.toList.all plainB && decide ((Lib.fields s.data.toList).length ≤ 8)
def resParts (s : ByteArray) : List ByteArray := if okParts s = true then (Lib.fields s.data.toList).map asText else []

theorem ok_long {s : ByteArray} (h : 300 < s.size) : okParts s = false := by simp [okParts]; omega
theorem ok_odd {s : ByteArray} (h : s.data.toList.all plainB = false) : okParts s = false := by simp [okParts, h]
theorem ok_many {s : ByteArray} (h : 8 < (Lib.fields s.data.toList).length) : okParts s = false := by simp [okParts]; omega
theorem ok_yes {s : ByteArray} (h1 : s.size ≤ 300) (h2 : s.data.toList.all plainB = true) (h3 : (Lib.fields s.data.toList).length ≤ 8) : okParts s = true := by simp [okParts, h1, h2, h3]
theorem res_no {s : ByteArray} (h : okParts s = false) : resParts s = [] := by unfold resParts; rw [if_neg (by simp [h])]
theorem res_yes {s : ByteArray} (h : okParts s = true) : resParts s = (Lib.fields s.data.toList).map asText := if_pos h

theorem odd_at {s : ByteArray} {i : Nat} (hi : i < s.size) (h : (s[i]).toNat < 32 ∨ 126 < (s[i]).toNat) : s.data.toList.all plainB = false := by
  have hl : i < s.data.toList.length := by rw [← Lib.size_eq]; exact hi
  rw [List.all_eq_false]
  refine ⟨s.data.toList[i], List.getElem_mem hl, ?_⟩
  have e : (s.data.toList[i]).toNat = (s[i]).toNat := rfl
  simp only [plainB, decide_eq_true_eq]
  omega
theorem all_more (s : ByteArray) (k : Nat) (h : k < s.size) (ha : (s.data.toList.take k).all plainB = true) (h1 : 32 ≤ (s[k]).toNat) (h2 : (s[k]).toNat ≤ 126) : (s.data.toList.take (k + 1)).all plainB = true := by
  rw [take_snoc s k h, List.all_append, ha]
  simp [plainB, h1, h2]

theorem sp_plain {c : UInt8} (h1 : 32 ≤ c.toNat) : Lib.isSp c = decide (c.toNat = 32) := by
  have hb : ∀ n : Nat, n < 256 → (c == UInt8.ofNat n) = decide (c.toNat = n) := fun n hn => by
    rw [Bool.eq_iff_iff]
    simp only [beq_iff_eq, decide_eq_true_eq, ← UInt8.toNat_inj]
    simp; omega
  have e9 := hb 9 (by omega); have e10 := hb 10 (by omega); have e11 := hb 11 (by omega); have e12 := hb 12 (by omega); have e13 := hb 13 (by omega); have e32 := hb 32 (by omega)
  unfold Lib.isSp
  rw [show (9 : UInt8) = UInt8.ofNat 9 from rfl, show (10 : UInt8) = UInt8.ofNat 10 from rfl, show (11 : UInt8) = UInt8.ofNat 11 from rfl, show (12 : UInt8) = UInt8.ofNat 12 from rfl, show (13 : UInt8) = UInt8.ofNat 13 from rfl, show (32 : UInt8) = UInt8.ofNat 32 from rfl, e9, e10, e11, e12, e13, e32]
  have d9 : decide (c.toNat = 9) = false := by simp; omega
  have d10 : decide (c.toNat = 10) = false := by simp; omega
  have d11 : decide (c.toNat = 11) = false := by simp; omega
  have d12 : decide (c.toNat = 12) = false := by simp; omega
  have d13 : decide (c.toNat = 13) = false := by simp; omega
  rw [d9, d10, d11, d12, d13]; rfl

/-- the bytes of s from a on, up to b -/
def sl (s : ByteArray) (a b : Nat) : List UInt8 := (s.data.toList.drop a).take (b - a)
theorem sl_self (s : ByteArray) (a : Nat) : sl s a a = [] := by simp [sl]
theorem sl_snoc {s : ByteArray} {a i : Nat} (ha : a ≤ i) (h : i < s.size) : sl s a (i + 1) = sl s a i ++ [s[i]] := by
  have hl : s.size = s.data.toList.length := Lib.size_eq s
  unfold sl
  have e : i + 1 - a = (i - a) + 1 := by omega
  have hlt : i - a < (s.data.toList.drop a).length := by rw [List.length_drop]; omega
  rw [e, List.take_succ_eq_append_getElem hlt, List.getElem_drop]
  congr 2
  have e2 : a + (i - a) = i := by omega
  simp only [e2]
  rfl
theorem sl_pos {s : ByteArray} {a i : Nat} (ha : a < i) (h : i ≤ s.size) : sl s a i ≠ [] := by
  have hl : s.size = s.data.toList.length := Lib.size_eq s
  intro e
  have := congrArg List.length e
  simp only [sl, List.length_take, List.length_drop, List.length_nil] at this
  omega
theorem extract_text (s : ByteArray) (a b : Nat) : s.extract a b = asText (sl s a b) := by
  apply ByteArray.ext
  apply Array.toList_inj.1
  have := Lib.extract_data s a b
  rw [this]; rfl
theorem drop_at {s : ByteArray} {i : Nat} (h : i < s.size) : s.data.toList.drop i = s[i] :: s.data.toList.drop (i + 1) := by
  have hl : i < s.data.toList.length := by rw [← Lib.size_eq]; exact h
  rw [List.drop_eq_getElem_cons hl]; rfl
theorem drop_end (s : ByteArray) : s.data.toList.drop s.size = [] := by rw [Lib.size_eq, List.drop_length]

/-- what spec.PartsOf has gathered at place i, the part that it is in beginning at b -/
def PartsAt (s : ByteArray) (i b : Nat) (outs : List (List UInt8)) : Prop :=
  (i ≤ s.size ∧ b ≤ i ∧ outs ++ Lib.fieldsGo (sl s b i) (s.data.toList.drop i) = Lib.fields s.data.toList) ∨ (i = s.size + 1 ∧ b = i ∧ outs = Lib.fields s.data.toList)
theorem partsAt_first (s : ByteArray) : PartsAt s 0 0 [] := .inl ⟨Nat.zero_le _, Nat.le_refl _, by rw [sl_self]; rfl⟩
theorem partsAt_le {s : ByteArray} {i b : Nat} {outs : List (List UInt8)} (h : PartsAt s i b outs) : i ≤ s.size + 1 ∧ b ≤ i := by
  rcases h with h | h <;> omega
theorem partsAt_more {s : ByteArray} {i b : Nat} {outs : List (List UInt8)} (h : PartsAt s i b outs) (hi : i < s.size) (hs : Lib.isSp (s[i]) = false) : PartsAt s (i + 1) b outs := by
  rcases h with ⟨_, h2, h3⟩ | h
  · refine .inl ⟨by omega, by omega, ?_⟩
    rw [← h3, drop_at hi, Lib.fieldsGo_more _ _ _ hs, sl_snoc h2 hi]
  · omega
theorem partsAt_blank {s : ByteArray} {i b : Nat} {outs : List (List UInt8)} (h : PartsAt s i b outs) (hi : i < s.size) (hs : Lib.isSp (s[i]) = true) (hb : ¬ b < i) : PartsAt s (i + 1) (i + 1) outs := by
  rcases h with ⟨_, h2, h3⟩ | h
  · obtain rfl : b = i := by omega
    refine .inl ⟨by omega, by omega, ?_⟩
    rw [← h3, drop_at hi, sl_self, sl_self, Lib.fieldsGo_sp _ _ hs]
  · omega
theorem partsAt_end {s : ByteArray} {i b : Nat} {outs : List (List UInt8)} (h : PartsAt s i b outs) (hi : i < s.size) (hs : Lib.isSp (s[i]) = true) (hb : b < i) : PartsAt s (i + 1) (i + 1) (outs ++ [sl s b i]) := by
  rcases h with ⟨h1, h2, h3⟩ | h
  · refine .inl ⟨by omega, by omega, ?_⟩
    rw [← h3, drop_at hi, Lib.fieldsGo_end _ _ _ hs (sl_pos hb h1), sl_self, List.append_assoc]; rfl
  · omega
theorem partsAt_last {s : ByteArray} {b : Nat} {outs : List (List UInt8)} (h : PartsAt s s.size b outs) (hb : b < s.size) : PartsAt s (s.size + 1) (s.size + 1) (outs ++ [sl s b s.size]) := by
  rcases h with ⟨h1, h2, h3⟩ | h
  · refine .inr ⟨rfl, rfl, ?_⟩
    have hne := sl_pos hb (Nat.le_refl s.size)
    rw [← h3, drop_end, Lib.fieldsGo]
    cases hx : sl s b s.size with
    | nil => exact absurd hx hne
    | cons a l => rfl
  · omega
theorem partsAt_none {s : ByteArray} {b : Nat} {outs : List (List UInt8)} (h : PartsAt s s.size b outs) (hb : ¬ b < s.size) : PartsAt s (s.size + 1) (s.size + 1) outs := by
  rcases h with ⟨h1, h2, h3⟩ | h
  · obtain rfl : b = s.size := by omega
    refine .inr ⟨rfl, rfl, ?_⟩
    rw [← h3, drop_end, sl_self, Lib.fieldsGo]; simp
  · omega
theorem partsAt_done {s : ByteArray} {i b : Nat} {outs : List (List UInt8)} (h : PartsAt s i b outs) (hi : s.size < i) : outs = Lib.fields s.data.toList := by
  rcases h with h | h
  · omega
  · exact h.2.2
theorem partsAt_len {s : ByteArray} {i b : Nat} {outs : List (List UInt8)} (h : PartsAt s i b outs) : outs.length ≤ (Lib.fields s.data.toList).length := by
  rcases h with ⟨_, _, h⟩ | ⟨_, _, h⟩
  · rw [← h, List.length_append]; omega
  · rw [h]; exact Nat.le_refl _
theorem fieldsGo_le : ∀ (l cur : List UInt8), (Lib.fieldsGo cur l).length ≤ l.length + 1
  | [], cur => by unfold Lib.fieldsGo; split <;> simp
  | c :: l, cur => by
    unfold Lib.fieldsGo
    have h1 := fieldsGo_le l []
    have h2 := fieldsGo_le l (cur ++ [c])
    split
    · split
      · simp only [List.length_cons]; omega
      · simp only [List.length_cons]; omega
    · simp only [List.length_cons]; omega
theorem fields_le (s : ByteArray) : (Lib.fields s.data.toList).length ≤ s.size + 1 := by
  have := fieldsGo_le s.data.toList []
  rw [← Lib.size_eq] at this
  exact this

theorem res_le (s : ByteArray) : (resParts s).length ≤ 8 := by
  by_cases h : okParts s = true
  · rw [res_yes h, List.length_map]
    simp only [okParts, Bool.and_eq_true, decide_eq_true_eq] at h
    exact h.2
  · rw [res_no (by simpa using h)]; simp

end Go.Proofs.YtemgbffdllhhfaiDoor
