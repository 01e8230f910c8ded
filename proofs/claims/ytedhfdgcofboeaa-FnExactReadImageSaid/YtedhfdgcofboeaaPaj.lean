/-
  Part 10 of what is proved of drawn right trees.
-/
import Derived.Test.YtedhfdgcofboeaaPaa
import Derived.Lib.ItoaNum
import Derived.Test.YtedhfdgcofboeaaPab
import Derived.Shelf.LaysM
import Derived.Shelf.Strconv.Clone
import Derived.Shelf.Strings.Prefix
import Derived.Test.YtedhfdgcofboeaaProg
import Derived.Test.YtedhfdgcofboeaaPac

namespace Go.Proofs.Ytedhfdgcofboeaa
open Go.RowKit
def decMore (m : Nat) : List UInt8 := if m = 0 then [] else Lib.decDigits m
theorem decMore_zero : decMore 0 = [] := rfl
theorem decMore_step {m : Nat} (h : m ≠ 0) : decMore m = decMore (m / 10) ++ [UInt8.ofNat (48 + m % 10)] := by
  unfold decMore
  rw [if_neg h]
  by_cases h10 : m < 10
  · rw [Lib.decDigits, dif_pos h10, if_pos (by omega), show m % 10 = m by omega]; rfl
  · rw [Lib.decDigits, dif_neg h10, if_neg (by omega)]
theorem decMore_pos {m : Nat} (h : m ≠ 0) : decMore m = Lib.decDigits m := if_neg h
def DecAt (u m : Nat) (l : List UInt8) : Prop := decMore m ++ l = Lib.decDigits u ∧ m ≤ u ∧ (1 ≤ m → 2 * l.length + m ≤ u) ∧ (m = 0 → 2 * l.length ≤ u + 1)
theorem decAt_first {u : Nat} (h : u ≠ 0) : DecAt u u [] := ⟨by rw [decMore_pos h, List.append_nil], Nat.le_refl _, fun _ => by simp, fun e => absurd e h⟩
theorem decAt_step {u m : Nat} {l : List UInt8} (hm : m ≠ 0) (h : DecAt u m l) : DecAt u (m / 10) (UInt8.ofNat (48 + m % 10) :: l) := by
  obtain ⟨h1, h2, h3, h4⟩ := h
  refine ⟨?_, by omega, fun _ => ?_, fun _ => ?_⟩
  · rw [← h1, decMore_step hm, List.append_assoc]; rfl
  · have := h3 (by omega)
    rw [List.length_cons]; omega
  · have := h3 (by omega)
    rw [List.length_cons]; omega
theorem decAt_len {u m : Nat} {l : List UInt8} (h : DecAt u m l) : 2 * l.length ≤ u + 1 := by
  obtain ⟨_, _, h3, h4⟩ := h
  by_cases e : m = 0
  · exact h4 e
  · have := h3 (by omega); omega
theorem decAt_last {u : Nat} {l : List UInt8} (h : DecAt u 0 l) : l = Lib.decDigits u := by
  have := h.1
  rwa [decMore_zero, List.nil_append] at this
end Go.Proofs.Ytedhfdgcofboeaa
namespace Go.Proofs.Ytedhfdgcofboeaa
open Go.RowKit
theorem varB_byte (n : Nat) : ∀ z ∈ varB n, 0 ≤ z ∧ z < 256 := by
  induction n using Nat.strongRecOn with
  | ind n ih =>
    intro z hz
    by_cases h : 127 < n
    · rw [varB_more h, List.mem_cons] at hz
      rcases hz with hz | hz
      · subst hz; omega
      · exact ih _ (by omega) z hz
    · rw [varB_last (by omega), List.mem_singleton] at hz
      subst hz; omega
theorem rdV_var (s : ByteArray) (b0 : Nat) : ∀ (f q i n u : Nat), Unit128 f u → n + q * u ≤ 1000000000 → (∀ j (hj : j < (varB q).length), ∃ h : i + j < s.size, ((s[i + j]'h).toNat : Int) = (varB q)[j]) → (b0 < i → 0 < q) → b0 ≤ i → (f < 5 → b0 < i) → rdV s b0 f i n u = some (n + q * u, i + (varB q).length)
  | 0, q, i, n, u, hu, hle, hb, hq, _, hfi => by
    exfalso
    have := unit_zero hu
    subst this
    have h1 := hq (hfi (by omega))
    have h2 : 1 * 34359738368 ≤ q * 34359738368 := Nat.mul_le_mul_right _ h1
    omega
  | f + 1, q, i, n, u, hu, hle, hb, hq, hbi, hfi => by
    obtain ⟨hu1, hu2, hu3, hf⟩ := unit_step hu
    obtain ⟨h0, e0⟩ := hb 0 (varB_pos q)
    simp only [Nat.add_zero] at h0 e0
    by_cases h : 127 < q
    · have e1 : (s[i]).toNat = q % 128 + 128 := by
        have : (varB q)[0]'(varB_pos q) = ((q % 128 + 128 : Nat) : Int) := by simp only [varB_more h, List.getElem_cons_zero]
        rw [this] at e0
        omega
      rw [rdV_more h0 (by omega), e1, show (q % 128 + 128) % 128 = q % 128 by omega]
      have key : n + q % 128 * u + q / 128 * (u * 128) = n + q * u := by
        have e : q * u = (q % 128) * u + (q / 128) * (u * 128) := by
          conv => lhs; rw [← Nat.mod_add_div q 128]
          rw [Nat.add_mul, Nat.mul_comm 128 (q / 128), Nat.mul_assoc, Nat.mul_comm 128 u]
        omega
      have hl : (varB q).length = (varB (q / 128)).length + 1 := by rw [varB_more h]; rfl
      have ih := rdV_var s b0 f (q / 128) (i + 1) (n + q % 128 * u) (u * 128) hu1 (by rw [key]; exact hle) (fun j hj => by
        obtain ⟨hx, ex⟩ := hb (j + 1) (by omega)
        have e2 : i + 1 + j = i + (j + 1) := by omega
        refine ⟨by omega, ?_⟩
        have e3 : (varB q)[j + 1]'(by omega) = (varB (q / 128))[j] := by simp only [varB_more h, List.getElem_cons_succ]
        rw [← e3, ← ex]
        simp only [e2]) (fun _ => by omega) (by omega) (fun _ => by omega)
      rw [ih, key, hl]
      congr 2
      omega
    · have e1 : (s[i]).toNat = q := by
        have : (varB q)[0]'(varB_pos q) = (q : Int) := by simp only [varB_last (show q ≤ 127 by omega), List.getElem_cons_zero]
        rw [this] at e0
        omega
      have e2 : q % 128 = q := by omega
      rw [rdV_ok h0 (by omega) (by rw [e1, e2]; omega), e1, e2, varB_last (by omega)]
      rfl
theorem strOfNums_get {xs : List Int} {j : Nat} (h : j < (strOfNums xs).size) : (strOfNums xs)[j] = UInt8.ofNat ((xs[j]'(by rw [← strOfNums_size]; exact h))).toNat := by
  have hl : j < ((xs.map fun n => UInt8.ofNat n.toNat)).length := by rw [List.length_map, ← strOfNums_size]; exact h
  have e : (strOfNums xs)[j] = ((xs.map fun n => UInt8.ofNat n.toNat))[j]'hl := rfl
  exact e.trans (List.getElem_map _)
theorem byte_back {z : Int} (h0 : 0 ≤ z) (h : z < 256) : ((UInt8.ofNat z.toNat).toNat : Int) = z := by
  simp; omega
theorem get_append_right {a b : ByteArray} {j : Nat} (h : a.size + j < (a ++ b).size) (hb : j < b.size) : (a ++ b)[a.size + j] = b[j] := by
  have e1 : (a ++ b)[a.size + j] = (a ++ b).data[a.size + j]'h := rfl
  have e2 : b[j] = b.data[j]'hb := rfl
  rw [e1, e2]
  simp only [ByteArray.data_append]
  rw [Array.getElem_append_right (by show a.data.size ≤ _; exact Nat.le_add_right _ _)]
  congr 1
  show a.size + j - a.data.size = j
  have : a.data.size = a.size := rfl
  omega
theorem get_append_left {a b : ByteArray} {j : Nat} (h : j < (a ++ b).size) (ha : j < a.size) : (a ++ b)[j] = a[j] := by
  have e1 : (a ++ b)[j] = (a ++ b).data[j]'h := rfl
  have e2 : a[j] = a.data[j]'ha := rfl
  rw [e1, e2]
  simp only [ByteArray.data_append]
  rw [Array.getElem_append_left (show j < a.data.size from ha)]
theorem read_var {a c : ByteArray} {q : Nat} (hq : q ≤ 1000000000) : rdV (a ++ strOfNums (varB q) ++ c) a.size 5 a.size 0 1 = some (q, a.size + (strOfNums (varB q)).size) := by
  have h := rdV_var (a ++ strOfNums (varB q) ++ c) a.size 5 q a.size 0 1 unit_first (by omega) (fun j hj => by
    have hj' : j < (strOfNums (varB q)).size := by rw [strOfNums_size]; exact hj
    have hx : a.size + j < (a ++ strOfNums (varB q)).size := by rw [ByteArray.size_append]; omega
    have hy : a.size + j < (a ++ strOfNums (varB q) ++ c).size := by rw [ByteArray.size_append]; omega
    refine ⟨hy, ?_⟩
    rw [get_append_left hy hx, get_append_right hx hj', strOfNums_get hj']
    exact byte_back (varB_byte q _ (List.getElem_mem hj)).1 (varB_byte q _ (List.getElem_mem hj)).2) (fun h => by omega) (Nat.le_refl _) (fun h => by omega)
  rw [h, strOfNums_size]
  simp
theorem str_of_ints (s : ByteArray) : strOfNums (ints s.data.toList) = s := by
  apply ByteArray.ext
  apply Array.toList_inj.1
  rw [strOfNums_data, str_ints]
end Go.Proofs.Ytedhfdgcofboeaa
namespace Go.Proofs.Ytedhfdgcofboeaa
open Go.RowKit
set_option linter.unusedVariables false
def jNum (s : ByteArray) : Nat → Nat → RS → Nat × RS
  | 0, x, r => (x, r)
  | k + 1, x, r => jNum s k ((x * 256 + (rByte s r).1.toNat) % 18446744073709551616) (rByte s r).2
def jShortO (s : ByteArray) (r : RS) : Option (ByteArray × Nat) :=
  if r.bad then none else match rdV s r.pos 5 r.pos 0 1 with
    | some (n, j) => if n ≤ 12000 ∧ j + n ≤ s.size then some (s.extract j (j + n), j + n) else none
    | none => none
def jShort (s : ByteArray) (r : RS) : ByteArray × RS := match jShortO s r with | some (t, j) => (t, ⟨j, false⟩) | none => (⟨#[]⟩, ⟨r.pos, true⟩)
def jConst (s : ByteArray) (r : RS) : PCon × RS :=
  if (rByte s r).1 = 1 then (⟨(rByte s r).1, (jNum s 8 0 (rByte s r).2).1, ⟨#[]⟩⟩, (jNum s 8 0 (rByte s r).2).2)
  else if (rByte s r).1 = 2 then (⟨(rByte s r).1, 0, (jShort s (rByte s r).2).1⟩, (jShort s (rByte s r).2).2)
  else (⟨(rByte s r).1, 0, ⟨#[]⟩⟩, (rByte s r).2)
def jFlag (s : ByteArray) (r : RS) : Int × RS := ((rByte s r).1, if 1 < (rByte s r).1 then ⟨(rByte s r).2.pos, true⟩ else (rByte s r).2)
def jCap (s : ByteArray) (r : RS) : PCap × RS := (⟨decide ((jFlag s r).1 = 1), (rVar s (jFlag s r).2).1⟩, (rVar s (jFlag s r).2).2)
def jList {α : Type} (f : ByteArray → RS → α × RS) (s : ByteArray) (r : RS) : List α × RS := rMany (f s) (rVar s r).1 (rVar s r).2
def jFunc (s : ByteArray) (r : RS) : PFun × RS :=
  let p := rVar s r
  let g := rVar s p.2
  let c := jList jCap s g.2
  let k := jList rIns s c.2
  let h := jList rHnd s k.2
  (⟨p.1, g.1, c.1, k.1, h.1⟩, h.2)
def jImage (s : ByteArray) (r : RS) : PImg × RS :=
  let c := jList jConst s r
  let f := jList jFunc s c.2
  (⟨f.1, c.1⟩, f.2)
def Canon {α : Type} (f : ByteArray → RS → α × RS) (T : α → List Int) : Prop :=
  ∀ s r, r.pos ≤ s.size → (f s r).2.bad = false → r.bad = false ∧ r.pos ≤ (f s r).2.pos ∧ (f s r).2.pos ≤ s.size ∧ ints (sl s r.pos (f s r).2.pos) = T (f s r).1
theorem sl_append {s : ByteArray} {a b c : Nat} (h : a ≤ b) (h' : b ≤ c) : sl s a c = sl s a b ++ sl s b c := by
  unfold sl
  have e : c - a = (b - a) + (c - b) := by omega
  rw [e, List.take_add, List.drop_drop]
  rw [show a + (b - a) = b by omega]
theorem ints_sl {s : ByteArray} {a b c : Nat} (h : a ≤ b) (h' : b ≤ c) : ints (sl s a c) = ints (sl s a b) ++ ints (sl s b c) := by rw [sl_append h h', ints_append]
theorem rdV_canon (s : ByteArray) (b0 : Nat) : ∀ (f i n u m j : Nat), Opens (ints (sl s b0 i)) n u → b0 ≤ i → (i = b0 → n = 0) → rdV s b0 f i n u = some (m, j) → ints (sl s b0 j) = varB m
  | 0, _, _, _, _, _, _, _, _, h => by simp [rdV] at h
  | f + 1, i, n, u, m, j, hop, hi0, hn0, h => by
    rw [rdV] at h
    split at h
    · rename_i hi
      split at h
      · rename_i hb
        split at h
        · cases h
        · rename_i hx
          injection h with h
          injection h with h1 h2
          subst h1 h2
          rw [sl_snoc hi0 hi, ints_append]
          by_cases hz : (s[i]).toNat = 0
          · have hib : i = b0 := by
              have : ¬ b0 < i := fun x => hx (.inl ⟨hz, x⟩)
              omega
            have hn : n = 0 := hn0 hib
            subst hn
            subst hib
            rw [sl_self, hz, varB_last (by omega)]
            simp [ints, hz]
          · have e1 : (s[i]).toNat % 128 = (s[i]).toNat := by omega
            rw [e1, Nat.mul_comm, hop _ (by omega), varB_last (by omega)]
            rfl
      · rename_i hb
        refine rdV_canon s b0 f (i + 1) _ _ m j ?_ (by omega) (by omega) h
        rw [sl_snoc hi0 hi, ints_append]
        exact opens_more hop (by omega) (s[i]).toNat_lt
    · cases h
theorem canon_var : Canon rVar (fun n => varB n) := by
  intro s r hr hb
  unfold rVar at hb ⊢
  cases e : rVarO s r with
  | none => rw [e] at hb; cases hb
  | some x =>
    obtain ⟨n, j⟩ := x
    unfold rVarO at e
    split at e
    · cases e
    · rename_i h0
      have hp := rdV_pos s _ _ _ _ _ _ _ e
      refine ⟨by simpa using h0, by simp only; omega, by simp only; omega, ?_⟩
      exact rdV_canon s r.pos 5 r.pos 0 1 n j (by rw [sl_self]; exact opens_first) (Nat.le_refl _) (fun _ => rfl) e
theorem canon_byte : Canon rByte (fun n => [n]) := by
  intro s r hr hb
  unfold rByte at hb ⊢
  cases e : rTakeB s r 1 with
  | true => rw [e] at hb; cases hb
  | false =>
    unfold rTakeB at e
    simp only [Bool.or_eq_false_iff, decide_eq_false_iff_not] at e
    simp only [Bool.false_eq_true, if_false]
    refine ⟨e.1, by omega, by omega, ?_⟩
    have hi : r.pos < s.size := by omega
    rw [sl_snoc (Nat.le_refl _) hi, sl_self]
    have : s.data.toList.getD r.pos 0 = s[r.pos] := by
      rw [List.getD_eq_getElem?_getD, List.getElem?_eq_getElem (by simpa using hi)]
      rfl
    rw [this]
    rfl
theorem Canon.ahead {s : ByteArray} {a b c : Nat} {l k : List Int} (h : a ≤ b ∧ b ≤ s.size ∧ ints (sl s a b) = l) (h' : b ≤ c ∧ c ≤ s.size ∧ ints (sl s b c) = k) : a ≤ c ∧ c ≤ s.size ∧ ints (sl s a c) = l ++ k :=
  ⟨by omega, h'.2.1, by rw [ints_sl h.1 h'.1, h.2.2, h'.2.2]⟩
theorem canon_many {α : Type} {f : ByteArray → RS → α × RS} {T : α → List Int} (hf : Canon f T) (s : ByteArray) : ∀ (k : Nat) (r : RS), r.pos ≤ s.size → (rMany (f s) k r).2.bad = false →
    r.bad = false ∧ (rMany (f s) k r).1.length = k ∧ r.pos ≤ (rMany (f s) k r).2.pos ∧ (rMany (f s) k r).2.pos ≤ s.size ∧ ints (sl s r.pos (rMany (f s) k r).2.pos) = (rMany (f s) k r).1.flatMap T
  | 0, r, hr, hb => ⟨hb, rfl, Nat.le_refl _, hr, by simp [rMany, sl_self, ints]⟩
  | k + 1, r, hr, hb => by
    by_cases h0 : r.bad = true
    · rw [rMany_bad _ _ _ h0] at hb
      rw [h0] at hb
      cases hb
    · have h0 : r.bad = false := by simpa using h0
      rw [rMany_more _ _ _ h0] at hb ⊢
      simp only at hb ⊢
      by_cases h1 : (f s r).2.bad = true
      · rw [rMany_bad _ _ _ h1, h1] at hb
        cases hb
      · have h1 : (f s r).2.bad = false := by simpa using h1
        have c1 := hf s r hr h1
        have c2 := canon_many hf s k (f s r).2 c1.2.2.1 hb
        have c3 := Canon.ahead c1.2 c2.2.2
        refine ⟨h0, by simp [c2.2.1], c3.1, c3.2.1, ?_⟩
        rw [c3.2.2, List.flatMap_cons]
theorem canon_list {α : Type} {f : ByteArray → RS → α × RS} {T : α → List Int} (hf : Canon f T) : Canon (jList f) (fun l => varB l.length ++ l.flatMap T) := by
  intro s r hr hb
  unfold jList at hb ⊢
  by_cases h1 : (rVar s r).2.bad = true
  · rw [rMany_bad _ _ _ h1, h1] at hb
    cases hb
  · have h1 : (rVar s r).2.bad = false := by simpa using h1
    have c1 := canon_var s r hr h1
    have c2 := canon_many hf s _ _ c1.2.2.1 hb
    have c3 := Canon.ahead c1.2 c2.2.2
    exact ⟨c1.1, c3.1, c3.2.1, by rw [c3.2.2]; show _ = varB _ ++ _; rw [c2.2.1]⟩
theorem eight_front : ∀ (k b low : Nat), b < 256 → low < 256 ^ k → eightK (k + 1) (b * 256 ^ k + low) = (b : Int) :: eightK k low
  | 0, b, low, hb, hl => by
    have : low = 0 := by simpa using hl
    subst this
    simp [eightK]
    omega
  | k + 1, b, low, hb, hl => by
    have hp : (256 : Nat) ^ (k + 1) = 256 ^ k * 256 := Nat.pow_succ _ _
    have e : b * 256 ^ (k + 1) + low = (b * 256 ^ k) * 256 + low := by rw [hp, Nat.mul_assoc]
    have e1 : (b * 256 ^ (k + 1) + low) / 256 = b * 256 ^ k + low / 256 := by rw [e]; omega
    have e2 : (b * 256 ^ (k + 1) + low) % 256 = low % 256 := by rw [e]; omega
    rw [eightK, e1, e2, eight_front k b (low / 256) hb (by omega)]
    rw [List.cons_append]
    rfl
theorem jNum_canon (s : ByteArray) : ∀ (k x : Nat) (r : RS), x * 256 ^ k + 256 ^ k ≤ 18446744073709551616 → r.pos ≤ s.size → (jNum s k x r).2.bad = false →
    r.bad = false ∧ ∃ low, low < 256 ^ k ∧ (jNum s k x r).1 = x * 256 ^ k + low ∧ r.pos ≤ (jNum s k x r).2.pos ∧ (jNum s k x r).2.pos ≤ s.size ∧ ints (sl s r.pos (jNum s k x r).2.pos) = eightK k low
  | 0, x, r, hx, hr, hb => ⟨hb, 0, by simp, by simp [jNum], Nat.le_refl _, hr, by simp [jNum, sl_self, ints, eightK]⟩
  | k + 1, x, r, hx, hr, hb => by
    have hbd := rByte_pos s r hr
    rw [jNum] at hb ⊢
    obtain ⟨b, hb1⟩ : ∃ b : Nat, (rByte s r).1 = (b : Int) := ⟨(rByte s r).1.toNat, by omega⟩
    have hb2 : b < 256 := by omega
    rw [hb1] at hb ⊢
    simp only [Int.toNat_natCast] at hb ⊢
    have hp : (256 : Nat) ^ (k + 1) = 256 ^ k * 256 := Nat.pow_succ _ _
    have hk : 1 ≤ 256 ^ k := Nat.pos_of_ne_zero (by simp)
    have h1 : (x * 256 + b + 1) * 256 ^ k ≤ (x * 256 + 256) * 256 ^ k := Nat.mul_le_mul_right _ (by omega)
    have h2 : (x * 256 + 256) * 256 ^ k = x * 256 ^ (k + 1) + 256 ^ (k + 1) := by rw [hp]; simp only [Nat.add_mul, Nat.mul_assoc, Nat.mul_comm (256 ^ k) 256]
    have h3 : (x * 256 + b + 1) * 256 ^ k = (x * 256 + b) * 256 ^ k + 256 ^ k := by rw [Nat.add_mul, Nat.one_mul]
    have h4 : (x * 256 + b) * 1 ≤ (x * 256 + b) * 256 ^ k := Nat.mul_le_mul_left _ hk
    have h5 : (x * 256 + b) % 18446744073709551616 = x * 256 + b := Nat.mod_eq_of_lt (by omega)
    rw [h5] at hb ⊢
    obtain ⟨g0, low, g1, g2, g3, g4, g5⟩ := jNum_canon s k (x * 256 + b) (rByte s r).2 (by omega) hbd.1 hb
    have c1 := canon_byte s r hr g0
    have c3 := Canon.ahead c1.2 ⟨g3, g4, g5⟩
    refine ⟨c1.1, b * 256 ^ k + low, ?_, ?_, c3.1, c3.2.1, ?_⟩
    · have : (b + 1) * 256 ^ k ≤ 256 * 256 ^ k := Nat.mul_le_mul_right _ (by omega)
      rw [Nat.add_mul, Nat.one_mul] at this
      rw [hp, Nat.mul_comm (256 ^ k)]
      omega
    · rw [g2, hp, Nat.add_mul, Nat.mul_assoc x, Nat.mul_comm 256 (256 ^ k), Nat.add_assoc]
    · rw [c3.2.2, hb1, eight_front k b low hb2 g1]
      rfl
theorem canon_num (s : ByteArray) (r : RS) (hr : r.pos ≤ s.size) (hb : (jNum s 8 0 r).2.bad = false) :
    r.bad = false ∧ r.pos ≤ (jNum s 8 0 r).2.pos ∧ (jNum s 8 0 r).2.pos ≤ s.size ∧ ints (sl s r.pos (jNum s 8 0 r).2.pos) = eightK 8 (jNum s 8 0 r).1 ∧ (jNum s 8 0 r).1 < 18446744073709551616 := by
  obtain ⟨g0, low, g1, g2, g3, g4, g5⟩ := jNum_canon s 8 0 r (by decide) hr hb
  have e : (jNum s 8 0 r).1 = low := by rw [g2]; omega
  rw [e]
  exact ⟨g0, g3, g4, g5, by have : (256 : Nat) ^ 8 = 18446744073709551616 := by decide
                            omega⟩
theorem canon_short (s : ByteArray) (r : RS) (hr : r.pos ≤ s.size) (hb : (jShort s r).2.bad = false) :
    r.bad = false ∧ r.pos ≤ (jShort s r).2.pos ∧ (jShort s r).2.pos ≤ s.size ∧ ints (sl s r.pos (jShort s r).2.pos) = shortB (jShort s r).1 := by
  unfold jShort at hb ⊢
  cases e : jShortO s r with
  | none => rw [e] at hb; cases hb
  | some x =>
    obtain ⟨t, j⟩ := x
    unfold jShortO at e
    split at e
    · cases e
    · rename_i h0
      split at e
      · rename_i n j' hv
        split at e
        · rename_i hx
          injection e with e
          injection e with e1 e2
          subst e1 e2
          have hp := rdV_pos s _ _ _ _ _ _ _ hv
          have hc := rdV_canon s r.pos 5 r.pos 0 1 n j' (by rw [sl_self]; exact opens_first) (Nat.le_refl _) (fun _ => rfl) hv
          have hz : (s.extract j' (j' + n)).size = n := by rw [ByteArray.size_extract]; omega
          refine ⟨by simpa using h0, by simp only; omega, by simp only; omega, ?_⟩
          show ints (sl s r.pos (j' + n)) = shortB (s.extract j' (j' + n))
          rw [ints_sl (show r.pos ≤ j' by omega) (show j' ≤ j' + n by omega), hc]
          unfold shortB numsOf ints
          rw [hz, show sl s j' (j' + n) = (s.extract j' (j' + n)).data.toList from (Lib.extract_toList s _ _).symm.trans (ByteArray.toList_eq _)]
        · cases e
      · cases e
theorem canon_const : Canon jConst conT := by
  intro s r hr hb
  have hp := rByte_pos s r hr
  unfold jConst at hb ⊢
  by_cases h1 : (rByte s r).1 = 1
  · rw [if_pos h1] at hb ⊢
    have c2 := canon_num s (rByte s r).2 hp.1 hb
    have c1 := canon_byte s r hr c2.1
    have c3 := Canon.ahead c1.2 ⟨c2.2.1, c2.2.2.1, c2.2.2.2.1⟩
    refine ⟨c1.1, c3.1, c3.2.1, ?_⟩
    rw [c3.2.2]
    unfold conT
    simp [h1]
  · rw [if_neg h1] at hb ⊢
    by_cases h2 : (rByte s r).1 = 2
    · rw [if_pos h2] at hb ⊢
      have c2 := canon_short s (rByte s r).2 hp.1 hb
      have c1 := canon_byte s r hr c2.1
      have c3 := Canon.ahead c1.2 c2.2
      refine ⟨c1.1, c3.1, c3.2.1, ?_⟩
      rw [c3.2.2]
      unfold conT
      simp [h2]
    · rw [if_neg h2] at hb ⊢
      have c1 := canon_byte s r hr hb
      refine ⟨c1.1, c1.2.1, c1.2.2.1, ?_⟩
      rw [c1.2.2.2]
      unfold conT
      simp [h1, h2]
theorem canon_cap : Canon jCap capT := by
  intro s r hr hb
  have hp := rByte_pos s r hr
  unfold jCap at hb ⊢
  simp only at hb ⊢
  have hq : (jFlag s r).2.pos ≤ s.size := by
    unfold jFlag
    simp only
    split
    · exact hp.1
    · exact hp.1
  have c2 := canon_var s (jFlag s r).2 hq (by simpa using hb)
  have h1 : ¬ 1 < (rByte s r).1 := fun h => by
    have := c2.1
    unfold jFlag at this
    simp [h] at this
  have ef : jFlag s r = rByte s r := by
    unfold jFlag
    rw [if_neg h1]
  rw [ef] at c2 ⊢
  have c1 := canon_byte s r hr c2.1
  have c3 := Canon.ahead c1.2 c2.2
  refine ⟨c1.1, c3.1, c3.2.1, ?_⟩
  rw [c3.2.2]
  unfold capT
  simp only [decide_eq_true_eq, Int.toNat_natCast]
  have : (rByte s r).1 = 0 ∨ (rByte s r).1 = 1 := by omega
  rcases this with h | h <;> simp [h]
theorem canon_ins : Canon rIns insT := by
  intro s r hr hb
  have hp := rByte_pos s r hr
  unfold rIns at hb ⊢
  simp only at hb ⊢
  have hq := rVar_pos s (rByte s r).2 hp.1
  have c3 := canon_var s _ hq.1 hb
  have c2 := canon_var s _ hp.1 c3.1
  have c1 := canon_byte s r hr c2.1
  have d := Canon.ahead c1.2 (Canon.ahead c2.2 c3.2)
  refine ⟨c1.1, d.1, d.2.1, ?_⟩
  rw [d.2.2]
  rfl
theorem canon_hnd : Canon rHnd hndT := by
  intro s r hr hb
  unfold rHnd at hb ⊢
  simp only at hb ⊢
  have hp := rVar_pos s r hr
  have hq := rVar_pos s _ hp.1
  have c3 := canon_var s _ hq.1 hb
  have c2 := canon_var s _ hp.1 c3.1
  have c1 := canon_var s r hr c2.1
  have d := Canon.ahead (Canon.ahead c1.2 c2.2) c3.2
  refine ⟨c1.1, d.1, d.2.1, ?_⟩
  rw [d.2.2]
  rfl
theorem many_pos {α : Type} {f : ByteArray → RS → α × RS} (s : ByteArray) (hf : ∀ r, r.pos ≤ s.size → (f s r).2.pos ≤ s.size) : ∀ (k : Nat) (r : RS), r.pos ≤ s.size → (rMany (f s) k r).2.pos ≤ s.size
  | 0, r, hr => hr
  | k + 1, r, hr => by
    unfold rMany
    split
    · exact hr
    · exact many_pos s hf k _ (hf r hr)
theorem list_pos {α : Type} {f : ByteArray → RS → α × RS} (s : ByteArray) (hf : ∀ r, r.pos ≤ s.size → (f s r).2.pos ≤ s.size) (r : RS) (hr : r.pos ≤ s.size) : (jList f s r).2.pos ≤ s.size :=
  many_pos s hf _ _ (rVar_pos s r hr).1
theorem flag_pos (s : ByteArray) (r : RS) (hr : r.pos ≤ s.size) : (jFlag s r).2.pos ≤ s.size := by
  have hp := rByte_pos s r hr
  unfold jFlag
  simp only
  split
  · exact hp.1
  · exact hp.1
theorem jCap_pos (s : ByteArray) (r : RS) (hr : r.pos ≤ s.size) : (jCap s r).2.pos ≤ s.size := (rVar_pos s _ (flag_pos s r hr)).1
theorem rIns_pos (s : ByteArray) (r : RS) (hr : r.pos ≤ s.size) : (rIns s r).2.pos ≤ s.size := (rVar_pos s _ (rVar_pos s _ (rByte_pos s r hr).1).1).1
theorem rHnd_pos (s : ByteArray) (r : RS) (hr : r.pos ≤ s.size) : (rHnd s r).2.pos ≤ s.size := (rVar_pos s _ (rVar_pos s _ (rVar_pos s r hr).1).1).1
theorem canon_func : Canon jFunc funT := by
  intro s r hr hb
  unfold jFunc at hb ⊢
  simp only at hb ⊢
  have p1 := rVar_pos s r hr
  have p2 := rVar_pos s _ p1.1
  have p3 := list_pos s (fun r hr => jCap_pos s r hr) _ p2.1
  have p4 := list_pos s (fun r hr => rIns_pos s r hr) _ p3
  have c5 := canon_list canon_hnd s _ p4 hb
  have c4 := canon_list canon_ins s _ p3 c5.1
  have c3 := canon_list canon_cap s _ p2.1 c4.1
  have c2 := canon_var s _ p1.1 c3.1
  have c1 := canon_var s r hr c2.1
  have d := Canon.ahead c1.2 (Canon.ahead c2.2 (Canon.ahead c3.2 (Canon.ahead c4.2 c5.2)))
  refine ⟨c1.1, d.1, d.2.1, ?_⟩
  rw [d.2.2]
  unfold funT funHead
  simp only [List.append_assoc, Int.toNat_natCast]
theorem canon_consts : Canon (jList jConst) (fun l => varB l.length ++ l.flatMap conT) := canon_list canon_const
theorem canon_funcs : Canon (jList jFunc) (fun l => varB l.length ++ l.flatMap funT) := canon_list canon_func
theorem image_canon (s : ByteArray) (hs : 3 ≤ s.size) (hm : ints (sl s 0 3) = [83, 67, 49]) (hb : (jImage s ⟨3, false⟩).2.bad = false) (he : (jImage s ⟨3, false⟩).2.pos = s.size) (hc : ∀ r : RS, r.pos ≤ s.size → (jConst s r).2.pos ≤ s.size) :
    ints s.data.toList = imgT (jImage s ⟨3, false⟩).1 := by
  unfold jImage at hb he ⊢
  simp only at hb he ⊢
  have p1 := list_pos (f := jConst) s hc ⟨3, false⟩ hs
  have c2 := canon_funcs s _ p1 hb
  have c1 := canon_consts s ⟨3, false⟩ hs c2.1
  have d := Canon.ahead ⟨Nat.zero_le 3, hs, hm⟩ (Canon.ahead c1.2 c2.2)
  have e := d.2.2
  rw [he] at e
  have hz : sl s 0 s.size = s.data.toList := by
    unfold sl
    rw [List.drop_zero, Nat.sub_zero, List.take_of_length_le (by rw [Lib.size_eq]; exact Nat.le_refl _)]
  rw [hz] at e
  rw [e]
  unfold imgT imgHead
  simp only [List.append_assoc]
end Go.Proofs.Ytedhfdgcofboeaa
namespace Go.Proofs.Ytedhfdgcofboeaa
open Go.RowKit
set_option linter.unusedVariables false
theorem jNum_fold (s : ByteArray) : ∀ (k x : Nat) (r : RS), (jNum s k x r).2.bad = false → r.bad = false ∧ (k = 0 ∨ r.pos + k ≤ s.size) ∧ jNum s k x r = ((sl s r.pos (r.pos + k)).foldl (fun x b => (x * 256 + b.toNat) % 18446744073709551616) x, ⟨r.pos + k, false⟩)
  | 0, x, r, hb => by
    have h0 : r.bad = false := hb
    refine ⟨h0, .inl rfl, ?_⟩
    obtain ⟨p, b⟩ := r
    simp only at h0
    subst h0
    simp [jNum, sl_self]
  | k + 1, x, r, hb => by
    rw [jNum] at hb ⊢
    obtain ⟨g0, g1, g2⟩ := jNum_fold s k _ _ hb
    have hrb : (rByte s r).2 = ⟨r.pos + 1, false⟩ ∧ r.bad = false ∧ r.pos < s.size ∧ (rByte s r).1 = (((s.data.toList.getD r.pos 0).toNat : Nat) : Int) := by
      unfold rByte at g0 ⊢
      cases e : rTakeB s r 1 with
      | true => rw [e] at g0; cases g0
      | false =>
        unfold rTakeB at e
        simp only [Bool.or_eq_false_iff, decide_eq_false_iff_not] at e
        simp only [Bool.false_eq_true, if_false]
        exact ⟨trivial, e.1, by omega, trivial⟩
    obtain ⟨e1, e2, e3, e4⟩ := hrb
    rw [g2, e1, e4]
    simp only [Int.toNat_natCast]
    rw [e1] at g1
    simp only at g1
    refine ⟨e2, .inr (by omega), ?_⟩
    have ec : sl s r.pos (r.pos + (k + 1)) = s[r.pos] :: sl s (r.pos + 1) (r.pos + 1 + k) := by
      rw [sl_append (show r.pos ≤ r.pos + 1 by omega) (show r.pos + 1 ≤ r.pos + (k + 1) by omega), sl_snoc (Nat.le_refl _) e3, sl_self, show r.pos + (k + 1) = r.pos + 1 + k by omega]
      rfl
    have : s.data.toList.getD r.pos 0 = s[r.pos] := by
      rw [List.getD_eq_getElem?_getD, List.getElem?_eq_getElem (by simpa using e3)]
      rfl
    rw [ec, List.foldl_cons, this, show r.pos + 1 + k = r.pos + (k + 1) by omega]
theorem sim_const (s : ByteArray) (r : RS) (hb : (jConst s r).2.bad = false) : rConst s r = jConst s r := by
  unfold jConst at hb ⊢
  unfold rConst
  by_cases h1 : (rByte s r).1 = 1
  · rw [if_pos h1] at hb ⊢
    obtain ⟨g0, g1, g2⟩ := jNum_fold s 8 0 _ hb
    have h2 : ¬ (rByte s r).1 = 2 := by omega
    simp only [if_pos h1, if_neg h2]
    have hk : rTakeB s (rByte s r).2 8 = false := by
      unfold rTakeB
      rw [g0, Bool.false_or, decide_eq_false_iff_not]
      omega
    have ht : rTake s (rByte s r).2 8 = (s.extract (rByte s r).2.pos ((rByte s r).2.pos + 8), ⟨(rByte s r).2.pos + 8, false⟩) := by
      unfold rTake
      rw [hk]
      rfl
    rw [ht, g2]
    have hx : (s.extract (rByte s r).2.pos ((rByte s r).2.pos + 8)).data.toList = sl s (rByte s r).2.pos ((rByte s r).2.pos + 8) := ((Lib.extract_toList s _ _).symm.trans (ByteArray.toList_eq _)).symm
    simp only [hx]
    rfl
  · rw [if_neg h1] at hb ⊢
    by_cases h2 : (rByte s r).1 = 2
    · rw [if_pos h2] at hb ⊢
      simp only [if_neg h1, if_pos h2]
      have key : ∃ n j, rVar s (rByte s r).2 = (n, ⟨j, false⟩) ∧ n ≤ 12000 ∧ j + n ≤ s.size ∧ jShort s (rByte s r).2 = (s.extract j (j + n), ⟨j + n, false⟩) := by
        unfold jShort at hb ⊢
        cases e : jShortO s (rByte s r).2 with
        | none => rw [e] at hb; cases hb
        | some x =>
          obtain ⟨t, j⟩ := x
          unfold jShortO at e
          split at e
          · cases e
          · rename_i h0
            split at e
            · rename_i n j' hv
              split at e
              · rename_i hx
                injection e with e
                injection e with e1 e2
                subst e1 e2
                refine ⟨n, j', ?_, hx.1, hx.2, rfl⟩
                unfold rVar rVarO
                rw [if_neg h0, hv]
              · cases e
            · cases e
      obtain ⟨n, j, k1, k2, k3, k4⟩ := key
      have hk : rTakeB s ⟨j, false⟩ n = false := by
        unfold rTakeB
        rw [Bool.false_or, decide_eq_false_iff_not]
        simp only
        omega
      have ht : rTake s ⟨j, false⟩ n = (s.extract j (j + n), ⟨j + n, false⟩) := by
        unfold rTake
        rw [hk]
        rfl
      rw [k4, k1]
      simp only
      rw [ht]
      rfl
    · rw [if_neg h2] at hb ⊢
      simp only [if_neg h1, if_neg h2]
      rfl
theorem sim_cap (s : ByteArray) (r : RS) (hr : r.pos ≤ s.size) (hb : (jCap s r).2.bad = false) : rCap s r = jCap s r := by
  have c2 := canon_var s (jFlag s r).2 (flag_pos s r hr) hb
  have h1 : ¬ 1 < (rByte s r).1 := fun h => by
    have := c2.1
    unfold jFlag at this
    simp [h] at this
  have ef : jFlag s r = rByte s r := by
    unfold jFlag
    rw [if_neg h1]
  unfold jCap rCap
  rw [ef]
theorem sim_many {α : Type} {f g : ByteArray → RS → α × RS} (s : ByteArray) (P : α → Prop) (hp : ∀ r, r.pos ≤ s.size → (f s r).2.pos ≤ s.size)
    (hc : ∀ r, r.pos ≤ s.size → (f s r).2.bad = false → P (f s r).1 → g s r = f s r) : ∀ (k : Nat) (r : RS), r.pos ≤ s.size → (rMany (f s) k r).2.bad = false → (∀ x ∈ (rMany (f s) k r).1, P x) → rMany (g s) k r = rMany (f s) k r
  | 0, r, hr, hb, hP => rfl
  | k + 1, r, hr, hb, hP => by
    by_cases h0 : r.bad = true
    · rw [rMany_bad _ _ _ h0, h0] at hb
      cases hb
    · have h0 : r.bad = false := by simpa using h0
      rw [rMany_more _ _ _ h0] at hb hP
      rw [rMany_more _ _ _ h0, rMany_more _ _ _ h0]
      simp only at hb hP
      by_cases h1 : (f s r).2.bad = true
      · rw [rMany_bad _ _ _ h1, h1] at hb
        cases hb
      · have h1 : (f s r).2.bad = false := by simpa using h1
        rw [hc r hr h1 (hP _ (by simp))]
        rw [sim_many s P hp hc k (f s r).2 (hp r hr) hb (fun x hx => hP x (by simp [hx]))]
theorem many_len {α : Type} (f : RS → α × RS) : ∀ (k : Nat) (r : RS), (rMany f k r).2.bad = false → (rMany f k r).1.length = k
  | 0, r, _ => rfl
  | k + 1, r, hb => by
    by_cases h0 : r.bad = true
    · rw [rMany_bad _ _ _ h0, h0] at hb
      cases hb
    · have h0 : r.bad = false := by simpa using h0
      rw [rMany_more _ _ _ h0] at hb ⊢
      simp only [List.length_cons] at hb ⊢
      rw [many_len f k _ hb]
theorem sim_list {α : Type} {f g : ByteArray → RS → α × RS} (s : ByteArray) (P : α → Prop) (hp : ∀ r, r.pos ≤ s.size → (f s r).2.pos ≤ s.size)
    (hc : ∀ r, r.pos ≤ s.size → (f s r).2.bad = false → P (f s r).1 → g s r = f s r) (r : RS) (hr : r.pos ≤ s.size) (hb : (jList f s r).2.bad = false) (hP : ∀ x ∈ (jList f s r).1, P x) (hn : (jList f s r).1.length ≤ 1000) :
    rMany (g s) (rCount s r).1 (rCount s r).2 = jList f s r := by
  unfold jList at hb hP hn ⊢
  rw [many_len _ _ _ hb] at hn
  unfold rCount
  simp only
  rw [Nat.min_eq_left hn]
  exact sim_many s P hp hc _ _ (rVar_pos s r hr).1 hb hP
def Fine15 (f : PFun) : Prop := f.caps.length ≤ 1000 ∧ f.code.length ≤ 1000 ∧ f.hnds.length ≤ 1000
theorem sim_func (s : ByteArray) (r : RS) (hr : r.pos ≤ s.size) (hb : (jFunc s r).2.bad = false) (hF : Fine15 (jFunc s r).1) : rFunc s r = jFunc s r := by
  unfold jFunc at hb hF ⊢
  unfold rFunc
  simp only at hb hF ⊢
  have p1 := rVar_pos s r hr
  have p2 := rVar_pos s _ p1.1
  have p3 := list_pos s (fun r hr => jCap_pos s r hr) _ p2.1
  have p4 := list_pos s (fun r hr => rIns_pos s r hr) _ p3
  have c5 := canon_list canon_hnd s _ p4 hb
  have c4 := canon_list canon_ins s _ p3 c5.1
  have c3 := canon_list canon_cap s _ p2.1 c4.1
  obtain ⟨f1, f2, f3⟩ := hF
  simp only at f1 f2 f3
  rw [sim_list (g := rCap) s (fun _ => True) (fun r hr => jCap_pos s r hr) (fun r hr h _ => sim_cap s r hr h) _ p2.1 c4.1 (fun _ _ => trivial) f1]
  rw [sim_list (g := rIns) s (fun _ => True) (fun r hr => rIns_pos s r hr) (fun r hr h _ => rfl) _ p3 c5.1 (fun _ _ => trivial) f2]
  rw [sim_list (g := rHnd) s (fun _ => True) (fun r hr => rHnd_pos s r hr) (fun r hr h _ => rfl) _ p4 hb (fun _ _ => trivial) f3]
theorem jNum_pos (s : ByteArray) : ∀ (k x : Nat) (r : RS), r.pos ≤ s.size → (jNum s k x r).2.pos ≤ s.size
  | 0, x, r, hr => hr
  | k + 1, x, r, hr => by rw [jNum]; exact jNum_pos s k _ _ (rByte_pos s r hr).1
theorem jShort_pos (s : ByteArray) (r : RS) (hr : r.pos ≤ s.size) : (jShort s r).2.pos ≤ s.size := by
  by_cases h : (jShort s r).2.bad = false
  · exact (canon_short s r hr h).2.2.1
  · unfold jShort at h ⊢
    cases e : jShortO s r with
    | none => exact hr
    | some x => rw [e] at h; exact absurd rfl h
theorem jConst_pos (s : ByteArray) (r : RS) (hr : r.pos ≤ s.size) : (jConst s r).2.pos ≤ s.size := by
  have hp := rByte_pos s r hr
  unfold jConst
  split
  · exact jNum_pos s 8 0 _ hp.1
  · split
    · exact jShort_pos s _ hp.1
    · exact hp.1
theorem jFunc_pos (s : ByteArray) (r : RS) (hr : r.pos ≤ s.size) : (jFunc s r).2.pos ≤ s.size := by
  have p1 := rVar_pos s r hr
  have p2 := rVar_pos s _ p1.1
  have p3 := list_pos s (fun r hr => jCap_pos s r hr) _ p2.1
  have p4 := list_pos s (fun r hr => rIns_pos s r hr) _ p3
  exact list_pos s (fun r hr => rHnd_pos s r hr) _ p4
theorem sim_image (s : ByteArray) (hs : 3 ≤ s.size) (hb : (jImage s ⟨3, false⟩).2.bad = false) (hc : (jImage s ⟨3, false⟩).1.consts.length ≤ 1000) (hf : (jImage s ⟨3, false⟩).1.funcs.length ≤ 1000) (hF : ∀ f ∈ (jImage s ⟨3, false⟩).1.funcs, Fine15 f) :
    rImage s false = jImage s ⟨3, false⟩ := by
  have h3 : (rTake s ⟨0, false⟩ 3).2 = ⟨3, false⟩ := by
    unfold rTake rTakeB
    rw [Bool.false_or, decide_eq_false (by simp only; omega)]
    rfl
  unfold jImage at hb hc hf hF ⊢
  unfold rImage
  simp only at hb hc hf hF ⊢
  rw [h3]
  have p1 := list_pos (f := jConst) s (fun r hr => jConst_pos s r hr) ⟨3, false⟩ hs
  have c2 := canon_funcs s _ p1 hb
  rw [sim_list (g := rConst) s (fun _ => True) (fun r hr => jConst_pos s r hr) (fun r hr h _ => sim_const s r h) ⟨3, false⟩ hs c2.1 (fun _ _ => trivial) hc]
  rw [sim_list (g := rFunc) s Fine15 (fun r hr => jFunc_pos s r hr) (fun r hr h hP => sim_func s r hr h hP) _ p1 hb hF hf]
end Go.Proofs.Ytedhfdgcofboeaa
namespace Go.Proofs
open Go.Shelf
def Try.laysM316_ren : Go.Shelf.Ren := ⟨fun | 316 => 73 | n => n, fun | 9 => 9 | 3 => 3 | 4 => 4 | 37 => 78 | 0 => 0 | 127 => 133 | 5 => 5 | n => n, fun | n => n⟩
theorem Try.laysM316 : Go.Proofs.LaysM.n316 Try.prog Try.laysM316_ren := {
  mixed := by kernel_rfl
  f316 := Try.func73.trans (congrArg some (by kernel_rfl))
  t0 := Try.underlying0
  a0 := Try.isAgg0
  z0 := Try.sizeOf0
  v0 := Try.zeroValue0
  t3 := Try.underlying3
  a3 := Try.isAgg3
  z3 := Try.sizeOf3
  v3 := Try.zeroValue3
  t4 := Try.underlying4
  a4 := Try.isAgg4
  z4 := Try.sizeOf4
  v4 := Try.zeroValue4
  t9 := Try.underlying9
  a9 := Try.isAgg9
  z9 := Try.sizeOf9
  v9 := Try.zeroValue9
  t37 := Try.underlying78
  a37 := Try.isAgg78
  z37 := Try.sizeOf78
  v37 := Try.zeroValue78
  t127 := Try.underlying133
  a127 := Try.isAgg133
  z127 := Try.sizeOf133
  v127 := Try.zeroValue133
  t5 := Try.underlying5
  a5 := Try.isAgg5
  z5 := Try.sizeOf5
  v5 := Try.zeroValue5
  i0 := by kernel_rfl
  i3 := by kernel_rfl
  i4 := by kernel_rfl
  i5 := by kernel_rfl
  i9 := by kernel_rfl
  i37 := by kernel_rfl
  i127 := by kernel_rfl }
open Go.RowKit in
theorem Try.stringslite_Clone (s : ByteArray) (w : World) (hlim : s.size ≤ 281474976710656) :
    Calls Try.prog 73 #[.string s] w fun e w' => e = .returned (.string s) ∧ Below w.heap.size w w' := Any.stringslite_Clone Try.laysM316 s w hlim
def Try.lays206_ren : Go.Shelf.Ren := ⟨fun | 206 => 42 | n => n, fun | 9 => 9 | 4 => 4 | 3 => 3 | n => n, fun | n => n⟩
def Try.lays99_ren : Go.Shelf.Ren := ⟨fun | 99 => 17 | 206 => 42 | n => n, fun | 9 => 9 | 4 => 4 | 3 => 3 | n => n, fun | n => n⟩
theorem Try.lays99 : Go.Proofs.Lays.n99 Try.prog Try.lays99_ren := {
  mixed := by kernel_rfl
  f99 := Try.func17.trans (congrArg some (by kernel_rfl))
  f206 := Try.func42.trans (congrArg some (by kernel_rfl))
  t3 := Try.underlying3
  a3 := Try.isAgg3
  z3 := Try.sizeOf3
  v3 := Try.zeroValue3
  t4 := Try.underlying4
  a4 := Try.isAgg4
  z4 := Try.sizeOf4
  v4 := Try.zeroValue4
  t9 := Try.underlying9
  a9 := Try.isAgg9
  z9 := Try.sizeOf9
  v9 := Try.zeroValue9 }
open Go.RowKit Go.Lib in
theorem Try.strings_HasPrefix (s p : ByteArray) (w : World) :
    Calls Try.prog 17 #[.string s, .string p] w fun e w' => e = .returned (.bool (Lib.hasPrefix s.data.toList p.data.toList)) ∧ w' = w := Any.strings_HasPrefix Try.lays99 s p w
end Go.Proofs
namespace Go.Proofs.Ytedhfdgcofboeaa
open Go.RowKit
set_option linter.unusedVariables false
set_option maxHeartbeats 400000 in
set_option maxRecDepth 100000 in
theorem stringsClone (s : ByteArray) (w : World) (h : s.size ≤ 1048576) :
    Calls Try.prog 41 #[.string s] w fun e w' => e = .returned (.string s) ∧ Below w.heap.size w w' := by
  go_enter Try.func41, Try.ntmps41
  go_wp2_with (go_at_call 73; refine (Try.stringslite_Clone s _ (by omega)).mono ?_; rintro e w' ⟨rfl, hb⟩)
  go_ret
  exact ⟨rfl, by assumption⟩
def rsOut (s : ByteArray) : Option (Nat × Nat) → Value
  | some (n, j) => if n ≤ 12000 ∧ j + n ≤ s.size then .tuple #[.string (s.extract j (j + n)), .int .i64 ((j + n : Nat) : Int), .bool true] else .tuple #[.string ⟨#[]⟩, .int .i64 0, .bool false]
  | none => .tuple #[.string ⟨#[]⟩, .int .i64 0, .bool false]
theorem rdV_place {s : ByteArray} {b0 : Nat} : ∀ (f i n u : Nat) {x j : Nat}, rdV s b0 f i n u = some (x, j) → i < j ∧ j ≤ s.size ∧ x ≤ 1000000000
  | 0, _, _, _, _, _, h => by simp [rdV] at h
  | f + 1, i, n, u, x, j, h => by
    rw [rdV] at h
    split at h
    · split at h
      · split at h
        · simp at h
        · simp only [Option.some.injEq, Prod.mk.injEq] at h
          omega
      · have := rdV_place f _ _ _ h
        omega
    · simp at h
set_option maxHeartbeats 1000000 in
set_option maxRecDepth 100000 in
theorem implReadShort_in (s : ByteArray) (b0 : Nat) (w : World) (hs : s.size ≤ 1048576) (hb : b0 ≤ s.size) :
    Calls Try.prog 75 #[.string s, .int .i64 b0] w fun e w' => e = .returned (rsOut s (rdV s b0 5 b0 0 1)) ∧ Below w.heap.size w w' := by
  cases hR : rdV s b0 5 b0 0 1 with
  | none =>
    have cI := fun w => implReadVar_none s b0 w hs hb hR
    clear hR
    go_enter Try.func75, Try.ntmps75
    go_wp2_with (go_at_call 77; refine (cI _).mono ?_; rintro e w' ⟨rfl, rfl⟩)
    go_ret3
    exact ⟨rfl, Below.refl _ _⟩
  | some p =>
    obtain ⟨n, j⟩ := p
    have cI := fun w => implReadVar_some s b0 w hs hb hR
    obtain ⟨hj1, hj2, hn⟩ := rdV_place _ _ _ _ hR
    clear hR
    by_cases h1 : n ≤ 12000
    · by_cases h2 : j + n ≤ s.size
      · have E : Hid (rsOut s (some (n, j)) = .tuple #[.string (s.extract j (j + n)), .int .i64 ((j + n : Nat) : Int), .bool true]) := if_pos ⟨h1, h2⟩
        have hx : (s.extract j (j + n)).size ≤ 1048576 := by rw [ByteArray.size_extract]; omega
        go_enter Try.func75, Try.ntmps75
        go_wp2_with (first | (go_at_call 77; refine (cI _).mono ?_; rintro e w' ⟨rfl, rfl⟩) | (go_at_call 41; refine (stringsClone _ _ hx).mono ?_; rintro e w' ⟨rfl, hbel⟩))
        go_ret3
        exact ⟨by rw [E.out]; rfl, by assumption⟩
      · have E : Hid (rsOut s (some (n, j)) = .tuple #[.string ⟨#[]⟩, .int .i64 0, .bool false]) := if_neg (by omega)
        go_enter Try.func75, Try.ntmps75
        go_wp2_with (go_at_call 77; refine (cI _).mono ?_; rintro e w' ⟨rfl, rfl⟩)
        go_ret3
        exact ⟨by rw [E.out]; rfl, Below.refl _ _⟩
    · have E : Hid (rsOut s (some (n, j)) = .tuple #[.string ⟨#[]⟩, .int .i64 0, .bool false]) := if_neg (by omega)
      go_enter Try.func75, Try.ntmps75
      go_wp2_with (go_at_call 77; refine (cI _).mono ?_; rintro e w' ⟨rfl, rfl⟩)
      go_ret3
      exact ⟨by rw [E.out]; rfl, Below.refl _ _⟩
end Go.Proofs.Ytedhfdgcofboeaa
