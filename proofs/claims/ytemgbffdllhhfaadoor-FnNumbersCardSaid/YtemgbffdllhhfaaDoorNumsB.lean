/-
  What is written is read back: numbers and short texts in bytes, figures of sixteen, decimal figures.
-/
import Derived.Test.YtemgbffdllhhfaaDoorReadB
import Derived.Test.YtemgbffdllhhfaaDoorUnhexB
import Derived.Test.YtemgbffdllhhfaaDoorRDecB
namespace Go.Proofs.YtemgbffdllhhfaaDoor
open Go.RowKit

theorem varB_byte (n : Nat) : ∀ z ∈ varB n, 0 ≤ z ∧ z < 256 := by
  induction n using Nat.strongRecOn with
  | ind n ih =>
    intro z hz
    by_cases h : 127 < n
    · rw [varB_more h, List.mem_cons] at hz
      rcases hz with hz | hz
      · subst hz; omega
      · exact ih _ (by omega) z hz
    · rw [varB_last (by omega), List.mem_singleton] at hz
      subst hz; omega

/-- reading goes through the bytes of a number: q is that number; at i they stand -/
theorem rdV_var (s : ByteArray) (b0 : Nat) : ∀ (f q i n u : Nat), Unit128 f u → n + q * u ≤ 1000000000 → (∀ j (hj : j < (varB q).length), ∃ h : i + j < s.size, ((s[i + j]'h).toNat : Int) = (varB q)[j]) → (b0 < i → 0 < q) → b0 ≤ i → (f < 5 → b0 < i) → rdV s b0 f i n u = some (n + q * u, i + (varB q).length)
  | 0, q, i, n, u, hu, hle, hb, hq, _, hfi => by
    exfalso
    have := unit_zero hu
    subst this
    have h1 := hq (hfi (by omega))
    have h2 : 1 * 34359738368 ≤ q * 34359738368 := Nat.mul_le_mul_right _ h1
    omega
  | f + 1, q, i, n, u, hu, hle, hb, hq, hbi, hfi => by
    obtain ⟨hu1, hu2, hu3, hf⟩ := unit_step hu
    obtain ⟨h0, e0⟩ := hb 0 (varB_pos q)
    simp only [Nat.add_zero] at h0 e0
    by_cases h : 127 < q
    · have e1 : (s[i]).toNat = q % 128 + 128 := by
        have : (varB q)[0]'(varB_pos q) = ((q % 128 + 128 : Nat) : Int) := by simp only [varB_more h, List.getElem_cons_zero]
        rw [this] at e0
        omega
      rw [rdV_more h0 (by omega), e1, show (q % 128 + 128) % 128 = q % 128 by omega]
      have key : n + q % 128 * u + q / 128 * (u * 128) = n + q * u := by
        have e : q * u = (q % 128) * u + (q / 128) * (u * 128) := by
          conv => lhs; rw [← Nat.mod_add_div q 128]
          rw [Nat.add_mul, Nat.mul_comm 128 (q / 128), Nat.mul_assoc, Nat.mul_comm 128 u]
        omega
      have hl : (varB q).length = (varB (q / 128)).length + 1 := by rw [varB_more h]; rfl
      have ih := rdV_var s b0 f (q / 128) (i + 1) (n + q % 128 * u) (u * 128) hu1 (by rw [key]; exact hle) (fun j hj => by
        obtain ⟨hx, ex⟩ := hb (j + 1) (by omega)
        have e2 : i + 1 + j = i + (j + 1) := by omega
        refine ⟨by omega, ?_⟩
        have e3 : (varB q)[j + 1]'(by omega) = (varB (q / 128))[j] := by simp only [varB_more h, List.getElem_cons_succ]
        rw [← e3, ← ex]
        simp only [e2]) (fun _ => by omega) (by omega) (fun _ => by omega)
      rw [ih, key, hl]
      congr 2
      omega
    · have e1 : (s[i]).toNat = q := by
        have : (varB q)[0]'(varB_pos q) = (q : Int) := by simp only [varB_last (show q ≤ 127 by omega), List.getElem_cons_zero]
        rw [this] at e0
        omega
      have e2 : q % 128 = q := by omega
      rw [rdV_ok h0 (by omega) (by rw [e1, e2]; omega), e1, e2, varB_last (by omega)]
      rfl

theorem strOfNums_get {xs : List Int} {j : Nat} (h : j < (strOfNums xs).size) : (strOfNums xs)[j] = UInt8.ofNat ((xs[j]'(by rw [← strOfNums_size]; exact h))).toNat := by
  have hl : j < ((xs.map fun n => UInt8.ofNat n.toNat)).length := by rw [List.length_map, ← strOfNums_size]; exact h
  have e : (strOfNums xs)[j] = ((xs.map fun n => UInt8.ofNat n.toNat))[j]'hl := rfl
  exact e.trans (List.getElem_map _)
theorem byte_back {z : Int} (h0 : 0 ≤ z) (h : z < 256) : ((UInt8.ofNat z.toNat).toNat : Int) = z := by
  simp; omega

theorem get_append_right {a b : ByteArray} {j : Nat} (h : a.size + j < (a ++ b).size) (hb : j < b.size) : (a ++ b)[a.size + j] = b[j] := by
  have e1 : (a ++ b)[a.size + j] = (a ++ b).data[a.size + j]'h := rfl
  have e2 : b[j] = b.data[j]'hb := rfl
  rw [e1, e2]
  simp only [ByteArray.data_append]
  rw [Array.getElem_append_right (by show a.data.size ≤ _; exact Nat.le_add_right _ _)]
  congr 1
  show a.size + j - a.data.size = j
  have : a.data.size = a.size := rfl
  omega
theorem get_append_left {a b : ByteArray} {j : Nat} (h : j < (a ++ b).size) (ha : j < a.size) : (a ++ b)[j] = a[j] := by
  have e1 : (a ++ b)[j] = (a ++ b).data[j]'h := rfl
  have e2 : a[j] = a.data[j]'ha := rfl
  rw [e1, e2]
  simp only [ByteArray.data_append]
  rw [Array.getElem_append_left (show j < a.data.size from ha)]

/-- a number's bytes behind a, with c behind them, are read at the place behind a -/
theorem read_var {a c : ByteArray} {q : Nat} (hq : q ≤ 1000000000) : rdV (a ++ strOfNums (varB q) ++ c) a.size 5 a.size 0 1 = some (q, a.size + (strOfNums (varB q)).size) := by
  have h := rdV_var (a ++ strOfNums (varB q) ++ c) a.size 5 q a.size 0 1 unit_first (by omega) (fun j hj => by
    have hj' : j < (strOfNums (varB q)).size := by rw [strOfNums_size]; exact hj
    have hx : a.size + j < (a ++ strOfNums (varB q)).size := by rw [ByteArray.size_append]; omega
    have hy : a.size + j < (a ++ strOfNums (varB q) ++ c).size := by rw [ByteArray.size_append]; omega
    refine ⟨hy, ?_⟩
    rw [get_append_left hy hx, get_append_right hx hj', strOfNums_get hj']
    exact byte_back (varB_byte q _ (List.getElem_mem hj)).1 (varB_byte q _ (List.getElem_mem hj)).2) (fun h => by omega) (Nat.le_refl _) (fun h => by omega)
  rw [h, strOfNums_size]
  simp

theorem fig_hv : ∀ x : Fin 16, hv (fig x.val) = (x.val : Int) := by decide
theorem fig_hv' {x : Nat} (h : x < 16) : hv (fig x) = (x : Int) := fig_hv ⟨x, h⟩
theorem fig_lt {x : Nat} (h : x < 16) : fig x < 256 := by unfold fig; split <;> omega
theorem fig_byte {x : Nat} (h : x < 16) : (UInt8.ofNat ((fig x : Nat) : Int).toNat).toNat = fig x := by
  have := fig_lt h
  simp; omega

/-- the bytes of the figures of l -/
def hexBytes (l : List UInt8) : List UInt8 := (hexOf l).map fun n => UInt8.ofNat n.toNat
theorem hexBytes_cons (c : UInt8) (l : List UInt8) : hexBytes (c :: l) = UInt8.ofNat ((fig (c.toNat / 16) : Nat) : Int).toNat :: UInt8.ofNat ((fig (c.toNat % 16) : Nat) : Int).toNat :: hexBytes l := rfl
theorem hexBytes_ok (l : List UInt8) : (hexBytes l).all okH = true := by
  induction l with
  | nil => rfl
  | cons c l ih =>
    have h := c.toNat_lt
    rw [hexBytes_cons, List.all_cons, List.all_cons, ih, Bool.and_true]
    simp only [okH, fig_byte (show c.toNat / 16 < 16 by omega), fig_byte (show c.toNat % 16 < 16 by omega), fig_hv' (show c.toNat / 16 < 16 by omega), fig_hv' (show c.toNat % 16 < 16 by omega)]
    simp
    omega
theorem hexBytes_pairs (l : List UInt8) : pairsH (hexBytes l) = ints l := by
  induction l with
  | nil => rfl
  | cons c l ih =>
    have h := c.toNat_lt
    rw [hexBytes_cons, pairsH, ih, fig_byte (show c.toNat / 16 < 16 by omega), fig_byte (show c.toNat % 16 < 16 by omega), fig_hv' (show c.toNat / 16 < 16 by omega), fig_hv' (show c.toNat % 16 < 16 by omega)]
    show _ :: _ = ((c.toNat : Nat) : Int) :: ints l
    congr 1
    omega
theorem str_of_ints (s : ByteArray) : strOfNums (ints s.data.toList) = s := by
  apply ByteArray.ext
  apply Array.toList_inj.1
  rw [strOfNums_data, str_ints]
theorem unhex_hex (s : ByteArray) : unOut (strOfNums (hexOf s.data.toList)) = .tuple #[.string s, .bool true] := by
  have e : (strOfNums (hexOf s.data.toList)).data.toList = hexBytes s.data.toList := strOfNums_data _
  rw [unOut_yes (by rw [e]; exact hexBytes_ok _), e, hexBytes_pairs, str_of_ints]
theorem hex_size (s : ByteArray) : (strOfNums (hexOf s.data.toList)).size = 2 * s.size := by
  rw [strOfNums_size, hexOf_length, Lib.size_eq]

theorem tells_itoa {n : Nat} (h : n ≤ 1000000000) : Tells ⟨(Lib.itoa (n : Int)).toArray⟩ n := by
  refine ⟨h, ?_⟩
  unfold Lib.itoa
  rw [if_neg (by omega), Int.toNat_natCast]
theorem itoa_size {n : Nat} (h : n ≤ 1000000000) : (⟨(Lib.itoa (n : Int)).toArray⟩ : ByteArray).size ≤ 10 := by
  have e : Lib.itoa (n : Int) = Lib.decDigits n := by
    unfold Lib.itoa
    rw [if_neg (by omega), Int.toNat_natCast]
  rw [e]
  exact dec_len10 h

theorem read_var_x {q : Nat} (hq : q ≤ 1000000000) : rdV ((⟨#[120]⟩ : ByteArray) ++ strOfNums (varB q) ++ ⟨#[121]⟩) 1 5 1 0 1 = some (q, (strOfNums (varB q)).size + 1) := by
  have h := read_var (a := ⟨#[120]⟩) (c := ⟨#[121]⟩) hq
  have e : (⟨#[120]⟩ : ByteArray).size = 1 := rfl
  rw [e] at h
  rw [h, Nat.add_comm]
theorem read_var_0 {q : Nat} {c : ByteArray} (hq : q ≤ 1000000000) : rdV (strOfNums (varB q) ++ c) 0 5 0 0 1 = some (q, (strOfNums (varB q)).size) := by
  have h := read_var (a := ⟨#[]⟩) (c := c) hq
  have e : (⟨#[]⟩ : ByteArray).size = 0 := rfl
  have e2 : (⟨#[]⟩ : ByteArray) ++ strOfNums (varB q) = strOfNums (varB q) := by
    apply ByteArray.ext
    rw [ByteArray.data_append]
    simp
  rw [e, e2] at h
  rw [h, Nat.zero_add]
theorem extract_back (x t : ByteArray) : (x ++ t).extract x.size (x.size + t.size) = t := by
  apply ByteArray.ext
  apply Array.toList_inj.1
  have hx : x.size = x.data.toList.length := Lib.size_eq x
  have ht : t.size = t.data.toList.length := Lib.size_eq t
  rw [Lib.extract_data, ByteArray.data_append, Array.toList_append]
  rw [show x.size + t.size - x.size = t.size by omega, hx, List.drop_left, ht, List.take_length]

end Go.Proofs.YtemgbffdllhhfaaDoor
