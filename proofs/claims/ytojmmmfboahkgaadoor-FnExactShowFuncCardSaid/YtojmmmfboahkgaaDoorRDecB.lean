/-
  Reading decimal figures, as plain functions.
-/
import Derived.Test.YtojmmmfboahkgaaDoorDecB
namespace Go.Proofs.YtojmmmfboahkgaaDoor
open Go.RowKit

def dval (l : List UInt8) : Nat := l.foldl (fun a c => 10 * a + (c.toNat - 48)) 0
theorem dval_snoc (l : List UInt8) (c : UInt8) : dval (l ++ [c]) = 10 * dval l + (c.toNat - 48) := by simp [dval]
theorem dval_le (l k : List UInt8) : dval l ≤ dval (l ++ k) := by
  induction k generalizing l with
  | nil => simp
  | cons c k ih =>
    have h := ih (l ++ [c])
    rw [List.append_assoc, List.singleton_append, dval_snoc] at h
    omega

def IsDig (l : List UInt8) : Prop := ∀ c ∈ l, 48 ≤ c.toNat ∧ c.toNat ≤ 57

theorem ofNat_dig {d : Nat} (h : d < 10) : (UInt8.ofNat (48 + d)).toNat = 48 + d := by
  simp; omega

theorem dec_small {n : Nat} (h : n < 10) : Lib.decDigits n = [UInt8.ofNat (48 + n)] := by rw [Lib.decDigits, dif_pos h]
theorem dec_big {n : Nat} (h : ¬ n < 10) : Lib.decDigits n = Lib.decDigits (n / 10) ++ [UInt8.ofNat (48 + n % 10)] := by rw [Lib.decDigits, dif_neg h]

theorem dval_dec (n : Nat) : dval (Lib.decDigits n) = n := by
  induction n using Nat.strongRecOn with
  | ind n ih =>
    by_cases h : n < 10
    · rw [dec_small h, ← List.nil_append [_], dval_snoc, ofNat_dig h]; simp [dval]
    · rw [dec_big h, dval_snoc, ih _ (by omega), ofNat_dig (by omega)]; omega
theorem dec_dig (n : Nat) : IsDig (Lib.decDigits n) := by
  induction n using Nat.strongRecOn with
  | ind n ih =>
    by_cases h : n < 10
    · rw [dec_small h]
      intro c hc
      rw [List.mem_singleton] at hc
      subst hc
      rw [ofNat_dig h]; omega
    · rw [dec_big h]
      intro c hc
      rw [List.mem_append, List.mem_singleton] at hc
      rcases hc with hc | hc
      · exact ih _ (by omega) c hc
      · subst hc; rw [ofNat_dig (by omega)]; omega
theorem dec_len {n : Nat} (k : Nat) (h : n < 10 ^ (k + 1)) : (Lib.decDigits n).length ≤ k + 1 := by
  induction k generalizing n with
  | zero => rw [dec_small (by simpa using h)]; simp
  | succ k ih =>
    by_cases h10 : n < 10
    · rw [dec_small h10]; simp
    · rw [dec_big h10, List.length_append]
      have := ih (n := n / 10) (by rw [Nat.pow_succ] at h; omega)
      simp; omega
theorem dec_len10 {n : Nat} (h : n ≤ 1000000000) : (Lib.decDigits n).length ≤ 10 := dec_len 9 (by omega)
theorem dec_pos (n : Nat) : 0 < (Lib.decDigits n).length := by
  by_cases h : n < 10
  · rw [dec_small h]; simp
  · rw [dec_big h]; simp
/-- a numeral that opens with a nought is that nought -/
theorem dec_nought (n : Nat) (r : List UInt8) (h : Lib.decDigits n = 48 :: r) : r = [] := by
  induction n using Nat.strongRecOn generalizing r with
  | ind n ih =>
    by_cases h10 : n < 10
    · rw [dec_small h10] at h
      injection h with _ h2
      exact h2.symm
    · rw [dec_big h10] at h
      have hp := dec_pos (n / 10)
      cases hd : Lib.decDigits (n / 10) with
      | nil => rw [hd] at hp; simp at hp
      | cons a t =>
        rw [hd, List.cons_append] at h
        injection h with h1 h2
        subst h1
        have ht := ih (n / 10) (by omega) t hd
        subst ht
        have hv := dval_dec (n / 10)
        rw [hd] at hv
        have : dval [48] = 0 := rfl
        omega

/-- n is the number that s tells -/
def Tells (s : ByteArray) (n : Nat) : Prop := n ≤ 1000000000 ∧ Lib.decDigits n = s.data.toList
def DOut (s : ByteArray) (e : Ending) : Prop :=
  (∃ n, Tells s n ∧ e = .returned (.tuple #[.int .i64 n, .bool true])) ∨ ((∀ n, ¬ Tells s n) ∧ e = .returned (.tuple #[.int .i64 0, .bool false]))

theorem tells_one {s : ByteArray} {n m : Nat} (h : Tells s n) (k : Tells s m) : n = m := by
  rw [← dval_dec n, ← dval_dec m, h.2, k.2]
theorem no_long {s : ByteArray} (h : 10 < s.size) : ∀ n, ¬ Tells s n := fun n k => by
  have h1 := dec_len10 k.1
  rw [k.2, ← Lib.size_eq] at h1
  omega
theorem no_empty {s : ByteArray} (h : s.size = 0) : ∀ n, ¬ Tells s n := fun n k => by
  have h1 := dec_pos n
  rw [k.2, ← Lib.size_eq] at h1
  omega
theorem no_odd {s : ByteArray} {i : Nat} (h : i < s.size) (hx : (s[i]).toNat < 48 ∨ 57 < (s[i]).toNat) : ∀ n, ¬ Tells s n := fun n k => by
  have hl : i < s.data.toList.length := by rw [← Lib.size_eq]; exact h
  have h1 := dec_dig n (s.data.toList[i]) (by rw [k.2]; exact List.getElem_mem hl)
  have h2 : (s.data.toList[i]).toNat = (s[i]).toNat := rfl
  omega
theorem no_great {s : ByteArray} {i : Nat} (h : 1000000000 < dval (s.data.toList.take i)) : ∀ n, ¬ Tells s n := fun n k => by
  have h1 := dval_le (s.data.toList.take i) (s.data.toList.drop i)
  rw [List.take_append_drop] at h1
  have e := dval_dec n
  rw [k.2] at e
  have := k.1
  omega
theorem no_nought {s : ByteArray} {i : Nat} (h : i < s.size) (hx : (s.data.toList.take i) = [48]) : ∀ n, ¬ Tells s n := fun n k => by
  have e : s.data.toList = 48 :: s.data.toList.drop i := by
    have := List.take_append_drop i s.data.toList
    rw [hx] at this
    exact this.symm
  have h2 := dec_nought n _ (k.2.trans e)
  have h3 := congrArg List.length h2
  rw [List.length_drop, ← Lib.size_eq] at h3
  simp at h3
  omega
theorem no_other {s : ByteArray} {n : Nat} (hn : n = dval s.data.toList) (h : Lib.decDigits n ≠ s.data.toList) : ∀ m, ¬ Tells s m := fun m k => by
  apply h
  have : m = n := by rw [hn, ← k.2, dval_dec]
  rw [← this]; exact k.2

/-- what impl.ReadDecimal has read -/
def ReadAt (s : ByteArray) (r n : Nat) : Prop := n ≤ 1000000000 ∧ n = dval (s.data.toList.take r) ∧ ((r = 0 ∧ n = 0) ∨ (0 < r ∧ Lib.decDigits n = s.data.toList.take r))
theorem readAt_first (s : ByteArray) : ReadAt s 0 0 := ⟨by omega, rfl, .inl ⟨rfl, rfl⟩⟩
theorem readAt_val {s : ByteArray} {r n : Nat} (h : ReadAt s r n) (hr : r < s.size) : n * 10 + ((s[r]).toNat - 48) = dval (s.data.toList.take (r + 1)) := by
  rw [take_snoc s r hr, dval_snoc, ← h.2.1]; omega
theorem readAt_step {s : ByteArray} {r n : Nat} (h : ReadAt s r n) (hr : r < s.size) (h1 : 48 ≤ (s[r]).toNat) (h2 : (s[r]).toNat ≤ 57) (h3 : ¬ (0 < r ∧ n = 0)) (h4 : n * 10 + ((s[r]).toNat - 48) ≤ 1000000000) : ReadAt s (r + 1) (n * 10 + ((s[r]).toNat - 48)) := by
  refine ⟨h4, readAt_val h hr, .inr ⟨by omega, ?_⟩⟩
  have e : UInt8.ofNat (48 + ((s[r]).toNat - 48)) = s[r] := by
    have : 48 + ((s[r]).toNat - 48) = (s[r]).toNat := by omega
    rw [this, UInt8.ofNat_toNat]
  rw [take_snoc s r hr]
  rcases h.2.2 with ⟨e1, e2⟩ | ⟨e1, e2⟩
  · subst e1; subst e2
    rw [dec_small (by omega), show 48 + (0 * 10 + ((s[0]).toNat - 48)) = 48 + ((s[0]).toNat - 48) by omega, e]; rfl
  · have hn : n ≠ 0 := fun hz => h3 ⟨e1, hz⟩
    rw [dec_big (by omega), show (n * 10 + ((s[r]).toNat - 48)) / 10 = n by omega, show (n * 10 + ((s[r]).toNat - 48)) % 10 = (s[r]).toNat - 48 by omega, e2, e]
theorem readAt_end {s : ByteArray} {n : Nat} (h : ReadAt s s.size n) (hs : 0 < s.size) : Tells s n := by
  refine ⟨h.1, ?_⟩
  rcases h.2.2 with ⟨e1, _⟩ | ⟨_, e2⟩
  · omega
  · rw [e2, take_all]
theorem readAt_nought {s : ByteArray} {r : Nat} (h : ReadAt s r 0) (hr : 0 < r) : s.data.toList.take r = [48] := by
  rcases h.2.2 with ⟨e1, _⟩ | ⟨_, e2⟩
  · omega
  · rw [← e2, dec_small (by omega)]; rfl

end Go.Proofs.YtojmmmfboahkgaaDoor
