/-
  Great numbers in limbs of 32 bits, and the numbers that they stand for; over no program.
-/
import Derived.Test.YtfbdhafbpcpjlaaGreatB
namespace Go.Proofs.Ytfbdhafbpcpjlaa

/-- limbs of 32 bits, the lowest first -/
def binV : List Nat → Nat
  | [] => 0
  | x :: xs => x + 4294967296 * binV xs
def BinOk (xs : List Nat) : Prop := ∀ x ∈ xs, x < 4294967296

theorem word_pow (k : Nat) : 2 ^ (32 * (k + 1)) = 4294967296 * 2 ^ (32 * k) := by
  rw [Nat.mul_add, Nat.mul_one, Nat.pow_add, Nat.mul_comm]
theorem binV_snoc (xs : List Nat) (x : Nat) : binV (xs ++ [x]) = binV xs + 2 ^ (32 * xs.length) * x := by
  induction xs with
  | nil => simp [binV]
  | cons a l ih =>
    rw [List.cons_append, binV, ih, binV, List.length_cons, word_pow, Nat.mul_add, Nat.mul_assoc]
    omega
theorem binV_append (xs ys : List Nat) : binV (xs ++ ys) = binV xs + 2 ^ (32 * xs.length) * binV ys := by
  induction xs with
  | nil => simp [binV]
  | cons a l ih =>
    rw [List.cons_append, binV, ih, binV, List.length_cons, word_pow, Nat.mul_add, Nat.mul_assoc]
    omega
theorem binV_lt {xs : List Nat} (h : BinOk xs) : binV xs < 2 ^ (32 * xs.length) := by
  induction xs with
  | nil => simp [binV]
  | cons a l ih =>
    have b := ih fun x hx => h x (by simp [hx])
    have c := h a (by simp)
    rw [binV, List.length_cons, word_pow]
    omega
theorem binOk_nil : BinOk [] := fun _ h => by cases h
theorem binOk_snoc {xs : List Nat} {x : Nat} (h : BinOk xs) (hx : x < 4294967296) : BinOk (xs ++ [x]) := by
  intro y hy
  rw [List.mem_append, List.mem_singleton] at hy
  rcases hy with hy | hy
  · exact h y hy
  · subst hy; exact hx
theorem binOk_at {xs : List Nat} (h : BinOk xs) (i : Nat) : xs.getD i 0 < 4294967296 := by
  rw [List.getD_eq_getElem?_getD]
  cases hx : xs[i]? with
  | none => simp
  | some v => exact h v (List.mem_of_getElem? hx)
theorem binV_take (xs : List Nat) (i : Nat) : binV (xs.take (i + 1)) = binV (xs.take i) + 2 ^ (32 * i) * xs.getD i 0 := by
  by_cases h : i < xs.length
  · rw [List.take_succ_eq_append_getElem h, binV_snoc, List.length_take, Nat.min_eq_left (by omega), List.getD_eq_getElem?_getD, List.getElem?_eq_getElem h]
    rfl
  · rw [List.take_of_length_le (by omega), List.take_of_length_le (by omega), List.getD_eq_getElem?_getD, List.getElem?_eq_none (by omega)]
    simp
theorem binV_split (xs : List Nat) (i : Nat) : binV xs = binV (xs.take i) + 2 ^ (32 * i) * binV (xs.drop i) := by
  induction i generalizing xs with
  | zero => simp [binV]
  | succ i ih =>
    cases xs with
    | nil => simp [binV]
    | cons a l =>
      rw [List.take_succ_cons, List.drop_succ_cons, binV, binV, ih l, word_pow, Nat.mul_add, Nat.mul_assoc]
      omega
theorem binV_zeros (n : Nat) : binV (List.replicate n 0) = 0 := by
  induction n with
  | zero => rfl
  | succ n ih => rw [List.replicate_succ, binV, ih]

/-- times a number, and more, up to a place -/
structure MulAddAt (ls xs : List Nat) (by_ m0 i more : Nat) : Prop where
  ok : BinOk xs
  len : xs.length = i
  eq : binV xs + 2 ^ (32 * i) * more = binV (ls.take i) * by_ + m0
theorem mulAdd_start (ls : List Nat) (by_ m0 : Nat) : MulAddAt ls [] by_ m0 0 m0 := ⟨binOk_nil, rfl, by simp [binV]⟩
theorem mulAdd_step {ls xs : List Nat} {by_ m0 i more X : Nat} (h : MulAddAt ls xs by_ m0 i more) (hX : ls.getD i 0 * by_ + more = X) : MulAddAt ls (xs ++ [X % 4294967296]) by_ m0 (i + 1) (X / 4294967296) := by
  obtain ⟨h1, h2, h3⟩ := h
  refine ⟨binOk_snoc h1 (Nat.mod_lt _ (by decide)), by simp [h2], ?_⟩
  rw [binV_snoc, binV_take, h2, word_pow, Nat.add_mul]
  generalize ls.getD i 0 = x at *
  generalize 2 ^ (32 * i) = P at *
  have e := Nat.div_add_mod X 4294967296
  generalize X / 4294967296 = q at *
  generalize X % 4294967296 = r at *
  have e2 : P * (4294967296 * q + r) = P * (x * by_ + more) := by rw [e, hX]
  rw [Nat.mul_add, Nat.mul_add] at e2
  have e3 : 4294967296 * P * q = P * (4294967296 * q) := by rw [Nat.mul_comm 4294967296, Nat.mul_assoc]
  have e4 : P * x * by_ = P * (x * by_) := Nat.mul_assoc _ _ _
  omega

/-- a difference up to a place -/
structure BinSubAt (ls ms xs : List Nat) (i c : Nat) : Prop where
  ok : BinOk xs
  len : xs.length = i
  eq : binV (ls.take i) + 2 ^ (32 * i) * c = binV xs + binV (ms.take i)
theorem binSub_start (ls ms : List Nat) : BinSubAt ls ms [] 0 0 := ⟨binOk_nil, rfl, by simp [binV]⟩
theorem binSub_step {ls ms xs : List Nat} {i c c' z : Nat} (h : BinSubAt ls ms xs i c) (hz : z < 4294967296) (he : z + ms.getD i 0 + c = ls.getD i 0 + 4294967296 * c') : BinSubAt ls ms (xs ++ [z]) (i + 1) c' := by
  obtain ⟨h1, h2, h3⟩ := h
  refine ⟨binOk_snoc h1 hz, by simp [h2], ?_⟩
  rw [binV_snoc, binV_take, binV_take, h2, word_pow]
  generalize ls.getD i 0 = x at *
  generalize ms.getD i 0 = y at *
  generalize 2 ^ (32 * i) = P at *
  have e2 : P * (z + y + c) = P * (x + 4294967296 * c') := by rw [he]
  rw [Nat.mul_add, Nat.mul_add, Nat.mul_add] at e2
  have e3 : 4294967296 * P * c' = P * (4294967296 * c') := by rw [Nat.mul_comm 4294967296, Nat.mul_assoc]
  omega
theorem binSub_end {ls ms xs : List Nat} {c : Nat} (h : BinSubAt ls ms xs ls.length c) (hl : BinOk ls) (hle : binV ms ≤ binV ls) : binV xs = binV ls - binV ms := by
  obtain ⟨h1, h2, h3⟩ := h
  have a1 := binV_lt hl
  have a2 := binV_lt h1
  rw [h2] at a2
  have a3 := binV_split ms ls.length
  rw [List.take_length] at h3
  generalize 2 ^ (32 * ls.length) = P at *
  have a4 : binV (ms.drop ls.length) = 0 := by
    rcases Nat.eq_zero_or_pos (binV (ms.drop ls.length)) with h' | h'
    · exact h'
    · have : P * 1 ≤ P * binV (ms.drop ls.length) := Nat.mul_le_mul_left _ h'
      omega
  rw [a4, Nat.mul_zero, Nat.add_zero] at a3
  rw [← a3] at h3
  have a5 : c = 0 := by
    rcases Nat.eq_zero_or_pos c with h' | h'
    · exact h'
    · have : P * 1 ≤ P * c := Nat.mul_le_mul_left _ h'
      omega
  subst a5
  omega

/-- the limbs that count -/
theorem bin_top {xs : List Nat} {n : Nat} (hn : n ≤ xs.length) (h0 : binV (xs.take n) = binV xs) (ht : n = 0 ∨ xs.getD (n - 1) 0 ≠ 0) (ok : BinOk xs) : binV xs < 2 ^ (32 * n) ∧ (n ≠ 0 → 2 ^ (32 * (n - 1)) ≤ binV xs) := by
  refine ⟨?_, fun hn0 => ?_⟩
  · rw [← h0]
    have := binV_lt (xs := xs.take n) (fun x hx => ok x (List.mem_of_mem_take hx))
    rw [List.length_take, Nat.min_eq_left hn] at this
    exact this
  · obtain ⟨k, rfl⟩ : ∃ k, n = k + 1 := ⟨n - 1, by omega⟩
    rw [← h0, binV_take, Nat.add_sub_cancel]
    rw [Nat.add_sub_cancel] at ht
    have h1 : xs.getD k 0 ≠ 0 := by omega
    have : 2 ^ (32 * k) * 1 ≤ 2 ^ (32 * k) * xs.getD k 0 := Nat.mul_le_mul_left _ (by omega)
    omega

end Go.Proofs.Ytfbdhafbpcpjlaa
