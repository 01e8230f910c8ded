/-
  Whole numbers in words of 64 bits: times a number and more, divided, rounded; over no program.
-/
import Derived.Test.YtfbdhafbpcpjlaaQuoB
namespace Go.Proofs.Ytfbdhafbpcpjlaa

/-- words of 64 bits, the lowest first -/
def wordV : List Nat → Nat
  | [] => 0
  | x :: xs => x + 18446744073709551616 * wordV xs
def WordOk (xs : List Nat) : Prop := ∀ x ∈ xs, x < 18446744073709551616

theorem dword_pow (k : Nat) : 2 ^ (64 * (k + 1)) = 18446744073709551616 * 2 ^ (64 * k) := by
  rw [Nat.mul_add, Nat.mul_one, Nat.pow_add, Nat.mul_comm]
theorem wordV_append (xs ys : List Nat) : wordV (xs ++ ys) = wordV xs + 2 ^ (64 * xs.length) * wordV ys := by
  induction xs with
  | nil => simp [wordV]
  | cons a l ih =>
    rw [List.cons_append, wordV, ih, wordV, List.length_cons, dword_pow, Nat.mul_add, Nat.mul_assoc]
    omega
theorem wordV_one (x : Nat) : wordV [x] = x := by simp [wordV]
theorem wordV_snoc (xs : List Nat) (x : Nat) : wordV (xs ++ [x]) = wordV xs + 2 ^ (64 * xs.length) * x := by rw [wordV_append, wordV_one]
theorem wordV_lt {xs : List Nat} (h : WordOk xs) : wordV xs < 2 ^ (64 * xs.length) := by
  induction xs with
  | nil => simp [wordV]
  | cons a l ih =>
    have b := ih fun x hx => h x (by simp [hx])
    have c := h a (by simp)
    rw [wordV, List.length_cons, dword_pow]
    omega
theorem wordOk_snoc {xs : List Nat} {x : Nat} (h : WordOk xs) (hx : x < 18446744073709551616) : WordOk (xs ++ [x]) := by
  intro y hy
  rw [List.mem_append, List.mem_singleton] at hy
  rcases hy with hy | hy
  · exact h y hy
  · subst hy; exact hx
theorem wordOk_append {xs ys : List Nat} (h : WordOk xs) (k : WordOk ys) : WordOk (xs ++ ys) := fun x hx => (List.mem_append.1 hx).elim (h x) (k x)
theorem wordOk_zeros (k : Nat) : WordOk (List.replicate k 0) := fun x hx => by rw [List.eq_of_mem_replicate hx]; decide
theorem wordOk_at {xs : List Nat} (h : WordOk xs) (i : Nat) : xs.getD i 0 < 18446744073709551616 := by
  rw [List.getD_eq_getElem?_getD]
  cases hx : xs[i]? with
  | none => simp
  | some v => exact h v (List.mem_of_getElem? hx)
theorem wordOk_set {xs : List Nat} {x i : Nat} (h : WordOk xs) (hx : x < 18446744073709551616) : WordOk (xs.set i x) := by
  intro y hy
  rcases List.mem_or_eq_of_mem_set hy with h' | h'
  · exact h y h'
  · rw [h']; exact hx
theorem wordV_zeros (k : Nat) (xs : List Nat) : wordV (List.replicate k 0 ++ xs) = 2 ^ (64 * k) * wordV xs := by
  have h : ∀ k, wordV (List.replicate k 0) = 0 := fun k => by
    induction k with
    | zero => rfl
    | succ k ih => rw [List.replicate_succ, wordV, ih]
  rw [wordV_append, h, List.length_replicate, Nat.zero_add]
theorem wordV_take (xs : List Nat) (i : Nat) : wordV (xs.take (i + 1)) = wordV (xs.take i) + 2 ^ (64 * i) * xs.getD i 0 := by
  by_cases h : i < xs.length
  · rw [List.take_succ_eq_append_getElem h, wordV_snoc, List.length_take, Nat.min_eq_left (by omega), List.getD_eq_getElem?_getD, List.getElem?_eq_getElem h]
    rfl
  · rw [List.take_of_length_le (by omega), List.take_of_length_le (by omega), List.getD_eq_getElem?_getD, List.getElem?_eq_none (by omega)]
    simp
theorem wordV_drop (xs : List Nat) (i : Nat) : wordV (xs.drop i) = xs.getD i 0 + 18446744073709551616 * wordV (xs.drop (i + 1)) := by
  by_cases h : i < xs.length
  · rw [List.drop_eq_getElem_cons h, wordV, List.getD_eq_getElem?_getD, List.getElem?_eq_getElem h]
    rfl
  · rw [List.drop_of_length_le (by omega), List.drop_of_length_le (by omega), List.getD_eq_getElem?_getD, List.getElem?_eq_none (by omega)]
    simp [wordV]
theorem wordV_split (xs : List Nat) (i : Nat) (h : i ≤ xs.length) : wordV xs = wordV (xs.take i) + 2 ^ (64 * i) * wordV (xs.drop i) := by
  have := wordV_append (xs.take i) (xs.drop i)
  rw [List.take_append_drop, List.length_take, Nat.min_eq_left h] at this
  exact this
theorem set_take (zs : List Nat) (i y : Nat) : (zs.set i y).take i = zs.take i := by
  rw [List.take_set, List.set_eq_of_length_le (by rw [List.length_take]; omega)]
theorem set_drop (zs : List Nat) (i y : Nat) : (zs.set i y).drop (i + 1) = zs.drop (i + 1) := by
  rw [List.drop_set, if_pos (by omega)]
theorem set_same {zs : List Nat} {i : Nat} (y : Nat) (h : i < zs.length) : (zs.set i y).getD i 0 = y := by
  rw [List.getD_eq_getElem?_getD, List.getElem?_set_self h]; rfl
theorem set_other {zs : List Nat} {i j : Nat} (y : Nat) (h : i ≠ j) : (zs.set i y).getD j 0 = zs.getD j 0 := by
  rw [List.getD_eq_getElem?_getD, List.getElem?_set_ne h, List.getD_eq_getElem?_getD]

/-- times b and more, so far done -/
structure MulW (xs : List Nat) (b m0 i : Nat) (zs : List Nat) (mo : Nat) : Prop where
  len : zs.length = xs.length
  low : wordV (zs.take i) + 2 ^ (64 * i) * mo = wordV (xs.take i) * b + m0
  high : ∀ j, i ≤ j → zs.getD j 0 = xs.getD j 0
  ok : WordOk zs
theorem mulW_start {xs : List Nat} (b m0 : Nat) (h : WordOk xs) : MulW xs b m0 0 xs m0 := ⟨rfl, by simp [wordV], fun _ _ => rfl, h⟩
theorem mulW_step {xs zs : List Nat} {b m0 i mo X : Nat} (h : MulW xs b m0 i zs mo) (hi : i < xs.length) (hX : zs.getD i 0 * b + mo = X) :
    MulW xs b m0 (i + 1) (zs.set i (X % 18446744073709551616)) (X / 18446744073709551616) := by
  have hl : i < zs.length := by rw [h.len]; exact hi
  refine ⟨by rw [List.length_set, h.len], ?_, fun j hj => by rw [set_other _ (by omega)]; exact h.high j (by omega), wordOk_set h.ok (Nat.mod_lt _ (by decide))⟩
  rw [wordV_take, set_take, set_same _ hl, wordV_take, dword_pow]
  have e1 := h.low
  rw [h.high i (Nat.le_refl _)] at hX
  have e2 : 2 ^ (64 * i) * (X % 18446744073709551616) + 18446744073709551616 * 2 ^ (64 * i) * (X / 18446744073709551616) = 2 ^ (64 * i) * X := by
    rw [Nat.mul_comm 18446744073709551616, Nat.mul_assoc, ← Nat.mul_add]
    congr 1
    omega
  rw [Nat.add_assoc, e2, ← hX, Nat.mul_add, Nat.add_mul, ← Nat.mul_assoc]
  omega
theorem mulW_end {xs zs : List Nat} {b m0 mo : Nat} (h : MulW xs b m0 xs.length zs mo) : wordV zs + 2 ^ (64 * xs.length) * mo = wordV xs * b + m0 := by
  have := h.low
  rw [List.take_of_length_le (by rw [h.len]; omega), List.take_of_length_le (by omega)] at this
  exact this

/-- divided by b, so far done -/
structure DivW (xs : List Nat) (b i : Nat) (zs : List Nat) (r : Nat) : Prop where
  len : zs.length = xs.length
  high : wordV (zs.drop i) * b + r = wordV (xs.drop i)
  low : ∀ j, j < i → zs.getD j 0 = xs.getD j 0
  ok : WordOk zs
  lt : r < b
theorem divW_start {xs : List Nat} {b : Nat} (h : WordOk xs) (hb : 0 < b) : DivW xs b xs.length xs 0 := ⟨rfl, by simp [wordV], fun _ _ => rfl, h, hb⟩
theorem div_word {r x b : Nat} (hr : r < b) (hx : x < 18446744073709551616) : (r * 18446744073709551616 + x) / b < 18446744073709551616 := by
  rw [Nat.div_lt_iff_lt_mul (by omega)]
  have : (r + 1) * 18446744073709551616 ≤ b * 18446744073709551616 := Nat.mul_le_mul_right _ hr
  omega
theorem divW_step {xs zs : List Nat} {b p r : Nat} (h : DivW xs b (p + 1) zs r) (hp : p < xs.length) (ho : WordOk xs) :
    DivW xs b p (zs.set p ((r * 18446744073709551616 + xs.getD p 0) / b)) ((r * 18446744073709551616 + xs.getD p 0) % b) := by
  have hl : p < zs.length := by rw [h.len]; exact hp
  have hb : 0 < b := by have := h.lt; omega
  refine ⟨by rw [List.length_set, h.len], ?_, fun j hj => by rw [set_other _ (by omega)]; exact h.low j (by omega), wordOk_set h.ok (div_word h.lt (wordOk_at ho p)), Nat.mod_lt _ hb⟩
  rw [wordV_drop, set_drop, set_same _ hl, wordV_drop xs p, ← h.high]
  obtain ⟨X, hX⟩ : ∃ X, r * 18446744073709551616 + xs.getD p 0 = X := ⟨_, rfl⟩
  rw [hX]
  have e := Nat.div_add_mod X b
  have e1 : (X / b + 18446744073709551616 * wordV (zs.drop (p + 1))) * b = b * (X / b) + 18446744073709551616 * (wordV (zs.drop (p + 1)) * b) := by
    rw [Nat.add_mul, Nat.mul_comm (X / b), Nat.mul_assoc]
  rw [e1]
  omega
theorem divW_end {xs zs : List Nat} {b r : Nat} (h : DivW xs b 0 zs r) : wordV zs = wordV xs / b ∧ r = wordV xs % b := by
  have e := h.high
  rw [List.drop_zero, List.drop_zero] at e
  have hb : 0 < b := by have := h.lt; omega
  rw [← e, Nat.mul_comm]
  exact ⟨by rw [Nat.mul_add_div hb, Nat.div_eq_of_lt h.lt, Nat.add_zero], by rw [Nat.mul_add_mod, Nat.mod_eq_of_lt h.lt]⟩

/-- divided by powers one behind the other -/
theorem mark_more (N a b : Nat) : (decide (N % a ≠ 0) || decide (0 < N / a % b)) = decide (N % (a * b) ≠ 0) := by
  rw [Nat.mod_mul, Bool.eq_iff_iff, Bool.or_eq_true, decide_eq_true_iff, decide_eq_true_iff, decide_eq_true_iff]
  by_cases h0 : a = 0
  · subst h0; simp
  · constructor
    · rintro (h | h)
      · omega
      · have : 0 < a * (N / a % b) := Nat.mul_pos (by omega) h
        omega
    · intro h
      by_cases h1 : N % a = 0
      · right
        rcases Nat.eq_zero_or_pos (N / a % b) with h2 | h2
        · rw [h1, h2] at h; simp at h
        · exact h2
      · exact .inl h1
theorem five_step {N c d : Nat} : N / 5 ^ c / 5 ^ d = N / 5 ^ (c + d) ∧ (decide (N % 5 ^ c ≠ 0) || decide (0 < N / 5 ^ c % 5 ^ d)) = decide (N % 5 ^ (c + d) ≠ 0) := by
  rw [Nat.pow_add, Nat.div_div_eq_div_mul, mark_more]
  exact ⟨rfl, rfl⟩

/-- the bits that count, and whether others are lost -/
theorem rounded_end {low l h M f t : Nat} {e : Int} (st : Bool) (hlow : low < 2 ^ (64 * t)) (hl : l < 18446744073709551616) (hf : f ≤ 63) (hM : M = h * 2 ^ f) (hM1 : 9223372036854775808 ≤ M) (hM2 : M < 18446744073709551616) :
    roundN (low + 2 ^ (64 * t) * (l + 18446744073709551616 * h)) e st = roundN (M + l / 2 ^ (64 - f)) (e + (t + 1 : Nat) * 64 - f) (st || decide (low ≠ 0 ∨ l * 2 ^ f % 18446744073709551616 ≠ 0)) := by
  have hp := Nat.two_pow_pos f
  have hq := Nat.two_pow_pos (64 * t)
  have e64 : (18446744073709551616 : Nat) = 2 ^ (64 - f) * 2 ^ f := by rw [← Nat.pow_add, (by omega : 64 - f + f = 64)]
  obtain ⟨m, hm⟩ : ∃ m, l / 2 ^ (64 - f) = m := ⟨_, rfl⟩
  obtain ⟨s, hs⟩ : ∃ s, l % 2 ^ (64 - f) = s := ⟨_, rfl⟩
  have el : l = 2 ^ (64 - f) * m + s := by rw [← hm, ← hs]; exact (Nat.div_add_mod _ _).symm
  have hs1 : s < 2 ^ (64 - f) := by rw [← hs]; exact Nat.mod_lt _ (Nat.two_pow_pos _)
  have elost : l * 2 ^ f % 18446744073709551616 = s * 2 ^ f := by rw [e64, Nat.mul_mod_mul_right, hs]
  have hs2 : s * 2 ^ f + 2 ^ f ≤ 18446744073709551616 := by
    rw [e64]
    have : (s + 1) * 2 ^ f ≤ 2 ^ (64 - f) * 2 ^ f := Nat.mul_le_mul_right _ hs1
    rw [Nat.add_mul] at this
    omega
  have etop : (l + 18446744073709551616 * h) * 2 ^ f = 18446744073709551616 * (M + m) + s * 2 ^ f := by
    rw [Nat.add_mul, Nat.mul_assoc, ← hM, el, Nat.add_mul]
    have : 2 ^ (64 - f) * m * 2 ^ f = 18446744073709551616 * m := by rw [Nat.mul_right_comm, ← e64]
    omega
  have eN : (low + 2 ^ (64 * t) * (l + 18446744073709551616 * h)) * 2 ^ f = (M + m) * 2 ^ (64 * (t + 1)) + (2 ^ (64 * t) * (s * 2 ^ f) + low * 2 ^ f) := by
    rw [Nat.add_mul, Nat.mul_assoc, etop, Nat.mul_add, dword_pow, ← Nat.mul_assoc, Nat.mul_comm (2 ^ (64 * t)) 18446744073709551616, Nat.mul_comm (M + m)]
    omega
  have hL : 2 ^ (64 * t) * (s * 2 ^ f) + low * 2 ^ f < 2 ^ (64 * (t + 1)) := by
    have h1 : low * 2 ^ f < 2 ^ (64 * t) * 2 ^ f := Nat.mul_lt_mul_of_pos_right hlow hp
    have h2 : 2 ^ (64 * t) * (s * 2 ^ f + 2 ^ f) ≤ 2 ^ (64 * t) * 18446744073709551616 := Nat.mul_le_mul_left _ hs2
    rw [Nat.mul_add] at h2
    rw [dword_pow, Nat.mul_comm 18446744073709551616]
    omega
  have r1 := roundN_mark (M := low + 2 ^ (64 * t) * (l + 18446744073709551616 * h)) (d := f) (low := 0) (E := e) st hp (by
    have : 1 * 18446744073709551616 ≤ 2 ^ (64 * t) * (l + 18446744073709551616 * h) := by
      refine Nat.mul_le_mul hq ?_
      have : 1 ≤ h := by
        rcases Nat.eq_zero_or_pos h with h' | h'
        · rw [h', Nat.zero_mul] at hM; omega
        · exact h'
      omega
    omega)
  rw [Nat.add_zero] at r1
  have r2 := roundN_mark (M := M + m) (d := 64 * (t + 1)) (low := 2 ^ (64 * t) * (s * 2 ^ f) + low * 2 ^ f) (E := e + (t + 1 : Nat) * 64 - f) st hL (by omega)
  rw [← eN] at r2
  have ee : e + (t + 1 : Nat) * 64 - f - ((64 * (t + 1) : Nat) : Int) = e - f := by omega
  rw [ee] at r2
  have hz : (st || decide ((0 : Nat) ≠ 0)) = st := by simp
  rw [hz] at r1
  rw [← r1, r2, hm, elost]
  have fin : decide (2 ^ (64 * t) * (s * 2 ^ f) + low * 2 ^ f ≠ 0) = decide (low ≠ 0 ∨ s * 2 ^ f ≠ 0) := by
    rw [Bool.eq_iff_iff, decide_eq_true_iff, decide_eq_true_iff]
    have a1 : low * 2 ^ f ≠ 0 ↔ low ≠ 0 := by
      rw [Nat.mul_ne_zero_iff]
      exact ⟨fun h => h.1, fun h => ⟨h, by omega⟩⟩
    have a2 : 2 ^ (64 * t) * (s * 2 ^ f) ≠ 0 ↔ s * 2 ^ f ≠ 0 := by
      rw [Nat.mul_ne_zero_iff]
      exact ⟨fun h => h.2, fun h => ⟨by omega, h⟩⟩
    generalize 2 ^ (64 * t) * (s * 2 ^ f) = A at *
    generalize low * 2 ^ f = B at *
    generalize s * 2 ^ f = C at *
    omega
  rw [fin]

end Go.Proofs.Ytfbdhafbpcpjlaa
