/-
  Several texts in one: GreatB, BinB, BinC, LimbTxtB, ExactB.
-/
import Derived.WalkKit
import Derived.Lib.ItoaNum
import Derived.Test.YtcabanghegddhaaGreatDoorNumA
namespace Go.Proofs.YtcabanghegddhaaGreatDoor

theorem snocInd {α : Type} {P : List α → Prop} (h0 : P []) (hs : ∀ l a, P l → P (l ++ [a])) (l : List α) : P l := by
  have key : ∀ r : List α, P r.reverse := by
    intro r
    induction r with
    | nil => exact h0
    | cons a r ih => rw [List.reverse_cons]; exact hs _ _ ih
  rw [← List.reverse_reverse l]
  exact key _

/-- the number that figures stand for -/
def digV (l : List UInt8) : Nat := l.foldl (fun n c => 10 * n + (c.toNat - 48)) 0
theorem digV_nil : digV [] = 0 := rfl
theorem digV_snoc (l : List UInt8) (c : UInt8) : digV (l ++ [c]) = 10 * digV l + (c.toNat - 48) := by simp [digV]
theorem digV_append (l m : List UInt8) : digV (l ++ m) = digV l * 10 ^ m.length + digV m := by
  refine snocInd (P := fun m => digV (l ++ m) = digV l * 10 ^ m.length + digV m) ?_ ?_ m
  · simp [digV_nil]
  · intro m c ih
    show digV (l ++ (m ++ [c])) = digV l * 10 ^ (m ++ [c]).length + digV (m ++ [c])
    rw [← List.append_assoc, digV_snoc, ih, digV_snoc, List.length_append, List.length_singleton, Nat.pow_succ, Nat.mul_add, ← Nat.mul_assoc]
    have : 10 * digV l * 10 ^ m.length = digV l * (10 ^ m.length * 10) := by rw [Nat.mul_comm 10, Nat.mul_assoc, Nat.mul_comm 10]
    omega

/-- all are figures -/
def Figs (l : List UInt8) : Prop := ∀ c ∈ l, 48 ≤ c.toNat ∧ c.toNat ≤ 57
theorem figs_nil : Figs [] := fun _ h => by cases h
theorem Figs.left {l m : List UInt8} (h : Figs (l ++ m)) : Figs l := fun c hc => h c (List.mem_append_left _ hc)
theorem Figs.right {l m : List UInt8} (h : Figs (l ++ m)) : Figs m := fun c hc => h c (List.mem_append_right _ hc)
theorem figs_snoc {l : List UInt8} {c : UInt8} (h : Figs l) (hc : 48 ≤ c.toNat ∧ c.toNat ≤ 57) : Figs (l ++ [c]) := by
  intro d hd
  rw [List.mem_append] at hd
  rcases hd with hd | hd
  · exact h d hd
  · rw [List.mem_singleton] at hd; subst hd; exact hc
theorem figs_append {l m : List UInt8} (h : Figs l) (h' : Figs m) : Figs (l ++ m) := by
  intro d hd
  rw [List.mem_append] at hd
  rcases hd with hd | hd
  · exact h d hd
  · exact h' d hd

theorem digV_lt {l : List UInt8} (h : Figs l) : digV l < 10 ^ l.length := by
  refine snocInd (P := fun l => Figs l → digV l < 10 ^ l.length) ?_ ?_ l h
  · intro _; simp [digV_nil]
  · intro m c ih h
    have a := ih h.left
    have b := h c (by simp)
    rw [digV_snoc, List.length_append, List.length_singleton, Nat.pow_succ]
    omega

theorem dec_small {n : Nat} (h : n < 10) : Lib.decDigits n = [UInt8.ofNat (48 + n)] := by rw [Lib.decDigits, dif_pos h]
theorem dec_more {n d : Nat} (h : n ≠ 0) (hd : d < 10) : Lib.decDigits (10 * n + d) = Lib.decDigits n ++ [UInt8.ofNat (48 + d)] := by
  rw [Lib.decDigits, dif_neg (by omega), (by omega : (10 * n + d) / 10 = n), (by omega : (10 * n + d) % 10 = d)]
theorem fig_of {c : UInt8} (h : 48 ≤ c.toNat ∧ c.toNat ≤ 57) : UInt8.ofNat (48 + (c.toNat - 48)) = c := by
  rw [(by omega : 48 + (c.toNat - 48) = c.toNat)]
  exact UInt8.ofNat_toNat

/-- noughts ahead are left out, but for the last figure -/
def trimL : List UInt8 → List UInt8
  | [] => [48]
  | [c] => [c]
  | c :: d :: l => if c.toNat = 48 then trimL (d :: l) else c :: d :: l

theorem trimL_snoc (l : List UInt8) (c : UInt8) (hl : Figs l) : trimL (l ++ [c]) = if digV l = 0 then [c] else trimL l ++ [c] := by
  induction l with
  | nil => simp [digV_nil, trimL]
  | cons a m ih =>
    have ha := hl a (by simp)
    have hm : Figs m := fun d hd => hl d (by simp [hd])
    have e : digV (a :: m) = (a.toNat - 48) * 10 ^ m.length + digV m := by
      have := digV_append [a] m
      rw [List.singleton_append] at this
      rw [this]
      have : digV [a] = a.toNat - 48 := by simp [digV]
      rw [this]
    have hp : 0 < 10 ^ m.length := Nat.pow_pos (by decide)
    by_cases h48 : a.toNat = 48
    · have e2 : digV (a :: m) = digV m := by rw [e, (by omega : a.toNat - 48 = 0), Nat.zero_mul, Nat.zero_add]
      rw [e2]
      cases m with
      | nil =>
        simp [trimL, h48, digV_nil]
      | cons b k =>
        have t1 : trimL (a :: b :: k ++ [c]) = trimL (b :: k ++ [c]) := by simp [trimL, h48]
        have t2 : trimL (a :: b :: k) = trimL (b :: k) := by simp [trimL, h48]
        rw [t1, t2]
        exact ih hm
    · have e3 : digV (a :: m) ≠ 0 := by
        rw [e]
        have : 1 * 10 ^ m.length ≤ (a.toNat - 48) * 10 ^ m.length := Nat.mul_le_mul_right _ (by omega)
        omega
      rw [if_neg e3]
      cases m with
      | nil => simp [trimL, h48]
      | cons b k => simp [trimL, h48]

/-- the figures without noughts ahead are those of the number -/
theorem dec_trim (l : List UInt8) (h : Figs l) : Lib.decDigits (digV l) = trimL l := by
  refine snocInd (P := fun l => Figs l → Lib.decDigits (digV l) = trimL l) ?_ ?_ l h
  · intro _; rw [digV_nil, dec_small (by omega)]; rfl
  · intro m c ih h
    have b := h c (by simp)
    rw [trimL_snoc m c h.left, digV_snoc]
    by_cases h0 : digV m = 0
    · rw [if_pos h0, h0, Nat.mul_zero, Nat.zero_add, dec_small (by omega), fig_of b]
    · rw [if_neg h0, dec_more h0 (by omega), fig_of b, ih h.left]

theorem digV_dec (n : Nat) : digV (Lib.decDigits n) = n ∧ Figs (Lib.decDigits n) ∧ Lib.decDigits n ≠ [] := by
  induction n using Nat.strongRecOn with
  | ind n ih =>
    have hc : ∀ d, d < 10 → (UInt8.ofNat (48 + d)).toNat = 48 + d := fun d hd => by
      rw [UInt8.toNat_ofNat']; omega
    by_cases h : n < 10
    · rw [dec_small h]
      refine ⟨?_, ?_, by simp⟩
      · have := digV_snoc [] (UInt8.ofNat (48 + n))
        rw [List.nil_append, digV_nil, hc n h] at this
        rw [this]; omega
      intro c hm
      rw [List.mem_singleton] at hm
      subst hm
      rw [hc n h]; omega
    · obtain ⟨a1, a2, a3⟩ := ih (n / 10) (by omega)
      have e : n = 10 * (n / 10) + n % 10 := by omega
      have e2 : Lib.decDigits n = Lib.decDigits (n / 10) ++ [UInt8.ofNat (48 + n % 10)] := by
        conv => lhs; rw [e]
        exact dec_more (by omega) (by omega)
      rw [e2]
      refine ⟨?_, figs_snoc a2 (by rw [hc _ (by omega)]; omega), by simp⟩
      rw [digV_snoc, a1, hc _ (by omega)]
      omega

/-- limbs, the lowest first -/
def limbV : List Nat → Nat
  | [] => 0
  | x :: xs => x + 1000000000 * limbV xs
def LimbsOk (xs : List Nat) : Prop := ∀ x ∈ xs, x < 1000000000

theorem nine_pow (k : Nat) : 10 ^ (9 * (k + 1)) = 1000000000 * 10 ^ (9 * k) := by
  rw [Nat.mul_add, Nat.mul_one, Nat.pow_add, Nat.mul_comm]
theorem limbV_snoc (xs : List Nat) (x : Nat) : limbV (xs ++ [x]) = limbV xs + 10 ^ (9 * xs.length) * x := by
  induction xs with
  | nil => simp [limbV]
  | cons a l ih =>
    rw [List.cons_append, limbV, ih, limbV, List.length_cons, nine_pow, Nat.mul_add, Nat.mul_assoc]
    omega
theorem limbV_lt {xs : List Nat} (h : LimbsOk xs) : limbV xs < 10 ^ (9 * xs.length) := by
  induction xs with
  | nil => simp [limbV]
  | cons a l ih =>
    have b := ih fun x hx => h x (by simp [hx])
    have c := h a (by simp)
    rw [limbV, List.length_cons, nine_pow]
    omega
theorem limbsOk_snoc {xs : List Nat} {x : Nat} (h : LimbsOk xs) (hx : x < 1000000000) : LimbsOk (xs ++ [x]) := by
  intro y hy
  rw [List.mem_append, List.mem_singleton] at hy
  rcases hy with hy | hy
  · exact h y hy
  · subst hy; exact hx
theorem limbsOk_nil : LimbsOk [] := fun _ h => by cases h
theorem limbsOk_at {xs : List Nat} (h : LimbsOk xs) (i : Nat) : xs.getD i 0 < 1000000000 := by
  rw [List.getD_eq_getElem?_getD]
  cases hx : xs[i]? with
  | none => simp
  | some v => exact h v (List.mem_of_getElem? hx)

/-- the value up to a place -/
theorem limbV_take (xs : List Nat) (i : Nat) : limbV (xs.take (i + 1)) = limbV (xs.take i) + 10 ^ (9 * i) * xs.getD i 0 := by
  by_cases h : i < xs.length
  · rw [List.take_succ_eq_append_getElem h, limbV_snoc, List.length_take, Nat.min_eq_left (by omega), List.getD_eq_getElem?_getD, List.getElem?_eq_getElem h]
    rfl
  · rw [List.take_of_length_le (by omega), List.take_of_length_le (by omega), List.getD_eq_getElem?_getD, List.getElem?_eq_none (by omega)]
    simp

/-- a limb written: what it adds -/
theorem limbV_set {xs : List Nat} {i y : Nat} (h : i < xs.length) : limbV (xs.set i y) + 10 ^ (9 * i) * xs.getD i 0 = limbV xs + 10 ^ (9 * i) * y := by
  induction xs generalizing i with
  | nil => simp at h
  | cons a l ih =>
    cases i with
    | zero => simp [limbV]; omega
    | succ j =>
      have := ih (i := j) (by simpa using h)
      simp only [List.set_cons_succ, limbV, List.getD_cons_succ]
      rw [nine_pow, Nat.mul_assoc, Nat.mul_assoc]
      omega
theorem limbsOk_set {xs : List Nat} {i y : Nat} (h : LimbsOk xs) (hy : y < 1000000000) : LimbsOk (xs.set i y) := by
  intro z hz
  rcases List.mem_or_eq_of_mem_set hz with h' | h'
  · exact h z h'
  · subst h'; exact hy

/-- right figures, by the document -/
def figsOk (l : List UInt8) : Bool := decide (1 ≤ l.length ∧ l.length ≤ 800) && (decide (l.length ≤ 1) || decide ((l.getD 0 0).toNat ≠ 48)) && l.all fun c => decide (48 ≤ c.toNat ∧ c.toNat ≤ 57)
theorem figsOk_figs {l : List UInt8} (h : figsOk l = true) : Figs l := by
  intro c hc
  unfold figsOk at h
  simp only [Bool.and_eq_true, List.all_eq_true, decide_eq_true_eq] at h
  exact h.2 c hc
theorem figsOk_dec {l : List UInt8} (h : figsOk l = true) : Lib.decDigits (digV l) = l := by
  rw [dec_trim l (figsOk_figs h)]
  unfold figsOk at h
  simp only [Bool.and_eq_true, Bool.or_eq_true, decide_eq_true_eq] at h
  obtain ⟨⟨h1, h2⟩, _⟩ := h
  match l, h1, h2 with
  | [c], _, _ => rfl
  | c :: d :: m, _, h2 =>
    have : c.toNat ≠ 48 := by
      rcases h2 with h2 | h2
      · simp at h2
      · simpa using h2
    simp [trimL, this]

/-- what is answered of a number: its figures, where they are not too many -/
def fitN (n : Nat) : List UInt8 × Bool := if (Lib.decDigits n).length ≤ 800 then (Lib.decDigits n, true) else ([], false)

end Go.Proofs.YtcabanghegddhaaGreatDoor

namespace Go.Proofs.YtcabanghegddhaaGreatDoor

/-- limbs of 32 bits, the lowest first -/
def binV : List Nat → Nat
  | [] => 0
  | x :: xs => x + 4294967296 * binV xs
def BinOk (xs : List Nat) : Prop := ∀ x ∈ xs, x < 4294967296

theorem word_pow (k : Nat) : 2 ^ (32 * (k + 1)) = 4294967296 * 2 ^ (32 * k) := by
  rw [Nat.mul_add, Nat.mul_one, Nat.pow_add, Nat.mul_comm]
theorem binV_snoc (xs : List Nat) (x : Nat) : binV (xs ++ [x]) = binV xs + 2 ^ (32 * xs.length) * x := by
  induction xs with
  | nil => simp [binV]
  | cons a l ih =>
    rw [List.cons_append, binV, ih, binV, List.length_cons, word_pow, Nat.mul_add, Nat.mul_assoc]
    omega
theorem binV_append (xs ys : List Nat) : binV (xs ++ ys) = binV xs + 2 ^ (32 * xs.length) * binV ys := by
  induction xs with
  | nil => simp [binV]
  | cons a l ih =>
    rw [List.cons_append, binV, ih, binV, List.length_cons, word_pow, Nat.mul_add, Nat.mul_assoc]
    omega
theorem binV_lt {xs : List Nat} (h : BinOk xs) : binV xs < 2 ^ (32 * xs.length) := by
  induction xs with
  | nil => simp [binV]
  | cons a l ih =>
    have b := ih fun x hx => h x (by simp [hx])
    have c := h a (by simp)
    rw [binV, List.length_cons, word_pow]
    omega
theorem binOk_nil : BinOk [] := fun _ h => by cases h
theorem binOk_snoc {xs : List Nat} {x : Nat} (h : BinOk xs) (hx : x < 4294967296) : BinOk (xs ++ [x]) := by
  intro y hy
  rw [List.mem_append, List.mem_singleton] at hy
  rcases hy with hy | hy
  · exact h y hy
  · subst hy; exact hx
theorem binOk_at {xs : List Nat} (h : BinOk xs) (i : Nat) : xs.getD i 0 < 4294967296 := by
  rw [List.getD_eq_getElem?_getD]
  cases hx : xs[i]? with
  | none => simp
  | some v => exact h v (List.mem_of_getElem? hx)
theorem binV_take (xs : List Nat) (i : Nat) : binV (xs.take (i + 1)) = binV (xs.take i) + 2 ^ (32 * i) * xs.getD i 0 := by
  by_cases h : i < xs.length
  · rw [List.take_succ_eq_append_getElem h, binV_snoc, List.length_take, Nat.min_eq_left (by omega), List.getD_eq_getElem?_getD, List.getElem?_eq_getElem h]
    rfl
  · rw [List.take_of_length_le (by omega), List.take_of_length_le (by omega), List.getD_eq_getElem?_getD, List.getElem?_eq_none (by omega)]
    simp
theorem binV_split (xs : List Nat) (i : Nat) : binV xs = binV (xs.take i) + 2 ^ (32 * i) * binV (xs.drop i) := by
  induction i generalizing xs with
  | zero => simp [binV]
  | succ i ih =>
    cases xs with
    | nil => simp [binV]
    | cons a l =>
      rw [List.take_succ_cons, List.drop_succ_cons, binV, binV, ih l, word_pow, Nat.mul_add, Nat.mul_assoc]
      omega
theorem binV_zeros (n : Nat) : binV (List.replicate n 0) = 0 := by
  induction n with
  | zero => rfl
  | succ n ih => rw [List.replicate_succ, binV, ih]

/-- times a number, and more, up to a place -/
structure MulAddAt (ls xs : List Nat) (by_ m0 i more : Nat) : Prop where
  ok : BinOk xs
  len : xs.length = i
  eq : binV xs + 2 ^ (32 * i) * more = binV (ls.take i) * by_ + m0
theorem mulAdd_start (ls : List Nat) (by_ m0 : Nat) : MulAddAt ls [] by_ m0 0 m0 := ⟨binOk_nil, rfl, by simp [binV]⟩
theorem mulAdd_step {ls xs : List Nat} {by_ m0 i more X : Nat} (h : MulAddAt ls xs by_ m0 i more) (hX : ls.getD i 0 * by_ + more = X) : MulAddAt ls (xs ++ [X % 4294967296]) by_ m0 (i + 1) (X / 4294967296) := by
  obtain ⟨h1, h2, h3⟩ := h
  refine ⟨binOk_snoc h1 (Nat.mod_lt _ (by decide)), by simp [h2], ?_⟩
  rw [binV_snoc, binV_take, h2, word_pow, Nat.add_mul]
  generalize ls.getD i 0 = x at *
  generalize 2 ^ (32 * i) = P at *
  have e := Nat.div_add_mod X 4294967296
  generalize X / 4294967296 = q at *
  generalize X % 4294967296 = r at *
  have e2 : P * (4294967296 * q + r) = P * (x * by_ + more) := by rw [e, hX]
  rw [Nat.mul_add, Nat.mul_add] at e2
  have e3 : 4294967296 * P * q = P * (4294967296 * q) := by rw [Nat.mul_comm 4294967296, Nat.mul_assoc]
  have e4 : P * x * by_ = P * (x * by_) := Nat.mul_assoc _ _ _
  omega

/-- a difference up to a place -/
structure BinSubAt (ls ms xs : List Nat) (i c : Nat) : Prop where
  ok : BinOk xs
  len : xs.length = i
  eq : binV (ls.take i) + 2 ^ (32 * i) * c = binV xs + binV (ms.take i)
theorem binSub_start (ls ms : List Nat) : BinSubAt ls ms [] 0 0 := ⟨binOk_nil, rfl, by simp [binV]⟩
theorem binSub_step {ls ms xs : List Nat} {i c c' z : Nat} (h : BinSubAt ls ms xs i c) (hz : z < 4294967296) (he : z + ms.getD i 0 + c = ls.getD i 0 + 4294967296 * c') : BinSubAt ls ms (xs ++ [z]) (i + 1) c' := by
  obtain ⟨h1, h2, h3⟩ := h
  refine ⟨binOk_snoc h1 hz, by simp [h2], ?_⟩
  rw [binV_snoc, binV_take, binV_take, h2, word_pow]
  generalize ls.getD i 0 = x at *
  generalize ms.getD i 0 = y at *
  generalize 2 ^ (32 * i) = P at *
  have e2 : P * (z + y + c) = P * (x + 4294967296 * c') := by rw [he]
  rw [Nat.mul_add, Nat.mul_add, Nat.mul_add] at e2
  have e3 : 4294967296 * P * c' = P * (4294967296 * c') := by rw [Nat.mul_comm 4294967296, Nat.mul_assoc]
  omega
theorem binSub_end {ls ms xs : List Nat} {c : Nat} (h : BinSubAt ls ms xs ls.length c) (hl : BinOk ls) (hle : binV ms ≤ binV ls) : binV xs = binV ls - binV ms := by
  obtain ⟨h1, h2, h3⟩ := h
  have a1 := binV_lt hl
  have a2 := binV_lt h1
  rw [h2] at a2
  have a3 := binV_split ms ls.length
  rw [List.take_length] at h3
  generalize 2 ^ (32 * ls.length) = P at *
  have a4 : binV (ms.drop ls.length) = 0 := by
    rcases Nat.eq_zero_or_pos (binV (ms.drop ls.length)) with h' | h'
    · exact h'
    · have : P * 1 ≤ P * binV (ms.drop ls.length) := Nat.mul_le_mul_left _ h'
      omega
  rw [a4, Nat.mul_zero, Nat.add_zero] at a3
  rw [← a3] at h3
  have a5 : c = 0 := by
    rcases Nat.eq_zero_or_pos c with h' | h'
    · exact h'
    · have : P * 1 ≤ P * c := Nat.mul_le_mul_left _ h'
      omega
  subst a5
  omega

/-- the limbs that count -/
theorem bin_top {xs : List Nat} {n : Nat} (hn : n ≤ xs.length) (h0 : binV (xs.take n) = binV xs) (ht : n = 0 ∨ xs.getD (n - 1) 0 ≠ 0) (ok : BinOk xs) : binV xs < 2 ^ (32 * n) ∧ (n ≠ 0 → 2 ^ (32 * (n - 1)) ≤ binV xs) := by
  refine ⟨?_, fun hn0 => ?_⟩
  · rw [← h0]
    have := binV_lt (xs := xs.take n) (fun x hx => ok x (List.mem_of_mem_take hx))
    rw [List.length_take, Nat.min_eq_left hn] at this
    exact this
  · obtain ⟨k, rfl⟩ : ∃ k, n = k + 1 := ⟨n - 1, by omega⟩
    rw [← h0, binV_take, Nat.add_sub_cancel]
    rw [Nat.add_sub_cancel] at ht
    have h1 : xs.getD k 0 ≠ 0 := by omega
    have : 2 ^ (32 * k) * 1 ≤ 2 ^ (32 * k) * xs.getD k 0 := Nat.mul_le_mul_left _ (by omega)
    omega

end Go.Proofs.YtcabanghegddhaaGreatDoor

namespace Go.Proofs.YtcabanghegddhaaGreatDoor

/-- so many limbs count -/
structure LenOf (xs : List Nat) (n : Nat) : Prop where
  le : n ≤ xs.length
  zero : ∀ j, n ≤ j → xs.getD j 0 = 0
  top : n = 0 ∨ xs.getD (n - 1) 0 ≠ 0

theorem getD_out {xs : List Nat} {j : Nat} (h : xs.length ≤ j) : xs.getD j 0 = 0 := by
  rw [List.getD_eq_getElem?_getD, List.getElem?_eq_none h]; rfl
theorem binV_high {xs : List Nat} {n : Nat} (h : ∀ j, n ≤ j → xs.getD j 0 = 0) : binV (xs.take n) = binV xs := by
  have key : ∀ d, binV (xs.take (n + d)) = binV (xs.take n) := by
    intro d
    induction d with
    | zero => rfl
    | succ d ih => rw [← Nat.add_assoc, binV_take, ih, h (n + d) (by omega), Nat.mul_zero, Nat.add_zero]
  by_cases hn : n ≤ xs.length
  · have := key (xs.length - n)
    rw [(by omega : n + (xs.length - n) = xs.length), List.take_length] at this
    exact this.symm
  · rw [List.take_of_length_le (by omega)]
theorem LenOf.bounds {xs : List Nat} {n : Nat} (h : LenOf xs n) (ok : BinOk xs) : binV xs < 2 ^ (32 * n) ∧ (n ≠ 0 → 2 ^ (32 * (n - 1)) ≤ binV xs) := bin_top h.le (binV_high h.zero) h.top ok
theorem LenOf.nil {xs : List Nat} {n : Nat} (h : LenOf xs n) (ok : BinOk xs) : (n = 0 ↔ binV xs = 0) := by
  obtain ⟨h1, h2⟩ := h.bounds ok
  constructor
  · intro h0; subst h0; simpa using h1
  · intro h0
    rcases Nat.eq_zero_or_pos n with h' | h'
    · exact h'
    · have := h2 (by omega)
      have := Nat.two_pow_pos (32 * (n - 1))
      omega

theorem less_len {xs ys : List Nat} {n m : Nat} (hx : LenOf xs n) (hy : LenOf ys m) (ox : BinOk xs) (oy : BinOk ys) (h : n < m) : binV xs < binV ys := by
  have h1 := (hx.bounds ox).1
  have h2 := (hy.bounds oy).2 (by omega)
  have h3 : 2 ^ (32 * n) ≤ 2 ^ (32 * (m - 1)) := Nat.pow_le_pow_right (by decide) (by omega)
  omega

/-- the same from place i on -/
def SameFrom (xs ys : List Nat) (i : Nat) : Prop := ∀ j, i ≤ j → xs.getD j 0 = ys.getD j 0
theorem same_high {xs ys : List Nat} {n : Nat} (hx : ∀ j, n ≤ j → xs.getD j 0 = 0) (hy : ∀ j, n ≤ j → ys.getD j 0 = 0) : SameFrom xs ys n := fun j hj => by rw [hx j hj, hy j hj]
theorem same_down {xs ys : List Nat} {i : Nat} (h : SameFrom xs ys (i + 1)) (he : xs.getD i 0 = ys.getD i 0) : SameFrom xs ys i := fun j hj => by
  rcases Nat.eq_or_lt_of_le hj with h' | h'
  · rw [← h']; exact he
  · exact h j h'
theorem same_rest {xs ys : List Nat} {i : Nat} (h : SameFrom xs ys i) : ∃ T, binV xs = binV (xs.take i) + 2 ^ (32 * i) * T ∧ binV ys = binV (ys.take i) + 2 ^ (32 * i) * T := by
  have key : ∀ (as bs : List Nat), (∀ j, as.getD j 0 = bs.getD j 0) → binV as = binV bs := by
    intro as
    induction as with
    | nil =>
      intro bs hb
      have := binV_high (xs := bs) (n := 0) (fun j _ => (hb j).symm.trans (by simp))
      simpa [binV] using this
    | cons a l ih =>
      intro bs hb
      cases bs with
      | nil =>
        have := binV_high (xs := a :: l) (n := 0) (fun j _ => (hb j).trans (by simp))
        simpa [binV] using this.symm
      | cons b m =>
        have h0 := hb 0
        have h1 := ih m (fun j => by have := hb (j + 1); simpa using this)
        rw [binV, binV, h1]
        simp at h0
        omega
  refine ⟨binV (xs.drop i), binV_split xs i, ?_⟩
  rw [binV_split ys i, key (ys.drop i) (xs.drop i) (fun j => ?_)]
  have := h (i + j) (by omega)
  rw [List.getD_eq_getElem?_getD, List.getD_eq_getElem?_getD] at this ⊢
  rw [List.getElem?_drop, List.getElem?_drop]
  exact this.symm
theorem same_all {xs ys : List Nat} (h : SameFrom xs ys 0) : binV xs = binV ys := by
  obtain ⟨T, h1, h2⟩ := same_rest h
  simp [binV] at h1 h2
  rw [h1, h2]
theorem less_at {xs ys : List Nat} {i : Nat} (ox : BinOk xs) (h : SameFrom xs ys (i + 1)) (hl : xs.getD i 0 < ys.getD i 0) : binV xs < binV ys := by
  obtain ⟨T, h1, h2⟩ := same_rest h
  rw [binV_take] at h1 h2
  have a1 : binV (xs.take i) < 2 ^ (32 * i) := by
    have := binV_lt (xs := xs.take i) (fun x hx => ox x (List.mem_of_mem_take hx))
    have h3 : 2 ^ (32 * (xs.take i).length) ≤ 2 ^ (32 * i) := Nat.pow_le_pow_right (by decide) (by rw [List.length_take]; omega)
    omega
  have a2 : 2 ^ (32 * i) * (xs.getD i 0 + 1) ≤ 2 ^ (32 * i) * ys.getD i 0 := Nat.mul_le_mul_left _ hl
  rw [Nat.mul_add, Nat.mul_one] at a2
  generalize 2 ^ (32 * (i + 1)) * T = R at *
  omega

/-- bits, by the highest limb -/
theorem bits_top {xs : List Nat} {n k x : Nat} (h : LenOf xs (n + 1)) (ok : BinOk xs) (hx : xs.getD n 0 = x) (hk : k ≠ 0) (h1 : 2 ^ (k - 1) ≤ x) (h2 : x < 2 ^ k) : bitsN (binV xs) = 32 * n + k := by
  have hv := binV_high h.zero
  rw [binV_take, hx] at hv
  have a1 : binV (xs.take n) < 2 ^ (32 * n) := by
    have := binV_lt (xs := xs.take n) (fun x hx => ok x (List.mem_of_mem_take hx))
    have h3 : 2 ^ (32 * (xs.take n).length) ≤ 2 ^ (32 * n) := Nat.pow_le_pow_right (by decide) (by rw [List.length_take]; omega)
    omega
  refine bitsN_of (.inr ⟨by omega, ?_, ?_⟩)
  · rw [(by omega : 32 * n + k - 1 = 32 * n + (k - 1)), Nat.pow_add, ← hv]
    have : 2 ^ (32 * n) * 2 ^ (k - 1) ≤ 2 ^ (32 * n) * x := Nat.mul_le_mul_left _ h1
    omega
  · rw [Nat.pow_add, ← hv]
    have : 2 ^ (32 * n) * (x + 1) ≤ 2 ^ (32 * n) * 2 ^ k := Nat.mul_le_mul_left _ h2
    rw [Nat.mul_add, Nat.mul_one] at this
    omega
theorem bits_low {a b k : Nat} (h : bitsN (a * 2 ^ k) = b) (h0 : a ≠ 0) : bitsN a + k = b := by
  obtain ⟨h1, h2, h3⟩ := bitsN_spec h0
  rw [← h]
  refine (bitsN_of (.inr ⟨by omega, ?_, ?_⟩)).symm
  · rw [(by omega : bitsN a + k - 1 = bitsN a - 1 + k), Nat.pow_add]
    exact Nat.mul_le_mul_right _ h2
  · rw [Nat.pow_add]
    exact Nat.mul_lt_mul_of_pos_right h3 (Nat.two_pow_pos k)
theorem bits_le {a k : Nat} (h : a < 2 ^ k) : bitsN a ≤ k := by
  by_cases h0 : a = 0
  · unfold bitsN; rw [if_pos h0]; omega
  · obtain ⟨h1, h2, _⟩ := bitsN_spec h0
    rcases Nat.lt_or_ge k (bitsN a) with h' | h'
    · have : 2 ^ k ≤ 2 ^ (bitsN a - 1) := Nat.pow_le_pow_right (by decide) (by omega)
      omega
    · exact h'

end Go.Proofs.YtcabanghegddhaaGreatDoor

namespace Go.Proofs.YtcabanghegddhaaGreatDoor

/-- the figure at a place (the lowest is place 0) -/
def figAt (N q : Nat) : Nat := 48 + N / 10 ^ q % 10
theorem figAt_le (N q : Nat) : 48 ≤ figAt N q ∧ figAt N q ≤ 57 := by unfold figAt; omega

/-- the n lowest figures, the highest first -/
def padD (N : Nat) : Nat → List UInt8
  | 0 => []
  | n + 1 => padD (N / 10) n ++ [UInt8.ofNat (48 + N % 10)]
theorem padD_length (N n : Nat) : (padD N n).length = n := by
  induction n generalizing N with
  | zero => rfl
  | succ n ih => rw [padD, List.length_append, ih]; rfl
theorem u8_fig {d : Nat} (h : d < 10) : (UInt8.ofNat (48 + d)).toNat = 48 + d := by
  rw [UInt8.toNat_ofNat']; omega
theorem padD_figs (N n : Nat) : Figs (padD N n) := by
  induction n generalizing N with
  | zero => exact figs_nil
  | succ n ih =>
    rw [padD]
    exact figs_snoc (ih _) (by rw [u8_fig (by omega)]; omega)
theorem padD_digV (N n : Nat) (h : N < 10 ^ n) : digV (padD N n) = N := by
  induction n generalizing N with
  | zero =>
    have : N = 0 := by simpa using h
    rw [this]; rfl
  | succ n ih =>
    rw [Nat.pow_succ] at h
    rw [padD, digV_snoc, ih (N / 10) (by omega), u8_fig (by omega)]
    omega
theorem padD_at (N n p : Nat) (hp : p < n) : (padD N n)[p]? = some (UInt8.ofNat (figAt N (n - 1 - p))) := by
  induction n generalizing N with
  | zero => omega
  | succ n ih =>
    rw [padD]
    by_cases h : p < n
    · rw [List.getElem?_append_left (by rw [padD_length]; exact h), ih (N / 10) h]
      unfold figAt
      rw [(by omega : n + 1 - 1 - p = (n - 1 - p) + 1), Nat.pow_succ, Nat.mul_comm, Nat.div_div_eq_div_mul]
    · have hpn : p = n := by omega
      subst hpn
      rw [List.getElem?_append_right (by rw [padD_length]; omega), padD_length]
      unfold figAt
      simp

/-- the figure of a limb -/
theorem limb_fig {xs : List Nat} (h : LimbsOk xs) {i k : Nat} (hi : i < xs.length) (hk : k < 9) : limbV xs / 10 ^ (9 * i + k) % 10 = xs.getD i 0 / 10 ^ k % 10 := by
  induction xs generalizing i with
  | nil => simp at hi
  | cons a l ih =>
    have ha := h a (by simp)
    have hl : LimbsOk l := fun x hx => h x (by simp [hx])
    cases i with
    | zero =>
      rw [List.getD_cons_zero, limbV, Nat.mul_zero, Nat.zero_add]
      obtain ⟨d, hd⟩ : ∃ d, 9 = k + (d + 1) := ⟨8 - k, by omega⟩
      have e9 : (1000000000 : Nat) = 10 ^ k * (10 ^ d * 10) := by
        rw [← Nat.pow_succ, ← Nat.pow_add]
        have : k + d.succ = 9 := by omega
        rw [this]
      rw [e9, Nat.mul_assoc, Nat.add_mul_div_left _ _ (Nat.pow_pos (by decide)), Nat.mul_right_comm, Nat.add_mul_mod_self_right]
    | succ j =>
      rw [List.getD_cons_succ, limbV, ← ih hl (by simpa using hi), (by omega : 9 * (j + 1) + k = 9 + (9 * j + k)), Nat.pow_add, ← Nat.div_div_eq_div_mul]
      have e9 : (10 : Nat) ^ 9 = 1000000000 := by decide
      rw [e9, (by omega : (a + 1000000000 * limbV l) / 1000000000 = limbV l)]

/-- bytes filled up to a place, from behind -/
structure FillAt (N n m : Nat) (zs : List Nat) : Prop where
  len : zs.length = n
  at_ : ∀ q, q < m → zs[n - 1 - q]? = some (figAt N q)
theorem fill_start (N n : Nat) : FillAt N n 0 (List.replicate n 0) := ⟨by simp, fun q hq => by omega⟩
theorem fill_step {N n m : Nat} {zs : List Nat} (h : FillAt N n m zs) (hm : m < n) : FillAt N n (m + 1) (zs.set (n - 1 - m) (figAt N m)) := by
  refine ⟨by rw [List.length_set]; exact h.len, fun q hq => ?_⟩
  by_cases hqm : q = m
  · subst hqm
    rw [List.getElem?_set_self (by rw [h.len]; omega)]
  · rw [List.getElem?_set_ne (by omega)]
    exact h.at_ q (by omega)
theorem fill_end {N n : Nat} {zs : List Nat} (h : FillAt N n n zs) : zs.map UInt8.ofNat = padD N n := by
  apply List.ext_getElem?
  intro p
  by_cases hp : p < n
  · have := h.at_ (n - 1 - p) (by omega)
    rw [(by omega : n - 1 - (n - 1 - p) = p)] at this
    rw [List.getElem?_map, this, padD_at N n p hp]
    rfl
  · rw [List.getElem?_eq_none (by rw [List.length_map, h.len]; omega), List.getElem?_eq_none (by rw [padD_length]; omega)]

end Go.Proofs.YtcabanghegddhaaGreatDoor

namespace Go.Proofs.YtcabanghegddhaaGreatDoor

/-- the number without noughts at its end, and how many there were -/
def stripN (N : Nat) : Nat × Nat := if N ≠ 0 ∧ N % 10 = 0 then ((stripN (N / 10)).1, (stripN (N / 10)).2 + 1) else (N, 0)
  termination_by N
  decreasing_by all_goals omega

theorem strip_more {M : Nat} (h0 : M ≠ 0) (h : M % 10 = 0) : stripN M = ((stripN (M / 10)).1, (stripN (M / 10)).2 + 1) := by
  rw [stripN, if_pos ⟨h0, h⟩]
theorem strip_done {M : Nat} (h : M % 10 ≠ 0) : stripN M = (M, 0) := by
  rw [stripN, if_neg (by omega)]

theorem dec_last {M : Nat} : ∃ l, Lib.decDigits M = l ++ [UInt8.ofNat (48 + M % 10)] ∧ (l = [] ↔ M < 10) ∧ (10 ≤ M → l = Lib.decDigits (M / 10)) := by
  by_cases h : M < 10
  · exact ⟨[], by rw [dec_small h, (by omega : M % 10 = M)]; rfl, by simp [h], fun h' => by omega⟩
  · refine ⟨Lib.decDigits (M / 10), ?_, ⟨fun e => absurd e (digV_dec _).2.2, fun h' => absurd h' h⟩, fun _ => rfl⟩
    have e : M = 10 * (M / 10) + M % 10 := by omega
    conv => lhs; rw [e]
    exact dec_more (by omega) (by omega)

/-- a finite number, by its whole number and exponent: the whole number whose figures are told, and the power of 10 -/
def exactN (m : Nat) (e : Int) : Nat := if 0 ≤ e then m * 2 ^ e.toNat else m * 5 ^ (-e).toNat
def exactF (m : Nat) (e : Int) : Nat := (stripN (exactN m e)).1
def exactX (m : Nat) (e : Int) : Int := (if 0 ≤ e then 0 else e) + (stripN (exactN m e)).2

end Go.Proofs.YtcabanghegddhaaGreatDoor
