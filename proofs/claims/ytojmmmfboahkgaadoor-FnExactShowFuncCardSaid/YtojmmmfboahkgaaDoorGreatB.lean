/-
  Great numbers: figures, limbs of nine figures, and the numbers that they stand for; over no program.
-/
import Derived.WalkKit
import Derived.Lib.ItoaNum
namespace Go.Proofs.YtojmmmfboahkgaaDoor

theorem snocInd {α : Type} {P : List α → Prop} (h0 : P []) (hs : ∀ l a, P l → P (l ++ [a])) (l : List α) : P l := by
  have key : ∀ r : List α, P r.reverse := by
    intro r
    induction r with
    | nil => exact h0
    | cons a r ih => rw [List.reverse_cons]; exact hs _ _ ih
  rw [← List.reverse_reverse l]
  exact key _

/-- the number that figures stand for -/
def digV (l : List UInt8) : Nat := l.foldl (fun n c => 10 * n + (c.toNat - 48)) 0
theorem digV_nil : digV [] = 0 := rfl
theorem digV_snoc (l : List UInt8) (c : UInt8) : digV (l ++ [c]) = 10 * digV l + (c.toNat - 48) := by simp [digV]
theorem digV_append (l m : List UInt8) : digV (l ++ m) = digV l * 10 ^ m.length + digV m := by
  refine snocInd (P := fun m => digV (l ++ m) = digV l * 10 ^ m.length + digV m) ?_ ?_ m
  · simp [digV_nil]
  · intro m c ih
    show digV (l ++ (m ++ [c])) = digV l * 10 ^ (m ++ [c]).length + digV (m ++ [c])
    rw [← List.append_assoc, digV_snoc, ih, digV_snoc, List.length_append, List.length_singleton, Nat.pow_succ, Nat.mul_add, ← Nat.mul_assoc]
    have : 10 * digV l * 10 ^ m.length = digV l * (10 ^ m.length * 10) := by rw [Nat.mul_comm 10, Nat.mul_assoc, Nat.mul_comm 10]
    omega

/-- all are figures -/
def Figs (l : List UInt8) : Prop := ∀ c ∈ l, 48 ≤ c.toNat ∧ c.toNat ≤ 57
theorem figs_nil : Figs [] := fun _ h => by cases h
theorem Figs.left {l m : List UInt8} (h : Figs (l ++ m)) : Figs l := fun c hc => h c (List.mem_append_left _ hc)
theorem Figs.right {l m : List UInt8} (h : Figs (l ++ m)) : Figs m := fun c hc => h c (List.mem_append_right _ hc)
theorem figs_snoc {l : List UInt8} {c : UInt8} (h : Figs l) (hc : 48 ≤ c.toNat ∧ c.toNat ≤ 57) : Figs (l ++ [c]) := by
  intro d hd
  rw [List.mem_append] at hd
  rcases hd with hd | hd
  · exact h d hd
  · rw [List.mem_singleton] at hd; subst hd; exact hc
theorem figs_append {l m : List UInt8} (h : Figs l) (h' : Figs m) : Figs (l ++ m) := by
  intro d hd
  rw [List.mem_append] at hd
  rcases hd with hd | hd
  · exact h d hd
  · exact h' d hd

theorem digV_lt {l : List UInt8} (h : Figs l) : digV l < 10 ^ l.length := by
  refine snocInd (P := fun l => Figs l → digV l < 10 ^ l.length) ?_ ?_ l h
  · intro _; simp [digV_nil]
  · intro m c ih h
    have a := ih h.left
    have b := h c (by simp)
    rw [digV_snoc, List.length_append, List.length_singleton, Nat.pow_succ]
    omega

theorem dec_small {n : Nat} (h : n < 10) : Lib.decDigits n = [UInt8.ofNat (48 + n)] := by rw [Lib.decDigits, dif_pos h]
theorem dec_more {n d : Nat} (h : n ≠ 0) (hd : d < 10) : Lib.decDigits (10 * n + d) = Lib.decDigits n ++ [UInt8.ofNat (48 + d)] := by
  rw [Lib.decDigits, dif_neg (by omega), (by omega : (10 * n + d) / 10 = n), (by omega : (10 * n + d) % 10 = d)]
theorem fig_of {c : UInt8} (h : 48 ≤ c.toNat ∧ c.toNat ≤ 57) : UInt8.ofNat (48 + (c.toNat - 48)) = c := by
  rw [(by omega : 48 + (c.toNat - 48) = c.toNat)]
  exact UInt8.ofNat_toNat

/-- noughts ahead are left out, but for the last figure -/
def trimL : List UInt8 → List UInt8
  | [] => [48]
  | [c] => [c]
  | c :: d :: l => if c.toNat = 48 then trimL (d :: l) else c :: d :: l

theorem trimL_snoc (l : List UInt8) (c : UInt8) (hl : Figs l) : trimL (l ++ [c]) = if digV l = 0 then [c] else trimL l ++ [c] := by
  induction l with
  | nil => simp [digV_nil, trimL]
  | cons a m ih =>
    have ha := hl a (by simp)
    have hm : Figs m := fun d hd => hl d (by simp [hd])
    have e : digV (a :: m) = (a.toNat - 48) * 10 ^ m.length + digV m := by
      have := digV_append [a] m
      rw [List.singleton_append] at this
      rw [this]
      have : digV [a] = a.toNat - 48 := by simp [digV]
      rw [this]
    have hp : 0 < 10 ^ m.length := Nat.pow_pos (by decide)
    by_cases h48 : a.toNat = 48
    · have e2 : digV (a :: m) = digV m := by rw [e, (by omega : a.toNat - 48 = 0), Nat.zero_mul, Nat.zero_add]
      rw [e2]
      cases m with
      | nil =>
        simp [trimL, h48, digV_nil]
      | cons b k =>
        have t1 : trimL (a :: b :: k ++ [c]) = trimL (b :: k ++ [c]) := by simp [trimL, h48]
        have t2 : trimL (a :: b :: k) = trimL (b :: k) := by simp [trimL, h48]
        rw [t1, t2]
        exact ih hm
    · have e3 : digV (a :: m) ≠ 0 := by
        rw [e]
        have : 1 * 10 ^ m.length ≤ (a.toNat - 48) * 10 ^ m.length := Nat.mul_le_mul_right _ (by omega)
        omega
      rw [if_neg e3]
      cases m with
      | nil => simp [trimL, h48]
      | cons b k => simp [trimL, h48]

/-- the figures without noughts ahead are those of the number -/
theorem dec_trim (l : List UInt8) (h : Figs l) : Lib.decDigits (digV l) = trimL l := by
  refine snocInd (P := fun l => Figs l → Lib.decDigits (digV l) = trimL l) ?_ ?_ l h
  · intro _; rw [digV_nil, dec_small (by omega)]; rfl
  · intro m c ih h
    have b := h c (by simp)
    rw [trimL_snoc m c h.left, digV_snoc]
    by_cases h0 : digV m = 0
    · rw [if_pos h0, h0, Nat.mul_zero, Nat.zero_add, dec_small (by omega), fig_of b]
    · rw [if_neg h0, dec_more h0 (by omega), fig_of b, ih h.left]

theorem digV_dec (n : Nat) : digV (Lib.decDigits n) = n ∧ Figs (Lib.decDigits n) ∧ Lib.decDigits n ≠ [] := by
  induction n using Nat.strongRecOn with
  | ind n ih =>
    have hc : ∀ d, d < 10 → (UInt8.ofNat (48 + d)).toNat = 48 + d := fun d hd => by
      rw [UInt8.toNat_ofNat']; omega
    by_cases h : n < 10
    · rw [dec_small h]
      refine ⟨?_, ?_, by simp⟩
      · have := digV_snoc [] (UInt8.ofNat (48 + n))
        rw [List.nil_append, digV_nil, hc n h] at this
        rw [this]; omega
      intro c hm
      rw [List.mem_singleton] at hm
      subst hm
      rw [hc n h]; omega
    · obtain ⟨a1, a2, a3⟩ := ih (n / 10) (by omega)
      have e : n = 10 * (n / 10) + n % 10 := by omega
      have e2 : Lib.decDigits n = Lib.decDigits (n / 10) ++ [UInt8.ofNat (48 + n % 10)] := by
        conv => lhs; rw [e]
        exact dec_more (by omega) (by omega)
      rw [e2]
      refine ⟨?_, figs_snoc a2 (by rw [hc _ (by omega)]; omega), by simp⟩
      rw [digV_snoc, a1, hc _ (by omega)]
      omega

/-- limbs, the lowest first -/
def limbV : List Nat → Nat
  | [] => 0
  | x :: xs => x + 1000000000 * limbV xs
def LimbsOk (xs : List Nat) : Prop := ∀ x ∈ xs, x < 1000000000

theorem nine_pow (k : Nat) : 10 ^ (9 * (k + 1)) = 1000000000 * 10 ^ (9 * k) := by
  rw [Nat.mul_add, Nat.mul_one, Nat.pow_add, Nat.mul_comm]
theorem limbV_snoc (xs : List Nat) (x : Nat) : limbV (xs ++ [x]) = limbV xs + 10 ^ (9 * xs.length) * x := by
  induction xs with
  | nil => simp [limbV]
  | cons a l ih =>
    rw [List.cons_append, limbV, ih, limbV, List.length_cons, nine_pow, Nat.mul_add, Nat.mul_assoc]
    omega
theorem limbV_lt {xs : List Nat} (h : LimbsOk xs) : limbV xs < 10 ^ (9 * xs.length) := by
  induction xs with
  | nil => simp [limbV]
  | cons a l ih =>
    have b := ih fun x hx => h x (by simp [hx])
    have c := h a (by simp)
    rw [limbV, List.length_cons, nine_pow]
    omega
theorem limbsOk_snoc {xs : List Nat} {x : Nat} (h : LimbsOk xs) (hx : x < 1000000000) : LimbsOk (xs ++ [x]) := by
  intro y hy
  rw [List.mem_append, List.mem_singleton] at hy
  rcases hy with hy | hy
  · exact h y hy
  · subst hy; exact hx
theorem limbsOk_nil : LimbsOk [] := fun _ h => by cases h
theorem limbsOk_at {xs : List Nat} (h : LimbsOk xs) (i : Nat) : xs.getD i 0 < 1000000000 := by
  rw [List.getD_eq_getElem?_getD]
  cases hx : xs[i]? with
  | none => simp
  | some v => exact h v (List.mem_of_getElem? hx)

/-- the value up to a place -/
theorem limbV_take (xs : List Nat) (i : Nat) : limbV (xs.take (i + 1)) = limbV (xs.take i) + 10 ^ (9 * i) * xs.getD i 0 := by
  by_cases h : i < xs.length
  · rw [List.take_succ_eq_append_getElem h, limbV_snoc, List.length_take, Nat.min_eq_left (by omega), List.getD_eq_getElem?_getD, List.getElem?_eq_getElem h]
    rfl
  · rw [List.take_of_length_le (by omega), List.take_of_length_le (by omega), List.getD_eq_getElem?_getD, List.getElem?_eq_none (by omega)]
    simp

/-- a limb written: what it adds -/
theorem limbV_set {xs : List Nat} {i y : Nat} (h : i < xs.length) : limbV (xs.set i y) + 10 ^ (9 * i) * xs.getD i 0 = limbV xs + 10 ^ (9 * i) * y := by
  induction xs generalizing i with
  | nil => simp at h
  | cons a l ih =>
    cases i with
    | zero => simp [limbV]; omega
    | succ j =>
      have := ih (i := j) (by simpa using h)
      simp only [List.set_cons_succ, limbV, List.getD_cons_succ]
      rw [nine_pow, Nat.mul_assoc, Nat.mul_assoc]
      omega
theorem limbsOk_set {xs : List Nat} {i y : Nat} (h : LimbsOk xs) (hy : y < 1000000000) : LimbsOk (xs.set i y) := by
  intro z hz
  rcases List.mem_or_eq_of_mem_set hz with h' | h'
  · exact h z h'
  · subst h'; exact hy

/-- right figures, by the document -/
def figsOk (l : List UInt8) : Bool := decide (1 ≤ l.length ∧ l.length ≤ 800) && (decide (l.length ≤ 1) || decide ((l.getD 0 0).toNat ≠ 48)) && l.all fun c => decide (48 ≤ c.toNat ∧ c.toNat ≤ 57)
theorem figsOk_figs {l : List UInt8} (h : figsOk l = true) : Figs l := by
  intro c hc
  unfold figsOk at h
  simp only [Bool.and_eq_true, List.all_eq_true, decide_eq_true_eq] at h
  exact h.2 c hc
theorem figsOk_dec {l : List UInt8} (h : figsOk l = true) : Lib.decDigits (digV l) = l := by
  rw [dec_trim l (figsOk_figs h)]
  unfold figsOk at h
  simp only [Bool.and_eq_true, Bool.or_eq_true, decide_eq_true_eq] at h
  obtain ⟨⟨h1, h2⟩, _⟩ := h
  match l, h1, h2 with
  | [c], _, _ => rfl
  | c :: d :: m, _, h2 =>
    have : c.toNat ≠ 48 := by
      rcases h2 with h2 | h2
      · simp at h2
      · simpa using h2
    simp [trimL, this]

/-- what is answered of a number: its figures, where they are not too many -/
def fitN (n : Nat) : List UInt8 × Bool := if (Lib.decDigits n).length ≤ 800 then (Lib.decDigits n, true) else ([], false)

end Go.Proofs.YtojmmmfboahkgaaDoor
