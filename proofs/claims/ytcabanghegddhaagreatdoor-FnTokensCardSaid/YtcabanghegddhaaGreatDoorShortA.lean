/-
  Several texts in one: ShortB, ShortL, ShortM, ShortN, Read7B.
-/
import Derived.Test.YtcabanghegddhaaGreatDoorNearA
import Derived.Test.YtcabanghegddhaaGreatDoorExactA
import Derived.Test.YtcabanghegddhaaGreatDoorNumA
namespace Go.Proofs.YtcabanghegddhaaGreatDoor

/-- the candidates with n figures -/
def shE (l : List UInt8) (X : Int) (n : Nat) : Int := X + l.length - n
def shL (l : List UInt8) (X : Int) (pos n : Nat) : Bool := decide (nearN (l.take n) (shE l X n) = pos)
def shH (l : List UInt8) (X : Int) (pos n : Nat) : Bool := decide (nearN (Lib.decDigits (digV (l.take n) + 1)) (shE l X n) = pos)
def shUp (l : List UInt8) (X : Int) (pos n : Nat) : Bool :=
  !shL l X pos n || (shH l X pos n && (decide (5 * 10 ^ (l.length - n - 1) < digV (l.drop n)) || (decide (digV (l.drop n) = 5 * 10 ^ (l.length - n - 1)) && !decide (digV (l.take n) % 2 = 0))))
def shPick (l : List UInt8) (X : Int) (pos n : Nat) : Nat := if shUp l X pos n = true then digV (l.take n) + 1 else digV (l.take n)
def shortR (l : List UInt8) (X : Int) (pos : Nat) : Nat → Nat → List UInt8 × Int
  | 0, _ => (l, X)
  | d + 1, n => if n < l.length then (if (shL l X pos n || shH l X pos n) = true then (Lib.decDigits (stripN (shPick l X pos n)).1, shE l X n + ((stripN (shPick l X pos n)).2 : Nat)) else shortR l X pos d (n + 1)) else (l, X)

theorem figs_inj : ∀ {l m : List UInt8}, Figs l → Figs m → l.length = m.length → digV l = digV m → l = m := by
  intro l
  refine snocInd (P := fun l => ∀ {m : List UInt8}, Figs l → Figs m → l.length = m.length → digV l = digV m → l = m) (fun {m} _ _ h _ => ?_) (fun l c ih {m} hl hm h hv => ?_) l
  · exact (List.eq_nil_of_length_eq_zero h.symm).symm
  · obtain ⟨m', d, rfl⟩ : ∃ m' d, m = m' ++ [d] := by
      rcases List.eq_nil_or_concat m with h' | ⟨m', d, h'⟩
      · subst h'; simp at h
      · exact ⟨m', d, by rw [h', List.concat_eq_append]⟩
    have hc := hl c (by simp)
    have hd := hm d (by simp)
    rw [digV_snoc, digV_snoc] at hv
    have h1 : l = m' := ih hl.left hm.left (by simpa using h) (by omega)
    have h2 : c.toNat = d.toNat := by omega
    rw [h1, UInt8.toNat_inj.mp h2]
theorem half_val (k : Nat) : digV (53 :: List.replicate k 48) = 5 * 10 ^ k ∧ Figs (53 :: List.replicate k 48) := by
  constructor
  · have h : ∀ k, digV (List.replicate k 48) = 0 := by
      intro k
      induction k with
      | zero => rfl
      | succ k ih => rw [List.replicate_succ', digV_snoc, ih]; rfl
    have e : (53 :: List.replicate k 48 : List UInt8) = [53] ++ List.replicate k 48 := rfl
    rw [e, digV_append, h, List.length_replicate]
    rfl
  · intro c hc
    rcases List.mem_cons.mp hc with h | h
    · rw [h]; decide
    · rw [List.eq_of_mem_replicate h]; decide
theorem figsOk_take {l : List UInt8} {n : Nat} (h : figsOk l = true) (hn : 1 ≤ n) : figsOk (l.take n) = true := by
  unfold figsOk at h ⊢
  simp only [Bool.and_eq_true, Bool.or_eq_true, decide_eq_true_eq] at h ⊢
  obtain ⟨⟨h1, h2⟩, h3⟩ := h
  have hlen : (l.take n).length = min n l.length := List.length_take
  refine ⟨⟨by omega, ?_⟩, ?_⟩
  · rcases h2 with h2 | h2
    · left; omega
    · right
      cases l with
      | nil => simp at h1
      | cons a r =>
        obtain ⟨m, rfl⟩ : ∃ m, n = m + 1 := ⟨n - 1, by omega⟩
        simpa using h2
  · rw [List.all_eq_true] at h3 ⊢
    exact fun c hc => h3 c (List.mem_of_mem_take hc)
theorem last_even {l : List UInt8} {n : Nat} {c : UInt8} (hl : l.take (n + 1) = l.take n ++ [c]) (hc : 48 ≤ c.toNat ∧ c.toNat ≤ 57) : ((c.toNat : Int) - 48) % 2 = ((digV (l.take (n + 1)) % 2 : Nat) : Int) := by
  rw [hl, digV_snoc]
  omega

theorem take_pos {l : List UInt8} {n : Nat} (h : figsOk l = true) (hn : 1 ≤ n) (hl : 1 < l.length) : digV (l.take n) ≠ 0 := by
  have hf := figsOk_figs h
  intro h0
  have hz := zeroB_val (l := l.take n) (fun c hc => hf c (List.mem_of_mem_take hc))
  rw [h0] at hz
  unfold figsOk at h
  simp only [Bool.and_eq_true, Bool.or_eq_true, decide_eq_true_eq] at h
  obtain ⟨⟨_, h2⟩, _⟩ := h
  have h3 : (l.getD 0 0).toNat ≠ 48 := by
    rcases h2 with h2 | h2
    · omega
    · exact h2
  cases l with
  | nil => simp at hl
  | cons a r =>
    obtain ⟨m, rfl⟩ : ∃ m, n = m + 1 := ⟨n - 1, by omega⟩
    simp [zeroB] at hz h3
    have := hz.1
    rw [this] at h3
    exact h3 rfl

theorem short_end {l : List UInt8} {X : Int} {pos d n : Nat} (h : d = 0 ∨ ¬n < l.length) : shortR l X pos d n = (l, X) := by
  cases d with
  | zero => rfl
  | succ d =>
    rw [shortR, if_neg (by omega)]
theorem short_more {l : List UInt8} {X : Int} {pos d n : Nat} (h : n < l.length) (h1 : shL l X pos n = false) (h2 : shH l X pos n = false) : shortR l X pos (d + 1) n = shortR l X pos d (n + 1) := by
  rw [shortR, if_pos h, h1, h2]
  rfl
theorem short_hit {l : List UInt8} {X : Int} {pos d n : Nat} (h : n < l.length) (h1 : (shL l X pos n || shH l X pos n) = true) :
    shortR l X pos (d + 1) n = (Lib.decDigits (stripN (shPick l X pos n)).1, shE l X n + ((stripN (shPick l X pos n)).2 : Nat)) := by
  rw [shortR, if_pos h, h1, if_pos rfl]

end Go.Proofs.YtcabanghegddhaaGreatDoor

namespace Go.Proofs.YtcabanghegddhaaGreatDoor

/-- so many noughts make every exponent of 10 here a whole number -/
def noughts : Nat := 1100
theorem noughts_eq : noughts = 1100 := rfl

theorem near_uniform {C : Nat} {e : Int} (h : -(noughts : Int) ≤ e) : quoG (C * 10 ^ e.toNat) (10 ^ (-e).toNat) = quoG (C * 10 ^ (e + noughts).toNat) (10 ^ noughts) := by
  by_cases h0 : 0 ≤ e
  · obtain ⟨k, rfl⟩ : ∃ k : Nat, e = k := ⟨e.toNat, by omega⟩
    rw [(by omega : (-(k : Int)).toNat = 0), (by omega : ((k : Int) + (noughts : Int)).toNat = k + noughts), Int.toNat_natCast, Nat.pow_zero, Nat.pow_add, ← Nat.mul_assoc]
    have := quoG_scale (a := C * 10 ^ k) (b := 1) (c := 10 ^ noughts) (by have := Nat.pow_pos (n := noughts) (by decide : 0 < 10); omega)
    rw [Nat.one_mul] at this
    exact this.symm
  · obtain ⟨k, hk⟩ : ∃ k : Nat, e = -(k : Int) := ⟨(-e).toNat, by omega⟩
    subst hk
    obtain ⟨j, hj⟩ : ∃ j, noughts = k + j := ⟨noughts - k, by omega⟩
    rw [(by omega : (-(-(k : Int))).toNat = k), (by omega : (-(k : Int)).toNat = 0), (by omega : (-(k : Int) + (noughts : Int)).toNat = j), Nat.pow_zero, Nat.mul_one, hj, Nat.pow_add]
    exact (quoG_scale (a := C) (b := 10 ^ k) (c := 10 ^ j) (by have := Nat.pow_pos (n := j) (by decide : 0 < 10); omega)).symm

theorem exact_val {m : Nat} {E : Int} (h0 : m ≠ 0) (h1 : -1074 ≤ E) : -1074 ≤ exactX m E ∧ exactF m E * 10 ^ (exactX m E + noughts).toNat * 2 ^ 1074 = m * 2 ^ (E + 1074).toNat * 10 ^ noughts := by
  obtain ⟨c, hc⟩ : ∃ c : Nat, (c : Nat) = 1074 := ⟨_, rfl⟩
  rw [← hc]
  by_cases hE : 0 ≤ E
  · obtain ⟨k, rfl⟩ : ∃ k : Nat, E = k := ⟨E.toNat, by omega⟩
    obtain ⟨X, x1, x2, _⟩ := exact_up (m := m) (k := k) h0
    rw [x1]
    refine ⟨by omega, ?_⟩
    rw [(by omega : ((X : Int) + (noughts : Int)).toNat = X + noughts), (by omega : ((k : Int) + 1074).toNat = k + c), Nat.pow_add, Nat.pow_add, ← Nat.mul_assoc, x2, ← Nat.mul_assoc, Nat.mul_right_comm]
  · obtain ⟨k, hk⟩ : ∃ k : Nat, E = -(k : Int) := ⟨(-E).toNat, by omega⟩
    subst hk
    obtain ⟨z, x1, x2, _⟩ := exact_down (m := m) (k := k) h0 (by omega)
    rw [x1]
    refine ⟨by omega, ?_⟩
    obtain ⟨j, hj⟩ : ∃ j, c = k + j := ⟨c - k, by omega⟩
    obtain ⟨i, hi⟩ : ∃ i, noughts = k + i := ⟨noughts - k, by rw [noughts_eq]; omega⟩
    rw [(by omega : ((z : Int) - (k : Int) + (noughts : Int)).toNat = z + i), (by omega : (-(k : Int) + 1074).toNat = j), hj, hi, Nat.pow_add 10 z i, ← Nat.mul_assoc, x2, Nat.pow_add 2 k j, Nat.pow_add 10 k i, ten_pow k]
    generalize (5 : Nat) ^ k = a
    generalize (2 : Nat) ^ k = b
    generalize (2 : Nat) ^ j = d
    generalize (10 : Nat) ^ i = f
    rw [Nat.mul_assoc m a f, Nat.mul_assoc m, Nat.mul_assoc m]
    congr 1
    rw [Nat.mul_comm a f, Nat.mul_assoc f, Nat.mul_left_comm a b d, Nat.mul_comm d, Nat.mul_assoc, Nat.mul_comm f, Nat.mul_assoc, Nat.mul_assoc, Nat.mul_comm d, Nat.mul_comm f, Nat.mul_assoc]

/-- a candidate that is near enough: the number is F units, a step between numbers is g, M of them make it -/
theorem cand_side {F u g M C R : Nat} (hv : M * g = F * u) (hM : M ≠ 0) (h1 : 2 * (C * R * u) < 2 * (F * u) + g) (h2 : 2 * (F * u) < 2 * (C * R * u) + g) :
    2 * (C * R * u) < (2 * M + 1) * g ∧ (2 * M - 1) * g < 2 * (C * R * u) := by
  have e1 : (2 * M + 1) * g = 2 * (F * u) + g := by rw [Nat.add_mul, Nat.one_mul, Nat.mul_assoc, hv]
  have e2 : (2 * M - 1) * g + g = 2 * (F * u) := by
    have : (2 * M - 1) * g + g = (2 * M - 1 + 1) * g := by rw [Nat.add_mul, Nat.one_mul]
    rw [this, (by omega : 2 * M - 1 + 1 = 2 * M), Nat.mul_assoc, hv]
  omega

/-- of the two with seventeen figures one is near enough -/
theorem seventeen {F u g M R low rest : Nat} (hv : M * g = F * u) (hM : M < 9007199254740992) (hu : 0 < u) (hF : F = low * R + rest) (hr : rest < R) (hl : 10000000000000000 ≤ low) :
    R * u < g ∧ (M = 4503599627370496 → 2 * (R * u) < g) ∧
    (2 * rest ≤ R → 2 * (low * R * u) < 2 * (F * u) + g ∧ 2 * (F * u) < 2 * (low * R * u) + g ∧ (M = 4503599627370496 → 4 * (F * u) < 4 * (low * R * u) + g)) ∧
    (R < 2 * rest → 2 * ((low + 1) * R * u) < 2 * (F * u) + g ∧ 2 * (F * u) < 2 * ((low + 1) * R * u) + g ∧ (M = 4503599627370496 → 4 * (F * u) < 4 * ((low + 1) * R * u) + g)) := by
  have e1 : F * u = low * R * u + rest * u := by rw [hF, Nat.add_mul]
  have e2 : (low + 1) * R * u = low * R * u + R * u := by rw [Nat.add_mul, Nat.one_mul, Nat.add_mul]
  have a1 : 10000000000000000 * (R * u) ≤ low * R * u := by rw [Nat.mul_assoc]; exact Nat.mul_le_mul_right _ hl
  have hRu : 0 < R * u := Nat.mul_pos (by omega) hu
  have g1 : R * u < g := by
    rcases Nat.lt_or_ge (R * u) g with h | h
    · exact h
    · have : M * g ≤ 9007199254740992 * (R * u) := Nat.mul_le_mul (by omega) h
      omega
  have g2 : M = 4503599627370496 → 2 * (R * u) < g := by
    intro hMe
    rcases Nat.lt_or_ge (2 * (R * u)) g with h | h
    · exact h
    · have : M * g ≤ 4503599627370496 * (2 * (R * u)) := Nat.mul_le_mul (by omega) h
      omega
  refine ⟨g1, g2, fun h => ?_, fun h => ?_⟩
  · have b1 : 2 * rest * u ≤ R * u := Nat.mul_le_mul_right _ h
    have b2 : 2 * rest * u = 2 * (rest * u) := Nat.mul_assoc _ _ _
    refine ⟨by omega, by omega, fun hMe => ?_⟩
    have := g2 hMe
    omega
  · have b1 : (R + 1) * u ≤ 2 * rest * u := Nat.mul_le_mul_right _ h
    have b2 : 2 * rest * u = 2 * (rest * u) := Nat.mul_assoc _ _ _
    have b3 : (R + 1) * u = R * u + u := by rw [Nat.add_mul, Nat.one_mul]
    have b4 : rest * u < R * u := Nat.mul_lt_mul_of_pos_right hr hu
    refine ⟨by omega, by omega, fun hMe => by omega⟩

theorem pow_pos_eq {k W : Nat} (h : 2 ^ k = W) : 0 < W := by rw [← h]; exact Nat.two_pow_pos k
/-- the units and the steps of a finite number -/
def unitN (x : Nat) : Nat := 10 ^ (exactX (mantN x) (expN x) + noughts).toNat * 2 ^ 1074
def stepN (x : Nat) : Nat := 2 ^ (expN x + 1074).toNat * 10 ^ noughts
theorem unit_step {x : Nat} (kx : kindN x = 4) : mantN x * stepN x = exactF (mantN x) (expN x) * unitN x ∧ 0 < unitN x := by
  have h := (exact_val (mantN_pos kx) (expN_ge x)).2
  unfold unitN stepN
  obtain ⟨W, hW⟩ : ∃ W : Nat, (2 : Nat) ^ 1074 = W := ⟨_, rfl⟩
  have hW0 : 0 < W := pow_pos_eq hW
  rw [hW] at h ⊢
  refine ⟨?_, Nat.mul_pos (Nat.pow_pos (by decide)) hW0⟩
  rw [← Nat.mul_assoc, ← Nat.mul_assoc]
  exact h.symm
theorem plain_bits {x : Nat} (kx : kindN x = 4) (hx : x < 9223372036854775808) : mantN x + (expN x + 1074).toNat * 4503599627370496 = x := by
  have h := (bits_parts kx (by omega)).1
  have hb : belowN x = false := by rw [belowN_of (by omega)]; exact decide_eq_false (by omega)
  rw [hb] at h
  exact h

/-- figures that are near enough read back -/
theorem cand_back {x C r : Nat} {c : List UInt8} {e : Int} (kx : kindN x = 4) (hx : x < 9223372036854775808) (hc : figsOk c = true) (hC : digV c = C) (hC0 : C ≠ 0) (hl : c.length ≤ 60) (he : e = exactX (mantN x) (expN x) + r) (e1 : -500 ≤ e) (e2 : e ≤ 500)
    (h1 : 2 * (C * 10 ^ r * unitN x) < 2 * (exactF (mantN x) (expN x) * unitN x) + stepN x) (h2 : 2 * (exactF (mantN x) (expN x) * unitN x) < 2 * (C * 10 ^ r * unitN x) + stepN x)
    (h3 : mantN x = 4503599627370496 → 4 * (exactF (mantN x) (expN x) * unitN x) < 4 * (C * 10 ^ r * unitN x) + stepN x) : nearN c e = x := by
  obtain ⟨v1, v2⟩ := unit_step kx
  have hX := (exact_val (mantN_pos kx) (expN_ge x)).1
  have hz : zeroB c = false := by
    rw [zeroB_val (figsOk_figs hc), hC]
    exact decide_eq_false hC0
  unfold nearN
  rw [if_pos ⟨hc, hl, e1, e2, hz⟩, hC, near_uniform (by rw [noughts_eq]; omega)]
  obtain ⟨s1, s2⟩ := cand_side v1 (mantN_pos kx) h1 h2
  have s3 : mantN x = 4503599627370496 → (4 * mantN x - 1) * stepN x < 4 * (C * 10 ^ r * unitN x) := by
    intro hm
    have h4 := h3 hm
    rw [← v1] at h4
    have : (4 * mantN x - 1) * stepN x + stepN x = 4 * (mantN x * stepN x) := by
      have e3 : (4 * mantN x - 1) * stepN x + stepN x = (4 * mantN x - 1 + 1) * stepN x := by rw [Nat.add_mul, Nat.one_mul]
      rw [e3, (by have := mantN_pos kx; omega : 4 * mantN x - 1 + 1 = 4 * mantN x), Nat.mul_assoc]
    omega
  have ea : C * 10 ^ (e + noughts).toNat * 2 ^ 1074 = C * 10 ^ r * unitN x := by
    obtain ⟨W, hW⟩ : ∃ W : Nat, (2 : Nat) ^ 1074 = W := ⟨_, rfl⟩
    unfold unitN
    rw [hW, (by rw [noughts_eq]; omega : (e + noughts).toNat = r + (exactX (mantN x) (expN x) + noughts).toNat), Nat.pow_add]
    rw [Nat.mul_assoc C, Nat.mul_assoc C, Nat.mul_assoc]
  have eb : ∀ q, q * 2 ^ (expN x + 1074).toNat * 10 ^ noughts = q * stepN x := fun q => by unfold stepN; rw [Nat.mul_assoc]
  have hE1 := expN_ge x
  have hE2 := expN_le x
  rw [quoG_back (M := mantN x) (t := (expN x + 1074).toNat) (by have := Nat.pow_pos (n := noughts) (by decide : 0 < 10); omega) (mantN_pos kx) (mantN_lt x) (by omega) (by rcases mantN_norm kx with h | h; exact .inl (by omega); exact .inr h)
    (by rw [ea, eb]; exact s1) (by rw [ea, eb]; exact s2) (fun _ hm => by rw [ea, eb]; exact s3 hm)]
  exact plain_bits kx hx

end Go.Proofs.YtcabanghegddhaaGreatDoor

namespace Go.Proofs.YtcabanghegddhaaGreatDoor

theorem least_ten : (2 : Nat) ^ 1074 ≤ 10 ^ 324 := by decide +kernel
theorem most_ten : (2 : Nat) ^ 1024 ≤ 10 ^ 309 := by decide +kernel
theorem dec_size {n : Nat} (h : n ≠ 0) : (Lib.decDigits n).length ≠ 0 ∧ 10 ^ ((Lib.decDigits n).length - 1) ≤ n ∧ n < 10 ^ (Lib.decDigits n).length := by
  obtain ⟨a1, a2, a3⟩ := digV_dec n
  have a4 := digV_lt a2
  rw [a1] at a4
  refine ⟨fun h0 => a3 (List.eq_nil_of_length_eq_zero h0), ?_, a4⟩
  have := dec_low h
  rw [← Lib.decDigits_length] at this
  exact this

theorem ten_exp {a b c : Nat} (h : 10 ^ b < 10 ^ a * 10 ^ c) : b < a + c := by
  rw [← Nat.pow_add] at h
  exact pow_less h
theorem low_exp {a b c W : Nat} (hW : W ≤ 10 ^ c) (h : 10 ^ b < 10 ^ a * W) : b < a + c := ten_exp (Nat.lt_of_lt_of_le h (Nat.mul_le_mul_left _ hW))

theorem high_exp {F M L y t N s c d q : Nat} (ht : t ≤ s) (hM : M < 2 ^ 53) (hs : 53 + s = c + d) (hq : 2 ^ c ≤ 10 ^ q) (d1 : 10 ^ (L - 1) ≤ F) (v : M * (2 ^ t * 10 ^ N) = F * (10 ^ y * 2 ^ d)) : L - 1 + y < q + N := by
  have hp : 0 < 10 ^ N := Nat.pow_pos (by decide)
  have h1 : M * (2 ^ t * 10 ^ N) < 2 ^ 53 * (2 ^ s * 10 ^ N) :=
    Nat.lt_of_lt_of_le (Nat.mul_lt_mul_of_pos_right hM (Nat.mul_pos (Nat.two_pow_pos t) hp)) (Nat.mul_le_mul_left _ (Nat.mul_le_mul_right _ (Nat.pow_le_pow_right (by decide) ht)))
  have e1 : 2 ^ 53 * (2 ^ s * 10 ^ N) = 2 ^ c * 10 ^ N * 2 ^ d := by
    rw [← Nat.mul_assoc, ← Nat.pow_add, hs, Nat.pow_add, Nat.mul_right_comm]
  have h2 : 10 ^ (L - 1) * (10 ^ y * 2 ^ d) ≤ F * (10 ^ y * 2 ^ d) := Nat.mul_le_mul_right _ d1
  rw [e1, v] at h1
  have h3 : 10 ^ (L - 1 + y) * 2 ^ d < 2 ^ c * 10 ^ N * 2 ^ d := by
    rw [Nat.pow_add, Nat.mul_assoc]
    exact Nat.lt_of_le_of_lt h2 h1
  have h4 : 10 ^ (L - 1 + y) < 2 ^ c * 10 ^ N := Nat.lt_of_mul_lt_mul_right h3
  exact ten_exp (Nat.lt_of_lt_of_le h4 (Nat.mul_le_mul_right _ hq))

/-- where a number stands among the powers of 10 -/
theorem exact_place {x : Nat} (kx : kindN x = 4) : -324 < exactX (mantN x) (expN x) + ((Lib.decDigits (exactF (mantN x) (expN x))).length : Int) ∧ exactX (mantN x) (expN x) + ((Lib.decDigits (exactF (mantN x) (expN x))).length : Int) ≤ 309 := by
  obtain ⟨v1, v2⟩ := unit_step kx
  have hX := (exact_val (mantN_pos kx) (expN_ge x)).1
  have hm0 := mantN_pos kx
  have hm := mantN_lt x
  have hE1 := expN_ge x
  have hE2 := expN_le x
  have hF0 : exactF (mantN x) (expN x) ≠ 0 := by
    intro h
    rw [h, Nat.zero_mul] at v1
    have : 0 < mantN x * stepN x := Nat.mul_pos (by omega) (by unfold stepN; exact Nat.mul_pos (Nat.two_pow_pos _) (Nat.pow_pos (by decide)))
    omega
  obtain ⟨d0, d1, d2⟩ := dec_size hF0
  unfold unitN stepN at v1
  generalize exactF (mantN x) (expN x) = F at *
  generalize (Lib.decDigits F).length = L at *
  generalize exactX (mantN x) (expN x) = X at *
  generalize mantN x = M at *
  obtain ⟨y, hy⟩ : ∃ y : Nat, (X + noughts).toNat = y := ⟨_, rfl⟩
  have hy2 : X + noughts = y := by rw [noughts_eq] at *; omega
  obtain ⟨t, ht⟩ : ∃ t : Nat, (expN x + 1074).toNat = t := ⟨_, rfl⟩
  have ht2 : t ≤ 2045 := by omega
  rw [hy, ht] at v1
  have hn := noughts_eq
  constructor
  · -- not too small
    obtain ⟨W, hW⟩ : ∃ W : Nat, (2 : Nat) ^ 1074 = W := ⟨_, rfl⟩
    have hW2 := least_ten
    rw [hW] at v1 hW2
    have h1 : 10 ^ noughts ≤ M * (2 ^ t * 10 ^ noughts) := by
      have a1 : 1 * 10 ^ noughts ≤ 2 ^ t * 10 ^ noughts := Nat.mul_le_mul_right _ (Nat.two_pow_pos t)
      have a2 : 1 * (2 ^ t * 10 ^ noughts) ≤ M * (2 ^ t * 10 ^ noughts) := Nat.mul_le_mul_right _ (by omega)
      omega
    have h2 : F * (10 ^ y * W) < 10 ^ L * (10 ^ y * W) := Nat.mul_lt_mul_of_pos_right d2 (Nat.mul_pos (Nat.pow_pos (by decide)) (pow_pos_eq hW))
    have h3 : 10 ^ noughts < 10 ^ (L + y) * W := by
      rw [Nat.pow_add, Nat.mul_assoc]
      omega
    have h4 := low_exp hW2 h3
    omega
  · have h6 := high_exp (s := 2045) (c := 1024) (d := 1074) (q := 309) ht2 hm (by omega) most_ten d1 v1
    omega

/-- of the two with seventeen figures one reads back -/
theorem seventeen_back {x : Nat} {l : List UInt8} (kx : kindN x = 4) (hx : x < 9223372036854775808) (hl : l = Lib.decDigits (exactF (mantN x) (expN x))) (h17 : 17 < l.length) :
    (shL l (exactX (mantN x) (expN x)) x 17 || shH l (exactX (mantN x) (expN x)) x 17) = true := by
  obtain ⟨v1, v2⟩ := unit_step kx
  obtain ⟨p1, p2⟩ := exact_place kx
  have hb := exact_bounds (mantN_pos kx) (mantN_lt x) (expN_ge x) (expN_le x)
  have hlen : l.length ≤ 800 := by rw [hl]; exact dec_len (by omega) hb.1
  have hfig : figsOk l = true := by rw [hl]; exact figs_of_dec (by rw [← hl]; exact hlen)
  have hF0 : exactF (mantN x) (expN x) ≠ 0 := by
    intro h
    rw [h] at hb
    exact hb.2.2.2 rfl
  obtain ⟨_, d1, _⟩ := dec_size hF0
  have hval : digV l = exactF (mantN x) (expN x) := by rw [hl]; exact (digV_dec _).1
  rw [← hl] at p1 p2 d1
  have hft := figsOk_take (n := 17) hfig (by omega)
  have hfd : Figs (l.drop 17) := fun c hc => figsOk_figs hfig c (List.mem_of_mem_drop hc)
  have hsplit : digV l = digV (l.take 17) * 10 ^ (l.length - 17) + digV (l.drop 17) := by
    have := digV_append (l.take 17) (l.drop 17)
    rw [List.take_append_drop, List.length_drop] at this
    exact this
  have hrest : digV (l.drop 17) < 10 ^ (l.length - 17) := by
    have := digV_lt hfd
    rw [List.length_drop] at this
    exact this
  have hlow : digV (l.take 17) < 10 ^ 17 := by
    have := digV_lt (figsOk_figs hft)
    rw [List.length_take, Nat.min_eq_left (by omega)] at this
    exact this
  rw [hval] at hsplit
  obtain ⟨r, hr⟩ : ∃ r, l.length - 17 = r := ⟨_, rfl⟩
  rw [hr] at hsplit hrest
  have hge : 10000000000000000 ≤ digV (l.take 17) := by
    rw [(by omega : l.length - 1 = 16 + r), Nat.pow_add] at d1
    rcases Nat.lt_or_ge (digV (l.take 17)) 10000000000000000 with h | h
    · have h5 : (digV (l.take 17) + 1) * 10 ^ r ≤ 10 ^ 16 * 10 ^ r := Nat.mul_le_mul_right _ h
      rw [Nat.add_mul, Nat.one_mul] at h5
      omega
    · exact h
  obtain ⟨_, _, g3, g4⟩ := seventeen v1 (mantN_lt x) v2 hsplit hrest hge
  have he : shE l (exactX (mantN x) (expN x)) 17 = exactX (mantN x) (expN x) + r := by unfold shE; omega
  rw [Bool.or_eq_true]
  rcases Nat.lt_or_ge (10 ^ r) (2 * digV (l.drop 17)) with h | h
  · right
    obtain ⟨q1, q2, q3⟩ := g4 h
    unfold shH
    rw [decide_eq_true_eq]
    have hd18 : (Lib.decDigits (digV (l.take 17) + 1)).length ≤ 18 := dec_len (by omega) (by omega)
    exact cand_back kx hx (figs_of_dec (by omega)) (digV_dec _).1 (by omega) (by omega) he (by omega) (by omega) q1 q2 q3
  · left
    obtain ⟨q1, q2, q3⟩ := g3 h
    unfold shL
    rw [decide_eq_true_eq]
    exact cand_back kx hx hft rfl (by omega) (by rw [List.length_take]; omega) he (by omega) (by omega) q1 q2 q3

end Go.Proofs.YtcabanghegddhaaGreatDoor

namespace Go.Proofs.YtcabanghegddhaaGreatDoor

/-- a nought less at the end -/
theorem near_tens {c c' : List UInt8} {e : Int} (hc : figsOk c = true) (hc' : figsOk c' = true) (hl : c.length ≤ 60) (hl' : c'.length ≤ 60) (hv : digV c = 10 * digV c') (h0 : digV c' ≠ 0) (e1 : -500 ≤ e) (e2 : e + 1 ≤ 500) : nearN c e = nearN c' (e + 1) := by
  have z1 : zeroB c = false := by rw [zeroB_val (figsOk_figs hc)]; exact decide_eq_false (by omega)
  have z2 : zeroB c' = false := by rw [zeroB_val (figsOk_figs hc')]; exact decide_eq_false h0
  unfold nearN
  rw [if_pos ⟨hc, hl, e1, by omega, z1⟩, if_pos ⟨hc', hl', by omega, e2, z2⟩, near_uniform (by rw [noughts_eq]; omega), near_uniform (by rw [noughts_eq]; omega), hv]
  rw [(by rw [noughts_eq]; omega : (e + 1 + (noughts : Int)).toNat = (e + noughts).toNat + 1), Nat.pow_succ, Nat.mul_comm 10, Nat.mul_assoc, Nat.mul_comm 10]

def NoneBelow (l : List UInt8) (X : Int) (pos n : Nat) : Prop := ∀ m, 1 ≤ m → m < n → shL l X pos m = false ∧ shH l X pos m = false

theorem short_first (l : List UInt8) (X : Int) (pos : Nat) : ∀ d n, 1 ≤ n → NoneBelow l X pos n →
    (∃ k, n ≤ k ∧ k < n + d ∧ k < l.length ∧ (shL l X pos k || shH l X pos k) = true ∧ NoneBelow l X pos k ∧ shortR l X pos d n = (Lib.decDigits (stripN (shPick l X pos k)).1, shE l X k + ((stripN (shPick l X pos k)).2 : Nat))) ∨
    (shortR l X pos d n = (l, X) ∧ NoneBelow l X pos (min (n + d) l.length)) := by
  intro d
  induction d with
  | zero =>
    intro n h1 hN
    exact .inr ⟨rfl, fun m a b => hN m a (by omega)⟩
  | succ d ih =>
    intro n h1 hN
    by_cases hlt : n < l.length
    · cases ho : (shL l X pos n || shH l X pos n) with
      | true => exact .inl ⟨n, Nat.le_refl _, by omega, hlt, ho, hN, short_hit hlt ho⟩
      | false =>
        rw [Bool.or_eq_false_iff] at ho
        rw [short_more hlt ho.1 ho.2]
        rcases ih (n + 1) (by omega) (fun m a b => by
          rcases Nat.lt_or_ge m n with h | h
          · exact hN m a h
          · have : m = n := by omega
            subst this
            exact ho) with ⟨k, k1, k2, k3, k4, k5, k6⟩ | ⟨k1, k2⟩
        · exact .inl ⟨k, by omega, by omega, k3, k4, k5, k6⟩
        · exact .inr ⟨k1, fun m a b => k2 m a (by omega)⟩
    · exact .inr ⟨short_end (.inr hlt), fun m a b => hN m a (by omega)⟩

structure ShortOk (s : List UInt8) (e : Int) (x : Nat) : Prop where
  back : nearN s e = x
  fig : figsOk s = true
  len : s.length ≤ 17
  last : digV s % 10 ≠ 0
  range : -400 ≤ e ∧ e ≤ 400
  less : s.length ≠ 1 → nearN (s.take (s.length - 1)) (e + 1) ≠ x ∧ nearN (Lib.decDigits (digV (s.take (s.length - 1)) + 1)) (e + 1) ≠ x

theorem dec_take {l : List UInt8} {n : Nat} (h : figsOk l = true) (h1 : 1 ≤ n) : Lib.decDigits (digV (l.take n)) = l.take n := figsOk_dec (figsOk_take h h1)
theorem take_tens {l : List UInt8} {n : Nat} (h : n < l.length) (hf : Figs l) : digV (l.take (n + 1)) / 10 = digV (l.take n) := by
  rw [List.take_succ_eq_append_getElem h, digV_snoc]
  have := hf l[n] (List.getElem_mem h)
  omega

theorem dec_length {N k : Nat} (h1 : 10 ^ (k - 1) ≤ N) (h2 : N < 10 ^ k) : (Lib.decDigits N).length = k := by
  have h0 : N ≠ 0 := by
    have : 0 < 10 ^ (k - 1) := Nat.pow_pos (by decide)
    omega
  obtain ⟨d0, d1, d2⟩ := dec_size h0
  have a1 := pow_less (Nat.lt_of_le_of_lt d1 h2)
  have a2 := pow_less (Nat.lt_of_le_of_lt h1 d2)
  omega
theorem ten_mod {k : Nat} (h : k ≠ 0) : 10 ^ k % 10 = 0 := by
  obtain ⟨j, rfl⟩ : ∃ j, k = j + 1 := ⟨k - 1, by omega⟩
  rw [Nat.pow_succ, Nat.mul_mod_left]

theorem short_ok {x : Nat} {l : List UInt8} (kx : kindN x = 4) (hx : x < 9223372036854775808) (hl : l = Lib.decDigits (exactF (mantN x) (expN x))) :
    ShortOk (shortR l (exactX (mantN x) (expN x)) x 17 1).1 (shortR l (exactX (mantN x) (expN x)) x 17 1).2 x := by
  obtain ⟨v1, v2⟩ := unit_step kx
  obtain ⟨p1, p2⟩ := exact_place kx
  have hb := exact_bounds (mantN_pos kx) (mantN_lt x) (expN_ge x) (expN_le x)
  have hlen : l.length ≤ 800 := by rw [hl]; exact dec_len (by omega) hb.1
  have hfig : figsOk l = true := by rw [hl]; exact figs_of_dec (by rw [← hl]; exact hlen)
  have hval : digV l = exactF (mantN x) (expN x) := by rw [hl]; exact (digV_dec _).1
  have hF := hb.2.2.2
  have hF0 : exactF (mantN x) (expN x) ≠ 0 := by omega
  have h17 := fun h => seventeen_back kx hx hl h
  have hl1 := (dec_size hF0).1
  rw [← hl] at p1 p2 hl1
  have hg : 0 < stepN x := by unfold stepN; exact Nat.mul_pos (Nat.two_pow_pos _) (Nat.pow_pos (by decide))
  have self := fun (h60 : l.length ≤ 60) (q1 : -500 ≤ exactX (mantN x) (expN x)) (q2 : exactX (mantN x) (expN x) ≤ 500) => cand_back (r := 0) (c := l) (e := exactX (mantN x) (expN x)) kx hx hfig hval hF0 h60 (by omega) q1 q2 (by rw [Nat.pow_zero, Nat.mul_one]; omega) (by rw [Nat.pow_zero, Nat.mul_one]; omega) (fun _ => by rw [Nat.pow_zero, Nat.mul_one]; omega)
  generalize exactX (mantN x) (expN x) = X at *
  generalize exactF (mantN x) (expN x) = F at *
  clear v1 v2 hb hl
  rcases short_first l X x 17 1 (Nat.le_refl _) (fun m a b => by omega) with ⟨k, k1, k2, k3, k4, k5, k6⟩ | ⟨k1, k2⟩
  · rw [k6]
    show ShortOk (Lib.decDigits (stripN (shPick l X x k)).1) (shE l X k + ((stripN (shPick l X x k)).2 : Nat)) x
    have hE : shE l X k = X + l.length - k := rfl
    have hft := figsOk_take hfig k1
    have hD0 := take_pos hfig k1 (by omega)
    have hDl : digV (l.take k) < 10 ^ k := by
      have := digV_lt (figsOk_figs hft)
      rw [List.length_take, Nat.min_eq_left (by omega)] at this
      exact this
    have hdt := dec_take hfig k1
    -- the pick reads back
    have hpick : nearN (Lib.decDigits (shPick l X x k)) (shE l X k) = x ∧ (shPick l X x k = digV (l.take k) ∧ shL l X x k = true ∨ shPick l X x k = digV (l.take k) + 1 ∧ shH l X x k = true) := by
      unfold shPick
      cases hu : shUp l X x k with
      | false =>
        have hL : shL l X x k = true := by
          unfold shUp at hu
          rw [Bool.or_eq_false_iff] at hu
          simpa using hu.1
        rw [if_neg (by decide), hdt]
        refine ⟨?_, .inl ⟨rfl, hL⟩⟩
        unfold shL at hL
        exact of_decide_eq_true hL
      | true =>
        have hH : shH l X x k = true := by
          unfold shUp at hu
          rw [Bool.or_eq_true] at hu
          rcases hu with h | h
          · rw [Bool.not_eq_true'] at h
            rw [h, Bool.false_or] at k4
            exact k4
          · rw [Bool.and_eq_true] at h
            exact h.1
        rw [if_pos rfl]
        refine ⟨?_, .inr ⟨rfl, hH⟩⟩
        unfold shH at hH
        exact of_decide_eq_true hH
    obtain ⟨hback, hcase⟩ := hpick
    generalize shPick l X x k = N at *
    have hN : N ≠ 0 ∧ N ≤ 10 ^ k := by rcases hcase with ⟨h, _⟩ | ⟨h, _⟩ <;> omega
    have hrange : -340 ≤ shE l X k ∧ shE l X k ≤ 320 := by rw [hE]; omega
    have hNf : ∀ M, M ≤ 10 ^ 17 → figsOk (Lib.decDigits M) = true ∧ (Lib.decDigits M).length ≤ 60 := fun M hM => by
      have : (Lib.decDigits M).length ≤ 18 := dec_len (by omega) (by omega)
      exact ⟨figs_of_dec (by omega), by omega⟩
    have hk17 : 10 ^ k ≤ 10 ^ 17 := Nat.pow_le_pow_right (by decide) (by omega)
    by_cases hk1 : k = 1
    · subst hk1
      rw [Nat.pow_one] at hN hDl
      by_cases hN10 : N = 10
      · subst hN10
        have hs : stripN 10 = (1, 1) := by rw [strip_more (by decide) (by decide), strip_done (by decide)]
        rw [hs]
        show ShortOk (Lib.decDigits 1) (shE l X 1 + ((1 : Nat) : Int)) x
        have h1 : Lib.decDigits 1 = [49] := dec_small (by decide)
        obtain ⟨f1, f2⟩ := hNf 1 (by omega)
        obtain ⟨f3, f4⟩ := hNf 10 (by omega)
        have hv1 := (digV_dec 1).1
        have hv10 := (digV_dec 10).1
        rw [near_tens f3 f1 f4 f2 (by rw [hv1, hv10]) (by rw [hv1]; decide) (by omega) (by omega)] at hback
        exact ⟨hback, f1, by rw [h1]; decide, by rw [hv1]; decide, by omega, fun h => absurd (by rw [h1]; rfl) h⟩
      · have hs : stripN N = (N, 0) := strip_done (by omega)
        rw [hs]
        show ShortOk (Lib.decDigits N) (shE l X 1 + ((0 : Nat) : Int)) x
        rw [(by omega : shE l X 1 + ((0 : Nat) : Int) = shE l X 1)]
        have h1 : Lib.decDigits N = [UInt8.ofNat (48 + N)] := dec_small (by omega)
        obtain ⟨f1, f2⟩ := hNf N (by omega)
        exact ⟨hback, f1, by rw [h1]; simp, by rw [(digV_dec N).1]; omega, by omega, fun h => absurd (by rw [h1]; rfl) h⟩
    · obtain ⟨j, hj⟩ : ∃ j, k = j + 1 := ⟨k - 1, by omega⟩
      obtain ⟨n1, n2⟩ := k5 j (by omega) (by omega)
      have hD' := take_tens (n := j) (by omega) (figsOk_figs hfig)
      rw [← hj] at hD'
      have hD'0 := take_pos hfig (by omega : 1 ≤ j) (by omega)
      have hEj : shE l X k + 1 = shE l X j := by unfold shE; omega
      have hfj := figsOk_take hfig (by omega : 1 ≤ j)
      have hdj := dec_take hfig (by omega : 1 ≤ j)
      obtain ⟨f1, f2⟩ := hNf N (by omega)
      have hvN := (digV_dec N).1
      have hN10 : N % 10 ≠ 0 := by
        intro h0
        rcases hcase with ⟨hc, _⟩ | ⟨hc, _⟩
        · rw [near_tens (c' := l.take j) f1 hfj f2 (by rw [List.length_take]; omega) (by rw [hvN]; omega) hD'0 (by omega) (by omega), hEj] at hback
          unfold shL at n1
          exact of_decide_eq_false n1 hback
        · obtain ⟨f3, f4⟩ := hNf (digV (l.take j) + 1) (by omega)
          have hvj := (digV_dec (digV (l.take j) + 1)).1
          rw [near_tens (c' := Lib.decDigits (digV (l.take j) + 1)) f1 f3 f2 f4 (by rw [hvN, hvj]; omega) (by rw [hvj]; omega) (by omega) (by omega), hEj] at hback
          unfold shH at n2
          exact of_decide_eq_false n2 hback
      have hs : stripN N = (N, 0) := strip_done hN10
      rw [hs]
      show ShortOk (Lib.decDigits N) (shE l X k + ((0 : Nat) : Int)) x
      rw [(by omega : shE l X k + ((0 : Nat) : Int) = shE l X k)]
      have hDge : 10 ^ (k - 1) ≤ digV (l.take k) := by
        have := (dec_size hD0).2.1
        rw [hdt, List.length_take, Nat.min_eq_left (by omega)] at this
        exact this
      have hNlt : N < 10 ^ k := by
        rcases Nat.eq_or_lt_of_le hN.2 with h | h
        · rw [h, ten_mod (by omega)] at hN10
          exact absurd rfl hN10
        · exact h
      have hNlen : (Lib.decDigits N).length = k := dec_length (by rcases hcase with ⟨h, _⟩ | ⟨h, _⟩ <;> omega) hNlt
      have hNdiv : N / 10 = digV (l.take j) := by rcases hcase with ⟨h, _⟩ | ⟨h, _⟩ <;> omega
      have htake : (Lib.decDigits N).take (k - 1) = l.take j := by
        obtain ⟨q, q1, q2, q3⟩ := dec_last (M := N)
        have q4 := q3 (by
          rcases Nat.lt_or_ge N 10 with h | h
          · have := q2.mpr h
            rw [this] at q1
            rw [q1] at hNlen
            simp at hNlen
            omega
          · exact h)
        rw [q1] at hNlen ⊢
        rw [List.length_append, List.length_singleton] at hNlen
        rw [(by omega : k - 1 = q.length), List.take_left, q4, hNdiv, hdj]
      refine ⟨hback, f1, by omega, by rw [hvN]; exact hN10, by omega, fun _ => ?_⟩
      rw [hNlen, htake, hEj]
      unfold shL at n1
      unfold shH at n2
      exact ⟨of_decide_eq_false n1, of_decide_eq_false n2⟩
  · rw [k1]
    show ShortOk l X x
    have hL17 : l.length ≤ 17 := by
      rcases Nat.lt_or_ge 17 l.length with h | h
      · have a := h17 h
        obtain ⟨b1, b2⟩ := k2 17 (by omega) (by omega)
        rw [b1, b2] at a
        cases a
      · exact h
    refine ⟨self (by omega) (by omega) (by omega), hfig, hL17, by rw [hval]; exact hF, by omega, fun hne => ?_⟩
    obtain ⟨b1, b2⟩ := k2 (l.length - 1) (by omega) (by omega)
    unfold shL at b1
    unfold shH at b2
    have he : shE l X (l.length - 1) = X + 1 := by unfold shE; omega
    rw [he] at b1 b2
    exact ⟨of_decide_eq_false b1, of_decide_eq_false b2⟩

end Go.Proofs.YtcabanghegddhaaGreatDoor

namespace Go.Proofs.YtcabanghegddhaaGreatDoor

def isFig (c : UInt8) : Bool := decide (48 ≤ c.toNat) && decide (c.toNat ≤ 57)
/-- how many figures stand at the head -/
def runN (l : List UInt8) : Nat := (l.takeWhile isFig).length

theorem isFig_of {c : UInt8} (h : 48 ≤ c.toNat ∧ c.toNat ≤ 57) : isFig c = true := by
  unfold isFig
  rw [decide_eq_true h.1, decide_eq_true h.2]; rfl
theorem isFig_not {c : UInt8} (h : ¬(48 ≤ c.toNat ∧ c.toNat ≤ 57)) : isFig c = false := by
  unfold isFig
  rw [Bool.and_eq_false_iff, decide_eq_false_iff_not, decide_eq_false_iff_not]
  omega
theorem run_append {a b : List UInt8} (ha : Figs a) (hb : b = [] ∨ ∃ c q, b = c :: q ∧ isFig c = false) : runN (a ++ b) = a.length := by
  unfold runN
  induction a with
  | nil =>
    rcases hb with rfl | ⟨c, q, rfl, hc⟩
    · rfl
    · simp [hc]
  | cons x a ih =>
    have hx := isFig_of (ha x (by simp))
    rw [List.cons_append, List.takeWhile_cons, if_pos hx, List.length_cons, List.length_cons, ih (fun c hc => ha c (by simp [hc]))]
theorem run_all {a : List UInt8} (ha : Figs a) : runN a = a.length := by
  have := run_append ha (.inl rfl)
  rwa [List.append_nil] at this
theorem run_le (l : List UInt8) : runN l ≤ l.length := by
  unfold runN
  exact (List.takeWhile_sublist _).length_le
/-- where the run stands still -/
theorem run_is {l : List UInt8} {k : Nat} (hk : k ≤ l.length) (h1 : Figs (l.take k)) (h2 : k = l.length ∨ ∃ h : k < l.length, isFig l[k] = false) : runN l = k := by
  have e : l = l.take k ++ l.drop k := (List.take_append_drop k l).symm
  have hl : (l.take k).length = k := by rw [List.length_take]; omega
  rw [e, run_append h1, hl]
  rcases h2 with h2 | ⟨h2, h3⟩
  · left
    exact List.drop_eq_nil_of_le (by omega)
  · right
    exact ⟨l[k], l.drop (k + 1), List.drop_eq_getElem_cons h2, h3⟩

/-- the figures behind a dot, and the rest -/
def dotR : List UInt8 → Option (List UInt8 × List UInt8)
  | [] => some ([], [])
  | c :: q => if c.toNat = 46 then (if 1 ≤ runN q ∧ runN q ≤ 30 then some (q.take (runN q), q.drop (runN q)) else none) else some ([], c :: q)
/-- a sign, and the rest -/
def signR : List UInt8 → Bool × List UInt8
  | [] => (false, [])
  | c :: q => if c.toNat = 45 then (true, q) else if c.toNat = 43 then (false, q) else (false, c :: q)
/-- the exponent, and the rest -/
def expR : List UInt8 → Option (Int × List UInt8)
  | [] => some (0, [])
  | c :: q => if c.toNat = 101 then
      (if 1 ≤ runN (signR q).2 ∧ runN (signR q).2 ≤ 3 then some (if (signR q).1 = true then -(digV ((signR q).2.take (runN (signR q).2)) : Int) else (digV ((signR q).2.take (runN (signR q).2)) : Int), (signR q).2.drop (runN (signR q).2)) else none)
    else some (0, c :: q)
/-- the figures and the exponent that a text tells -/
def readR (t : List UInt8) : Option (List UInt8 × Int) :=
  if t.length ≤ 80 ∧ 1 ≤ runN t ∧ runN t ≤ 30 then
    (dotR (t.drop (runN t))).bind fun d => (expR d.2).bind fun x => if x.2 = [] then some (t.take (runN t) ++ d.1, x.1 - d.1.length) else none
  else none
/-- the number that they tell -/
def tellN (f : List UInt8) (e : Int) : Nat := if zeroB (trimL f) = true then 0 else if 500 < e then 9218868437227405312 else if e < -500 then 0 else nearN (trimL f) e
def readV (t : List UInt8) : Nat := match readR t with
  | none => 0
  | some p => tellN p.1 p.2
def readB (t : List UInt8) : Bool := (readR t).isSome

/-- figures and an exponent of 10, as they are shown -/
def showP (l : List UInt8) (e : Int) : List UInt8 :=
  if (l.length : Int) ≤ e + l.length ∧ e + l.length ≤ 21 then l ++ List.replicate e.toNat 48
  else if 0 < e + l.length ∧ e + l.length ≤ 21 then l.take (e + l.length).toNat ++ 46 :: l.drop (e + l.length).toNat
  else if -6 < e + l.length ∧ e + l.length ≤ 0 then [48, 46] ++ List.replicate (-(e + l.length)).toNat 48 ++ l
  else l.take 1 ++ (if 1 < l.length then 46 :: l.drop 1 else []) ++ 101 :: (if e + l.length - 1 < 0 then 45 :: Lib.decDigits (1 - (e + l.length)).toNat else 43 :: Lib.decDigits (e + l.length - 1).toNat)

theorem trim_ok {l : List UInt8} (h : figsOk l = true) : trimL l = l := by
  rw [← dec_trim l (figsOk_figs h)]
  exact figsOk_dec h
theorem digV_noughts (j : Nat) (l : List UInt8) : digV (List.replicate j 48 ++ l) = digV l := by
  rw [digV_append]
  have : digV (List.replicate j 48) = 0 := by
    induction j with
    | zero => rfl
    | succ j ih =>
      rw [List.replicate_succ', digV_snoc, ih]; rfl
  rw [this, Nat.zero_mul, Nat.zero_add]
theorem figs_noughts (j : Nat) : Figs (List.replicate j 48) := fun c hc => by
  rw [List.eq_of_mem_replicate hc]; decide
theorem trim_noughts {l : List UInt8} (j : Nat) (h : figsOk l = true) : trimL (List.replicate j 48 ++ l) = l := by
  rw [← dec_trim _ (figs_append (figs_noughts j) (figsOk_figs h)), digV_noughts]
  exact figsOk_dec h

theorem ok_pos {l : List UInt8} (h : figsOk l = true) : 1 ≤ l.length := by
  unfold figsOk at h
  simp only [Bool.and_eq_true, decide_eq_true_eq] at h
  exact h.1.1.1

/-- noughts at the end -/
theorem near_noughts {l : List UInt8} (h : figsOk l = true) (h0 : digV l ≠ 0) : ∀ (j : Nat) (e : Int), l.length + j ≤ 60 → -500 ≤ e → e + j ≤ 500 → figsOk (l ++ List.replicate j 48) = true ∧ digV (l ++ List.replicate j 48) = digV l * 10 ^ j ∧ nearN (l ++ List.replicate j 48) e = nearN l (e + j) := by
  intro j
  induction j with
  | zero => intro e _ _ _; simp [h]
  | succ j ih =>
    intro e h1 h2 h3
    obtain ⟨k1, k2, k3⟩ := ih (e + 1) (by omega) (by omega) (by omega)
    have hne : digV (l ++ List.replicate j 48) ≠ 0 := by
      rw [k2]
      exact Nat.mul_ne_zero h0 (Nat.ne_of_gt (Nat.pow_pos (by decide)))
    have hl : (l ++ List.replicate j 48).length = l.length + j := by simp
    have e1 : l ++ List.replicate (j + 1) 48 = (l ++ List.replicate j 48) ++ [48] := by rw [List.replicate_succ', List.append_assoc]
    have e2 : digV ((l ++ List.replicate j 48) ++ [48]) = 10 * digV (l ++ List.replicate j 48) := by rw [digV_snoc]; rfl
    have e3 : figsOk ((l ++ List.replicate j 48) ++ [48]) = true := by
      have e4 : (l ++ List.replicate j 48) ++ [48] = Lib.decDigits (10 * digV (l ++ List.replicate j 48) + 0) := by
        rw [dec_more hne (by omega), figsOk_dec k1]
        rfl
      rw [e4]
      exact figs_of_dec (by rw [← e4, List.length_append, hl, List.length_singleton]; omega)
    rw [e1]
    refine ⟨e3, by rw [e2, k2, Nat.pow_succ, Nat.mul_comm 10, Nat.mul_assoc], ?_⟩
    rw [near_tens e3 k1 (by rw [List.length_append, hl, List.length_singleton]; omega) (by omega) e2 hne h2 (by omega), k3]
    congr 1
    omega

theorem tell_ok {l : List UInt8} {e : Int} (h : figsOk l = true) (h0 : digV l ≠ 0) (e1 : -500 ≤ e) (e2 : e ≤ 500) (j : Nat) : tellN (List.replicate j 48 ++ l) e = nearN l e := by
  unfold tellN
  rw [trim_noughts j h, zeroB_val (figsOk_figs h), decide_eq_false h0, if_neg (by decide), if_neg (by omega), if_neg (by omega)]

theorem read_of {t a q : List UInt8} {d : List UInt8 × List UInt8} {x : Int} (ht : t = a ++ q) (ha : Figs a) (hq : q = [] ∨ ∃ c r, q = c :: r ∧ isFig c = false) (h80 : t.length ≤ 80) (h1 : 1 ≤ a.length) (h2 : a.length ≤ 30) (hd : dotR q = some d) (hx : expR d.2 = some (x, [])) : readR t = some (a ++ d.1, x - d.1.length) := by
  have hr : runN t = a.length := by rw [ht]; exact run_append ha hq
  unfold readR
  rw [hr, if_pos ⟨h80, h1, h2⟩, ht, List.drop_left, List.take_left, hd]
  simp [hx]

theorem dec_figs_len {n : Nat} (h : n < 1000) : Figs (Lib.decDigits n) ∧ 1 ≤ (Lib.decDigits n).length ∧ (Lib.decDigits n).length ≤ 3 := by
  obtain ⟨_, h2, h3⟩ := digV_dec n
  exact ⟨h2, List.length_pos_iff.2 h3, dec_len (by decide) (by omega)⟩

theorem exp_tail {neg : Bool} {v : Nat} (hv : v < 1000) : expR (101 :: (if neg = true then 45 else 43) :: Lib.decDigits v) = some (if neg = true then -(v : Int) else v, []) := by
  obtain ⟨h1, h2, h3⟩ := dec_figs_len hv
  have hs : signR ((if neg = true then 45 else 43) :: Lib.decDigits v) = (neg, Lib.decDigits v) := by
    cases neg <;> rfl
  have hr := run_all h1
  rw [expR, if_pos (by decide), hs]
  simp only
  rw [hr, if_pos ⟨h2, h3⟩, List.take_length, List.drop_length, (digV_dec v).1]

theorem read_show {l : List UInt8} {e : Int} (h : figsOk l = true) (h0 : digV l ≠ 0) (hl : l.length ≤ 17) (e1 : -400 ≤ e) (e2 : e ≤ 400) : readV (showP l e) = nearN l e ∧ readB (showP l e) = true ∧ (showP l e).length ≤ 80 := by
  have hp := ok_pos h
  have hF := figsOk_figs h
  have key : ∀ f x, readR (showP l e) = some (f, x) → tellN f x = nearN l e → (showP l e).length ≤ 80 → readV (showP l e) = nearN l e ∧ readB (showP l e) = true ∧ (showP l e).length ≤ 80 := by
    intro f x k1 k2 k3
    unfold readV readB
    rw [k1]
    exact ⟨k2, rfl, k3⟩
  have plain : tellN l e = nearN l e := by
    have := tell_ok (j := 0) h h0 (by omega : -500 ≤ e) (by omega)
    rwa [List.replicate_zero, List.nil_append] at this
  by_cases c1 : (l.length : Int) ≤ e + l.length ∧ e + l.length ≤ 21
  · have hs : showP l e = l ++ List.replicate e.toNat 48 := by unfold showP; rw [if_pos c1]
    obtain ⟨n1, n2, n3⟩ := near_noughts h h0 e.toNat 0 (by omega) (by omega) (by omega)
    have hlen : (showP l e).length = l.length + e.toNat := by rw [hs]; simp
    refine key (showP l e) 0 ?_ ?_ (by omega)
    · have := read_of (t := showP l e) (a := showP l e) (q := []) (d := ([], [])) (x := 0) (by rw [List.append_nil]) (by rw [hs]; exact figsOk_figs n1) (.inl rfl) (by omega) (by omega) (by omega) rfl rfl
      simpa using this
    · unfold tellN
      rw [hs, trim_ok n1, zeroB_val (figsOk_figs n1), decide_eq_false (by rw [n2]; exact Nat.mul_ne_zero h0 (Nat.ne_of_gt (Nat.pow_pos (by decide)))), if_neg (by decide), if_neg (by omega), if_neg (by omega), n3]
      congr 1
      omega
  by_cases c2 : 0 < e + l.length ∧ e + l.length ≤ 21
  · obtain ⟨m, hm⟩ : ∃ m : Nat, e + l.length = m := ⟨(e + l.length).toNat, by omega⟩
    have hs : showP l e = l.take m ++ 46 :: l.drop m := by unfold showP; rw [if_neg c1, if_pos c2, hm, Int.toNat_natCast]
    have l1 : (l.take m).length = m := by rw [List.length_take]; omega
    have l2 : (l.drop m).length = l.length - m := List.length_drop
    have f2 : Figs (l.drop m) := fun c hc => hF c (List.mem_of_mem_drop hc)
    have hr := run_all f2
    have hlen : (showP l e).length ≤ 80 := by rw [hs, List.length_append, List.length_cons, l1, l2]; omega
    refine key l e ?_ plain hlen
    have := read_of (t := showP l e) (a := l.take m) (q := 46 :: l.drop m) (d := (l.drop m, [])) (x := 0) hs (fun c hc => hF c (List.mem_of_mem_take hc)) (.inr ⟨46, l.drop m, rfl, by decide⟩) hlen (by omega) (by omega) (by
      rw [dotR, if_pos (by decide), hr, if_pos ⟨by omega, by omega⟩, List.take_length, List.drop_length]) rfl
    rw [this, List.take_append_drop, l2]
    congr 2
    omega
  by_cases c3 : -6 < e + l.length ∧ e + l.length ≤ 0
  · obtain ⟨j, hj⟩ : ∃ j : Nat, -(e + l.length) = j := ⟨(-(e + l.length)).toNat, by omega⟩
    have hs : showP l e = [48] ++ (46 :: (List.replicate j 48 ++ l)) := by unfold showP; rw [if_neg c1, if_neg c2, if_pos c3, hj, Int.toNat_natCast]; rfl
    have f2 : Figs (List.replicate j 48 ++ l) := figs_append (figs_noughts j) hF
    have hr := run_all f2
    have l2 : (List.replicate j 48 ++ l).length = j + l.length := by simp
    have hlen : (showP l e).length ≤ 80 := by rw [hs, List.length_append, List.length_singleton, List.length_cons, l2]; omega
    refine key ([48] ++ (List.replicate j 48 ++ l)) e ?_ ?_ hlen
    · have := read_of (t := showP l e) (a := [48]) (q := 46 :: (List.replicate j 48 ++ l)) (d := (List.replicate j 48 ++ l, [])) (x := 0) hs (figs_noughts 1) (.inr ⟨46, _, rfl, by decide⟩) hlen (by decide) (by decide) (by
        rw [dotR, if_pos (by decide), hr, if_pos ⟨by omega, by omega⟩, List.take_length, List.drop_length]) rfl
      rw [this, l2]
      congr 2
      omega
    · have e4 : [48] ++ (List.replicate j 48 ++ l) = List.replicate (j + 1) 48 ++ l := by rw [List.replicate_succ]; rfl
      rw [e4]
      exact tell_ok h h0 (by omega) (by omega) (j + 1)
  · obtain ⟨neg, v, hv, hvs, hvv⟩ : ∃ (neg : Bool) (v : Nat), v < 1000 ∧ (if e + l.length - 1 < 0 then 45 :: Lib.decDigits (1 - (e + l.length)).toNat else 43 :: Lib.decDigits (e + l.length - 1).toNat) = (if neg = true then 45 else 43) :: Lib.decDigits v ∧ (if neg = true then -(v : Int) else v) = e + l.length - 1 := by
      by_cases hn : e + l.length - 1 < 0
      · exact ⟨true, (1 - (e + l.length)).toNat, by omega, by rw [if_pos hn]; rfl, by rw [if_pos rfl]; omega⟩
      · exact ⟨false, (e + l.length - 1).toNat, by omega, by rw [if_neg hn]; rfl, by rw [if_neg (by decide)]; omega⟩
    have hs : showP l e = l.take 1 ++ ((if 1 < l.length then 46 :: l.drop 1 else []) ++ 101 :: (if neg = true then 45 else 43) :: Lib.decDigits v) := by
      unfold showP
      rw [if_neg c1, if_neg c2, if_neg c3, hvs, List.append_assoc]
    have hx := exp_tail (neg := neg) hv
    rw [hvv] at hx
    have l1 : (l.take 1).length = 1 := by rw [List.length_take]; omega
    have l2 : (l.drop 1).length = l.length - 1 := List.length_drop
    have f1 : Figs (l.take 1) := fun c hc => hF c (List.mem_of_mem_take hc)
    have f2 : Figs (l.drop 1) := fun c hc => hF c (List.mem_of_mem_drop hc)
    have l3 := (dec_figs_len hv).2.2
    generalize hT : (101 :: (if neg = true then 45 else 43) :: Lib.decDigits v : List UInt8) = T at *
    have hT1 : ∃ r, T = 101 :: r := ⟨_, hT.symm⟩
    have lT : T.length ≤ 5 := by rw [← hT, List.length_cons, List.length_cons]; omega
    obtain ⟨r, hTr⟩ := hT1
    by_cases hk : 1 < l.length
    · rw [if_pos hk] at hs
      have hs2 : showP l e = l.take 1 ++ (46 :: (l.drop 1 ++ T)) := hs
      have hr : runN (l.drop 1 ++ T) = l.length - 1 := by rw [run_append f2 (.inr ⟨101, r, hTr, by decide⟩), l2]
      have hlen : (showP l e).length ≤ 80 := by rw [hs2, List.length_append, List.length_cons, List.length_append, l1, l2]; omega
      refine key l e ?_ plain hlen
      have := read_of (t := showP l e) (a := l.take 1) (q := 46 :: (l.drop 1 ++ T)) (d := (l.drop 1, T)) (x := e + l.length - 1) hs2 f1 (.inr ⟨46, _, rfl, by decide⟩) hlen (by omega) (by omega) (by
        rw [dotR, if_pos (by decide), hr, if_pos ⟨by omega, by omega⟩, ← l2, List.take_left, List.drop_left]) hx
      rw [this, List.take_append_drop, l2]
      congr 2
      omega
    · rw [if_neg hk, List.nil_append] at hs
      have hl1 : l.take 1 = l := List.take_of_length_le (by omega)
      have hlen : (showP l e).length ≤ 80 := by rw [hs, List.length_append, l1]; omega
      refine key l e ?_ plain hlen
      have hd : dotR T = some ([], T) := by rw [hTr, dotR, if_neg (by decide)]
      have := read_of (t := showP l e) (a := l.take 1) (q := T) (d := ([], T)) (x := e + l.length - 1) hs f1 (.inr ⟨101, r, hTr, by decide⟩) hlen (by omega) (by omega) hd hx
      rw [this, hl1, List.append_nil]
      congr 2
      simp
      omega

end Go.Proofs.YtcabanghegddhaaGreatDoor
