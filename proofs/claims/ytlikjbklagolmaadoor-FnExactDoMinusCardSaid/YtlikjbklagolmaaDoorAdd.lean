/-
  The walks of the specification's Negate, Add and Sub.
-/
import Derived.Test.YtlikjbklagolmaaDoorAddB
import Derived.Test.YtlikjbklagolmaaDoorInts
import Derived.Test.YtlikjbklagolmaaDoorOrder
import Derived.Deep.DeepCutAuto
import Derived.Laws.BitsAllLaws
namespace Go.Proofs.YtlikjbklagolmaaDoor
open Go.RowKit
set_option linter.unusedVariables false

/-- the other sign -/
def negN (x : Nat) : Nat := if kindN x = 1 then 9221120237041090560 else if 9223372036854775808 ≤ x then x - 9223372036854775808 else x + 9223372036854775808

theorem xor_top {x : Nat} (h : x < 18446744073709551616) : x ^^^ 9223372036854775808 = if 9223372036854775808 ≤ x then x - 9223372036854775808 else x + 9223372036854775808 := by
  have low : ∀ y, y < 9223372036854775808 → y ^^^ 9223372036854775808 = y + 9223372036854775808 := by
    intro y hy
    have e : (9223372036854775808 : Nat) = 2 ^ 63 := by decide
    have o : 2 ^ 63 ||| y = 2 ^ 63 + y := by
      have := Nat.two_pow_add_eq_or_of_lt (i := 63) (b := y) (by simpa using hy) 1
      simpa using this.symm
    rw [e, Nat.add_comm y, ← o]
    apply Nat.eq_of_testBit_eq
    intro i
    simp only [Nat.testBit_xor, Nat.testBit_or, Nat.testBit_two_pow]
    by_cases hi : 63 = i
    · subst hi
      have : y.testBit 63 = false := Nat.testBit_lt_two_pow (by simpa using hy)
      simp [this]
    · simp [hi]
  by_cases h2 : 9223372036854775808 ≤ x
  · rw [if_pos h2]
    obtain ⟨y, rfl⟩ : ∃ y, x = y + 9223372036854775808 := ⟨x - 9223372036854775808, by omega⟩
    rw [← low y (by omega), Nat.xor_assoc, Nat.xor_self, Nat.xor_zero, low y (by omega), Nat.add_sub_cancel]
  · rw [if_neg h2]; exact low x (by omega)

set_option maxHeartbeats 400000 in
set_option maxRecDepth 100000 in
theorem specNegate_any (x : Nat) (w : World) (hx : x < 18446744073709551616) :
    Calls Tryd.prog 10 #[.int .u64 x] w fun e w' => e = .returned (.int .u64 (negN x : Nat)) ∧ Below w.heap.size w w' := by
  have HX : Hid (Unit → x < 18446744073709551616) := fun _ => hx
  by_cases hk : kindN x = 1
  · have HN : Hid (Unit → negN x = 9221120237041090560) := fun _ => by unfold negN; rw [if_pos hk]
    have cN := fun W => l03Nan_is x W HX hk
    clear hx hk
    go_enter Tryd.func10, Tryd.ntmps10
    go_wp2_with (go_at_call 13; refine (cN _).mono ?_; rintro e w' ⟨rfl, hb⟩)
    go_ret
    exact ⟨by rw [HN.out ()]; rfl, hb⟩
  · have HN : Hid (Unit → negN x = x ^^^ 9223372036854775808) := fun _ => by rw [xor_top (HX.out ())]; unfold negN; rw [if_neg hk]
    have hxr : bits .xor .u64 (x : Int) 9223372036854775808 = ((x ^^^ 9223372036854775808 : Nat) : Int) := u64_xor_nat x 9223372036854775808 hx (by decide)
    obtain ⟨Z, hZ⟩ : ∃ Z, x ^^^ 9223372036854775808 = Z := ⟨_, rfl⟩
    rw [hZ] at HN hxr
    have cN := fun W => l03Nan_no x W HX hk
    clear hx hk hZ
    go_enter Tryd.func10, Tryd.ntmps10
    go_wp2_with (first | (go_at_call 13; refine (cN _).mono ?_; rintro e w' ⟨rfl, hb⟩) | (go_at_call 14; refine (l03Pow_63 _).mono ?_; rintro e w' ⟨rfl, rfl⟩))
    go_ret
    exact ⟨by rw [HN.out ()]; rfl, hb⟩

/-- the sum by the parts of both -/
def addP (a b k1 k2 : Nat) (s1 s2 : Bool) (m1 m2 : Nat) (e1 e2 : Int) : Nat :=
  if k1 = 1 ∨ k2 = 1 then 9221120237041090560
  else if k1 = 2 then (if k2 = 2 ∧ s1 ≠ s2 then 9221120237041090560 else a)
  else if k2 = 2 then b
  else if k1 = 3 ∧ k2 = 3 then (if s1 = true ∧ s2 = true then a else 0)
  else if k1 = 3 then b
  else if k2 = 3 then a
  else roundZ (sumZ s1 m1 e1 s2 m2 e2) (min e1 e2)
theorem addN_P (a b : Nat) : addN a b = addP a b (kindN a) (kindN b) (belowN a) (belowN b) (mantN a) (mantN b) (expN a) (expN b) := by
  unfold addN addP
  rfl

/-- what is known of the parts of a number -/
structure Fin1 (k m : Nat) (e : Int) : Prop where
  lt : m < 9007199254740992
  lo : -1074 ≤ e
  hi : e ≤ 971
  pos : k = 4 → m ≠ 0
theorem fin1_of (x : Nat) : Fin1 (kindN x) (mantN x) (expN x) := ⟨mantN_lt x, expN_ge x, expN_le x, mantN_pos⟩

theorem set_keep_b {w : World} {g g' j j' : Nat} {v x : Value} (hne : g ≠ g') (h : w.cell? ⟨g', j', none⟩ = some x) : (w.setCell ⟨g, j, none⟩ v).cell? ⟨g', j', none⟩ = some x := by
  rw [World.cell?_setCell_other]
  · exact h
  · intro e; exact hne (by injection e)
theorem set_keep_o {w : World} {g g' j j' : Nat} {v x : Value} (hne : j ≠ j') (h : w.cell? ⟨g', j', none⟩ = some x) : (w.setCell ⟨g, j, none⟩ v).cell? ⟨g', j', none⟩ = some x := by
  rw [World.cell?_setCell_other]
  · exact h
  · intro e; exact hne (by injection e)
theorem set_here {w : World} {a : Addr} {v u : Value} (h : w.cell? a = some u) : (w.setCell a v).cell? a = some v := by
  apply World.cell?_setCell_same
  exact h

/-- k places of m taken off: what stays, and whether something was lost -/
def LostAt (m k n : Nat) (l : Bool) : Prop := n = m / 2 ^ k ∧ l = decide (m % 2 ^ k ≠ 0)
theorem lost_start (m : Nat) : LostAt m 0 m false := ⟨by simp, by simp [Nat.mod_one]⟩
theorem lost_step {m k n : Nat} {l : Bool} (h : LostAt m k n l) : LostAt m (k + 1) (n / 2) (l || decide (n % 2 = 1)) := by
  obtain ⟨h1, h2⟩ := h
  subst h1 h2
  refine ⟨by rw [Nat.pow_succ, Nat.div_div_eq_div_mul], ?_⟩
  have e : m % 2 ^ (k + 1) = m % 2 ^ k + 2 ^ k * (m / 2 ^ k % 2) := by rw [Nat.pow_succ, Nat.mod_mul]
  have hp := Nat.two_pow_pos k
  rw [e, Bool.eq_iff_iff]
  simp only [Bool.or_eq_true, decide_eq_true_eq]
  rcases Nat.mod_two_eq_zero_or_one (m / 2 ^ k) with hb | hb
  · rw [hb]; simp
  · rw [hb]; simp
theorem lost_stop {m k D : Nat} {l : Bool} (h : LostAt m k 0 true) (hk : k ≤ D) : LostAt m D 0 true := by
  obtain ⟨h1, h2⟩ := h
  have h0 : m / 2 ^ D = 0 := div_pow_zero h1.symm hk
  have hm : m ≠ 0 := fun e => by subst e; simp at h2
  have hlt : m < 2 ^ D := by
    have := Nat.div_add_mod m (2 ^ D)
    rw [h0] at this
    have := Nat.mod_lt m (Nat.two_pow_pos D)
    omega
  exact ⟨h0.symm, by rw [Nat.mod_eq_of_lt hlt]; simp [hm]⟩

/-- the ends of the sum of two finite numbers -/
structure AddEnd (R : Nat) (sP sQ : Bool) (X n : Nat) (F : Int) (l : Bool) : Prop where
  same : sP = sQ → R = signN sP (roundN (X + n) F (l && decide (72057594037927936 ≤ X + n)))
  none : sP ≠ sQ → X = n → R = 0
  less : sP ≠ sQ → X < n → R = signN sQ (roundN (n - X) F false)
  lost : sP ≠ sQ → n < X → l = true → R = signN sP (roundN (X - n - 1) F (true && decide (72057594037927936 ≤ X - n - 1)))
  more : sP ≠ sQ → n < X → l = false → R = signN sP (roundN (X - n) F false)
  whole : X ≤ n → l = false

theorem addEnd_of {R mP mQ j D n : Nat} {sP sQ l : Bool} {eP eQ : Int} (hR : R = roundZ (sumZ sP mP eP sQ mQ eQ) (min eP eQ)) (f1 : Fin1 4 mP eP) (f2 : Fin1 4 mQ eQ)
    (hj : eP = eQ + ((j + D : Nat) : Int)) (hD : D = 0 ∨ 2305843009213693952 ≤ mP * 2 ^ j) (hl : LostAt mQ D n l) : AddEnd R sP sQ (mP * 2 ^ j) n (eP - j) l := by
  obtain ⟨h1, h2⟩ := hl
  obtain ⟨c1, c2⟩ := sumZ_cut (b1 := sP) (b2 := sQ) (pm := mP) (qm := mQ) hj
  have hF : min eP eQ = eP - j - D := by omega
  have hlow : mQ % 2 ^ D < 2 ^ D := Nat.mod_lt _ (Nat.two_pow_pos D)
  have hX : mP * 2 ^ j ≠ 0 := Nat.mul_ne_zero (f1.pos rfl) (by have := Nat.two_pow_pos j; omega)
  have hn : n < 9007199254740992 := by rw [h1]; exact Nat.lt_of_le_of_lt (Nat.div_le_self _ _) f2.lt
  have hD0 : D = 0 → mQ % 2 ^ D = 0 := fun e => by subst e; simp [Nat.mod_one]
  rw [c2, hF, ← h1] at hR
  obtain ⟨low, hlw⟩ : ∃ q, mQ % 2 ^ D = q := ⟨_, rfl⟩
  obtain ⟨X, hXX⟩ : ∃ q, mP * 2 ^ j = q := ⟨_, rfl⟩
  rw [hlw] at hlow h2 hD0 hR
  rw [hXX] at hD hX hR ⊢
  refine ⟨?_, ?_, ?_, ?_, ?_, ?_⟩
  · intro e
    subst e
    rw [hR, h2]
    exact round_same hlow hX (by omega)
  · intro hs e
    have hs' : sQ = !sP := by cases sP <;> cases sQ <;> simp at hs ⊢
    have : low = 0 := by omega
    subst this hs' e
    rw [hR, Nat.add_zero]
    exact round_none _ _ _
  · intro hs hlt
    have hs' : sP = !sQ := by cases sP <;> cases sQ <;> simp at hs ⊢
    have : low = 0 := by omega
    subst this hs'
    rw [hR, Nat.add_zero, Int.add_comm]
    exact round_more hlt
  · intro hs hlt hl
    have hs' : sQ = !sP := by cases sP <;> cases sQ <;> simp at hs ⊢
    have hl0 : low ≠ 0 := by rw [h2] at hl; simpa using hl
    subst hs'
    rw [hR]
    exact round_lost hlow hl0 hlt (by omega)
  · intro hs hlt hl
    have hs' : sQ = !sP := by cases sP <;> cases sQ <;> simp at hs ⊢
    have hl0 : low = 0 := by rw [h2] at hl; simpa using hl
    subst hl0 hs'
    rw [hR, Nat.add_zero]
    exact round_more hlt
  · intro h
    have : low = 0 := by omega
    rw [h2, this]; rfl

end Go.Proofs.YtlikjbklagolmaaDoor
