/-
  What reading a number in bytes answers, as a plain function; that it is what is written back.
-/
import Derived.Test.YtemgbffdllhhfaaDoorTxt
namespace Go.Proofs.YtemgbffdllhhfaaDoor
open Go.RowKit

/-- f: how many bytes may still be read; i: the place; n: what is read; u: what the next byte counts -/
def rdV (s : ByteArray) (b0 : Nat) : Nat → Nat → Nat → Nat → Option (Nat × Nat)
  | 0, _, _, _ => none
  | f + 1, i, n, u =>
    if h : i < s.size then
      if (s[i]).toNat < 128 then
        if ((s[i]).toNat = 0 ∧ b0 < i) ∨ 1000000000 < n + (s[i]).toNat % 128 * u then none
        else some (n + (s[i]).toNat % 128 * u, i + 1)
      else rdV s b0 f (i + 1) (n + (s[i]).toNat % 128 * u) (u * 128)
    else none

def rdOut : Option (Nat × Nat) → Value
  | some (n, j) => .tuple #[.int .i64 n, .int .i64 j, .bool true]
  | none => .tuple #[.int .i64 0, .int .i64 0, .bool false]

/-- u is what the next byte counts, where f bytes may still be read -/
def Unit128 (f u : Nat) : Prop := (f = 5 ∧ u = 1) ∨ (f = 4 ∧ u = 128) ∨ (f = 3 ∧ u = 16384) ∨ (f = 2 ∧ u = 2097152) ∨ (f = 1 ∧ u = 268435456) ∨ (f = 0 ∧ u = 34359738368)

theorem unit_step {f u : Nat} (h : Unit128 (f + 1) u) : Unit128 f (u * 128) ∧ u ≤ 268435456 ∧ 1 ≤ u ∧ f ≤ 4 := by
  unfold Unit128 at *; omega
theorem unit_zero {u : Nat} (h : Unit128 0 u) : u = 34359738368 := by unfold Unit128 at h; omega
theorem unit_le {f u : Nat} (h : Unit128 f u) : u ≤ 34359738368 ∧ f ≤ 5 := by unfold Unit128 at h; omega
theorem unit_first : Unit128 5 1 := by unfold Unit128; omega

theorem mul_bd {b n u : Nat} (hn : n < u) : n + b % 128 * u < u * 128 := by
  have h1 : b % 128 * u ≤ 127 * u := Nat.mul_le_mul_right u (by omega)
  omega

theorem cast_mul (b n u : Nat) : ((n + b % 128 * u : Nat) : Int) = (n : Int) + (b : Int) % 128 * (u : Int) := by simp
theorem big_iff (b n u : Nat) : ((1000000000 : Int) < (n : Int) + (b : Int) % 128 * (u : Int)) ↔ 1000000000 < n + b % 128 * u := by
  rw [← cast_mul]
  generalize n + b % 128 * u = N
  omega

theorem rdV_end {s : ByteArray} {b0 f i n u : Nat} (h : ¬ i < s.size) : rdV s b0 f i n u = none := by
  cases f with
  | zero => rfl
  | succ f => rw [rdV, dif_neg h]
theorem rdV_bad {s : ByteArray} {b0 f i n u : Nat} (h : i < s.size) (hb : (s[i]).toNat < 128) (hx : ((s[i]).toNat = 0 ∧ b0 < i) ∨ 1000000000 < n + (s[i]).toNat % 128 * u) : rdV s b0 (f + 1) i n u = none := by
  rw [rdV, dif_pos h, if_pos hb, if_pos hx]
theorem rdV_ok {s : ByteArray} {b0 f i n u : Nat} (h : i < s.size) (hb : (s[i]).toNat < 128) (hx : ¬ (((s[i]).toNat = 0 ∧ b0 < i) ∨ 1000000000 < n + (s[i]).toNat % 128 * u)) : rdV s b0 (f + 1) i n u = some (n + (s[i]).toNat % 128 * u, i + 1) := by
  rw [rdV, dif_pos h, if_pos hb, if_neg hx]
theorem rdV_more {s : ByteArray} {b0 f i n u : Nat} (h : i < s.size) (hb : ¬ (s[i]).toNat < 128) : rdV s b0 (f + 1) i n u = rdV s b0 f (i + 1) (n + (s[i]).toNat % 128 * u) (u * 128) := by
  rw [rdV, dif_pos h, if_neg hb]
theorem rdOut_none {R : Option (Nat × Nat)} (h : R = none) : Ending.returned (.tuple #[.int .i64 0, .int .i64 0, .bool false]) = .returned (rdOut R) := by rw [h]; rfl
theorem rdOut_some {R : Option (Nat × Nat)} {N j : Nat} {x y : Int} (h : R = some (N, j)) (hx : x = N) (hy : y = j) : Ending.returned (.tuple #[.int .i64 x, .int .i64 y, .bool true]) = .returned (rdOut R) := by rw [h, hx, hy]; rfl

def ints (l : List UInt8) : List Int := l.map fun c => (c.toNat : Int)
theorem ints_append (l k : List UInt8) : ints (l ++ k) = ints l ++ ints k := by simp [ints]
theorem str_ints (l : List UInt8) : (ints l).map (fun n => UInt8.ofNat n.toNat) = l := by
  induction l with
  | nil => rfl
  | cons a l ih => simp only [ints, List.map_cons, Int.toNat_natCast, UInt8.ofNat_toNat, List.map_map] at ih ⊢; rw [ih]

theorem varB_last_pos (n : Nat) : varB n = [(n : Int)] ∨ ∃ (q : List Int) (x : Nat), varB n = q ++ [(x : Int)] ∧ 1 ≤ x ∧ x ≤ 127 := by
  induction n using Nat.strongRecOn with
  | ind n ih =>
    by_cases h : 127 < n
    · right
      rw [varB_more h]
      rcases ih (n / 128) (by omega) with e | ⟨q, x, e, h1, h2⟩
      · by_cases h7 : 127 < n / 128
        · rw [varB_more h7] at e
          have := congrArg List.length e
          have hp := varB_pos (n / 128 / 128)
          simp only [List.length_cons, List.length_nil] at this
          omega
        · exact ⟨[((n % 128 + 128 : Nat) : Int)], n / 128, by rw [e]; rfl, by omega, by omega⟩
      · exact ⟨((n % 128 + 128 : Nat) : Int) :: q, x, by rw [e]; rfl, h1, h2⟩
    · left; exact varB_last (by omega)

/-- what has been read so far: u is what the next byte counts; whatever number follows, these bytes open it -/
def Opens (pre : List Int) (n u : Nat) : Prop := ∀ m, 0 < m → varB (n + u * m) = pre ++ varB m

theorem opens_first : Opens [] 0 1 := fun m _ => by simp
theorem opens_more {pre : List Int} {n u b : Nat} (h : Opens pre n u) (h1 : 128 ≤ b) (h2 : b < 256) : Opens (pre ++ [(b : Int)]) (n + b % 128 * u) (u * 128) := fun m hm => by
  have e : n + b % 128 * u + u * 128 * m = n + u * (b % 128 + 128 * m) := by rw [Nat.mul_add, Nat.mul_comm (b % 128) u, Nat.mul_assoc, Nat.add_assoc]
  rw [e, h _ (by omega), varB_more (by omega), List.append_assoc, List.singleton_append]
  have e1 : (b % 128 + 128 * m) % 128 + 128 = b := by omega
  have e2 : (b % 128 + 128 * m) / 128 = m := by omega
  rw [e1, e2]

theorem var_same {s : ByteArray} {b0 i n u : Nat} (hop : Opens (ints (sl s b0 i)) n u) (hi0 : b0 ≤ i) (h : i < s.size) (hb : (s[i]).toNat < 128) (hn0 : i = b0 → n = 0) (hx : ¬ ((s[i]).toNat = 0 ∧ b0 < i)) :
    ((strOfNums (varB (n + (s[i]).toNat % 128 * u))).toList == (s.extract b0 (i + 1)).toList) = true := by
  have e : varB (n + (s[i]).toNat % 128 * u) = ints (sl s b0 (i + 1)) := by
    rw [sl_snoc hi0 h, ints_append]
    by_cases hz : (s[i]).toNat = 0
    · have hib : i = b0 := by omega
      have hn : n = 0 := hn0 hib
      subst hn
      subst hib
      rw [sl_self, hz]
      rw [varB_last (by omega)]
      simp [ints, hz]
    · have e1 : (s[i]).toNat % 128 = (s[i]).toNat := by omega
      rw [e1, Nat.mul_comm, hop _ (by omega), varB_last (by omega)]
      rfl
  rw [e, ByteArray.toList_eq, strOfNums_data, str_ints, Lib.extract_toList]
  exact beq_self_eq_true _

theorem var_other {s : ByteArray} {b0 i n u : Nat} (hi0 : b0 ≤ i) (h : i < s.size) (hx : (s[i]).toNat = 0 ∧ b0 < i) :
    ((strOfNums (varB (n + (s[i]).toNat % 128 * u))).toList == (s.extract b0 (i + 1)).toList) = false := by
  rw [ByteArray.toList_eq, strOfNums_data, Lib.extract_toList]
  rw [beq_eq_false_iff_ne]
  intro e
  have e' : (varB (n + (s[i]).toNat % 128 * u)).map (fun n => UInt8.ofNat n.toNat) = sl s b0 i ++ [s[i]] := by rw [← sl_snoc hi0 h]; exact e
  rcases varB_last_pos (n + (s[i]).toNat % 128 * u) with k | ⟨q, x, k, h1, h2⟩
  · rw [k] at e'
    have hl := congrArg List.length e'
    simp only [List.map_cons, List.map_nil, List.length_cons, List.length_nil, List.length_append] at hl
    rw [sl_length (by omega)] at hl
    omega
  · rw [k, List.map_append] at e'
    have hl := congrArg (fun l => l.getLast?) e'
    simp only [List.map_cons, List.map_nil, List.getLast?_append, List.getLast?_singleton, Option.some_or, Option.some.injEq] at hl
    have h3 := congrArg UInt8.toNat hl
    rw [hx.1] at h3
    simp at h3
    omega

end Go.Proofs.YtemgbffdllhhfaaDoor
