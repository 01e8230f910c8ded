/-
  Part 1 of what is proved of drawn right trees.
-/
import Derived.WalkKit
import Derived.WalkSpells
import Derived.WalkLawsBesides
import Derived.Laws.BytesArg
import Derived.OpenShut
import Derived.SliceStrings
import Derived.Deep.Slices
import Derived.Test.YtcdbifcidaafnaaGreatDoorRows
import Derived.Handy
import Derived.Lib.Strings
import Derived.Lib.ItoaNum
import Derived.Deep.DeepCutAuto
import Derived.Deep.QuietTactic
import Derived.BigQuiet
import Derived.Lib.QuietBelow

namespace Go.Proofs.YtcdbifcidaafnaaGreatDoor
open Go.RowKit
theorem ret_int {k : IntKind} {a b : Int} (h : a = b) : Ending.returned (.int k a) = .returned (.int k b) := by rw [h]
theorem chain {w w1 w2 : World} (h : Below w.heap.size w w1) (k : Below w1.heap.size w1 w2) : Below w.heap.size w w2 := h.trans (k.mono h.size)
theorem conv_own {P : Program} {w : World} {base : Nat} {e src dst : TypeId} {v : Value} {n : Nat} (xs : List Int)
    (hs : P.underlying src = some (.slice e)) (he : P.underlying e = some (.int .u8)) (hd : P.underlying dst = some .string)
    (hown : w.ownsRow base e 1 v n (xs.map (Value.int .u8))) :
    (convert src dst v).run P w = .ok (.string (strOfNums xs)) w := by
  have hcs := fun g hg => hown.cells (g := g) hg
  obtain ⟨hlen, ⟨rfl, rfl⟩ | ⟨g, cap, cur, rfl, hb, hg, hnc, hc, hsz, htk⟩⟩ := hown
  · have hx : xs = [] := by cases xs with
      | nil => rfl
      | cons a l => simp at hlen
    subst hx
    rw [run_convert_bytes_nil w src e hs he 0 0 dst hd]
    rfl
  · have hl : xs.length = n := by simpa using hlen
    refine run_convert_bytes_arg w src e hs he g 0 n cap xs hl (fun i hi => ?_) dst hd
    have h := hcs g rfl i (.int .u8 (xs.getD i 0)) (by simp [List.getElem?_eq_getElem (show i < xs.length by omega)])
    have hp : (⟨g, 0, none⟩ : Addr).add i = ⟨g, 0 + i, none⟩ := by unfold Addr.add; split <;> simp_all
    rw [← hp]; exact h
end Go.Proofs.YtcdbifcidaafnaaGreatDoor
namespace Go.Proofs.YtcdbifcidaafnaaGreatDoor
open Go.RowKit
set_option linter.unusedVariables false
def I64 (n : Int) : Prop := -(2 ^ 63) ≤ n ∧ n < 2 ^ 63
def N64 (n : Nat) : Prop := n < 2 ^ 64
end Go.Proofs.YtcdbifcidaafnaaGreatDoor
namespace Go.Proofs.YtcdbifcidaafnaaGreatDoor
def rne (m k : Nat) (st : Bool) : Nat := if 2 ^ k < 2 * (m % 2 ^ k) ∨ (2 * (m % 2 ^ k) = 2 ^ k ∧ (st = true ∨ m / 2 ^ k % 2 = 1)) then m / 2 ^ k + 1 else m / 2 ^ k
def roundN (m : Nat) (e : Int) (st : Bool) : Nat :=
  if m = 0 then 0 else
  if max (e + m.log2 - 52) (-1074) ≤ e then min (m * 2 ^ (e - max (e + m.log2 - 52) (-1074)).toNat + (max (e + m.log2 - 52) (-1074) + 1074).toNat * 4503599627370496) 9218868437227405312
  else min (rne m (max (e + m.log2 - 52) (-1074) - e).toNat st + (max (e + m.log2 - 52) (-1074) + 1074).toNat * 4503599627370496) 9218868437227405312
theorem rne_zero (m : Nat) (st : Bool) : rne m 0 st = m := by
  unfold rne
  simp [Nat.mod_one]
theorem rne_double (m k : Nat) (st : Bool) : rne (2 * m) (k + 1) st = rne m k st := by
  unfold rne
  have h1 : 2 * m / 2 ^ (k + 1) = m / 2 ^ k := by rw [Nat.pow_succ, Nat.mul_comm (2 ^ k) 2, Nat.mul_div_mul_left _ _ (by decide : 0 < 2)]
  have h2 : 2 * m % 2 ^ (k + 1) = 2 * (m % 2 ^ k) := by rw [Nat.pow_succ, Nat.mul_comm (2 ^ k) 2, Nat.mul_mod_mul_left]
  rw [h1, h2, Nat.pow_succ]
  have h3 : (2 ^ k * 2 < 2 * (2 * (m % 2 ^ k))) ↔ (2 ^ k < 2 * (m % 2 ^ k)) := by omega
  have h4 : (2 * (2 * (m % 2 ^ k)) = 2 ^ k * 2) ↔ (2 * (m % 2 ^ k) = 2 ^ k) := by omega
  simp only [h3, h4]
theorem rne_small {m k : Nat} (st : Bool) (h : 2 * m < 2 ^ k) : rne m k st = 0 := by
  have hm : m < 2 ^ k := by omega
  unfold rne
  rw [Nat.mod_eq_of_lt hm, Nat.div_eq_of_lt hm, if_neg (by omega)]
theorem log2_of {m k : Nat} (h1 : 2 ^ k ≤ m) (h2 : m < 2 ^ (k + 1)) : m.log2 = k := by
  have hm : m ≠ 0 := by have := Nat.two_pow_pos k; omega
  have a := (Nat.le_log2 hm).2 h1
  have b := (Nat.log2_lt hm).2 h2
  omega
theorem roundN_at {m k : Nat} {e : Int} (st : Bool) (hm : m ≠ 0) (h0 : -1074 ≤ e + k) (h1 : m < 2 ^ (53 + k)) (h2 : e + k = -1074 ∨ 2 ^ (52 + k) ≤ m) :
    roundN m e st = min (rne m k st + (e + k + 1074).toNat * 4503599627370496) 9218868437227405312 := by
  have hl : m.log2 < 53 + k := (Nat.log2_lt hm).2 h1
  have ht : max (e + m.log2 - 52) (-1074) = e + k := by
    rcases h2 with h2 | h2
    · omega
    · have := (Nat.le_log2 hm).2 h2
      omega
  unfold roundN
  rw [if_neg hm, ht]
  by_cases hk : k = 0
  · subst hk
    simp [rne_zero]
  · rw [if_neg (by omega)]
    have e1 : (e + (k : Int) - e).toNat = k := by omega
    rw [e1]
theorem roundN_double (m : Nat) (e : Int) (st : Bool) : roundN (2 * m) (e - 1) st = roundN m e st := by
  by_cases hm : m = 0
  · subst hm; simp [roundN]
  have hl : (2 * m).log2 = m.log2 + 1 := by
    refine log2_of ?_ ?_
    · have := Nat.log2_self_le hm
      rw [Nat.pow_succ]; omega
    · have := Nat.lt_log2_self (n := m)
      rw [Nat.pow_succ]; omega
  unfold roundN
  rw [if_neg hm, if_neg (by omega), hl]
  have ht : e - 1 + ((m.log2 + 1 : Nat) : Int) - 52 = e + m.log2 - 52 := by omega
  rw [ht]
  generalize max (e + (m.log2 : Int) - 52) (-1074) = t
  by_cases h1 : t ≤ e - 1
  · rw [if_pos h1, if_pos (by omega)]
    have e1 : (e - t).toNat = (e - 1 - t).toNat + 1 := by omega
    rw [e1, Nat.pow_succ, Nat.mul_comm 2 m, Nat.mul_assoc, Nat.mul_comm 2 (2 ^ _)]
  · rw [if_neg h1]
    by_cases h2 : t ≤ e
    · have : t = e := by omega
      subst this
      have e1 : (t - (t - 1)).toNat = 0 + 1 := by omega
      rw [if_pos (by omega), e1, rne_double, rne_zero]
      simp
    · rw [if_neg h2]
      have e1 : (t - (e - 1)).toNat = (t - e).toNat + 1 := by omega
      rw [e1, rne_double]
theorem roundN_times (j m : Nat) (e : Int) (st : Bool) : roundN (m * 2 ^ j) (e - j) st = roundN m e st := by
  induction j with
  | zero => simp
  | succ j ih =>
    rw [← ih, ← roundN_double (m * 2 ^ j)]
    congr 1
    · rw [Nat.pow_succ, ← Nat.mul_assoc]; omega
    · omega
theorem roundN_tiny {m : Nat} {e : Int} (st : Bool) (hm : m < 18446744073709551616) (he : e ≤ -1139) : roundN m e st = 0 := by
  by_cases h0 : m = 0
  · subst h0; simp [roundN]
  have hk : e + ((-1074 - e).toNat : Nat) = -1074 := by omega
  have hp : (2 : Nat) ^ 65 ≤ 2 ^ (-1074 - e).toNat := Nat.pow_le_pow_right (by decide) (by omega)
  rw [roundN_at (k := (-1074 - e).toNat) st h0 (by omega) (by rw [Nat.pow_add]; omega) (.inl hk), rne_small st (by omega), hk]
  simp
theorem roundN_huge {m : Nat} {e : Int} (st : Bool) (h0 : m ≠ 0) (he : 1100 ≤ e) : roundN m e st = 9218868437227405312 := by
  unfold roundN
  rw [if_neg h0]
  have h1 : 1048 ≤ max (e + m.log2 - 52) (-1074) := by omega
  have h2 : 2122 * 4503599627370496 ≤ (max (e + (m.log2 : Int) - 52) (-1074) + 1074).toNat * 4503599627370496 := Nat.mul_le_mul_right _ (by omega)
  split <;> omega
def signN (below : Bool) (x : Nat) : Nat := if below then x + 9223372036854775808 else x
theorem roundN_le (m : Nat) (e : Int) (st : Bool) : roundN m e st ≤ 9218868437227405312 := by
  unfold roundN
  split
  · omega
  · split <;> omega
theorem rne_succ (m j : Nat) (st : Bool) : rne m (j + 1) st = m / 2 ^ (j + 1) + (if m / 2 ^ j % 2 = 1 ∧ ((st = true ∨ m % 2 ^ j ≠ 0) ∨ m / 2 ^ (j + 1) % 2 = 1) then 1 else 0) := by
  unfold rne
  have hr : m % 2 ^ (j + 1) = m % 2 ^ j + 2 ^ j * (m / 2 ^ j % 2) := by rw [Nat.pow_succ, Nat.mod_mul]
  have hlt : m % 2 ^ j < 2 ^ j := Nat.mod_lt _ (Nat.two_pow_pos j)
  rw [hr, Nat.pow_succ]
  rcases Nat.mod_two_eq_zero_or_one (m / 2 ^ j) with hb | hb
  · rw [hb, if_neg (by omega), if_neg (by omega)]; simp
  · rw [hb, Nat.mul_one]
    by_cases hz : m % 2 ^ j = 0
    · rw [hz]
      by_cases hc : st = true ∨ m / (2 ^ j * 2) % 2 = 1
      · rw [if_pos (.inr ⟨by omega, hc⟩), if_pos ⟨rfl, by rcases hc with h | h; exact .inl (.inl h); exact .inr h⟩]
      · rw [if_neg, if_neg]
        · simp
        · rintro ⟨-, (h | h) | h⟩
          · exact hc (.inl h)
          · exact h rfl
          · exact hc (.inr h)
        · rintro (h | ⟨-, h⟩)
          · omega
          · exact hc h
    · rw [if_pos (.inl (by omega)), if_pos ⟨rfl, .inl (.inr hz)⟩]
def expBits (x : Nat) : Nat := x / 4503599627370496 % 2048
def fracBits (x : Nat) : Nat := x % 4503599627370496
def kindN (x : Nat) : Nat := if expBits x = 2047 then (if fracBits x = 0 then 2 else 1) else if expBits x = 0 ∧ fracBits x = 0 then 3 else 4
def belowN (x : Nat) : Bool := decide (9223372036854775808 ≤ x ∧ kindN x ≠ 1)
def mantN (x : Nat) : Nat := if kindN x = 4 then (if expBits x = 0 then fracBits x else fracBits x + 4503599627370496) else 0
def expN (x : Nat) : Int := if kindN x = 4 then (if expBits x = 0 then -1074 else (expBits x : Int) - 1075) else 0
theorem mantN_lt (x : Nat) : mantN x < 9007199254740992 := by
  unfold mantN fracBits
  split
  · split <;> omega
  · omega
theorem expN_ge (x : Nat) : -1074 ≤ expN x := by
  unfold expN
  split
  · split <;> omega
  · omega
theorem expN_le (x : Nat) : expN x ≤ 971 := by
  unfold expN
  split
  · next h =>
    have : expBits x ≠ 2047 := fun e => by rw [kindN, if_pos e] at h; split at h <;> omega
    have : expBits x < 2048 := Nat.mod_lt _ (by decide)
    split <;> omega
  · omega
theorem kindN_cases (x : Nat) : kindN x = 1 ∨ kindN x = 2 ∨ kindN x = 3 ∨ kindN x = 4 := by
  unfold kindN
  split
  · split <;> omega
  · split <;> omega
theorem mantN_pos {x : Nat} (h : kindN x = 4) : mantN x ≠ 0 := by
  unfold mantN
  rw [if_pos h]
  split
  · next he =>
    intro hf
    rw [kindN, if_neg (by omega), if_pos ⟨he, hf⟩] at h
    omega
  · omega
theorem mantN_norm {x : Nat} (h : kindN x = 4) : expN x = -1074 ∨ 4503599627370496 ≤ mantN x := by
  unfold mantN expN
  rw [if_pos h, if_pos h]
  split
  · exact .inl rfl
  · exact .inr (by omega)
theorem top_bit {x : Nat} (hx : x < 18446744073709551616) : ((x : Int) / 9223372036854775808 == 1) = decide (9223372036854775808 ≤ x) := by
  rw [Bool.eq_iff_iff]
  simp only [beq_iff_eq, decide_eq_true_eq]
  omega
theorem belowN_of {x : Nat} (h : kindN x ≠ 1) : belowN x = decide (9223372036854775808 ≤ x) := by unfold belowN; simp [h]
theorem bits_parts {x : Nat} (h : kindN x = 4) (hx : x < 18446744073709551616) : signN (belowN x) (mantN x + (expN x + 1074).toNat * 4503599627370496) = x ∧ mantN x + (expN x + 1074).toNat * 4503599627370496 < 9218868437227405312 := by
  have he : expBits x ≠ 2047 := fun e => by rw [kindN, if_pos e] at h; split at h <;> omega
  have hb : belowN x = decide (9223372036854775808 ≤ x) := by unfold belowN; simp [h]
  have hm : mantN x + (expN x + 1074).toNat * 4503599627370496 = fracBits x + expBits x * 4503599627370496 := by
    unfold mantN expN
    rw [if_pos h, if_pos h]
    split
    · next e => rw [e]; rfl
    · next e =>
      have : ((expBits x : Int) - 1075 + 1074).toNat = expBits x - 1 := by omega
      rw [this]
      omega
  rw [hm, hb]
  unfold signN expBits fracBits at *
  constructor
  · by_cases hs : 9223372036854775808 ≤ x
    · simp only [hs, decide_true, if_true]; omega
    · simp only [hs, decide_false, Bool.false_eq_true, if_false]; omega
  · omega
theorem round_parts {x : Nat} (st : Bool) (h : kindN x = 4) (hx : x < 18446744073709551616) : signN (belowN x) (roundN (mantN x) (expN x) st) = x := by
  have b := bits_parts h hx
  have hr : roundN (mantN x) (expN x) st = mantN x + (expN x + 1074).toNat * 4503599627370496 := by
    rw [roundN_at (k := 0) st (mantN_pos h) (by have := expN_ge x; omega) (by have := mantN_lt x; omega) (by have := mantN_norm h; omega), rne_zero]
    simp only [Int.natCast_zero, Int.add_zero]
    omega
  rw [hr]; exact b.1
end Go.Proofs.YtcdbifcidaafnaaGreatDoor
namespace Go.Proofs.YtcdbifcidaafnaaGreatDoor
open Go.RowKit
set_option linter.unusedVariables false
set_option maxHeartbeats 400000 in
set_option maxRecDepth 100000 in
theorem l03Pow_any (n : Nat) (w : World) (hn : n ≤ 63) :
    Calls Tryz.prog 46 #[.int .i64 n] w fun e w' => e = .returned (.int .u64 ((2 ^ n : Nat) : Int)) ∧ w = w' := by
  go_enter Tryz.func46, Tryz.ntmps46
  go_wp2
  go_loop [3, 4] (fun x i => ∃ (p k : Nat), k ≤ n ∧ p = 2 ^ k ∧ x = .int .u64 p ∧ i = .int .i64 k) (fun _ i => n - (intOf i).toNat)
  case atStart => exact ⟨1, 0, Nat.zero_le _, rfl, rfl, rfl⟩
  case round =>
    obtain ⟨p, k, hk, hp, rfl, rfl⟩ := hrel
    have HP : Hid (p = 2 ^ k) := hp
    by_cases hlt : k < n
    · have hb : p ≤ 4611686018427387904 := by rw [hp]; exact Nat.pow_le_pow_right (n := 2) (j := 62) (by decide) (by omega)
      clear hp
      go_wp2
      go_round
      case rel => exact ⟨2 * p, k + 1, by omega, by rw [HP.out, Nat.pow_succ, Nat.mul_comm], by go_num, by go_num⟩
      case measure => simp [intOf]; omega
    · have hkn : k = n := by omega
      subst hkn
      clear hp
      go_wp2
      go_ret
      exact ⟨by rw [HP.out]; rfl, rfl⟩
theorem l03Pow_63 (w : World) : Calls Tryz.prog 46 #[.int .i64 63] w fun e w' => e = .returned (.int .u64 9223372036854775808) ∧ w = w' := l03Pow_any 63 w (by decide)
theorem l03Pow_56 (w : World) : Calls Tryz.prog 46 #[.int .i64 56] w fun e w' => e = .returned (.int .u64 72057594037927936) ∧ w = w' := l03Pow_any 56 w (by decide)
set_option maxHeartbeats 400000 in
set_option maxRecDepth 100000 in
theorem l03Sign_any (x : Nat) (b : Bool) (w : World) (hx : x ≤ 9218868437227405312) :
    Calls Tryz.prog 58 #[.int .u64 x, .bool b] w fun e w' => e = .returned (.int .u64 (signN b x : Nat)) ∧ w = w' := by
  cases b
  · go_enter Tryz.func58, Tryz.ntmps58
    go_wp2
    go_ret
    exact ⟨rfl, rfl⟩
  · go_enter Tryz.func58, Tryz.ntmps58
    go_wp2_with (go_at_call 46; refine (l03Pow_63 _).mono ?_; rintro e w' ⟨rfl, rfl⟩)
    go_ret
    exact ⟨ret_int (by simp [signN]), rfl⟩
def partsV (x : Nat) : Value := .agg #[.int .i64 (kindN x), .bool (belowN x), .int .u64 (mantN x), .int .i64 (expN x)]
theorem parts_nan {x : Nat} (he : x / 4503599627370496 % 2048 = 2047) (hf : x % 4503599627370496 ≠ 0) : partsV x = .agg #[.int .i64 1, .bool false, .int .u64 0, .int .i64 0] := by
  have hk : kindN x = 1 := by unfold kindN expBits fracBits; rw [if_pos he, if_neg hf]
  simp [partsV, mantN, expN, belowN, hk]
theorem parts_inf {x : Nat} (he : x / 4503599627370496 % 2048 = 2047) (hf : x % 4503599627370496 = 0) : partsV x = .agg #[.int .i64 2, .bool (decide (9223372036854775808 ≤ x)), .int .u64 0, .int .i64 0] := by
  have hk : kindN x = 2 := by unfold kindN expBits fracBits; rw [if_pos he, if_pos hf]
  simp [partsV, mantN, expN, belowN, hk]
theorem parts_zero {x : Nat} (he : x / 4503599627370496 % 2048 = 0) (hf : x % 4503599627370496 = 0) : partsV x = .agg #[.int .i64 3, .bool (decide (9223372036854775808 ≤ x)), .int .u64 0, .int .i64 0] := by
  have hk : kindN x = 3 := by unfold kindN expBits fracBits; rw [if_neg (by omega), if_pos ⟨he, hf⟩]
  simp [partsV, mantN, expN, belowN, hk]
theorem parts_low {x : Nat} (he : x / 4503599627370496 % 2048 = 0) (hf : x % 4503599627370496 ≠ 0) : partsV x = .agg #[.int .i64 4, .bool (decide (9223372036854775808 ≤ x)), .int .u64 ((x : Int) % 4503599627370496), .int .i64 (-1074)] := by
  have hk : kindN x = 4 := by unfold kindN expBits fracBits; rw [if_neg (by omega), if_neg (by omega)]
  simp [partsV, mantN, expN, belowN, hk, expBits, fracBits, he]
theorem parts_high {x : Nat} (he : x / 4503599627370496 % 2048 ≠ 0) (he' : x / 4503599627370496 % 2048 ≠ 2047) : partsV x = .agg #[.int .i64 4, .bool (decide (9223372036854775808 ≤ x)), .int .u64 ((x : Int) % 4503599627370496 + 4503599627370496), .int .i64 ((x : Int) / 4503599627370496 % 2048 - 1075)] := by
  have hk : kindN x = 4 := by unfold kindN expBits fracBits; rw [if_neg he', if_neg (by omega)]
  simp [partsV, mantN, expN, belowN, hk, expBits, fracBits, he]
theorem cells_four {w : World} {g : Nat} {a b c d : Value} {t : TypeId} {r : Nat × Nat} (h : w.heap[g]? = some (.cells #[a, b, c, d] t r)) :
    w.cell? ⟨g, 0, none⟩ = some a ∧ w.cell? ⟨g, 1, none⟩ = some b ∧ w.cell? ⟨g, 2, none⟩ = some c ∧ w.cell? ⟨g, 3, none⟩ = some d := by
  refine ⟨?_, ?_, ?_, ?_⟩
  · unfold World.cell?; simp only [h]; rfl
  · unfold World.cell?; simp only [h]; rfl
  · unfold World.cell?; simp only [h]; rfl
  · unfold World.cell?; simp only [h]; rfl
theorem alloc_kept {w w' : World} {o : Obj} (h : Below (w.alloc o).heap.size (w.alloc o) w') : w'.heap[w.heap.size]? = some o := by
  rw [h.block w.heap.size (by simp)]
  have e : (w.alloc o).heap = w.heap.push o := rfl
  rw [e]
  simp
theorem below_two (w : World) (o1 o2 : Obj) : Below w.heap.size w ((w.alloc o1).alloc o2) := ((Below.refl _ _).alloc (Nat.le_refl _) _).alloc (by simp) _
set_option maxHeartbeats 1000000 in
set_option maxRecDepth 100000 in
theorem specParts_any (x : Nat) (w : World) (hx : x < 18446744073709551616) :
    Calls Tryz.prog 41 #[.int .u64 x] w fun e w' => e = .returned (partsV x) ∧ Below w.heap.size w w' := by
  have ht := top_bit hx
  by_cases h1 : x / 4503599627370496 % 2048 = 2047
  · have g1 : (x : Int) / 4503599627370496 % 2048 = 2047 := by omega
    by_cases h2 : x % 4503599627370496 = 0
    · have g2 : (x : Int) % 4503599627370496 = 0 := by omega
      have hp : Hid _ := parts_inf h1 h2
      clear h1 h2
      go_enter Tryz.func41, Tryz.ntmps41
      go_wp2_with (go_at_call 46; refine (l03Pow_63 _).mono ?_; rintro e w' ⟨rfl, rfl⟩)
      go_returns
      exact ⟨by rw [hp.out], below_two _ _ _⟩
    · have g2 : ((x : Int) % 4503599627370496 != 0) = true := by simp; omega
      have hp : Hid _ := parts_nan h1 h2
      clear h1 h2
      go_enter Tryz.func41, Tryz.ntmps41
      go_wp2_with (go_at_call 46; refine (l03Pow_63 _).mono ?_; rintro e w' ⟨rfl, rfl⟩)
      go_returns
      exact ⟨by rw [hp.out], below_two _ _ _⟩
  · have g1 : ((x : Int) / 4503599627370496 % 2048 == 2047) = false := by rw [beq_eq_false_iff_ne]; omega
    by_cases h3 : x / 4503599627370496 % 2048 = 0
    · have g3 : (x : Int) / 4503599627370496 % 2048 = 0 := by omega
      by_cases h2 : x % 4503599627370496 = 0
      · have g2 : (x : Int) % 4503599627370496 = 0 := by omega
        have hp : Hid _ := parts_zero h3 h2
        clear h1 h2 h3
        go_enter Tryz.func41, Tryz.ntmps41
        go_wp2_with (go_at_call 46; refine (l03Pow_63 _).mono ?_; rintro e w' ⟨rfl, rfl⟩)
        go_returns
        exact ⟨by rw [hp.out], below_two _ _ _⟩
      · have g2 : ((x : Int) % 4503599627370496 == 0) = false := by rw [beq_eq_false_iff_ne]; omega
        have hp : Hid _ := parts_low h3 h2
        clear h1 h2 h3
        go_enter Tryz.func41, Tryz.ntmps41
        go_wp2_with (go_at_call 46; refine (l03Pow_63 _).mono ?_; rintro e w' ⟨rfl, rfl⟩)
        go_returns
        exact ⟨by rw [hp.out], below_two _ _ _⟩
    · have g3 : ((x : Int) / 4503599627370496 % 2048 == 0) = false := by rw [beq_eq_false_iff_ne]; omega
      have hp : Hid _ := parts_high h3 h1
      clear h1 h3
      go_enter Tryz.func41, Tryz.ntmps41
      go_wp2_with (go_at_call 46; refine (l03Pow_63 _).mono ?_; rintro e w' ⟨rfl, rfl⟩)
      go_returns
      exact ⟨by rw [hp.out], below_two _ _ _⟩
end Go.Proofs.YtcdbifcidaafnaaGreatDoor
namespace Go.Proofs.YtcdbifcidaafnaaGreatDoor
open Go.RowKit
set_option linter.unusedVariables false
theorem Tryz.partsKind (k : Int) (b : Bool) (m e : Int) (w : World) : Sem.run Tryz.prog (Instr.field 62 (.agg #[.int .i64 k, .bool b, .int .u64 m, .int .i64 e]) 0) w = .ok (.int .i64 k) w := by kernel_rfl
def keyN (x : Nat) : Int := if 9223372036854775808 ≤ x then -((x : Int) - 9223372036854775808) else x
def truthyN (x : Nat) : Bool := decide (kindN x ≠ 1 ∧ kindN x ≠ 3)
def equalN (a b : Nat) : Bool := decide (kindN a ≠ 1 ∧ kindN b ≠ 1 ∧ keyN a = keyN b)
def lessN (a b : Nat) : Bool := decide (kindN a ≠ 1 ∧ kindN b ≠ 1 ∧ keyN a < keyN b)
set_option maxHeartbeats 400000 in
set_option maxRecDepth 100000 in
theorem specTruthy_any (x : Nat) (w : World) (hx : x < 18446744073709551616) :
    Calls Tryz.prog 45 #[.int .u64 x] w fun e w' => e = .returned (.bool (truthyN x)) ∧ Below w.heap.size w w' := by
  have HX : Hid (Unit → x < 18446744073709551616) := fun _ => hx
  have HK := kindN_cases x
  obtain ⟨k, hk⟩ : ∃ k, kindN x = k := ⟨_, rfl⟩
  have HB : Hid (Unit → partsV x = .agg #[.int .i64 k, .bool (belowN x), .int .u64 (mantN x), .int .i64 (expN x)]) := fun _ => by unfold partsV; rw [hk]
  have HT : Hid (Unit → truthyN x = decide (k ≠ 1 ∧ k ≠ 3)) := fun _ => by unfold truthyN; rw [hk]
  rw [hk] at HK
  clear hk hx
  rcases HK with rfl | rfl | rfl | rfl
  all_goals
    go_enter Tryz.func45, Tryz.ntmps45
    go_wp2_with (go_at_call 41; refine (specParts_any x _ (HX.out ())).mono ?_; rintro e w' ⟨rfl, hb⟩; rw [HB.out ()])
    simp only [Tryz.partsKind]
    go_wp2
    go_ret
    exact ⟨by rw [HT.out ()]; rfl, hb⟩
set_option maxHeartbeats 400000 in
set_option maxRecDepth 100000 in
theorem l03Nan_any (x : Nat) (w : World) (hx : x < 18446744073709551616) :
    Calls Tryz.prog 34 #[.int .u64 x] w fun e w' => e = .returned (.bool (decide (kindN x = 1))) ∧ Below w.heap.size w w' := by
  have HX : Hid (Unit → x < 18446744073709551616) := fun _ => hx
  have HK := kindN_cases x
  obtain ⟨k, hk⟩ : ∃ k, kindN x = k := ⟨_, rfl⟩
  have HB : Hid (Unit → partsV x = .agg #[.int .i64 k, .bool (belowN x), .int .u64 (mantN x), .int .i64 (expN x)]) := fun _ => by unfold partsV; rw [hk]
  have HT : Hid (Unit → kindN x = k) := fun _ => hk
  rw [hk] at HK
  clear hk hx
  rcases HK with rfl | rfl | rfl | rfl
  all_goals
    go_enter Tryz.func34, Tryz.ntmps34
    go_wp2_with (go_at_call 41; refine (specParts_any x _ (HX.out ())).mono ?_; rintro e w' ⟨rfl, hb⟩; rw [HB.out ()])
    simp only [Tryz.partsKind]
    go_wp2
    go_ret
    exact ⟨by rw [HT.out ()]; rfl, hb⟩
set_option maxHeartbeats 400000 in
set_option maxRecDepth 100000 in
theorem l03Key_any (x : Nat) (w : World) (hx : x < 18446744073709551616) :
    Calls Tryz.prog 56 #[.int .u64 x] w fun e w' => e = .returned (.int .i64 (keyN x)) ∧ w = w' := by
  have HX : Hid (Unit → x < 18446744073709551616) := fun _ => hx
  have hx' : (x : Int) < 18446744073709551616 := by omega
  clear hx
  by_cases h : (9223372036854775808 : Int) ≤ x
  · go_enter Tryz.func56, Tryz.ntmps56
    go_wp2_with (go_at_call 46; refine (l03Pow_63 _).mono ?_; rintro e w' ⟨rfl, rfl⟩)
    go_ret
    exact ⟨ret_int (by unfold keyN; rw [if_pos (by omega)]), rfl⟩
  · have h' : decide ((9223372036854775808 : Int) ≤ x) = false := by simp; omega
    go_enter Tryz.func56, Tryz.ntmps56
    go_wp2_with (go_at_call 46; refine (l03Pow_63 _).mono ?_; rintro e w' ⟨rfl, rfl⟩)
    go_ret
    exact ⟨ret_int (by unfold keyN; rw [if_neg (by omega)]), rfl⟩
theorem l03Nan_is (x : Nat) (w : World) (hx : Hid (Unit → x < 18446744073709551616)) (hk : kindN x = 1) :
    Calls Tryz.prog 34 #[.int .u64 x] w fun e w' => e = .returned (.bool true) ∧ Below w.heap.size w w' :=
  (l03Nan_any x w (hx.out ())).mono (by rintro e w' ⟨rfl, hb⟩; exact ⟨by rw [hk]; rfl, hb⟩)
theorem l03Nan_no (x : Nat) (w : World) (hx : Hid (Unit → x < 18446744073709551616)) (hk : ¬kindN x = 1) :
    Calls Tryz.prog 34 #[.int .u64 x] w fun e w' => e = .returned (.bool false) ∧ Below w.heap.size w w' :=
  (l03Nan_any x w (hx.out ())).mono (by rintro e w' ⟨rfl, hb⟩; exact ⟨by rw [decide_eq_false hk], hb⟩)
set_option maxHeartbeats 1000000 in
set_option maxRecDepth 100000 in
theorem specEqual_any (a b : Nat) (w : World) (ha : a < 18446744073709551616) (hb : b < 18446744073709551616) :
    Calls Tryz.prog 33 #[.int .u64 a, .int .u64 b] w fun e w' => e = .returned (.bool (equalN a b)) ∧ Below w.heap.size w w' := by
  have HA : Hid (Unit → a < 18446744073709551616) := fun _ => ha
  have HB : Hid (Unit → b < 18446744073709551616) := fun _ => hb
  clear ha hb
  go_enter Tryz.func33, Tryz.ntmps33
  go_wp2_with fail
  by_cases ka : kindN a = 1
  · refine (l03Nan_is a _ HA ka).mono ?_
    rintro e w1 ⟨rfl, hb1⟩
    go_wp2_with fail
    go_ret
    exact ⟨by simp [equalN, ka], hb1⟩
  · refine (l03Nan_no a _ HA ka).mono ?_
    rintro e w1 ⟨rfl, hb1⟩
    go_wp2_with fail
    by_cases kb : kindN b = 1
    · refine (l03Nan_is b _ HB kb).mono ?_
      rintro e w2 ⟨rfl, hb2⟩
      go_wp2_with fail
      go_ret
      exact ⟨by simp [equalN, kb], chain hb1 hb2⟩
    · refine (l03Nan_no b _ HB kb).mono ?_
      rintro e w2 ⟨rfl, hb2⟩
      go_wp2_with fail
      refine (l03Key_any a _ (HA.out ())).mono ?_
      rintro e w3 ⟨rfl, rfl⟩
      go_wp2_with fail
      refine (l03Key_any b _ (HB.out ())).mono ?_
      rintro e w4 ⟨rfl, rfl⟩
      go_wp2_with fail
      go_ret
      exact ⟨by simp only [equalN, ka, kb, not_false_eq_true, ne_eq, true_and]; rfl, chain hb1 hb2⟩
set_option maxHeartbeats 1000000 in
set_option maxRecDepth 100000 in
theorem specLess_any (a b : Nat) (w : World) (ha : a < 18446744073709551616) (hb : b < 18446744073709551616) :
    Calls Tryz.prog 32 #[.int .u64 a, .int .u64 b] w fun e w' => e = .returned (.bool (lessN a b)) ∧ Below w.heap.size w w' := by
  have HA : Hid (Unit → a < 18446744073709551616) := fun _ => ha
  have HB : Hid (Unit → b < 18446744073709551616) := fun _ => hb
  clear ha hb
  go_enter Tryz.func32, Tryz.ntmps32
  go_wp2_with fail
  by_cases ka : kindN a = 1
  · refine (l03Nan_is a _ HA ka).mono ?_
    rintro e w1 ⟨rfl, hb1⟩
    go_wp2_with fail
    go_ret
    exact ⟨by simp [lessN, ka], hb1⟩
  · refine (l03Nan_no a _ HA ka).mono ?_
    rintro e w1 ⟨rfl, hb1⟩
    go_wp2_with fail
    by_cases kb : kindN b = 1
    · refine (l03Nan_is b _ HB kb).mono ?_
      rintro e w2 ⟨rfl, hb2⟩
      go_wp2_with fail
      go_ret
      exact ⟨by simp [lessN, kb], chain hb1 hb2⟩
    · refine (l03Nan_no b _ HB kb).mono ?_
      rintro e w2 ⟨rfl, hb2⟩
      go_wp2_with fail
      refine (l03Key_any a _ (HA.out ())).mono ?_
      rintro e w3 ⟨rfl, rfl⟩
      go_wp2_with fail
      refine (l03Key_any b _ (HB.out ())).mono ?_
      rintro e w4 ⟨rfl, rfl⟩
      go_wp2_with fail
      go_ret
      exact ⟨by simp only [lessN, ka, kb, not_false_eq_true, ne_eq, true_and]; rfl, chain hb1 hb2⟩
end Go.Proofs.YtcdbifcidaafnaaGreatDoor
namespace Go.Proofs.YtcdbifcidaafnaaGreatDoor
open Go.RowKit
theorem Tryz.infoByte : (Tryz.prog.info? 5).map (fun i => (i.zero, i.size, i.bytes)) = some (some (.int .u8 0), 1, 1) := by kernel_rfl
end Go.Proofs.YtcdbifcidaafnaaGreatDoor
namespace Go.Proofs.YtcdbifcidaafnaaGreatDoor
open Go.RowKit
set_option linter.unusedVariables false
set_option maxHeartbeats 400000 in
set_option maxRecDepth 100000 in
theorem l01In_any (x a b : Int) (w : World) :
    Calls Tryz.prog 30 #[.int .i64 x, .int .i64 a, .int .i64 b] w fun e w' => e = .returned (.bool (decide (a ≤ x) && decide (x ≤ b))) ∧ w = w' := by
  by_cases h1 : a ≤ x
  · by_cases h2 : x ≤ b
    · have e2 : decide (x ≤ b) = true := by simpa using h2
      go_enter Tryz.func30, Tryz.ntmps30
      go_wp2
      go_ret
      exact ⟨by rw [decide_eq_true h1, e2]; rfl, rfl⟩
    · have e2 : decide (x ≤ b) = false := by simpa using h2
      go_enter Tryz.func30, Tryz.ntmps30
      go_wp2
      go_ret
      exact ⟨rfl, rfl⟩
  · have e1 : decide (a ≤ x) = false := by simpa using h1
    go_enter Tryz.func30, Tryz.ntmps30
    go_wp2
    go_ret
    exact ⟨rfl, rfl⟩
end Go.Proofs.YtcdbifcidaafnaaGreatDoor
namespace Go.Proofs.YtcdbifcidaafnaaGreatDoor
open Go.RowKit Go.Sort
set_option linter.unusedVariables false
def inB (x a b : Int) : Bool := decide (a ≤ x) && decide (x ≤ b)
theorem l01In_b (x a b : Int) (w : World) : Calls Tryz.prog 30 #[.int .i64 x, .int .i64 a, .int .i64 b] w fun e w' => e = .returned (.bool (inB x a b)) ∧ w = w' := l01In_any x a b w
end Go.Proofs.YtcdbifcidaafnaaGreatDoor
namespace Go.Proofs.YtcdbifcidaafnaaGreatDoor
open Go.RowKit Go.Sort
set_option linter.unusedVariables false
theorem empty_is {s : ByteArray} (h : s.size = 0) : s = ⟨#[]⟩ := by
  obtain ⟨d⟩ := s
  have : d = #[] := Array.eq_empty_of_size_eq_zero h
  rw [this]
theorem full_text {s : ByteArray} (h : ¬ s.size = 0) : s.toList.isEmpty = false := by
  rw [ByteArray.toList_eq, List.isEmpty_eq_false_iff]
  intro e
  apply h
  show s.data.size = 0
  rw [← Array.length_toList, e]
  rfl
end Go.Proofs.YtcdbifcidaafnaaGreatDoor
namespace Go.Proofs.YtcdbifcidaafnaaGreatDoor
open Go.RowKit Go.ChangeShapes Go.WideShapes
set_option linter.unusedVariables false
structure PVal where
  kind : Int
  num : Nat
  text : ByteArray
  ref : Int
def valW (p : PVal) : Prop := I64 p.kind ∧ N64 p.num ∧ p.text.size ≤ maxLen ∧ I64 p.ref
def valOk (p : PVal) : Bool :=
  if p.kind = 0 then decide (p.num = 0) && (decide (p.text.size = 0) && decide (p.ref = 0))
  else if p.kind = 1 then decide (p.num ≤ 1) && (decide (p.text.size = 0) && decide (p.ref = 0))
  else if p.kind = 2 then decide (p.text.size = 0) && decide (p.ref = 0)
  else if p.kind = 3 then decide (p.num = 0) && (decide (p.ref = 0) && decide (p.text.size ≤ 200))
  else if p.kind = 4 then decide (p.num = 0) && (decide (p.text.size = 0) && decide (0 ≤ p.ref))
  else false
def valTrue (p : PVal) : Bool :=
  if p.kind = 0 then false
  else if p.kind = 1 then decide (p.num = 1)
  else if p.kind = 2 then truthyN p.num
  else if p.kind = 3 then !decide (p.text.size = 0)
  else true
def valSame (a b : PVal) : Bool :=
  decide (a.kind = b.kind) && (if a.kind = 2 then equalN a.num b.num else decide (a.num = b.num) && (decide (a.text = b.text) && decide (a.ref = b.ref)))
end Go.Proofs.YtcdbifcidaafnaaGreatDoor
namespace Go.Proofs.YtcdbifcidaafnaaGreatDoor
open Go.RowKit Go.Sort
set_option linter.unusedVariables false
set_option maxHeartbeats 1000000 in
set_option maxRecDepth 100000 in
theorem specValueOk_any (p : PVal) (w : World) (hp : valW p) :
    Calls Tryz.prog 8 #[.agg #[.int .i64 p.kind, .int .u64 (p.num : Int), .string p.text, .int .i64 p.ref]] w fun e w' => e = .returned (.bool (valOk p)) ∧ Below w.heap.size w w' := by
  have hs := hp.2.2.1
  clear hp
  unfold valOk
  obtain ⟨k, x, s, r⟩ := p
  simp only at hs ⊢
  unfold maxLen at hs
  have b0 : ∀ cs t, Below w.heap.size w (w.alloc (.cells cs t)) := fun cs t => (Below.refl _ _).alloc (Nat.le_refl _) _
  obtain ⟨F, hF⟩ : ∃ F, (if k = 0 then decide (x = 0) && (decide (s.size = 0) && decide (r = 0)) else if k = 1 then decide (x ≤ 1) && (decide (s.size = 0) && decide (r = 0)) else if k = 2 then decide (s.size = 0) && decide (r = 0) else if k = 3 then decide (x = 0) && (decide (r = 0) && decide (s.size ≤ 200)) else if k = 4 then decide (x = 0) && (decide (s.size = 0) && decide (0 ≤ r)) else false) = F := ⟨_, rfl⟩
  rw [hF]
  have HF : Hid _ := hF
  clear hF
  by_cases k0 : k = 0
  · subst k0
    by_cases h0 : x = 0
    case neg =>
      have hF : F = false := by
        rw [← HF.out]
        simp [h0]
      subst hF
      clear HF
      have z0 : ((x : Int) == 0) = false := by rw [beq_eq_false_iff_ne]; omega
      go_enter Tryz.func8, Tryz.ntmps8
      go_wp2
      go_ret
      exact ⟨rfl, b0 _ _⟩
    by_cases h1 : s.size = 0
    case neg =>
      have hF : F = false := by
        rw [← HF.out]
        simp [h1]
      subst hF
      clear HF
      subst h0
      have z1 := full_text h1
      go_enter Tryz.func8, Tryz.ntmps8
      go_wp2
      go_ret
      exact ⟨rfl, b0 _ _⟩
    by_cases h2 : r = 0
    case neg =>
      have hF : F = false := by
        rw [← HF.out]
        simp [h2]
      subst hF
      clear HF
      subst h0
      have z1 := empty_is h1
      subst z1
      have z2 : (r == 0) = false := by rw [beq_eq_false_iff_ne]; exact h2
      go_enter Tryz.func8, Tryz.ntmps8
      go_wp2
      go_ret
      exact ⟨rfl, b0 _ _⟩
    have hF : F = true := by
      rw [← HF.out]
      simp [h0, h1, h2]
    subst hF
    clear HF
    subst h0
    have z1 := empty_is h1
    subst z1
    subst h2
    go_enter Tryz.func8, Tryz.ntmps8
    go_wp2
    go_ret
    exact ⟨rfl, b0 _ _⟩
  by_cases k1 : k = 1
  · subst k1
    by_cases h0 : x ≤ 1
    case neg =>
      have hF : F = false := by
        rw [← HF.out]
        simp [h0]
      subst hF
      clear HF
      have z0 : ¬ (x : Int) ≤ 1 := by omega
      go_enter Tryz.func8, Tryz.ntmps8
      go_wp2
      go_ret
      exact ⟨rfl, b0 _ _⟩
    by_cases h1 : s.size = 0
    case neg =>
      have hF : F = false := by
        rw [← HF.out]
        simp [h1]
      subst hF
      clear HF
      have z0 : (x : Int) ≤ 1 := by omega
      have z1 := full_text h1
      go_enter Tryz.func8, Tryz.ntmps8
      go_wp2
      go_ret
      exact ⟨rfl, b0 _ _⟩
    by_cases h2 : r = 0
    case neg =>
      have hF : F = false := by
        rw [← HF.out]
        simp [h2]
      subst hF
      clear HF
      have z0 : (x : Int) ≤ 1 := by omega
      have z1 := empty_is h1
      subst z1
      have z2 : (r == 0) = false := by rw [beq_eq_false_iff_ne]; exact h2
      go_enter Tryz.func8, Tryz.ntmps8
      go_wp2
      go_ret
      exact ⟨rfl, b0 _ _⟩
    have hF : F = true := by
      rw [← HF.out]
      simp [h0, h1, h2]
    subst hF
    clear HF
    have z0 : (x : Int) ≤ 1 := by omega
    have z1 := empty_is h1
    subst z1
    subst h2
    go_enter Tryz.func8, Tryz.ntmps8
    go_wp2
    go_ret
    exact ⟨rfl, b0 _ _⟩
  by_cases k2 : k = 2
  · subst k2
    by_cases h0 : s.size = 0
    case neg =>
      have hF : F = false := by
        rw [← HF.out]
        simp [h0]
      subst hF
      clear HF
      have z0 := full_text h0
      go_enter Tryz.func8, Tryz.ntmps8
      go_wp2
      go_ret
      exact ⟨rfl, b0 _ _⟩
    by_cases h1 : r = 0
    case neg =>
      have hF : F = false := by
        rw [← HF.out]
        simp [h1]
      subst hF
      clear HF
      have z0 := empty_is h0
      subst z0
      have z1 : (r == 0) = false := by rw [beq_eq_false_iff_ne]; exact h1
      go_enter Tryz.func8, Tryz.ntmps8
      go_wp2
      go_ret
      exact ⟨rfl, b0 _ _⟩
    have hF : F = true := by
      rw [← HF.out]
      simp [h0, h1]
    subst hF
    clear HF
    have z0 := empty_is h0
    subst z0
    subst h1
    go_enter Tryz.func8, Tryz.ntmps8
    go_wp2
    go_ret
    exact ⟨rfl, b0 _ _⟩
  by_cases k3 : k = 3
  · subst k3
    by_cases h0 : x = 0
    case neg =>
      have hF : F = false := by
        rw [← HF.out]
        simp [h0]
      subst hF
      clear HF
      have z0 : ((x : Int) == 0) = false := by rw [beq_eq_false_iff_ne]; omega
      go_enter Tryz.func8, Tryz.ntmps8
      go_wp2
      go_ret
      exact ⟨rfl, b0 _ _⟩
    by_cases h1 : r = 0
    case neg =>
      have hF : F = false := by
        rw [← HF.out]
        simp [h1]
      subst hF
      clear HF
      subst h0
      have z1 : (r == 0) = false := by rw [beq_eq_false_iff_ne]; exact h1
      go_enter Tryz.func8, Tryz.ntmps8
      go_wp2
      go_ret
      exact ⟨rfl, b0 _ _⟩
    by_cases h2 : s.size ≤ 200
    case neg =>
      have hF : F = false := by
        rw [← HF.out]
        simp [h2]
      subst hF
      clear HF
      subst h0
      subst h1
      have z2 : ¬ (s.size : Int) ≤ 200 := by omega
      go_enter Tryz.func8, Tryz.ntmps8
      go_wp2
      go_ret
      exact ⟨rfl, b0 _ _⟩
    have hF : F = true := by
      rw [← HF.out]
      simp [h0, h1, h2]
    subst hF
    clear HF
    subst h0
    subst h1
    have z2 : (s.size : Int) ≤ 200 := by omega
    go_enter Tryz.func8, Tryz.ntmps8
    go_wp2
    go_ret
    exact ⟨rfl, b0 _ _⟩
  by_cases k4 : k = 4
  · subst k4
    by_cases h0 : x = 0
    case neg =>
      have hF : F = false := by
        rw [← HF.out]
        simp [h0]
      subst hF
      clear HF
      have z0 : ((x : Int) == 0) = false := by rw [beq_eq_false_iff_ne]; omega
      go_enter Tryz.func8, Tryz.ntmps8
      go_wp2
      go_ret
      exact ⟨rfl, b0 _ _⟩
    by_cases h1 : s.size = 0
    case neg =>
      have hF : F = false := by
        rw [← HF.out]
        simp [h1]
      subst hF
      clear HF
      subst h0
      have z1 := full_text h1
      go_enter Tryz.func8, Tryz.ntmps8
      go_wp2
      go_ret
      exact ⟨rfl, b0 _ _⟩
    by_cases h2 : 0 ≤ r
    case neg =>
      have hF : F = false := by
        rw [← HF.out]
        simp [h2]
      subst hF
      clear HF
      subst h0
      have z1 := empty_is h1
      subst z1
      go_enter Tryz.func8, Tryz.ntmps8
      go_wp2
      go_ret
      exact ⟨rfl, b0 _ _⟩
    have hF : F = true := by
      rw [← HF.out]
      simp [h0, h1, h2]
    subst hF
    clear HF
    subst h0
    have z1 := empty_is h1
    subst z1
    go_enter Tryz.func8, Tryz.ntmps8
    go_wp2
    go_ret
    exact ⟨rfl, b0 _ _⟩
  have hF : F = false := by
    rw [← HF.out]
    simp [k0, k1, k2, k3, k4]
  subst hF
  clear HF
  go_enter Tryz.func8, Tryz.ntmps8
  go_wp2
  go_ret
  exact ⟨rfl, b0 _ _⟩
end Go.Proofs.YtcdbifcidaafnaaGreatDoor
namespace Go.Proofs.YtcdbifcidaafnaaGreatDoor
theorem rne_sticky {M k d low : Nat} (hk : k ≠ 0) (hl : low < 2 ^ d) : rne (M * 2 ^ d + low) (k + d) false = rne M k (decide (low ≠ 0)) := by
  obtain ⟨j, rfl⟩ : ∃ j, k = j + 1 := ⟨k - 1, by omega⟩
  have hd := Nat.two_pow_pos d
  have hq : (M * 2 ^ d + low) / 2 ^ (j + 1 + d) = M / 2 ^ (j + 1) := by
    rw [Nat.pow_add, Nat.mul_comm (2 ^ (j + 1)), ← Nat.div_div_eq_div_mul]
    congr 1
    rw [Nat.mul_comm, Nat.mul_add_div hd, Nat.div_eq_of_lt hl]; simp
  have hm : (M * 2 ^ d + low) % 2 ^ (j + 1 + d) = M % 2 ^ (j + 1) * 2 ^ d + low := by
    have h1 := Nat.div_add_mod (M * 2 ^ d + low) (2 ^ (j + 1 + d))
    have h2 := Nat.div_add_mod M (2 ^ (j + 1))
    rw [hq] at h1
    have h3 : 2 ^ (j + 1 + d) * (M / 2 ^ (j + 1)) = 2 ^ (j + 1) * (M / 2 ^ (j + 1)) * 2 ^ d := by rw [Nat.pow_add, Nat.mul_assoc, Nat.mul_comm (2 ^ d), ← Nat.mul_assoc]
    have h4 : M * 2 ^ d = (2 ^ (j + 1) * (M / 2 ^ (j + 1)) + M % 2 ^ (j + 1)) * 2 ^ d := by rw [h2]
    rw [Nat.add_mul] at h4
    rw [h3] at h1
    omega
  unfold rne
  rw [hq, hm]
  generalize M % 2 ^ (j + 1) = r
  generalize M / 2 ^ (j + 1) = q
  have hP : (2 : Nat) ^ (j + 1 + d) = 2 * (2 ^ j * 2 ^ d) := by rw [Nat.pow_add, Nat.pow_succ]; rw [Nat.mul_comm (2 ^ j) 2, Nat.mul_assoc]
  have hK : (2 : Nat) ^ (j + 1) = 2 * 2 ^ j := by rw [Nat.pow_succ, Nat.mul_comm]
  rw [hP, hK]
  generalize (2 : Nat) ^ j = J at *
  generalize hD : (2 : Nat) ^ d = D at *
  have c1 : (2 * (J * D) < 2 * (r * D + low)) ↔ (J < r ∨ (r = J ∧ low ≠ 0)) := by
    constructor
    · intro h
      rcases Nat.lt_trichotomy r J with h' | h' | h'
      · have : (r + 1) * D ≤ J * D := Nat.mul_le_mul_right _ h'
        rw [Nat.add_mul] at this
        omega
      · subst h'; exact .inr ⟨rfl, by omega⟩
      · exact .inl h'
    · rintro (h | ⟨rfl, h⟩)
      · have : (J + 1) * D ≤ r * D := Nat.mul_le_mul_right _ h
        rw [Nat.add_mul] at this
        omega
      · omega
  have c2 : (2 * (r * D + low) = 2 * (J * D)) ↔ (r = J ∧ low = 0) := by
    constructor
    · intro h
      rcases Nat.lt_trichotomy r J with h' | h' | h'
      · have : (r + 1) * D ≤ J * D := Nat.mul_le_mul_right _ h'
        rw [Nat.add_mul] at this
        omega
      · subst h'; exact ⟨rfl, by omega⟩
      · have : (J + 1) * D ≤ r * D := Nat.mul_le_mul_right _ h'
        rw [Nat.add_mul] at this
        omega
    · rintro ⟨rfl, rfl⟩; simp
  have c3 : (2 * J < 2 * r) ↔ J < r := by omega
  have c4 : (2 * r = 2 * J) ↔ r = J := by omega
  simp only [c1, c2, c3, c4, Bool.false_eq_true, false_or, decide_eq_true_eq]
  by_cases h1 : J < r
  · rw [if_pos (.inl (.inl h1)), if_pos (.inl h1)]
  · by_cases h2 : r = J
    · by_cases h3 : low = 0
      · by_cases h4 : q % 2 = 1
        · rw [if_pos (.inr ⟨⟨h2, h3⟩, h4⟩), if_pos (.inr ⟨h2, .inr h4⟩)]
        · rw [if_neg, if_neg]
          · rintro (h | ⟨-, h | h⟩)
            · exact h1 h
            · exact h h3
            · exact h4 h
          · rintro ((h | ⟨-, h⟩) | ⟨-, h⟩)
            · exact h1 h
            · exact h h3
            · exact h4 h
      · rw [if_pos (.inl (.inr ⟨h2, h3⟩)), if_pos (.inr ⟨h2, .inl h3⟩)]
    · rw [if_neg, if_neg]
      · rintro (h | ⟨h, -⟩)
        · exact h1 h
        · exact h2 h
      · rintro ((h | ⟨h, -⟩) | ⟨⟨h, -⟩, -⟩)
        · exact h1 h
        · exact h2 h
        · exact h2 h
theorem roundN_sticky {M d low : Nat} {E : Int} (hl : low < 2 ^ d) (hM : low = 0 ∨ 9007199254740992 ≤ M) : roundN (M * 2 ^ d + low) (E - d) false = roundN M E (decide (low ≠ 0)) := by
  have hd := Nat.two_pow_pos d
  by_cases h0 : low = 0
  · subst h0
    rw [Nat.add_zero, roundN_times]
    rfl
  have hM1 : 9007199254740992 ≤ M := by omega
  have hm0 : M ≠ 0 := by omega
  obtain ⟨l, hlog⟩ : ∃ l, M.log2 = l := ⟨_, rfl⟩
  have h1 : 2 ^ l ≤ M := by rw [← hlog]; exact Nat.log2_self_le hm0
  have h2 : M < 2 ^ (l + 1) := by rw [← hlog]; exact Nat.lt_log2_self
  have hl53 : 53 ≤ l := by
    rcases Nat.lt_or_ge l 53 with h | h
    · have : (2 : Nat) ^ (l + 1) ≤ 2 ^ 53 := Nat.pow_le_pow_right (by decide) h
      omega
    · exact h
  obtain ⟨k, hk⟩ : ∃ k : Nat, (k : Int) = max (E + l - 52) (-1074) - E := ⟨(max (E + l - 52) (-1074) - E).toNat, by omega⟩
  have hk0 : k ≠ 0 := by omega
  have hup : M < 2 ^ (53 + k) := Nat.lt_of_lt_of_le h2 (Nat.pow_le_pow_right (by decide) (by omega))
  have hlo : E + k = -1074 ∨ 2 ^ (52 + k) ≤ M := by
    rcases Int.le_total (-1074) (E + l - 52) with h | h
    · right
      have : 52 + k = l := by omega
      rw [this]; exact h1
    · left; omega
  rw [roundN_at (k := k) _ hm0 (by omega) hup hlo]
  have hMd : (M + 1) * 2 ^ d ≤ 2 ^ (53 + k) * 2 ^ d := Nat.mul_le_mul_right _ hup
  rw [Nat.add_mul] at hMd
  have hlo2 : E - d + ((k + d : Nat) : Int) = -1074 ∨ 2 ^ (52 + (k + d)) ≤ M * 2 ^ d + low := by
    rcases hlo with h | h
    · left; omega
    · right
      have : 2 ^ (52 + k) * 2 ^ d ≤ M * 2 ^ d := Nat.mul_le_mul_right _ h
      rw [← Nat.pow_add] at this
      rw [show 52 + (k + d) = 52 + k + d by omega]
      omega
  have hup2 : M * 2 ^ d + low < 2 ^ (53 + (k + d)) := by
    rw [show 53 + (k + d) = 53 + k + d by omega, Nat.pow_add]
    omega
  have hne : M * 2 ^ d + low ≠ 0 := by omega
  rw [roundN_at (k := k + d) _ hne (by omega) hup2 hlo2, rne_sticky hk0 hl]
  have e : E - d + ((k + d : Nat) : Int) = E + k := by omega
  rw [e]
end Go.Proofs.YtcdbifcidaafnaaGreatDoor
