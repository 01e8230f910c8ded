/-
  What the laws of sums ask for: whole numbers and multiples of 2^e as numbers in bits, with the world kept below.
-/
import Derived.Test.YtdaebbejpoejcaaAddL
import Derived.Test.YtdaebbejpoejcaaLaws3
namespace Go.Proofs.Ytdaebbejpoejcaa
open Go.RowKit

theorem whole_below (n : Int) (w : World) (h0 : -9223372036854775808 ≤ n) (h1 : n ≤ 9223372036854775807) :
    Calls Try.prog 17 #[.int .i64 n] w fun e w' => e = .returned (.int .u64 (fromIntN n : Nat)) ∧ Below w.heap.size w w' :=
  (whole_any n w h0 h1).mono (by rintro e w' ⟨rfl, rfl⟩; exact ⟨rfl, Below.refl _ _⟩)

theorem roundZ_nat (m : Nat) (e : Int) : signN false (roundN m e false) = roundZ m e := by
  by_cases h : m = 0
  · subst h
    rw [roundN_nil]
    rfl
  · rw [roundZ_pos m rfl h, signN_false]

theorem round_below (m : Nat) (e : Int) (w : World) (hm : m < 18446744073709551616) (h1 : -9223372036854775808 ≤ e) (h2 : e ≤ 9223372036854775807) :
    Calls Try.prog 31 #[.bool false, .int .u64 m, .int .i64 e, .bool false] w fun en w' => en = .returned (.int .u64 (roundZ m e : Nat)) ∧ Below w.heap.size w w' := by
  refine (specRound_any false false m e w hm h1 h2).mono ?_
  rintro en w' ⟨rfl, rfl⟩
  rw [Bool.false_and, roundZ_nat]
  exact ⟨rfl, Below.refl _ _⟩

end Go.Proofs.Ytdaebbejpoejcaa
