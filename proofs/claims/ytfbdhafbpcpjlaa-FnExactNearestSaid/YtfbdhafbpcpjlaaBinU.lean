/-
  The walks of the specification's great numbers in limbs of 32 bits: out of figures, and times a power of 2.
-/
import Derived.Test.YtfbdhafbpcpjlaaBinS
import Derived.Test.YtfbdhafbpcpjlaaBits
import Derived.Test.YtfbdhafbpcpjlaaLimb
namespace Go.Proofs.Ytfbdhafbpcpjlaa
open Go.RowKit
set_option linter.unusedVariables false

theorem binV_shift {ls xs : List Nat} {q r n : Nat} (hx : binV xs = binV ls * 2 ^ r + 0) (hn : n = 32 * q + r) : binV (List.replicate q 0 ++ xs) = binV ls * 2 ^ n := by
  rw [binV_append, binV_zeros, List.length_replicate, hx, hn, Nat.pow_add, Nat.zero_add, Nat.add_zero, Nat.mul_left_comm]
theorem binOk_shift {xs : List Nat} (q : Nat) (h : BinOk xs) : BinOk (List.replicate q 0 ++ xs) := by
  intro x hx
  rcases List.mem_append.mp hx with h1 | h1
  · rw [List.eq_of_mem_replicate h1]; decide
  · exact h x h1

set_option maxHeartbeats 2000000 in
set_option maxRecDepth 100000 in
theorem l07Up_any (v : Value) (ls : List Nat) (n B : Nat) (w : World) (hA : RowW w B v ls) (oa : BinOk ls) (h0 : binV ls ≠ 0) (la : ls.length ≤ 4096) (ln : (n : Int) ≤ 4096) :
    Calls Try.prog 53 #[v, .int .i64 n] w fun e w' => ∃ (v' : Value) (xs : List Nat), e = .returned v' ∧ RowW w' w.heap.size v' xs ∧ Below w.heap.size w w' ∧ binV xs = binV ls * 2 ^ n ∧ BinOk xs ∧ xs.length ≤ ls.length + 1 + n / 32 := by
  obtain ⟨i0, hi, hz0, hz1, hz2⟩ := info_parts Try.infoWord
  obtain ⟨q, hq⟩ : ∃ q : Nat, (n : Int) / 32 = q := ⟨n / 32, by omega⟩
  obtain ⟨r, hr⟩ : ∃ r : Nat, (n : Int) % 32 = r := ⟨n % 32, by omega⟩
  have hr2 : r ≤ 63 := by omega
  have cP := fun W => l03Pow_any r W hr2
  have hP : 2 ^ r < 4294967296 := by
    have : 2 ^ r ≤ 2 ^ 31 := Nat.pow_le_pow_right (by decide) (by omega)
    omega
  have hmk := fun W : World => run_make (P := Try.prog) W 45 24 i0 (.int .u64 0) Try.underlying45 hi hz0 .i64 .i64 (q : Int) (q : Int) (by omega) (by omega) (by rw [hz2]; omega) (by omega)
  have HS : Hid (Unit → ∀ xs, binV xs = binV ls * 2 ^ r + 0 → binV (List.replicate q 0 ++ xs) = binV ls * 2 ^ n ∧ xs ≠ []) := fun _ xs hx => by
    refine ⟨binV_shift hx (by omega), fun h => ?_⟩
    subst h
    have : 0 < binV ls * 2 ^ r := Nat.mul_pos (by omega) (Nat.two_pow_pos r)
    simp [binV] at hx
    omega
  have HL : Hid (Unit → q = n / 32) := fun _ => by omega
  have q2 : (q : Int) ≤ 128 := by omega
  obtain ⟨P, hP1⟩ : ∃ P, 2 ^ r = P := ⟨_, rfl⟩
  rw [hP1] at cP hP HS
  have HA : Hid (RowW w B v ls ∧ BinOk ls ∧ P < 4294967296 ∧ ls.length ≤ 4096) := ⟨hA, oa, hP, la⟩
  clear hP1 hP hA oa h0 hr2
  go_enter Try.func53, Try.ntmps53
  go_wp2_with fail
  refine (cP _).mono ?_
  rintro e w' ⟨rfl, rfl⟩
  go_wp2_with fail
  have hown1 : (w.alloc (.cells (madeCells #[.int .u64 0] q) 24)).ownsRow w.heap.size 24 1 (.slice (some ⟨w.heap.size, 0, none⟩) q q) q ((List.replicate q 0).map fun x => Value.int .u64 (x : Nat)) := by
    refine ⟨by simp, .inr ⟨w.heap.size, q, _, rfl, Nat.le_refl _, heap_alloc_new w _, Nat.le_refl _, by unfold maxLen; omega, by simp [size_madeCells], ?_⟩⟩
    rw [toList_madeCells_one, Nat.mul_one, List.map_replicate, List.take_of_length_le (by simp)]
    rfl
  have hbel1 : Below w.heap.size w (w.alloc (.cells (madeCells #[.int .u64 0] q) 24)) := (Below.refl _ _).alloc (Nat.le_refl _) _
  obtain ⟨w1, hw1⟩ : ∃ w1, w.alloc (.cells (madeCells #[.int .u64 0] q) 24) = w1 := ⟨_, rfl⟩
  simp only [hw1]
  rw [hw1] at hown1 hbel1
  clear hw1 hmk
  refine (l07MulAdd_any v ls P 0 B w1 (HA.out.1.below hbel1) HA.out.2.1 HA.out.2.2.1 (by omega) (by have := HA.out.2.2.2; omega)).mono ?_
  rintro e w2 ⟨v', xs, rfl, hrow, hb2, hval, hok, hlen⟩
  obtain ⟨hv, hne⟩ := HS.out () xs hval
  have hown2 := own_below hown1 hb2
  have hbel2 := chain hbel1 hb2
  have hsz := hbel2.size
  rcases hrow.cells with ⟨_, hx0⟩ | ⟨g, cap, rfl, hg1, hg2, hcells⟩
  · exact absurd hx0 hne
  · have HF : Hid (binV (List.replicate q 0 ++ xs) = binV ls * 2 ^ n ∧ BinOk (List.replicate q 0 ++ xs) ∧ (List.replicate q 0 ++ xs).length = q + xs.length ∧ q + xs.length ≤ ls.length + 1 + n / 32) := ⟨hv, binOk_shift q hok, by simp, by have := HL.out (); omega⟩
    have hxl : xs.length ≤ 5000 := by have := HA.out.2.2.2; omega
    clear hv hne hval hok hlen hrow HS hown1 hb2
    have hnews : ∀ j u, (xs.map fun x => Value.int .u64 (x : Nat))[j]? = some u → w2.cell? ((⟨g, 0, none⟩ : Addr).add j) = some u := by
      intro j u hu
      rw [List.getElem?_map] at hu
      by_cases hj : j < xs.length
      · rw [List.getElem?_eq_getElem hj] at hu
        have hadd : (⟨g, 0, none⟩ : Addr).add j = ⟨g, j, none⟩ := by unfold Addr.add; split <;> simp_all
        rw [hadd, hcells j hj, List.getD_eq_getElem?_getD, List.getElem?_eq_getElem hj]
        simpa using hu
      · rw [List.getElem?_eq_none (by omega)] at hu
        cases hu
    have hone : ∀ u ∈ (xs.map fun x => Value.int .u64 (x : Nat)), u.oneCell' = true := by
      intro u hu
      obtain ⟨x, _, rfl⟩ := List.mem_map.1 hu
      rfl
    go_wp2_with (at_builtin; refine wpList_append_own _ rfl _ _ 45 rfl w.heap.size 24 i0 (.int .u64 0) 1 8 Try.underlying45 hi hz0 hz1 hz2 rfl (by decide) _ _ _ rfl hown2 ⟨g, 0, none⟩ xs.length cap (xs.map fun x => Value.int .u64 (x : Nat)) rfl (by simp) hnews hone (by unfold maxLen; omega) (by omega) hsz ?_)
    intro v'' w3 hown3 hgrow _
    have hbel3 : Below w.heap.size w w3 := hbel2.grown hgrow (by omega) (fun k hk => (hown2.lt k hk).1)
    go_wp2
    go_ret
    refine ⟨_, List.replicate q 0 ++ xs, rfl, ?_, hbel3, HF.out.1, HF.out.2.1, by rw [HF.out.2.2.1]; exact HF.out.2.2.2⟩
    show World.ownsRow _ _ _ _ _ (List.replicate q 0 ++ xs).length _
    rw [HF.out.2.2.1, List.map_append, List.map_replicate]
    exact hown3

end Go.Proofs.Ytfbdhafbpcpjlaa
