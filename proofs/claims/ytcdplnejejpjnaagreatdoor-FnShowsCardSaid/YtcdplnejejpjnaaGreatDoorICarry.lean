/-
  The walks of the program's carrying, of the function that it gives, and of the limb at a place.
-/
import Derived.Test.YtcdplnejejpjnaaGreatDoorGreatC
import Derived.Test.YtcdplnejejpjnaaGreatDoorBaseA
import Derived.Deep.RegionWith
namespace Go.Proofs.YtcdplnejejpjnaaGreatDoor
open Go.RowKit
set_option linter.unusedVariables false

theorem set_set (w : World) (blk off : Nat) (v v' : Value) : (w.setCell ⟨blk, off, none⟩ v).setCell ⟨blk, off, none⟩ v' = w.setCell ⟨blk, off, none⟩ v' := by
  unfold World.setCell
  simp only [World.mk.injEq, and_true]
  apply Array.ext_getElem?
  intro i
  rw [Array.getElem?_modify, Array.getElem?_modify, Array.getElem?_modify]
  by_cases e : blk = i
  · subst e
    rw [if_pos rfl, if_pos rfl, if_pos rfl, Option.map_map]
    congr 1
    funext o
    cases o <;> simp
  · rw [if_neg e, if_neg e, if_neg e]

theorem tdiv_carry {S : Int} (h1 : -4000000000000000000 ≤ S) (h2 : S ≤ 4000000000000000000) :
    (S < S.tdiv 1000000000 * 1000000000 → S.tdiv 1000000000 - 1 = S / 1000000000) ∧ (¬S < S.tdiv 1000000000 * 1000000000 → S.tdiv 1000000000 = S / 1000000000) := by
  rcases Int.lt_or_le S 0 with h | h
  · obtain ⟨n, rfl⟩ : ∃ n : Nat, S = -(n : Int) := ⟨S.natAbs, by omega⟩
    have e : (-(n : Int)).tdiv 1000000000 = -((n / 1000000000 : Nat) : Int) := by
      rw [Int.neg_tdiv]; rfl
    rw [e]
    omega
  · obtain ⟨n, rfl⟩ : ∃ n : Nat, S = (n : Int) := ⟨S.toNat, by omega⟩
    have e : (n : Int).tdiv 1000000000 = ((n / 1000000000 : Nat) : Int) := rfl
    rw [e]
    omega

set_option maxHeartbeats 1000000 in
set_option maxRecDepth 100000 in
theorem carryingWalk (w : World) :
    Calls Tryz.prog 151 #[] w fun e w' => e = .returned (.func (.func 158) #[] #[.pointer (some ⟨w.heap.size, 0, none⟩)]) ∧ w' = w.alloc (.cells #[.int .i64 0] 3) := by
  have hmf : ∀ (fn : Fn) (first cap : Array Value) (w : World), (Instr.makeFunc fn first cap).run Tryz.prog w = .ok (.func fn first cap) w := fun _ _ _ _ => rfl
  go_enter Tryz.func151, Tryz.ntmps151
  go_wp2
  go_ret
  exact ⟨rfl, rfl⟩

set_option maxHeartbeats 1000000 in
set_option maxRecDepth 100000 in
theorem carryWalk (s q : Int) (h : Nat) (w : World) (hq : w.heap[h]? = some (.cells #[.int .i64 q] 3 (0, 0))) (h1 : -3000000000000000000 ≤ s) (h2 : s ≤ 3000000000000000000) (h3 : -1 ≤ q) (h4 : q < 1000000000) :
    Calls Tryz.prog 158 #[.int .i64 s, .pointer (some ⟨h, 0, none⟩)] w fun e w' => e = .returned (.int .i64 ((s + q) % 1000000000)) ∧ w' = w.setCell ⟨h, 0, none⟩ (.int .i64 ((s + q) / 1000000000)) := by
  obtain ⟨S, hS⟩ : ∃ S, s + q = S := ⟨_, rfl⟩
  obtain ⟨t1, t2⟩ := tdiv_carry (S := S) (by omega) (by omega)
  have hc : w.cell? ⟨h, 0, none⟩ = some (.int .i64 q) := by rw [cell_of_row w h 0 _ _ _ hq]; rfl
  have hf : w.frozen? ⟨h, 0, none⟩ = false := frozen_of_row w h 0 _ _ hq
  rw [hS]
  obtain ⟨T, hT⟩ : ∃ T, S.tdiv 1000000000 = T := ⟨_, rfl⟩
  rw [hT] at t1 t2
  have hT1 : -5000000000 ≤ T := by
    rcases Int.lt_or_le S (T * 1000000000) with h' | h'
    · have := t1 h'; omega
    · have := t2 (by omega); omega
  have hT2 : T ≤ 5000000000 := by
    rcases Int.lt_or_le S (T * 1000000000) with h' | h'
    · have := t1 h'; omega
    · have := t2 (by omega); omega
  have hc2 : (w.setCell ⟨h, 0, none⟩ (.int .i64 T)).cell? ⟨h, 0, none⟩ = some (.int .i64 T) := World.cell?_setCell_same _ _ _ hc
  have hf2 : (w.setCell ⟨h, 0, none⟩ (.int .i64 T)).frozen? ⟨h, 0, none⟩ = false := by rw [World.frozen?_setCell]; exact hf
  rcases Int.lt_or_le S (T * 1000000000) with h' | h'
  · have e1 := t1 h'
    have hc3 : ((w.setCell ⟨h, 0, none⟩ (.int .i64 T)).setCell ⟨h, 0, none⟩ (.int .i64 (T - 1))).cell? ⟨h, 0, none⟩ = some (.int .i64 (T - 1)) := World.cell?_setCell_same _ _ _ hc2
    go_enter Tryz.func158, Tryz.ntmps158
    go_wp2
    go_ret
    refine ⟨?_, ?_⟩
    · exact ret_int (by omega)
    · rw [set_set]
  · have e1 := t2 (by omega)
    go_enter Tryz.func158, Tryz.ntmps158
    go_wp2
    go_ret
    refine ⟨?_, ?_⟩
    · exact ret_int (by omega)
    · rfl

set_option maxHeartbeats 400000 in
set_option maxRecDepth 100000 in
theorem atWalk (v : Value) (xs : List Nat) (i B : Nat) (w : World) (h : Row w B v xs) :
    Calls Tryz.prog 152 #[v, .int .i64 i] w fun e w' => e = .returned (.int .i64 (xs.getD i 0 : Nat)) ∧ w = w' := by
  rcases h.cells with ⟨rfl, rfl⟩ | ⟨g, cap, rfl, h1, h2, hc⟩
  · clear h
    go_enter Tryz.func152, Tryz.ntmps152
    go_wp2
    go_ret
    exact ⟨rfl, rfl⟩
  · by_cases hi : i < xs.length
    · have hci := hc i hi
      have hi' : (i : Int) < xs.length := by omega
      obtain ⟨y, hy⟩ : ∃ y, xs.getD i 0 = y := ⟨_, rfl⟩
      rw [hy] at hci ⊢
      have hle : decide (xs.length ≤ i) = false := by simp; omega
      clear h hc hy
      go_enter Tryz.func152, Tryz.ntmps152
      go_wp2
      go_ret
      exact ⟨rfl, rfl⟩
    · have hz : xs.getD i 0 = 0 := by rw [List.getD_eq_getElem?_getD, List.getElem?_eq_none (by omega)]; rfl
      have hle : xs.length ≤ i := by omega
      rw [hz]
      clear h hc hz
      go_enter Tryz.func152, Tryz.ntmps152
      go_wp2
      go_ret
      exact ⟨rfl, rfl⟩

end Go.Proofs.YtcdplnejejpjnaaGreatDoor
