/-
  Lists of names with one more.
-/
import Derived.Test.YtcabanghegddhaaGreatDoorGen5
import Derived.Laws.AppendOwnNone
namespace Go.Proofs.YtcabanghegddhaaGreatDoor
open Go.RowKit
set_option linter.unusedVariables false

theorem str_bytes {w : World} {b : Nat} : ∀ {n : Nat}, StrRow w b n 30 → ∃ ls : List ByteArray, ls.length = n ∧ (∀ s ∈ ls, s.size ≤ 30) ∧ ∀ j u, (ls.map Value.string)[j]? = some u → w.cell? ((⟨b, 0, none⟩ : Addr).add j) = some u
  | 0, _ => ⟨[], rfl, by simp, fun j u h => by simp at h⟩
  | n + 1, hr => by
    obtain ⟨ls, hl, hz, hc⟩ := str_bytes (n := n) (fun j hj => hr j (by omega))
    obtain ⟨s, hs, hs2⟩ := hr n (by omega)
    refine ⟨ls ++ [s], by simp [hl], fun x hx => ?_, fun j u hj => ?_⟩
    · rcases List.mem_append.1 hx with h | h
      · exact hz x h
      · rw [List.mem_singleton] at h; rw [h]; exact hs2
    · rw [List.map_append] at hj
      by_cases h : j < n
      · rw [List.getElem?_append_left (by simp [hl]; exact h)] at hj
        exact hc j u hj
      · rw [List.getElem?_append_right (by simp [hl]; omega)] at hj
        have hj0 : j = n := by
          rcases Nat.lt_or_ge n j with h2 | h2
          · rw [List.getElem?_eq_none (by simp [hl]; omega)] at hj; cases hj
          · omega
        subst hj0
        simp [hl] at hj
        have hp : (⟨b, 0, none⟩ : Addr).add j = ⟨b, j, none⟩ := by unfold Addr.add; split <;> simp_all
        rw [hp, hs, hj]
theorem names_own {w : World} {B g c N : Nat} {v : Value} {ls : List ByteArray} (h : w.ownsRow B 9 1 v (N + 1) (ls.map Value.string)) (hs : ∀ s ∈ ls, s.size ≤ 30) (hg : g < B) (hc : c < B) : Names v g c (N + 1) w := by
  have hl : ls.length = N + 1 := by have := h.1; simpa using this
  have hlt := h.lt
  rcases h.2 with ⟨_, h0⟩ | ⟨gg, cap, cur, rfl, hb, _⟩
  · omega
  · refine .inr ⟨gg, cap, rfl, by omega, by omega, by omega, (hlt gg rfl).2, fun j hj => ?_⟩
    have hc := h.cells (g := gg) rfl j (.string ls[j]) (by rw [List.getElem?_map, List.getElem?_eq_getElem]; rfl)
    have hp : (⟨gg, 0, none⟩ : Addr).add j = ⟨gg, j, none⟩ := by unfold Addr.add; split <;> simp_all
    rw [hp] at hc
    exact ⟨_, hc, hs _ (List.getElem_mem _)⟩
theorem heap_alloc_size (w : World) (o : Obj) : (w.alloc o).heap.size = w.heap.size + 1 := by simp
theorem cell_two_up (w : World) (o : Obj) (v : Value) (t : TypeId) : ∀ j u, [v][j]? = some u → ((w.alloc o).alloc (.cells #[v] t)).cell? ((⟨w.heap.size + 1, 0, none⟩ : Addr).add j) = some u := by
  have h := cell_one_new (w.alloc o) v t
  rw [heap_alloc_size] at h
  exact h
theorem own_long {w : World} {B : Nat} {e : TypeId} {size : Nat} {v : Value} {n : Nat} {xs : List Value} (h : w.ownsRow B e size v n xs) : ∃ x c, v = .slice x n c := by
  obtain ⟨_, ⟨rfl, rfl⟩ | ⟨g, cap, cur, rfl, _⟩⟩ := h
  · exact ⟨none, 0, rfl⟩
  · exact ⟨_, _, rfl⟩
theorem strInfo : (Tryz.prog.info? 9).map (fun i => (i.zero, i.size, i.bytes)) = some (some (.string ⟨#[]⟩), 1, 16) := by kernel_rfl
theorem own_empty (w : World) : (w.alloc (.cells #[] 9)).ownsRow w.heap.size 9 1 (.slice (some ⟨w.heap.size, 0, none⟩) 0 0) 0 [] :=
  ⟨rfl, .inr ⟨w.heap.size, 0, #[], rfl, Nat.le_refl _, heap_alloc_new w _, Nat.le_refl _, Nat.zero_le _, rfl, rfl⟩⟩

end Go.Proofs.YtcabanghegddhaaGreatDoor
