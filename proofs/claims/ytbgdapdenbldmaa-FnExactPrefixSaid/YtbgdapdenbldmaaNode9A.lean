/-
  An argument that is a list of nodes, opened: each node's fields, its numbers and its names.
-/
import Derived.Test.YtbgdapdenbldmaaRows
import Derived.Test.YtbgdapdenbldmaaNode9B
namespace Go.Proofs.Ytbgdapdenbldmaa
open Go.RowKit Go.ChangeShapes Go.WideShapes
set_option linter.unusedVariables false

theorem Try.cellsInt9 : Try.prog.cellsOf 3 = 1 := by kernel_rfl

theorem Try.cellsStr9 : Try.prog.cellsOf 9 = 1 := by kernel_rfl

theorem Try.cellsWord9 : Try.prog.cellsOf 90 = 1 := by kernel_rfl

theorem Try.cellsInts9 : Try.prog.cellsOf 35 = 1 := by kernel_rfl

theorem Try.cellsStrs9 : Try.prog.cellsOf 39 = 1 := by kernel_rfl

variable {H : Type} {enc : TypeId × Value → H} {w : World}

theorem spot_at {a : Addr} {v : Value} (h : w.cell? (a.add 0) = some v) : ∃ b o, a = ⟨b, o, none⟩ := by
  obtain ⟨b, off, spot⟩ := a
  have hspot : spot = none := by simpa [Addr.add] using World.cell?_spot h
  subst hspot
  exact ⟨b, off, rfl⟩

theorem open_arg_ints {fuel : Nat} {v : Value} {x : DataW H × List MemPlace} (h : DataW.trod enc Try.prog w 0 (fun _ => true) true fuel 35 [v] = some x) : ∃ l, ArgInts w v l := by
  rcases open_ints Try.underlying35 Try.underlying3 Try.cellsInt9 h with ⟨hcs, _⟩ | ⟨a, len, cap, zs, hcs, _, hl, hm, hz, _, hcell, hwz⟩
  · simp at hcs
    subst hcs
    exact ⟨[], none, 0, rfl, by simp, fun h => by simp at h⟩
  · simp at hcs
    subst hcs
    simp only [if_true] at hz
    have hlen : (zs.take len).length = len := by rw [List.length_take]; omega
    refine ⟨zs.take len, some a, cap, by rw [hlen], by rw [hlen]; omega, fun h0 => ?_⟩
    rw [hlen] at h0 ⊢
    obtain ⟨b, o, rfl, hc⟩ := ints_at hcell (by omega)
    refine ⟨b, o, rfl, World.block_lt_of_cell? w _ (hc 0 (by omega)), fun j hj => ?_⟩
    rw [hc j (by omega)]
    simp [List.getD, hj]

theorem open_arg_strs {fuel : Nat} {v : Value} {x : DataW H × List MemPlace} (h : DataW.trod enc Try.prog w 0 (fun _ => true) true fuel 39 [v] = some x) : ∃ l, ArgStrs w v l := by
  rcases open_strings Try.underlying39 Try.underlying9 Try.cellsStr9 h with ⟨hcs, _⟩ | ⟨a, len, cap, zs, hcs, _, hl, hm, hz, _, hcell, hwz⟩
  · simp at hcs
    subst hcs
    exact ⟨[], none, 0, rfl, by simp, by simp, fun h => by simp at h⟩
  · simp at hcs
    subst hcs
    simp only [if_true] at hz
    have hlen : (zs.take len).length = len := by rw [List.length_take]; omega
    refine ⟨zs.take len, some a, cap, by rw [hlen], by rw [hlen]; omega, fun s hs => hwz s (List.mem_of_mem_take hs), fun h0 => ?_⟩
    rw [hlen] at h0 ⊢
    obtain ⟨b, o, rfl⟩ := spot_at (hcell 0 (by omega))
    have hc : ∀ j, j < zs.length → w.cell? ⟨b, o + j, none⟩ = some (.string (zs.getD j ByteArray.empty)) := fun j hj => by rw [← add_plain]; exact hcell j hj
    refine ⟨b, o, rfl, World.block_lt_of_cell? w _ (hc 0 (by omega)), fun j hj => ?_⟩
    rw [hc j (by omega)]
    simp [List.getD, hj]

theorem some_at {α : Type} {l : List α} {i : Nat} (h : i < l.length) {y : Option α} (e : y = l[i]?) : ∃ x, y = some x := ⟨l[i], by rw [e, List.getElem?_eq_getElem h]⟩

end Go.Proofs.Ytbgdapdenbldmaa
