/-
  A table of texts that a row lists, cell by cell; the program's marks.
-/
import Derived.Test.YtcabanghegddhaaGreatDoorITokY
import Derived.Lib.LaidTab
import Derived.LaidMore
import Derived.LaidLaws
namespace Go.Proofs.YtcabanghegddhaaGreatDoor
open Go.RowKit

theorem strs_of_tab {H : Type} {enc : TypeId × Value → H} {P : Program} {w : World} {base : Nat} {sp : Nat → Bool} {held : Bool} {fuel : Nat} {t e : TypeId} {n : Nat} {cs : List Value} {zs : List (List UInt8)} {p : List MemPlace}
    (ht : P.underlying t = some (.array n e)) (he : P.underlying e = some .string) (hce : P.cellsOf e = 1) (hct : P.cellsOf t = n)
    (h : DataW.trod enc P w base sp held fuel t cs = some (.agg (zs.map fun z => .lit (.string z)), p)) : cs = zs.map fun z => Value.string (txt z) := by
  cases fuel with
  | zero => simp [DataW.trod] at h
  | succ fuel =>
    simp only [DataW.trod, ht, hce, hct, Nat.mul_one] at h
    split at h
    · rename_i hl
      obtain ⟨xs, hm, hx⟩ := Option.map_eq_some_iff.1 h
      have hxs : xs.map (·.1) = zs.map fun z => (DataW.lit (.string z) : DataW H) := by
        have := congrArg Prod.fst hx
        simpa using this
      have hxl : xs.length = n := by simpa using Lib.mapM_length hm
      have hzl : zs.length = n := by
        have := congrArg List.length hxs
        simp at this
        omega
      apply List.ext_getElem?
      intro i
      by_cases hi : i < n
      · obtain ⟨b, hb, hf⟩ := Lib.mapM_at hm i i (by simp [hi])
        obtain ⟨z, hc, rfl, _⟩ := DataW.trod_string he hf
        have h1 : cs[i]? = some (.string z) := by
          have := congrArg (·[0]?) hc
          simpa [List.getElem?_take, List.getElem?_drop] using this
        have h2 : (xs.map (·.1))[i]? = some (DataW.lit (.string z.data.toList) : DataW H) := by simp [hb]
        rw [hxs] at h2
        simp only [List.getElem?_map, Option.map_eq_some_iff, DataW.lit.injEq, Lit.string.injEq] at h2
        obtain ⟨z', hz', rfl⟩ := h2
        simp [h1, hz', txt_self]
      · rw [List.getElem?_eq_none (by omega), List.getElem?_eq_none (by simp; omega)]
    · cases h
theorem strs_at {P : Program} {W : World} {name : String} {zs : List (List UInt8)} {g : Nat} {t e : TypeId} {n : Nat}
    (hg : P.globalNamed name = some g) (hty : (P.globals[g]?).map (·.type) = some t) (ht : P.underlying t = some (.array n e)) (he : P.underlying e = some .string) (hce : P.cellsOf e = 1) (hct : P.cellsOf t = n) :
    ∀ {l : List (String × DataW Unit)} {ps : List MemPlace}, DataW.LaidVars P W l ps → (name, .agg (zs.map fun z => .lit (.string z))) ∈ l → ∃ cs : Array Value, W.var? P name = some cs ∧ cs.toList = zs.map fun z => Value.string (txt z)
  | [], _, _, hm => by simp at hm
  | (nm, d) :: r, _, h, hm => by
    obtain ⟨g', t', cs, fuel, p, q, hg', ht', hvar, hd, hrest, _⟩ := h
    rcases List.mem_cons.1 hm with e1 | hm'
    · injection e1 with e2 e3
      subst e2
      subst e3
      obtain rfl := Option.some.inj (hg.symm.trans hg')
      obtain rfl := Option.some.inj (hty.symm.trans ht')
      exact ⟨cs, hvar, strs_of_tab ht he hce hct hd⟩
    · exact strs_at hg hty ht he hce hct hrest hm'
theorem marks_of {W : World} {l : List (String × DataW Unit)} {ps : List MemPlace} (h : DataW.LaidVars Tryz.prog W l ps) (hm : ("loop.example/g00115/impl.marks", .agg (marksL.map fun z => .lit (.string z))) ∈ l) : MarksOk W := by
  obtain ⟨cs, hv, hcs⟩ := strs_at (g := 0) (by kernel_rfl) (by kernel_rfl) Tryz.underlying71 Tryz.underlying9 (by kernel_rfl) (by kernel_rfl) h hm
  have hmv : marksV.toList = marksL.map fun z => Value.string (txt z) := rfl
  intro j v hj
  have hc := World.var?_cell (g := 0) (by kernel_rfl) hv j
  rw [hc, ← Array.getElem?_toList, hcs, ← hmv]
  exact hj

end Go.Proofs.YtcabanghegddhaaGreatDoor
