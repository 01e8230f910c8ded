/-
  The tables that the program reads where it shows code: the words of instructions, the powers of ten.
-/
import Derived.Test.YtojmmmfboahkgaaDoorIns20
import Derived.Test.YtojmmmfboahkgaaDoorTab
namespace Go.Proofs.YtojmmmfboahkgaaDoor
open Go.RowKit Go.Sort
set_option linter.unusedVariables false

def wordData {H : Type} (zs : List (List UInt8)) : DataW H := .agg (zs.map fun z => .lit (.string z))

theorem cells_of_words {H : Type} {enc : TypeId × Value → H} {P : Program} {w : World} {base : Nat} {sp : Nat → Bool} {held : Bool} {fuel : Nat} {t e : TypeId} {n : Nat} {cs : List Value} {zs : List (List UInt8)} {p : List MemPlace}
    (ht : P.underlying t = some (.array n e)) (he : P.underlying e = some .string) (hce : P.cellsOf e = 1) (hct : P.cellsOf t = n)
    (h : DataW.trod enc P w base sp held fuel t cs = some (wordData zs, p)) : cs = zs.map fun z => Value.string ⟨z.toArray⟩ := by
  cases fuel with
  | zero => simp [DataW.trod] at h
  | succ fuel =>
    simp only [DataW.trod, ht, hce, hct, Nat.mul_one] at h
    split at h
    · rename_i hl
      obtain ⟨xs, hm, hx⟩ := Option.map_eq_some_iff.1 h
      have hxs : xs.map (·.1) = zs.map fun z => (DataW.lit (.string z) : DataW H) := by
        have := congrArg Prod.fst hx
        simpa [wordData] using this
      have hxl : xs.length = n := by simpa using Lib.mapM_length hm
      have hzl : zs.length = n := by
        have := congrArg List.length hxs
        simp at this
        omega
      apply List.ext_getElem?
      intro i
      by_cases hi : i < n
      · obtain ⟨b, hb, hf⟩ := Lib.mapM_at hm i i (by simp [hi])
        obtain ⟨z, hc, rfl, _⟩ := DataW.trod_string he hf
        have h1 : cs[i]? = some (.string z) := by
          have := congrArg (·[0]?) hc
          simpa [List.getElem?_take, List.getElem?_drop] using this
        have h2 : (xs.map (·.1))[i]? = some (DataW.lit (.string z.data.toList) : DataW H) := by simp [hb]
        rw [hxs] at h2
        simp only [List.getElem?_map, Option.map_eq_some_iff, DataW.lit.injEq, Lit.string.injEq] at h2
        obtain ⟨z', hz', e1⟩ := h2
        rw [h1, List.getElem?_map, hz', e1]
        rfl
      · rw [List.getElem?_eq_none (by omega), List.getElem?_eq_none (by simp; omega)]
    · cases h

theorem words_at {P : Program} {W : World} {name : String} {zs : List (List UInt8)} {g : Nat} {t e : TypeId} {n : Nat}
    (hg : P.globalNamed name = some g) (hty : (P.globals[g]?).map (·.type) = some t) (ht : P.underlying t = some (.array n e)) (he : P.underlying e = some .string) (hce : P.cellsOf e = 1) (hct : P.cellsOf t = n) :
    ∀ {l : List (String × DataW Unit)} {ps : List MemPlace}, DataW.LaidVars P W l ps → (name, wordData zs) ∈ l → W.var? P name = some (zs.map fun z => Value.string ⟨z.toArray⟩).toArray
  | [], _, _, hm => by simp at hm
  | (nm, d) :: r, _, h, hm => by
    obtain ⟨g', t', cs, fuel, p, q, hg', ht', hvar, hd, hrest, _⟩ := h
    rcases List.mem_cons.1 hm with e1 | hm'
    · injection e1 with e2 e3
      subst e2
      subst e3
      obtain rfl := Option.some.inj (hg.symm.trans hg')
      obtain rfl := Option.some.inj (hty.symm.trans ht')
      rw [hvar, ← cells_of_words ht he hce hct hd]
    · exact words_at hg hty ht he hce hct hrest hm'

def insBytes : List (List UInt8) := [[], [99, 111, 110, 115, 116], [103, 101, 116], [112, 117, 116], [110, 101, 119, 99, 101, 108, 108], [103, 101, 116, 99, 101, 108, 108], [112, 117, 116, 99, 101, 108, 108], [103, 101, 116, 99, 97, 112], [112, 117, 116, 99, 97, 112], [98, 105, 110, 97, 114, 121], [110, 111, 116], [109, 105, 110, 117, 115], [106, 117, 109, 112], [105, 102, 110, 111, 116], [105, 102], [102, 117, 110], [99, 97, 108, 108], [114, 101, 116, 117, 114, 110], [116, 104, 114, 111, 119], [112, 114, 105, 110, 116]]
theorem insBytes_is : (insBytes.map fun z => Value.string ⟨z.toArray⟩).toArray = wordsC20 := rfl

/-- the words lie in the table of the program's -/
def WordsAt (w : World) : Prop := 0 < w.heap.size ∧ ∀ k, k < 20 → w.cell? ⟨0, k, none⟩ = some (.string (insWord k))
theorem WordsAt.below {w w' : World} (h : WordsAt w) (hb : Below w.heap.size w w') : WordsAt w' := ⟨Nat.lt_of_lt_of_le h.1 hb.size, fun k hk => (hb.cell h.1).trans (h.2 k hk)⟩
theorem WordsAt.of_var {w : World} {name : String} (hg : Tryd.prog.globalNamed name = some 0) (h : w.var? Tryd.prog name = some (insBytes.map fun z => Value.string ⟨z.toArray⟩).toArray) : WordsAt w := by
  rw [insBytes_is] at h
  have hc : ∀ k, k < 20 → w.cell? ⟨0, k, none⟩ = some (.string (insWord k)) := fun k hk => by
    rw [World.var?_cell hg h k]
    have h' : insWords[k]? = some (insWord k) := by
      unfold insWord
      rw [List.getD_eq_getElem?_getD, List.getElem?_eq_getElem (show k < insWords.length from hk)]
      rfl
    unfold wordsC20
    rw [List.getElem?_toArray, List.getElem?_map, h']
    rfl
  exact ⟨World.block_lt_of_cell? w _ (hc 0 (by decide)), hc⟩

/-- both tables -/
structure Tabs20 (w : World) : Prop where
  lt : 1 < w.heap.size
  tab : Lib.TabIs Tryd.prog w "internal/strconv.uint64pow10" .u64 Lib.pow10Tab
  words : WordsAt w
theorem Tabs20.below {w w' : World} (h : Tabs20 w) (hb : Below w.heap.size w w') : Tabs20 w' := ⟨Nat.lt_of_lt_of_le h.lt hb.size, tabIs_later (g := 1) hb (by kernel_rfl) h.lt h.tab, h.words.below hb⟩

end Go.Proofs.YtojmmmfboahkgaaDoor
