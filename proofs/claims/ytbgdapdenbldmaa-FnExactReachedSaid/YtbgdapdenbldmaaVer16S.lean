/-
  The specification's StepState.
-/
import Derived.Test.YtbgdapdenbldmaaVer16A
import Derived.Deep.RegionHeld3
namespace Go.Proofs.Ytbgdapdenbldmaa
open Go.RowKit Go.Sort
set_option linter.unusedVariables false

/-- is there such an instruction, and may it be done? -/
def stepB (p : PImg) (k a : Int) (s : PSta) : Bool :=
  imgOk p && (inB k 0 ((p.funcs.length : Int) - 1) && (match p.funcs[k.toNat]? with
    | none => false
    | some f => inB a 0 ((f.code.length : Int) - 1) && (decide ((s.regs.length : Int) = f.regs) && (match f.code[a.toNat]? with
      | none => false
      | some i => mayB p f i s))))
/-- the state behind it -/
def stepS (p : PImg) (k a : Int) (s : PSta) : PSta :=
  if stepB p k a s then (match p.funcs[k.toNat]? with
    | none => ⟨0, []⟩
    | some f => match f.code[a.toNat]? with
      | none => ⟨0, []⟩
      | some i => aftS i s) else ⟨0, []⟩

theorem stepS_no {p : PImg} {k a : Int} {s : PSta} (h : stepB p k a s = false) : stepS p k a s = ⟨0, []⟩ := by
  unfold stepS
  rw [h]
  rfl
theorem stepS_yes {p : PImg} {k a : Nat} {s : PSta} {f : PFun} {i : PIns} (h : stepB p k a s = true) (hf : p.funcs[k]? = some f) (hi : f.code[a]? = some i) : stepS p k a s = aftS i s := by
  unfold stepS
  rw [h, if_pos rfl, Int.toNat_natCast, hf]
  simp only
  rw [Int.toNat_natCast, hi]

/-- an instruction of a right image, as it is looked at -/
theorem img_ins {p : PImg} (h : imgOk p = true) {k a : Nat} {f : PFun} {i : PIns} (hf : p.funcs[k]? = some f) (hi : f.code[a]? = some i) : insOk i = true ∧ funOk f = true := by
  unfold imgOk at h
  simp only [Bool.and_eq_true] at h
  have h1 := h.2.2.2.1
  rw [List.all_eq_true] at h1
  have h2 := h1 f (List.mem_iff_getElem?.2 ⟨k, hf⟩)
  have h3 := h2
  unfold funOk at h3
  simp only [Bool.and_eq_true] at h3
  have h4 := h3.2.2.2.2.2.2.1
  rw [List.all_eq_true] at h4
  exact ⟨h4 i (List.mem_iff_getElem?.2 ⟨a, hi⟩), h2⟩

/-- what stands while a step is taken -/
structure StpAt (w0 : World) (G : Nat) (cm cs : Array Value) (wr : World) : Prop where
  b0 : wr.heap[G]? = some (.cells cm 31 (0, 0))
  b1 : wr.heap[G + 1]? = some (.cells cs 98 (0, 0))
  b2 : wr.heap[G + 1 + 1]? = some (.cells #[.int .i64 0, .slice none 0 0] 98 (0, 0))
  bel : Below w0.heap.size w0 wr
  lo : w0.heap.size ≤ G

theorem StpAt.below {w0 w w' : World} {G : Nat} {cm cs : Array Value} (h : StpAt w0 G cm cs w) (hb : Below w.heap.size w w') : StpAt w0 G cm cs w' :=
  ⟨(hb.block _ (lt16 h.b0)).trans h.b0, (hb.block _ (lt16 h.b1)).trans h.b1, (hb.block _ (lt16 h.b2)).trans h.b2, chain h.bel hb, h.lo⟩

end Go.Proofs.Ytbgdapdenbldmaa
