/-
  What DoMinus and DoBinary answer (pure), and that the specification's answer so.
-/
import Derived.Test.YtlikjbklagolmaaDoorVal17O
namespace Go.Proofs.YtlikjbklagolmaaDoor
open Go.RowKit Go.Sort
set_option linter.unusedVariables false

theorem more_alloc {w w1 : World} (h : RowKit.Below w.heap.size w w1) (o : Obj) : RowKit.Below w.heap.size w (w1.alloc o) := h.alloc h.size o

def typeS : ByteArray := ⟨#[116, 121, 112, 101]⟩
def longS : ByteArray := ⟨#[108, 111, 110, 103]⟩
def minusV (p : PVal) : PVal × ByteArray := if p.kind = 2 then (numV (negN p.num), ⟨#[]⟩) else (noneV, typeS)

theorem specDoMinus_v (p : PVal) (w : World) (hp : valW p) :
    Calls Tryd.prog 5 #[.agg #[.int .i64 p.kind, .int .u64 (p.num : Int), .string p.text, .int .i64 p.ref]] w fun e w' => e = .returned (.tuple #[.agg #[.int .i64 (minusV p).1.kind, .int .u64 ((minusV p).1.num : Int), .string (minusV p).1.text, .int .i64 (minusV p).1.ref], .string (minusV p).2]) ∧ Below w.heap.size w w' := by
  refine (specDoMinus_any p w hp).mono ?_
  rintro e w' ⟨rfl, hb⟩
  refine ⟨?_, hb⟩
  unfold minusV
  by_cases h : p.kind = 2
  · rw [if_pos h, if_pos h]; rfl
  · rw [if_neg h, if_neg h]; rfl

end Go.Proofs.YtlikjbklagolmaaDoor
