/-
  The program's own numbersIn, textsIn: two Values asked for numbers, for texts.
-/
import Derived.Test.YtlikjbklagolmaaDoorIVal17C
import Derived.Test.YtlikjbklagolmaaDoorVal17O
namespace Go.Proofs.YtlikjbklagolmaaDoor
open Go.RowKit Go.Sort
set_option linter.unusedVariables false
set_option linter.unusedSimpArgs false

def isNum (p : PVal) : Bool := decide (p.kind = 2)
def numP (p : PVal) : Nat := if p.kind = 2 then p.num else 0
def isTxt (p : PVal) : Bool := decide (p.kind = 3)
def txtP (p : PVal) : ByteArray := if p.kind = 3 then p.text else ByteArray.empty

set_option maxRecDepth 100000 in
theorem assertNum {p : PVal} {T : TypeId} {v : Value} {fv : FuncId} (h : Cont17 p T v fv) (W : World) : (Instr.typeAssert (.iface T v) 36 48 true).run Tryd.prog W = .ok (.tuple #[.int .u64 (numP p : Int), .bool (isNum p)]) W := by
  obtain ⟨k, x, s, r⟩ := p
  rcases h with ⟨rfl, rfl, rfl, rfl⟩ | ⟨rfl, rfl, rfl, rfl⟩ | ⟨rfl, rfl, rfl, rfl⟩ | ⟨rfl, rfl, rfl, rfl⟩ | ⟨rfl, rfl, rfl, rfl⟩ | ⟨⟨k0, k1, k2, k3, k4⟩, rfl, rfl, rfl⟩
  · kernel_rfl
  · kernel_rfl
  · kernel_rfl
  · kernel_rfl
  · kernel_rfl
  · simp only at k2
    have e1 : isNum ⟨k, x, s, r⟩ = false := by simp [isNum, k2]
    have e2 : numP ⟨k, x, s, r⟩ = 0 := by simp [numP, k2]
    rw [e1, e2]
    clear e1 e2 k0 k1 k2 k3 k4
    have q : (Instr.typeAssert (.iface 72 (.agg #[])) 36 48 true).run Tryd.prog W = .ok (.tuple #[.int .u64 ((0 : Nat) : Int), .bool false]) W := by kernel_rfl
    exact q

set_option maxRecDepth 100000 in
theorem assertTxt {p : PVal} {T : TypeId} {v : Value} {fv : FuncId} (h : Cont17 p T v fv) (W : World) : (Instr.typeAssert (.iface T v) 36 70 true).run Tryd.prog W = .ok (.tuple #[.string (txtP p), .bool (isTxt p)]) W := by
  obtain ⟨k, x, s, r⟩ := p
  rcases h with ⟨rfl, rfl, rfl, rfl⟩ | ⟨rfl, rfl, rfl, rfl⟩ | ⟨rfl, rfl, rfl, rfl⟩ | ⟨rfl, rfl, rfl, rfl⟩ | ⟨rfl, rfl, rfl, rfl⟩ | ⟨⟨k0, k1, k2, k3, k4⟩, rfl, rfl, rfl⟩
  · kernel_rfl
  · kernel_rfl
  · kernel_rfl
  · kernel_rfl
  · kernel_rfl
  · simp only at k3
    have e1 : isTxt ⟨k, x, s, r⟩ = false := by simp [isTxt, k3]
    have e2 : txtP ⟨k, x, s, r⟩ = ByteArray.empty := by simp [txtP, k3]
    rw [e1, e2]
    clear e1 e2 k0 k1 k2 k3 k4
    have q : (Instr.typeAssert (.iface 72 (.agg #[])) 36 70 true).run Tryd.prog W = .ok (.tuple #[.string ByteArray.empty, .bool false]) W := by kernel_rfl
    exact q

end Go.Proofs.YtlikjbklagolmaaDoor
