/-
  The program's own numbersIn, textsIn: two Values asked for numbers, for texts.
-/
import Derived.Test.YtlikjbklagolmaaIVal17C
import Derived.Test.YtlikjbklagolmaaVal17O
namespace Go.Proofs.Ytlikjbklagolmaa
open Go.RowKit Go.Sort
set_option linter.unusedVariables false
set_option linter.unusedSimpArgs false

def isNum (p : PVal) : Bool := decide (p.kind = 2)
def numP (p : PVal) : Nat := if p.kind = 2 then p.num else 0
def isTxt (p : PVal) : Bool := decide (p.kind = 3)
def txtP (p : PVal) : ByteArray := if p.kind = 3 then p.text else ByteArray.empty

set_option maxRecDepth 100000 in
theorem assertNum {p : PVal} {T : TypeId} {v : Value} {fv : FuncId} (h : Cont17 p T v fv) (W : World) : (Instr.typeAssert (.iface T v) 33 37 true).run Try.prog W = .ok (.tuple #[.int .u64 (numP p : Int), .bool (isNum p)]) W := by
  obtain ⟨k, x, s, r⟩ := p
  rcases h with ⟨rfl, rfl, rfl, rfl⟩ | ⟨rfl, rfl, rfl, rfl⟩ | ⟨rfl, rfl, rfl, rfl⟩ | ⟨rfl, rfl, rfl, rfl⟩ | ⟨rfl, rfl, rfl, rfl⟩ | ⟨⟨k0, k1, k2, k3, k4⟩, rfl, rfl, rfl⟩
  · kernel_rfl
  · kernel_rfl
  · kernel_rfl
  · kernel_rfl
  · kernel_rfl
  · simp only at k2
    have e1 : isNum ⟨k, x, s, r⟩ = false := by simp [isNum, k2]
    have e2 : numP ⟨k, x, s, r⟩ = 0 := by simp [numP, k2]
    rw [e1, e2]
    clear e1 e2 k0 k1 k2 k3 k4
    have q : (Instr.typeAssert (.iface 45 (.agg #[])) 33 37 true).run Try.prog W = .ok (.tuple #[.int .u64 ((0 : Nat) : Int), .bool false]) W := by kernel_rfl
    exact q

set_option maxRecDepth 100000 in
theorem assertTxt {p : PVal} {T : TypeId} {v : Value} {fv : FuncId} (h : Cont17 p T v fv) (W : World) : (Instr.typeAssert (.iface T v) 33 43 true).run Try.prog W = .ok (.tuple #[.string (txtP p), .bool (isTxt p)]) W := by
  obtain ⟨k, x, s, r⟩ := p
  rcases h with ⟨rfl, rfl, rfl, rfl⟩ | ⟨rfl, rfl, rfl, rfl⟩ | ⟨rfl, rfl, rfl, rfl⟩ | ⟨rfl, rfl, rfl, rfl⟩ | ⟨rfl, rfl, rfl, rfl⟩ | ⟨⟨k0, k1, k2, k3, k4⟩, rfl, rfl, rfl⟩
  · kernel_rfl
  · kernel_rfl
  · kernel_rfl
  · kernel_rfl
  · kernel_rfl
  · simp only at k3
    have e1 : isTxt ⟨k, x, s, r⟩ = false := by simp [isTxt, k3]
    have e2 : txtP ⟨k, x, s, r⟩ = ByteArray.empty := by simp [txtP, k3]
    rw [e1, e2]
    clear e1 e2 k0 k1 k2 k3 k4
    have q : (Instr.typeAssert (.iface 45 (.agg #[])) 33 43 true).run Try.prog W = .ok (.tuple #[.string ByteArray.empty, .bool false]) W := by kernel_rfl
    exact q

set_option maxHeartbeats 1000000 in
set_option maxRecDepth 100000 in
theorem iNumbersIn (a b : PVal) (w : World) :
    Calls Try.prog 13 #[.agg #[.int .i64 a.kind, .int .u64 (a.num : Int), .string a.text, .int .i64 a.ref], .agg #[.int .i64 b.kind, .int .u64 (b.num : Int), .string b.text, .int .i64 b.ref]] w fun e w' => e = .returned (.tuple #[.int .u64 (numP a : Int), .int .u64 (numP b : Int), .bool (isNum a && isNum b)]) ∧ Below w.heap.size w w' := by
  obtain ⟨TA, va, fa, ha⟩ := cont17_some a
  obtain ⟨TB, vb, fb, hb⟩ := cont17_some b
  have cA := fun W => iContentAs ha W
  have cB := fun W => iContentAs hb W
  have tA := fun W => assertNum ha W
  have tB := fun W => assertNum hb W
  obtain ⟨A, hA⟩ : ∃ A, isNum a = A := ⟨_, rfl⟩
  obtain ⟨B, hB⟩ : ∃ B, isNum b = B := ⟨_, rfl⟩
  obtain ⟨NA, hNA⟩ : ∃ A, numP a = A := ⟨_, rfl⟩
  obtain ⟨NB, hNB⟩ : ∃ B, numP b = B := ⟨_, rfl⟩
  simp only [hA, hNA] at tA
  simp only [hB, hNB] at tB
  rw [hA, hB, hNA, hNB]
  clear hA hB hNA hNB ha hb
  obtain ⟨ak, ax, sa, ra⟩ := a
  obtain ⟨bk, bx, sb, rb⟩ := b
  simp only at cA cB ⊢
  obtain ⟨t0, t1, tz, tb⟩ := two_made w (.cells #[.int .i64 ak, .int .u64 (ax : Int), .string sa, .int .i64 ra] 27) (.cells #[.int .i64 bk, .int .u64 (bx : Int), .string sb, .int .i64 rb] 27)
  obtain ⟨W2, hW2⟩ : ∃ W, ((w.alloc (.cells #[.int .i64 ak, .int .u64 (ax : Int), .string sa, .int .i64 ra] 27)).alloc (.cells #[.int .i64 bk, .int .u64 (bx : Int), .string sb, .int .i64 rb] 27)) = W := ⟨_, rfl⟩
  rw [hW2] at t0 t1 tz tb
  have HW : Hid (_ = W2) := hW2
  clear hW2
  obtain ⟨G, hG⟩ : ∃ G, w.heap.size = G := ⟨_, rfl⟩
  rw [hG] at t0 t1 tz
  have KA := fun W (h : Below W2.heap.size W2 W) => four_cells ((h.block G (by omega)).trans t0)
  have KB := fun W (h : Below W2.heap.size W2 W) => four_cells ((h.block (G + 1) (by omega)).trans t1)
  have HTB : Hid (Below w.heap.size w W2) := tb
  clear t0 t1 tz tb
  go_enter Try.func13, Try.ntmps13
  go_upto_region 1 with fail
  rw [HW.out]
  clear HW
  try simp only [hG]
  obtain ⟨a0, a1, a2, a3⟩ := KA W2 (Below.refl _ _)
  go_wp2_with fail
  refine (cA _).mono ?_
  rintro e w1 ⟨rfl, b1⟩
  clear a0 a1 a2 a3
  obtain ⟨d0, d1, d2, d3⟩ := KB w1 b1
  go_wp2_with fail
  refine (cB _).mono ?_
  rintro e w2 ⟨rfl, b2⟩
  clear d0 d1 d2 d3 KA KB
  cases A <;> cases B <;>
  · go_wp2
    go_ret3
    exact ⟨rfl, chain HTB.out (chain b1 b2)⟩

end Go.Proofs.Ytlikjbklagolmaa
