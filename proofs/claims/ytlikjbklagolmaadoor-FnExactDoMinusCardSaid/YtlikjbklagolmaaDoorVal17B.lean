/-
  Values of programs: as arguments, counted, copied, held against each other; what is right, true, the same of them (pure).
-/
import Derived.Test.YtlikjbklagolmaaDoorImg13A
import Derived.Test.YtlikjbklagolmaaDoorImg13D
import Derived.Test.YtlikjbklagolmaaDoorImg13S
import Derived.Handy
namespace Go.Proofs.YtlikjbklagolmaaDoor
open Go.RowKit Go.ChangeShapes Go.WideShapes
set_option linter.unusedVariables false

structure PVal where
  kind : Int
  num : Nat
  text : ByteArray
  ref : Int

def valC (p : PVal) : List Value := [.int .i64 p.kind, .int .u64 (p.num : Int), .string p.text, .int .i64 p.ref]

def valW (p : PVal) : Prop := I64 p.kind ∧ N64 p.num ∧ p.text.size ≤ maxLen ∧ I64 p.ref

theorem Tryd.cellsValue17 : Tryd.prog.cellsOf 24 = 4 := by kernel_rfl

set_option maxRecDepth 100000 in
theorem open_val {H : Type} {enc : TypeId × Value → H} {w : World} {fuel : Nat} {cs : List Value} {x : DataW H × List MemPlace} (h : DataW.trod enc Tryd.prog w 0 (fun _ => true) true fuel 24 cs = some x) : ∃ p : PVal, cs = valC p ∧ valW p := by
  obtain ⟨xs, n, _, rfl, hl, hlen, hf⟩ := DataW.trod_struct Tryd.underlying24 h
  rw [Tryd.cellsValue17] at hl
  match cs, hl with
  | [v0, v1, v2, v3], _ =>
    obtain ⟨y0, g0⟩ := some_in (by rw [hlen]; decide) (hf 0 _ rfl)
    obtain ⟨y1, g1⟩ := some_in (by rw [hlen]; decide) (hf 1 _ rfl)
    obtain ⟨y2, g2⟩ := some_in (by rw [hlen]; decide) (hf 2 _ rfl)
    obtain ⟨y3, g3⟩ := some_in (by rw [hlen]; decide) (hf 3 _ rfl)
    replace g0 : DataW.trod enc Tryd.prog w 0 (fun _ => true) true n 3 (([v0, v1, v2, v3].drop 0).take (Tryd.prog.cellsOf 3)) = some y0 := g0
    rw [Tryd.cellsInt13] at g0
    replace g1 : DataW.trod enc Tryd.prog w 0 (fun _ => true) true n 22 (([v0, v1, v2, v3].drop 1).take (Tryd.prog.cellsOf 22)) = some y1 := g1
    rw [Tryd.cellsWord13] at g1
    replace g2 : DataW.trod enc Tryd.prog w 0 (fun _ => true) true n 9 (([v0, v1, v2, v3].drop 2).take (Tryd.prog.cellsOf 9)) = some y2 := g2
    rw [Tryd.cellsStr13] at g2
    replace g3 : DataW.trod enc Tryd.prog w 0 (fun _ => true) true n 3 (([v0, v1, v2, v3].drop 3).take (Tryd.prog.cellsOf 3)) = some y3 := g3
    rw [Tryd.cellsInt13] at g3
    obtain ⟨n0, e0, _, w0⟩ := DataW.trod_int Tryd.underlying3 g0
    obtain ⟨n1, e1, _, w1⟩ := DataW.trod_int Tryd.underlying22 g1
    obtain ⟨n2, e2, _, w2⟩ := DataW.trod_string Tryd.underlying9 g2
    obtain ⟨n3, e3, _, w3⟩ := DataW.trod_int Tryd.underlying3 g3
    simp only [List.drop_zero, List.drop_succ_cons, List.take_succ_cons, List.take_zero, List.cons.injEq, and_true] at e0 e1 e2 e3
    subst e0 e1 e2 e3
    have b1 := Go.bounds_u64 w1
    refine ⟨⟨n0, n1.toNat, n2, n3⟩, ?_, i64_of w0, by show n1.toNat < 2 ^ 64; omega, w2, i64_of w3⟩
    unfold valC
    simp only
    rw [Int.toNat_of_nonneg b1.1]

set_option maxHeartbeats 400000 in
set_option maxRecDepth 100000 in
theorem szValue_any (p : PVal) (left : Int) (w : World) (hp : p.text.size ≤ maxLen) (h0 : 0 ≤ left) (h1 : left ≤ 1048576) :
    Calls Tryd.prog 4 #[.agg #[.int .i64 p.kind, .int .u64 (p.num : Int), .string p.text, .int .i64 p.ref], .int .i64 left] w fun e w' => ∃ r : Int, e = .returned (.int .i64 r) ∧ LeftFew r left p.text.size ∧ Below w.heap.size w w' := by
  obtain ⟨s, hs⟩ : ∃ s, p.text = s := ⟨_, rfl⟩
  rw [hs] at hp ⊢
  clear hs
  unfold maxLen at hp
  by_cases h : left < s.size
  · have hlt : left - (s.size : Int) < 0 := by omega
    go_enter Tryd.func4, Tryd.ntmps4
    go_wp2
    go_ret
    exact ⟨_, rfl, .inl rfl, (Below.refl _ _).alloc (Nat.le_refl _) _⟩
  · have hlt : ¬ left - (s.size : Int) < 0 := by omega
    go_enter Tryd.func4, Tryd.ntmps4
    go_wp2
    go_ret
    exact ⟨_, rfl, .inr ⟨by omega, by omega, by omega⟩, (Below.refl _ _).alloc (Nat.le_refl _) _⟩

set_option maxHeartbeats 400000 in
set_option maxRecDepth 100000 in
theorem toValue_any (p : PVal) (w : World) :
    Calls Tryd.prog 6 #[.agg #[.int .i64 p.kind, .int .u64 (p.num : Int), .string p.text, .int .i64 p.ref]] w fun e w' => e = .returned (.agg #[.int .i64 p.kind, .int .u64 (p.num : Int), .string p.text, .int .i64 p.ref]) ∧ Below w.heap.size w w' := by
  go_enter Tryd.func6, Tryd.ntmps6
  go_wp2
  go_returns
  exact ⟨rfl, by go_grown⟩

set_option maxHeartbeats 400000 in
set_option maxRecDepth 100000 in
theorem eqValue_same (p : PVal) (w : World) :
    Calls Tryd.prog 8 #[.agg #[.int .i64 p.kind, .int .u64 (p.num : Int), .string p.text, .int .i64 p.ref], .agg #[.int .i64 p.kind, .int .u64 (p.num : Int), .string p.text, .int .i64 p.ref]] w fun e w' => e = .returned (.bool true) ∧ Below w.heap.size w w' := by
  go_enter Tryd.func8, Tryd.ntmps8
  go_wp2
  go_ret
  exact ⟨rfl, by go_grown⟩

/-- a right value -/
def valOk (p : PVal) : Bool :=
  if p.kind = 0 then decide (p.num = 0) && (decide (p.text.size = 0) && decide (p.ref = 0))
  else if p.kind = 1 then decide (p.num ≤ 1) && (decide (p.text.size = 0) && decide (p.ref = 0))
  else if p.kind = 2 then decide (p.text.size = 0) && decide (p.ref = 0)
  else if p.kind = 3 then decide (p.num = 0) && (decide (p.ref = 0) && decide (p.text.size ≤ 200))
  else if p.kind = 4 then decide (p.num = 0) && (decide (p.text.size = 0) && decide (0 ≤ p.ref))
  else false

/-- what counts as true -/
def valTrue (p : PVal) : Bool :=
  if p.kind = 0 then false
  else if p.kind = 1 then decide (p.num = 1)
  else if p.kind = 2 then truthyN p.num
  else if p.kind = 3 then !decide (p.text.size = 0)
  else true

/-- the same value -/
def valSame (a b : PVal) : Bool :=
  decide (a.kind = b.kind) && (if a.kind = 2 then equalN a.num b.num else decide (a.num = b.num) && (decide (a.text = b.text) && decide (a.ref = b.ref)))

end Go.Proofs.YtlikjbklagolmaaDoor
