/-
  States of the verifier: as arguments, counted, copied, held against each other; what is joined (pure).
-/
import Derived.Test.YtlplljgcgohonaaIntS16
import Derived.Test.YtlplljgcgohonaaImg13U
namespace Go.Proofs.Ytlplljgcgohonaa
open Go.RowKit Go.ChangeShapes Go.WideShapes
set_option linter.unusedVariables false

structure PSta where
  acc : Int
  regs : List Int

structure staW (p : PSta) : Prop where
  acc : I64 p.acc
  regs : ∀ x ∈ p.regs, I64 x

theorem Try.cellsState16 : Try.prog.cellsOf 44 = 2 := by kernel_rfl

theorem Try.cellsIntS16 : Try.prog.cellsOf 24 = 1 := by kernel_rfl

set_option maxRecDepth 100000 in
theorem open_sta {H : Type} {enc : TypeId × Value → H} {w : World} {fuel : Nat} {cs : List Value} {x : DataW H × List MemPlace} (h : DataW.trod enc Try.prog w 0 (fun _ => true) true fuel 44 cs = some x) : ∃ (p : PSta) (v : Value), cs = [.int .i64 p.acc, v] ∧ ArgI w v p.regs ∧ staW p := by
  obtain ⟨xs, n, _, rfl, hl, hlen, hf⟩ := DataW.trod_struct Try.underlying44 h
  rw [Try.cellsState16] at hl
  match cs, hl with
  | [v0, v1], _ =>
    obtain ⟨y0, g0⟩ := some_in (by rw [hlen]; decide) (hf 0 _ rfl)
    obtain ⟨y1, g1⟩ := some_in (by rw [hlen]; decide) (hf 1 _ rfl)
    replace g0 : DataW.trod enc Try.prog w 0 (fun _ => true) true n 3 (([v0, v1].drop 0).take (Try.prog.cellsOf 3)) = some y0 := g0
    rw [Try.cellsInt13] at g0
    replace g1 : DataW.trod enc Try.prog w 0 (fun _ => true) true n 24 (([v0, v1].drop 1).take (Try.prog.cellsOf 24)) = some y1 := g1
    rw [Try.cellsIntS16] at g1
    replace g1 : DataW.trod enc Try.prog w 0 (fun _ => true) true n 24 [v1] = some y1 := g1
    obtain ⟨n0, e0, _, w0⟩ := DataW.trod_int Try.underlying3 g0
    obtain ⟨l, k1, q1⟩ := open_intS g1
    simp only [List.drop_zero, List.take_succ_cons, List.take_zero, List.cons.injEq, and_true] at e0
    subst e0
    exact ⟨⟨n0, l⟩, v1, rfl, k1, i64_of w0, q1⟩

set_option maxHeartbeats 400000 in
set_option maxRecDepth 100000 in
theorem szState_any (k0 v : Value) (k n : Nat) (xs : List Value) (left : Int) (w : World) (hv : ArgFlat w v k n xs) (h0 : 0 ≤ left) (h1 : left ≤ 1048576) :
    Calls Try.prog 17 #[.agg #[k0, v], .int .i64 left] w fun e w' => ∃ r : Int, e = .returned (.int .i64 r) ∧ LeftFew r left n ∧ Below w.heap.size w w' := by
  have b0 : Below w.heap.size w (w.alloc (.cells #[k0, v] 44)) := (Below.refl _ _).alloc (Nat.le_refl _) _
  have d := hv.below b0
  clear hv
  go_enter Try.func17, Try.ntmps17
  go_wp2_with fail
  refine (szIntS_f v _ _ _ left _ d h0 h1).mono ?_
  rintro e w1 ⟨r, rfl, hr, rfl⟩
  rcases hr with rfl | ⟨r0, r1, r2⟩
  · go_wp2
    go_ret
    exact ⟨_, rfl, .inl rfl, b0⟩
  have hneg : ¬ r < 0 := by omega
  go_wp2
  go_ret
  exact ⟨_, rfl, .inr ⟨r0, by omega, by omega⟩, b0⟩

theorem two_cells_of {w : World} {g : Nat} {a b : Value} {t : TypeId} {r : Nat × Nat} (h : w.heap[g]? = some (.cells #[a, b] t r)) : w.cell? ⟨g, 0, none⟩ = some a ∧ w.cell? ⟨g, 1, none⟩ = some b := by
  refine ⟨?_, ?_⟩ <;> (rw [cell_of_row _ _ _ _ _ _ h]; rfl)

/-- the places of two rows, joined -/
def joinAt (l m : List Int) (i : Nat) : Int := match l[i]?, m[i]? with
  | some x, some y => if x = y then x else 0
  | _, _ => 0
def joinL (l m : List Int) : List Int := (List.range (max l.length m.length)).map (joinAt l m)
def joinS (a b : PSta) : PSta := ⟨if a.acc = b.acc then a.acc else 0, joinL a.regs b.regs⟩

end Go.Proofs.Ytlplljgcgohonaa
