/-
  The states of a function are found by and by: the specification's l16States, up to its loop.
-/
import Derived.Test.YtbgdapdenbldmaaVer16F
namespace Go.Proofs.Ytbgdapdenbldmaa
open Go.RowKit Go.Sort
set_option linter.unusedVariables false

theorem Try.infoSta16 : (Try.prog.info? 98).map (fun i => (i.zero, i.size, i.bytes)) = some (some (.agg #[.int .i64 0, .slice none 0 0]), 2, 32) := by kernel_rfl

theorem Try.infoBool16 : (Try.prog.info? 4).map (fun i => (i.zero, i.size, i.bytes)) = some (some (.bool false), 1, 1) := by kernel_rfl

/-- make of a slice, as the walk reads it -/
theorem made16 {P : Program} {t e : TypeId} {z : Value} {k b : Nat} (ht : P.underlying t = some (.slice e)) (hi : (P.info? e).map (fun i => (i.zero, i.size, i.bytes)) = some (some z, k, b)) (hb : b ≤ 32) (n : Nat) (hn : n ≤ 100000) (W : World) :
    (Instr.makeSlice t (.int .i64 (n : Int)) (.int .i64 (n : Int))).run P W = .ok (.slice (some ⟨W.heap.size, 0, none⟩) n n) (W.alloc (.cells (madeCells z.cells (n * k)) e)) := by
  obtain ⟨i, hi, hz0, hz1, hz2⟩ := info_in hi
  have hbn : b * n ≤ 32 * 100000 := Nat.mul_le_mul hb hn
  have hc : ((b : Int) * (n : Int)) = ((b * n : Nat) : Int) := by simp
  have h := run_make (P := P) W t e i z ht hi hz0 .i64 .i64 (n : Int) (n : Int) (by omega) (Int.le_refl _) (by rw [hz2, hc]; omega) (by omega)
  rw [Int.toNat_natCast, hz1] at h
  exact h

theorem made_at {z : Array Value} {n j : Nat} (hj : j < n) : (madeCells z n)[j]? = some z[j % z.size]! := by
  simp [madeCells, hj]


theorem least_ex {P : Nat → Prop} : ∀ (m : Nat), P m → ∃ m, P m ∧ ∀ k, P k → m ≤ k := by
  intro m
  induction m using Nat.strongRecOn with
  | ind m ih =>
    intro hm
    by_cases h : ∃ k, k < m ∧ P k
    · obtain ⟨k, hk, hp⟩ := h
      exact ih k hk hp
    · exact ⟨m, hm, fun k hk => by
        rcases Nat.lt_or_ge k m with h1 | h1
        · exact absurd ⟨k, h1, hk⟩ h
        · exact h1⟩

/-- the least number with a property: for loops whose measure lies in memory -/
def Least (P : Nat → Prop) (m : Nat) : Prop := P m ∧ ∀ k, P k → m ≤ k
theorem leastN_is {P : Nat → Prop} {m : Nat} (h : P m) : P (Classical.epsilon (Least P)) ∧ Classical.epsilon (Least P) ≤ m := by
  have e := Classical.epsilon_spec (p := Least P) (least_ex m h)
  exact ⟨e.1, e.2 m h⟩

/-- the image and the function stand in boxes of one's own -/
structure SFix (G : Nat) (ci cf : Array Value) (w : World) : Prop where
  b0 : w.heap[G]? = some (.cells ci 31 (0, 0))
  b1 : w.heap[G + 1]? = some (.cells cf 70 (0, 0))

theorem SFix.low {G : Nat} {ci cf : Array Value} {w w' : World} (h : SFix G ci cf w) (hb : Below (G + 2) w w') : SFix G ci cf w' := ⟨(hb.block _ (by omega)).trans h.b0, (hb.block _ (by omega)).trans h.b1⟩

/-- the run stands above the boxes -/
structure SRun (G X L H n : Nat) (p : PImg) (f : PFun) (W2 w : World) (m : Nat) : Prop where
  run : ∃ tb tv r, VAt X L H tb n tv r w ∧ RunInv p f r ∧ runM f.regs.toNat r = m ∧ runM f.regs.toNat r ≤ 30000 ∧ G + 2 ≤ tb
  lo : G + 2 ≤ X ∧ G + 2 ≤ L ∧ G + 2 ≤ H
  bel : Below (G + 2) W2 w

theorem none_M (f : PFun) (hn : f.code.length ≤ 300) (hR : f.regs.toNat ≤ 40) : runM f.regs.toNat (noneP f) ≤ 30000 := by
  have h : ∀ n, wsum f.regs.toNat (List.replicate n ⟨0, []⟩) (List.replicate n false) = n * (f.regs.toNat + 2) := fun n => by
    induction n with
    | zero => simp [wsum]
    | succ n ih =>
      rw [List.replicate_succ, List.replicate_succ]
      simp only [wsum]
      rw [ih, Nat.add_mul]
      simp
      omega
  unfold runM noneP
  simp only [h, List.length_nil]
  have : f.code.length * (f.regs.toNat + 2) ≤ 300 * 42 := Nat.mul_le_mul hn (by omega)
  omega

end Go.Proofs.Ytbgdapdenbldmaa
