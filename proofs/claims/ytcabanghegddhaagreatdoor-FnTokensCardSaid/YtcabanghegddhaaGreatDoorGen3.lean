/-
  The walk of a drawn expression.
-/
import Derived.Test.YtcabanghegddhaaGreatDoorGen2
namespace Go.Proofs.YtcabanghegddhaaGreatDoor
open Go.RowKit
set_option linter.unusedVariables false

theorem pick_arr {ac : Option Addr} {len cap g c : Nat} {nv : Value} {N : Nat} {w : World} (xs : List Value) (t : TypeId) (n m : Nat) (G : Gen ac len cap g c nv N w) (hn : xs.length = n) (h0 : 0 < n) (hle : n ≤ 1000) (h : ∀ v ∈ xs, ∃ s : ByteArray, v = .string s ∧ s.size ≤ m) :
    Calls Tryz.prog 19 #[.pointer (some ⟨c, 0, none⟩), .slice (some ⟨w.heap.size, 0, none⟩) n n] (w.alloc (.cells xs.toArray t)) fun e w' => ∃ s : ByteArray, s.size ≤ m ∧ e = .returned (.string s) ∧ Gen ac len cap g c nv N w' ∧ Two g c w w' :=
  pick_gen xs t n m hn h0 hle h G
theorem pick_late {ac : Option Addr} {len cap g c : Nat} {nv : Value} {N : Nat} {w w2 : World} (xs : List Value) (t : TypeId) (n m : Nat) (G : Gen ac len cap g c nv N w) (G2 : Gen ac len cap g c nv N w2) (k : Two g c (w.alloc (.cells xs.toArray t)) w2) (hn : xs.length = n) (h0 : 0 < n) (hle : n ≤ 1000) (h : ∀ v ∈ xs, ∃ s : ByteArray, v = .string s ∧ s.size ≤ m) :
    Calls Tryz.prog 19 #[.pointer (some ⟨c, 0, none⟩), .slice (some ⟨w.heap.size, 0, none⟩) n n] w2 fun e w' => ∃ s : ByteArray, s.size ≤ m ∧ e = .returned (.string s) ∧ Gen ac len cap g c nv N w' ∧ Two g c w2 w' := by
  have hlt := G.lt
  have hk := k.size
  have e1 : (w.alloc (.cells xs.toArray t)).heap.size = w.heap.size + 1 := by simp
  rw [e1] at hk
  refine (l01Pick_any ac len cap c w.heap.size n m n w2 G2.cur (by omega) (by omega) h0 hle ((row_new w xs t n m hn h).two k (by simp) (by omega) (by omega))).mono ?_
  rintro e w' ⟨s, hs, he, hc, gr⟩
  exact ⟨s, hs, he, G2.drawn hc gr, .of_grown gr⟩

/-- how long what is drawn can be -/
def lenA (d : Nat) : Nat := 200 * 30 ^ d
theorem lenA_more (d : Nat) : lenA (d + 1) = 30 * lenA d := by unfold lenA; rw [Nat.pow_succ]; omega
theorem lenA_least (d : Nat) : 200 ≤ lenA d := by unfold lenA; have : 1 ≤ 30 ^ d := Nat.one_le_pow _ _ (by decide); omega
theorem lenA_mono {a b : Nat} (h : a ≤ b) : lenA a ≤ lenA b := by unfold lenA; exact Nat.mul_le_mul_left _ (Nat.pow_le_pow_right (by decide) h)
theorem lenA_most {d : Nat} (h : d ≤ 3) : lenA d ≤ 5400000 := Nat.le_trans (lenA_mono h) (by decide)

def ExprOk (d : Nat) : Prop := ∀ {ac : Option Addr} {len cap g c : Nat} {nv : Value} {N : Nat} {w : World}, Gen ac len cap g c nv N w → N + 20 * d + 12 ≤ 900 →
    Calls Tryz.prog 40 #[.pointer (some ⟨g, 0, none⟩), .int .i64 (d : Nat)] w fun e w' => ∃ s : ByteArray, s.size ≤ lenA d ∧ e = .returned (.string s) ∧ Gen ac len cap g c nv N w' ∧ Two g c w w'
def FunOk (d : Nat) : Prop := ∀ {ac : Option Addr} {len cap g c : Nat} {nv : Value} {N : Nat} {w : World}, Gen ac len cap g c nv N w → N + 20 * d + 30 ≤ 900 →
    Calls Tryz.prog 44 #[.pointer (some ⟨g, 0, none⟩), .int .i64 (d : Nat)] w fun e w' => ∃ s : ByteArray, 3 ≤ s.size ∧ s.size ≤ 7 * lenA d ∧ e = .returned (.string s) ∧ Gen ac len cap g c nv N w' ∧ Two g c w w'
def BlockOk (d : Nat) : Prop := ∀ {ac : Option Addr} {len cap g c : Nat} {nv : Value} {N : Nat} {w : World}, Gen ac len cap g c nv N w → N + 20 * d + 28 ≤ 900 →
    Calls Tryz.prog 42 #[.pointer (some ⟨g, 0, none⟩), .int .i64 (d : Nat)] w fun e w' => ∃ s : ByteArray, s.size ≤ 6 * lenA d ∧ e = .returned (.string s) ∧ Gen ac len cap g c nv N w' ∧ Two g c w w'
def StmtOk (d : Nat) : Prop := ∀ {ac : Option Addr} {len cap g c : Nat} {nv : Value} {N : Nat} {w : World} (at' : Int), Gen ac len cap g c nv N w → N + 20 * d + 20 ≤ 900 →
    Calls Tryz.prog 17 #[.pointer (some ⟨g, 0, none⟩), .int .i64 (d : Nat), .int .i64 at'] w fun e w' => ∃ (s : ByteArray) (nv' : Value) (N' : Nat), s.size ≤ 2 * lenA d ∧ e = .returned (.string s) ∧ N' ≤ N + d + 1 ∧ Gen ac len cap g c nv' N' w' ∧ Two g c w w'


set_option maxHeartbeats 4000000 in
set_option maxRecDepth 100000 in
/-- an expression that is no deeper -/
theorem expr_leaf {ac : Option Addr} {len cap g c : Nat} {nv : Value} {N : Nat} {w : World} (d : Int) (hd : d ≤ 0) (G : Gen ac len cap g c nv N w) :
    Calls Tryz.prog 40 #[.pointer (some ⟨g, 0, none⟩), .int .i64 d] w fun e w' => ∃ s : ByteArray, s.size ≤ 30 ∧ e = .returned (.string s) ∧ Gen ac len cap g c nv N w' ∧ Two g c w w' := by
  obtain ⟨c0, c1, ⟨l, c2⟩, hf⟩ := G.cells
  have f2 := hf 2
  obtain ⟨l', hl'⟩ : ∃ l', IntKind.i64.wrap (l - 1) = l' := ⟨_, rfl⟩
  obtain ⟨W1, hW1⟩ : ∃ W, w.setCell ⟨g, 2, none⟩ (.int .i64 l') = W := ⟨_, rfl⟩
  have G1 : Gen ac len cap g c nv N W1 := by rw [← hW1]; exact G.setLeft l'
  have KK : Two g c w W1.drew := by rw [← hW1]; exact (two_set _).drew
  obtain ⟨d0, d1, _, _⟩ := G1.cells
  have d0a := fun o => (G1.drew.alloc o).cells.1
  have cP := fun (W : World) (xs : List Value) (t : TypeId) (n : Nat) (GW : Gen ac len cap g c nv N W) (hn : xs.length = n) (h0 : 0 < n) (hle : n ≤ 1000) (h : ∀ v ∈ xs, ∃ s : ByteArray, v = .string s ∧ s.size ≤ 30) => pick_arr xs t n 30 GW hn h0 hle h
  have cV := fun (W : World) (GW : Gen ac len cap g c nv N W) => l10Var_any GW
  go_enter Tryz.func40, Tryz.ntmps40
  go_upto_region 3 with fail
  try simp only [hW1]
  clear hW1 hf f2 c0 c1 c2 G
  go_region_with (first
    | (go_at_call 41; refine (cV _ ?_).mono ?_; (first | assumption | exact G1.drew | exact G1); rintro e w2 ⟨s, hs, rfl, G2, K2⟩; have KK : Two g c w w2 := Two.trans KK K2; obtain ⟨e0, e1, _, _⟩ := G2.cells; have e0a := fun o => (G2.alloc o).cells.1)
    | (go_at_call 19; refine (cP _ _ _ _ ?_ ?_ ?_ ?_ ?_).mono ?_; (first | assumption | exact G1.drew | exact G1); rfl; decide; decide; (repeat (first | exact str_none | refine str_more (by first | decide | assumption | omega) ?_)); rintro e w5 ⟨p, hp, rfl, G5, K5⟩; have KK : Two g c w w5 := Two.trans KK K5; obtain ⟨j0, j1, _, _⟩ := G5.cells))
  all_goals go_wp2
  all_goals go_ret
  all_goals exact ⟨p, hp, rfl, G5, KK⟩

end Go.Proofs.YtcabanghegddhaaGreatDoor
