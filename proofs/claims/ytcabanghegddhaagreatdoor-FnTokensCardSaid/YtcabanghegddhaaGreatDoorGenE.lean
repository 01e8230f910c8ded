/-
  Programs that are drawn: all depths; a text spoilt; a source.
-/
import Derived.Test.YtcabanghegddhaaGreatDoorGen4
import Derived.Test.YtcabanghegddhaaGreatDoorGenZ
import Derived.Test.YtcabanghegddhaaGreatDoorGenM
import Derived.Test.YtcabanghegddhaaGreatDoorGen7
import Derived.Test.YtcabanghegddhaaGreatDoorGenQ
namespace Go.Proofs.YtcabanghegddhaaGreatDoor
open Go.RowKit
set_option linter.unusedVariables false

theorem expr_zero : ExprOk 0 := by
  intro ac len cap g c nv N w G hN
  exact (expr_leaf 0 (by omega) G).mono fun e w' ⟨s, hs, h⟩ => ⟨s, by have : lenA 0 = 200 := rfl; omega, h⟩
/-- all that is drawn, up to three deep -/
theorem gen_all : ∀ d, d ≤ 3 → ExprOk d ∧ StmtOk d ∧ BlockOk d ∧ FunOk d ∧ ExprOk (min d 1)
  | 0, _ => by
    have e : ExprOk 0 := @expr_zero
    have s : StmtOk 0 := @stmt_zero @e
    have b : BlockOk 0 := @block_of 0 (by omega) @s @e
    have f : FunOk 0 := @fun_of 0 (by omega) @b
    exact ⟨@e, @s, @b, @f, @e⟩
  | d + 1, h => by
    obtain ⟨e, s, b, f, e1⟩ := gen_all d (by omega)
    have E : ExprOk (d + 1) := @expr_more d (by omega) @e @f
    have E1 : ExprOk 1 := by
      rcases (by omega : d = 0 ∨ 1 ≤ d) with h0 | h0
      · subst h0; exact @E
      · rw [Nat.min_eq_right h0] at e1; exact @e1
    have S : StmtOk (d + 1) := @stmt_more d (by omega) @E @E1 @b @s @f
    have B : BlockOk (d + 1) := @block_of (d + 1) h @S @E
    have F : FunOk (d + 1) := @fun_of (d + 1) h @B
    refine ⟨@E, @S, @B, @F, ?_⟩
    rw [Nat.min_eq_right (by omega)]
    exact @E1

set_option maxHeartbeats 400000 in
set_option maxRecDepth 100000 in
theorem drawSource_any (ac : Option Addr) (len cap : Nat) (w : World) (hc : CodeIn w ac len w.heap.size) :
    Calls Tryz.prog 5 #[.slice ac len cap] w fun e w' => ∃ s : ByteArray, s.size ≤ 1000000000 ∧ e = .returned (.string s) ∧ Below w.heap.size w w' := by
  go_enter Tryz.func5, Tryz.ntmps5
  go_wp2_with fail
  refine (l01New_any ac len cap w hc).mono ?_
  rintro e w1 ⟨g, rfl, hg, hC, b1⟩
  go_wp2_with fail
  refine (l10Source_any (@(gen_all 3 (by omega)).2.1) hC).mono ?_
  rintro e w2 ⟨s, hs, rfl, gr⟩
  go_wp2
  go_ret
  exact ⟨s, hs, rfl, b1.grown gr b1.size (fun k hk => by injection hk with hk; omega)⟩

end Go.Proofs.YtcabanghegddhaaGreatDoor
