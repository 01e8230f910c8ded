/-
  Decimal of every int: the specification's and the program's.
-/
import Derived.Test.YtojmmmfboahkgaaDoorDecN
import Derived.Test.YtojmmmfboahkgaaDoorRDecB
import Derived.Test.YtojmmmfboahkgaaDoorTab
import Derived.Test.YtojmmmfboahkgaaDoorShelf
namespace Go.Proofs.YtojmmmfboahkgaaDoor
open Go.RowKit
set_option linter.unusedVariables false

theorem specDecimal_any (n : Int) (w : World) (h0 : -9223372036854775808 ≤ n) (h1 : n ≤ 9223372036854775807) :
    Calls Tryd.prog 15 #[.int .i64 n] w fun e w' => e = .returned (.string ⟨(Lib.itoa n).toArray⟩) ∧ Below w.heap.size w w' := by
  by_cases hn : n < 0
  · obtain ⟨u, rfl⟩ : ∃ u : Nat, n = -(u : Int) := ⟨(-n).toNat, by omega⟩
    have e : Lib.itoa (-(u : Int)) = 45 :: Lib.decDigits u := by
      unfold Lib.itoa
      rw [if_pos hn, Int.natAbs_neg, Int.natAbs_natCast]
    rw [e]
    exact specDecimal_neg u w (by omega) (by omega)
  · obtain ⟨u, rfl⟩ : ∃ u : Nat, n = (u : Int) := ⟨n.toNat, by omega⟩
    have e : Lib.itoa (u : Int) = Lib.decDigits u := by
      unfold Lib.itoa
      rw [if_neg hn, Int.toNat_natCast]
    rw [e]
    by_cases hz : u = 0
    · subst hz; exact specDecimal_zero w
    · exact specDecimal_pos u w hz (by omega)

set_option maxHeartbeats 400000 in
set_option maxRecDepth 100000 in
theorem implDecimal_any (n : Int) (w : World) (h0 : -9223372036854775808 ≤ n) (h1 : n ≤ 9223372036854775807) (htab : Lib.TabIs Tryd.prog w "internal/strconv.uint64pow10" .u64 Lib.pow10Tab) :
    Calls Tryd.prog 16 #[.int .i64 n] w fun e w' => e = .returned (.string ⟨(Lib.itoa n).toArray⟩) ∧ Below w.heap.size w w' := by
  have c := Tryd.strconv_Itoa n h0 h1 w htab
  clear htab
  go_enter Tryd.func16, Tryd.ntmps16
  go_wp2_with (go_at_call 29; refine c.mono ?_; rintro e w' ⟨rfl, hb⟩)
  go_ret
  exact ⟨rfl, below_grown hb⟩

end Go.Proofs.YtojmmmfboahkgaaDoor
