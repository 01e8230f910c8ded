/-
  The walks of the specification's l06Text, l06Fits and l06Short.
-/
import Derived.Test.YtdejncgnoadcjaaLimbTxt
namespace Go.Proofs.Ytdejncgnoadcjaa
open Go.RowKit
set_option linter.unusedVariables false

theorem fill_text {N n : Nat} {zs : List Nat} (h : FillAt N n n zs) (hN : N < 10 ^ n) : trimL (strOfNums (zs.map fun (x : Nat) => (x : Int))).data.toList = Lib.decDigits N := by
  have e : (strOfNums (zs.map fun (x : Nat) => (x : Int))).data.toList = padD N n := by
    rw [strOfNums_data, List.map_map, ← fill_end h]
    rfl
  rw [e, ← dec_trim _ (padD_figs N n), padD_digV N n hN]

end Go.Proofs.Ytdejncgnoadcjaa
