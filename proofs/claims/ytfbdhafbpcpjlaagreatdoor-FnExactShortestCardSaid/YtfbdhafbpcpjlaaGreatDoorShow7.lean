/-
  The walk of the specification's ShowNumber.
-/
import Derived.Test.YtfbdhafbpcpjlaaGreatDoorShort7
import Derived.Test.YtfbdhafbpcpjlaaGreatDoorShortA
import Derived.Test.YtfbdhafbpcpjlaaGreatDoorDec
import Derived.Deep.DeepCutAuto
import Derived.BigQuiet
namespace Go.Proofs.YtfbdhafbpcpjlaaGreatDoor
open Go.RowKit
set_option linter.unusedVariables false

/-- a sign -/
def signT (b : Bool) : List UInt8 := if b = true then [45] else []
/-- what is shown of a number -/
def showN (x : Nat) : List UInt8 :=
  if kindN x = 1 then [78, 97, 78]
  else if kindN x = 2 then signT (belowN x) ++ [73, 110, 102, 105, 110, 105, 116, 121]
  else if kindN x = 3 then [48]
  else signT (belowN x) ++ showP (shortS x).data.toList (shortE x)

theorem kind_same (x : Nat) : kindN (x % 9223372036854775808) = kindN x ∧ mantN (x % 9223372036854775808) = mantN x ∧ expN (x % 9223372036854775808) = expN x := by
  have h1 : expBits (x % 9223372036854775808) = expBits x := by unfold expBits; omega
  have h2 : fracBits (x % 9223372036854775808) = fracBits x := by unfold fracBits; omega
  refine ⟨?_, ?_, ?_⟩
  · unfold kindN; rw [h1, h2]
  · unfold mantN kindN; rw [h1, h2]
  · unfold expN kindN; rw [h1, h2]
theorem short_same (x : Nat) : shortS (x % 9223372036854775808) = shortS x ∧ shortE (x % 9223372036854775808) = shortE x := by
  obtain ⟨h1, h2⟩ := exact_same x
  unfold shortS shortE
  rw [(kind_same x).1, h1, h2, Nat.mod_mod]
  exact ⟨rfl, rfl⟩
/-- the fewest figures of any finite number -/
theorem short_any {x : Nat} (kx : kindN x = 4) : ShortOk (shortS x).data.toList (shortE x) (x % 9223372036854775808) := by
  obtain ⟨h1, h2⟩ := short_same x
  rw [← h1, ← h2]
  have hy : x % 9223372036854775808 < 9223372036854775808 := Nat.mod_lt _ (by decide)
  have ky : kindN (x % 9223372036854775808) = 4 := by rw [(kind_same x).1]; exact kx
  generalize x % 9223372036854775808 = y at *
  have hok := short_ok (l := (exactS y).data.toList) ky hy (by unfold exactS; rw [if_pos ky, txt_data])
  have hS : shortS y = txt (shortR (exactS y).data.toList (exactX (mantN y) (expN y)) y 17 1).1 := by
    unfold shortS exactE
    rw [if_pos ky, if_pos ky, Nat.mod_eq_of_lt hy]
  have hE : shortE y = (shortR (exactS y).data.toList (exactX (mantN y) (expN y)) y 17 1).2 := by
    unfold shortE exactE
    rw [if_pos ky, if_pos ky, Nat.mod_eq_of_lt hy]
  rw [hS, hE, txt_data]
  exact hok
theorem short_pos {s : List UInt8} {e : Int} {x : Nat} (h : ShortOk s e x) : 1 ≤ s.length ∧ digV s ≠ 0 := by
  refine ⟨ok_pos h.fig, fun h0 => ?_⟩
  have := h.last
  rw [h0] at this
  exact this rfl

/-- what is shown of a finite number that is not below 0 reads back -/
theorem shows_back {x : Nat} (kx : kindN x = 4) (hx : x < 9223372036854775808) : readV (showN x) = x ∧ readB (showN x) = true ∧ (showN x).length ≤ 80 := by
  have hok := short_any kx
  rw [Nat.mod_eq_of_lt hx] at hok
  have hb : belowN x = false := by rw [belowN_of (by omega)]; exact decide_eq_false (by omega)
  have hs : showN x = showP (shortS x).data.toList (shortE x) := by
    unfold showN
    rw [kx, if_neg (by decide), if_neg (by decide), if_neg (by decide), hb]
    rfl
  rw [hs]
  have := read_show hok.fig (short_pos hok).2 hok.len hok.range.1 hok.range.2
  rw [hok.back] at this
  exact this
/-- the other sign -/
theorem shows_sign {x y : Nat} (kx : kindN x = 4) (hx : x < 9223372036854775808) (hy : y = x + 9223372036854775808) : showN y = 45 :: showN x := by
  have hm : y % 9223372036854775808 = x % 9223372036854775808 := by omega
  have ky : kindN y = 4 := by rw [← (kind_same y).1, hm, (kind_same x).1]; exact kx
  have b1 : belowN x = false := by rw [belowN_of (by omega)]; exact decide_eq_false (by omega)
  have b2 : belowN y = true := by rw [belowN_of (by omega)]; exact decide_eq_true (by omega)
  have s1 : shortS y = shortS x ∧ shortE y = shortE x := by
    rw [← (short_same y).1, ← (short_same y).2, hm, (short_same x).1, (short_same x).2]
    exact ⟨rfl, rfl⟩
  unfold showN
  rw [kx, ky, b1, b2, s1.1, s1.2, if_neg (by decide), if_neg (by decide), if_neg (by decide), if_neg (by decide), if_neg (by decide), if_neg (by decide)]
  rfl

theorem txt_app (a b : List UInt8) : txt a ++ txt b = txt (a ++ b) := by
  apply ByteArray.ext
  simp [txt, ByteArray.data_append]
theorem ext_txt (l : List UInt8) (a b : Nat) : (txt l).extract a b = txt ((l.drop a).take (b - a)) := by
  rw [Lib.extract_eq, txt_data]; rfl

end Go.Proofs.YtfbdhafbpcpjlaaGreatDoor
