/-
  Figures of sixteen, as plain functions.
-/
import Derived.Test.YtojmmmfboahkgaaDoorTxt
namespace Go.Proofs.YtojmmmfboahkgaaDoor
open Go.RowKit

def fig (x : Nat) : Nat := if x < 10 then 48 + x else 87 + x
def hexOf (l : List UInt8) : List Int := l.flatMap fun c => [(fig (c.toNat / 16) : Int), (fig (c.toNat % 16) : Int)]
theorem hexOf_snoc (l : List UInt8) (c : UInt8) : hexOf (l ++ [c]) = hexOf l ++ [(fig (c.toNat / 16) : Int), (fig (c.toNat % 16) : Int)] := by simp [hexOf]
theorem hexOf_length (l : List UInt8) : (hexOf l).length = 2 * l.length := by
  induction l with
  | nil => rfl
  | cons a l ih => simp only [hexOf, List.flatMap_cons, List.length_append, List.length_cons, List.length_nil] at ih ⊢; omega

theorem figS_fin : ∀ i : Fin 16, ((⟨#[48, 49, 50, 51, 52, 53, 54, 55, 56, 57, 97, 98, 99, 100, 101, 102]⟩ : ByteArray)[i.val]'i.isLt).toNat = fig i.val := by decide
theorem figS_eq {i : Nat} (h : i < (⟨#[48, 49, 50, 51, 52, 53, 54, 55, 56, 57, 97, 98, 99, 100, 101, 102]⟩ : ByteArray).size) (N : Nat) (hi : i = N) (hN : N < 16) :
    ((⟨#[48, 49, 50, 51, 52, 53, 54, 55, 56, 57, 97, 98, 99, 100, 101, 102]⟩ : ByteArray)[i]'h).toNat = fig N := by
  subst hi
  exact figS_fin ⟨i, hN⟩

end Go.Proofs.YtojmmmfboahkgaaDoor
