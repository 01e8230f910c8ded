/-
  The law's own look for marks in states.
-/
import Derived.Test.YtbgdapdenbldmaaVer16Y
import Derived.Test.YtbgdapdenbldmaaSta16M
namespace Go.Proofs.Ytbgdapdenbldmaa
open Go.RowKit Go.Sort
set_option linter.unusedVariables false

/-- states with the marks from k on; ns: how many registers each has -/
def mkSt : Nat → List Nat → List PSta
  | _, [] => []
  | k, m :: l => ⟨(k : Int), upI (k + 1) m⟩ :: mkSt (k + 1 + m) l
/-- how many marks -/
def mkN : List Nat → Nat
  | [] => 0
  | m :: l => 1 + m + mkN l

theorem mkSt_len : ∀ (k : Nat) (ns : List Nat), (mkSt k ns).length = ns.length
  | _, [] => rfl
  | k, m :: l => by simp [mkSt, mkSt_len]

theorem mkSt_at : ∀ (ns : List Nat) (k j m : Nat), ns[j]? = some m → (mkSt k ns)[j]? = some ⟨((k + mkN (ns.take j) : Nat) : Int), upI (k + mkN (ns.take j) + 1) m⟩
  | [], k, j, m, h => by simp at h
  | a :: l, k, 0, m, h => by
    simp at h
    subst h
    simp [mkSt, mkN]
  | a :: l, k, j + 1, m, h => by
    rw [List.getElem?_cons_succ] at h
    have := mkSt_at l (k + 1 + a) j m h
    simp only [mkSt, List.getElem?_cons_succ, List.take_succ_cons, mkN]
    rw [this, show k + 1 + a + mkN (l.take j) = k + (1 + a + mkN (l.take j)) by omega]

theorem mkN_more {ns : List Nat} {j m : Nat} (h : ns[j]? = some m) : mkN (ns.take (j + 1)) = mkN (ns.take j) + 1 + m := by
  induction ns generalizing j with
  | nil => simp at h
  | cons a l ih =>
    cases j with
    | zero => simp at h; subst h; simp [mkN]
    | succ j =>
      rw [List.getElem?_cons_succ] at h
      simp only [List.take_succ_cons, mkN]
      rw [ih h]
      omega

end Go.Proofs.Ytbgdapdenbldmaa
