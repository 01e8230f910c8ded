/-
  The specification's IsTrue, SameValue, DoMinus, and what makes values.
-/
import Derived.Test.YtlikjbklagolmaaVal17S
import Derived.Test.YtlikjbklagolmaaAdd
namespace Go.Proofs.Ytlikjbklagolmaa
open Go.RowKit Go.Sort
set_option linter.unusedVariables false

theorem text_ne {s t : ByteArray} (h : ¬ s = t) : (s.toList == t.toList) = false := by
  rw [beq_eq_false_iff_ne]
  intro e
  apply h
  rw [ByteArray.toList_eq, ByteArray.toList_eq] at e
  obtain ⟨a⟩ := s
  obtain ⟨b⟩ := t
  have : a = b := Array.ext' e
  rw [this]

set_option maxHeartbeats 1000000 in
set_option maxRecDepth 100000 in
theorem specSameValue_any (a b : PVal) (w : World) (ha : valW a) (hb : valW b) :
    Calls Try.prog 9 #[.agg #[.int .i64 a.kind, .int .u64 (a.num : Int), .string a.text, .int .i64 a.ref], .agg #[.int .i64 b.kind, .int .u64 (b.num : Int), .string b.text, .int .i64 b.ref]] w fun e w' => e = .returned (.bool (valSame a b)) ∧ Below w.heap.size w w' := by
  have cE := fun W => specEqual_any a.num b.num W ha.2.1 hb.2.1
  clear ha hb
  unfold valSame
  obtain ⟨k, x, s, r⟩ := a
  obtain ⟨k', x', s', r'⟩ := b
  simp only at cE ⊢
  have b0 : ∀ cs t cs' t', Below w.heap.size w ((w.alloc (.cells cs t)).alloc (.cells cs' t')) := fun cs t cs' t' => ((Below.refl _ _).alloc (Nat.le_refl _) _).alloc (by simp) _
  obtain ⟨E, hE⟩ : ∃ E, equalN x x' = E := ⟨_, rfl⟩
  simp only [hE] at cE ⊢
  clear hE
  obtain ⟨F, hF⟩ : ∃ F, (decide (k = k') && (if k = 2 then E else decide (x = x') && (decide (s = s') && decide (r = r')))) = F := ⟨_, rfl⟩
  rw [hF]
  have HF : Hid _ := hF
  clear hF
  by_cases hk : k = k'
  case neg =>
    have hF : F = false := by rw [← HF.out]; simp [hk]
    subst hF
    have z : (k == k') = false := by rw [beq_eq_false_iff_ne]; exact hk
    clear HF cE
    go_enter Try.func9, Try.ntmps9
    go_wp2
    go_ret
    exact ⟨rfl, b0 _ _ _ _⟩
  subst hk
  by_cases k2 : k = 2
  · subst k2
    have hF : E = F := by rw [← HF.out]; simp
    subst hF
    clear HF
    go_enter Try.func9, Try.ntmps9
    go_wp2_with (go_at_call 12; refine (cE _).mono ?_; rintro e w' ⟨rfl, hb⟩)
    go_ret
    exact ⟨rfl, chain (b0 _ _ _ _) hb⟩
  have z2 : (k == 2) = false := by rw [beq_eq_false_iff_ne]; exact k2
  clear cE
  by_cases hx : x = x'
  case neg =>
    have hF : F = false := by rw [← HF.out]; simp [k2, hx]
    subst hF
    have z : ((x : Int) == (x' : Int)) = false := by rw [beq_eq_false_iff_ne]; omega
    clear HF
    go_enter Try.func9, Try.ntmps9
    go_wp2
    go_ret
    exact ⟨rfl, b0 _ _ _ _⟩
  subst hx
  by_cases hs : s = s'
  case neg =>
    have hF : F = false := by rw [← HF.out]; simp [k2, hs]
    subst hF
    have z := text_ne hs
    clear HF
    go_enter Try.func9, Try.ntmps9
    go_wp2
    go_ret
    exact ⟨rfl, b0 _ _ _ _⟩
  subst hs
  by_cases hr : r = r'
  case neg =>
    have hF : F = false := by rw [← HF.out]; simp [k2, hr]
    subst hF
    have z : (r == r') = false := by rw [beq_eq_false_iff_ne]; exact hr
    clear HF
    go_enter Try.func9, Try.ntmps9
    go_wp2
    go_ret
    exact ⟨rfl, b0 _ _ _ _⟩
  subst hr
  have hF : F = true := by rw [← HF.out]; simp [k2]
  subst hF
  clear HF
  go_enter Try.func9, Try.ntmps9
  go_wp2
  go_ret
  exact ⟨rfl, b0 _ _ _ _⟩

/-- values that are made -/
def bitN (b : Bool) : Nat := if b then 1 else 0
def boolV (b : Bool) : PVal := ⟨1, bitN b, ⟨#[]⟩, 0⟩
def numV (x : Nat) : PVal := ⟨2, x, ⟨#[]⟩, 0⟩
def noneV : PVal := ⟨0, 0, ⟨#[]⟩, 0⟩
def textV (s : ByteArray) : PVal := ⟨3, 0, s, 0⟩
/-- a value, handed over -/
def valA (p : PVal) : Value := .agg #[.int .i64 p.kind, .int .u64 (p.num : Int), .string p.text, .int .i64 p.ref]

end Go.Proofs.Ytlikjbklagolmaa
