/-
  The walks of ReadShort.
-/
import Derived.Test.YtemgbffdllhhfaaDoorRead
import Derived.Test.YtemgbffdllhhfaaDoorShelf
namespace Go.Proofs.YtemgbffdllhhfaaDoor
open Go.RowKit
set_option linter.unusedVariables false

set_option maxHeartbeats 400000 in
set_option maxRecDepth 100000 in
theorem stringsClone (s : ByteArray) (w : World) (h : s.size ≤ 1048576) :
    Calls Tryd.prog 22 #[.string s] w fun e w' => e = .returned (.string s) ∧ Below w.heap.size w w' := by
  go_enter Tryd.func22, Tryd.ntmps22
  go_wp2_with (go_at_call 26; refine (Tryd.stringslite_Clone s _ (by omega)).mono ?_; rintro e w' ⟨rfl, hb⟩)
  go_ret
  exact ⟨rfl, by assumption⟩

/-- what ReadShort answers -/
def rsOut (s : ByteArray) : Option (Nat × Nat) → Value
  | some (n, j) => if n ≤ 12000 ∧ j + n ≤ s.size then .tuple #[.string (s.extract j (j + n)), .int .i64 ((j + n : Nat) : Int), .bool true] else .tuple #[.string ⟨#[]⟩, .int .i64 0, .bool false]
  | none => .tuple #[.string ⟨#[]⟩, .int .i64 0, .bool false]

theorem rdV_place {s : ByteArray} {b0 : Nat} : ∀ (f i n u : Nat) {x j : Nat}, rdV s b0 f i n u = some (x, j) → i < j ∧ j ≤ s.size ∧ x ≤ 1000000000
  | 0, _, _, _, _, _, h => by simp [rdV] at h
  | f + 1, i, n, u, x, j, h => by
    rw [rdV] at h
    split at h
    · split at h
      · split at h
        · simp at h
        · simp only [Option.some.injEq, Prod.mk.injEq] at h
          omega
      · have := rdV_place f _ _ _ h
        omega
    · simp at h

set_option maxHeartbeats 1000000 in
set_option maxRecDepth 100000 in
theorem implReadShort_in (s : ByteArray) (b0 : Nat) (w : World) (hs : s.size ≤ 1048576) (hb : b0 ≤ s.size) :
    Calls Tryd.prog 12 #[.string s, .int .i64 b0] w fun e w' => e = .returned (rsOut s (rdV s b0 5 b0 0 1)) ∧ Below w.heap.size w w' := by
  cases hR : rdV s b0 5 b0 0 1 with
  | none =>
    have cI := fun w => implReadVar_none s b0 w hs hb hR
    clear hR
    go_enter Tryd.func12, Tryd.ntmps12
    go_wp2_with (go_at_call 7; refine (cI _).mono ?_; rintro e w' ⟨rfl, rfl⟩)
    go_ret3
    exact ⟨rfl, Below.refl _ _⟩
  | some p =>
    obtain ⟨n, j⟩ := p
    have cI := fun w => implReadVar_some s b0 w hs hb hR
    obtain ⟨hj1, hj2, hn⟩ := rdV_place _ _ _ _ hR
    clear hR
    by_cases h1 : n ≤ 12000
    · by_cases h2 : j + n ≤ s.size
      · have E : Hid (rsOut s (some (n, j)) = .tuple #[.string (s.extract j (j + n)), .int .i64 ((j + n : Nat) : Int), .bool true]) := if_pos ⟨h1, h2⟩
        have hx : (s.extract j (j + n)).size ≤ 1048576 := by rw [ByteArray.size_extract]; omega
        go_enter Tryd.func12, Tryd.ntmps12
        go_wp2_with (first | (go_at_call 7; refine (cI _).mono ?_; rintro e w' ⟨rfl, rfl⟩) | (go_at_call 22; refine (stringsClone _ _ hx).mono ?_; rintro e w' ⟨rfl, hbel⟩))
        go_ret3
        exact ⟨by rw [E.out]; rfl, by assumption⟩
      · have E : Hid (rsOut s (some (n, j)) = .tuple #[.string ⟨#[]⟩, .int .i64 0, .bool false]) := if_neg (by omega)
        go_enter Tryd.func12, Tryd.ntmps12
        go_wp2_with (go_at_call 7; refine (cI _).mono ?_; rintro e w' ⟨rfl, rfl⟩)
        go_ret3
        exact ⟨by rw [E.out]; rfl, Below.refl _ _⟩
    · have E : Hid (rsOut s (some (n, j)) = .tuple #[.string ⟨#[]⟩, .int .i64 0, .bool false]) := if_neg (by omega)
      go_enter Tryd.func12, Tryd.ntmps12
      go_wp2_with (go_at_call 7; refine (cI _).mono ?_; rintro e w' ⟨rfl, rfl⟩)
      go_ret3
      exact ⟨by rw [E.out]; rfl, Below.refl _ _⟩

set_option maxHeartbeats 400000 in
set_option maxRecDepth 100000 in
theorem implReadShort_out (s : ByteArray) (x : Int) (w : World) (hs : s.size ≤ 1048576) (hx : x < 0 ∨ (s.size : Int) < x) :
    Calls Tryd.prog 12 #[.string s, .int .i64 x] w fun e w' => e = .returned (.tuple #[.string ⟨#[]⟩, .int .i64 0, .bool false]) ∧ w = w' := by
  go_enter Tryd.func12, Tryd.ntmps12
  go_wp2_with (go_at_call 7; refine (implReadVar_out s x _ hs hx).mono ?_; rintro e w' ⟨rfl, rfl⟩)
  go_ret3
  exact ⟨rfl, rfl⟩

theorem implReadShort_no (s : ByteArray) (b0 : Nat) (w : World) (hs : s.size ≤ 1048576) (hb : b0 ≤ s.size) (hR : rsOut s (rdV s b0 5 b0 0 1) = .tuple #[.string ⟨#[]⟩, .int .i64 0, .bool false]) :
    Calls Tryd.prog 12 #[.string s, .int .i64 b0] w fun e w' => e = .returned (.tuple #[.string ⟨#[]⟩, .int .i64 0, .bool false]) ∧ Below w.heap.size w w' := by
  have h := implReadShort_in s b0 w hs hb
  rw [hR] at h
  exact h

theorem implReadShort_yes (s : ByteArray) (b0 : Nat) (w : World) (hs : s.size ≤ 1048576) (hb : b0 ≤ s.size) {t : ByteArray} {j : Nat} (hR : rsOut s (rdV s b0 5 b0 0 1) = .tuple #[.string t, .int .i64 j, .bool true]) :
    Calls Tryd.prog 12 #[.string s, .int .i64 b0] w fun e w' => e = .returned (.tuple #[.string t, .int .i64 j, .bool true]) ∧ Below w.heap.size w w' := by
  have h := implReadShort_in s b0 w hs hb
  rw [hR] at h
  exact h

theorem rsOut_cases (s : ByteArray) (R : Option (Nat × Nat)) : rsOut s R = .tuple #[.string ⟨#[]⟩, .int .i64 0, .bool false] ∨ ∃ (t : ByteArray) (j : Nat), rsOut s R = .tuple #[.string t, .int .i64 j, .bool true] := by
  cases R with
  | none => exact .inl rfl
  | some p =>
    obtain ⟨n, j⟩ := p
    by_cases h : n ≤ 12000 ∧ j + n ≤ s.size
    · exact .inr ⟨_, _, if_pos h⟩
    · exact .inl (if_neg h)

end Go.Proofs.YtemgbffdllhhfaaDoor
