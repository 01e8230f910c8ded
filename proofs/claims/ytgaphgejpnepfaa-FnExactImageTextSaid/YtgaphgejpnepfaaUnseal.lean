/-
  The walk of the specification's Unsealed.
-/
import Derived.Test.YtgaphgejpnepfaaSums
import Derived.Deep.QuietTactic
import Derived.BigQuiet
import Derived.Lib.QuietBelow
namespace Go.Proofs.Ytgaphgejpnepfaa
open Go.RowKit Go.Sort
set_option linter.unusedVariables false

/-- what lies ahead of the four last bytes -/
def innerS (t : ByteArray) : ByteArray := t.extract 0 (t.size - 4)

/-- the four last bytes are the sum of what lies ahead of them -/
def sealOk (t : ByteArray) : Bool := (t.extract (t.size - 4) t.size).toList == (strOfNums (fourB (sumL 4294967295 (innerS t).data.toList))).toList

/-- what Unsealed answers where the length is right -/
def unsealedV (t : ByteArray) : Value := if sealOk t = true then .tuple #[.string (innerS t), .bool true] else .tuple #[.string ⟨#[]⟩, .bool false]
theorem unsealedV_yes {t : ByteArray} (h : sealOk t = true) : unsealedV t = .tuple #[.string (innerS t), .bool true] := if_pos h
theorem unsealedV_no {t : ByteArray} (h : sealOk t = false) : unsealedV t = .tuple #[.string ⟨#[]⟩, .bool false] := if_neg (by rw [h]; decide)

set_option maxHeartbeats 1000000 in
set_option maxRecDepth 100000 in
theorem specUnsealed_out (t : ByteArray) (w : World) (h : t.size < 4 ∨ 12004 < t.size) (hm : t.size < 4000000000000000000) :
    Calls Try.prog 55 #[.string t] w fun e w' => e = .returned (.tuple #[.string ⟨#[]⟩, .bool false]) ∧ Below w.heap.size w w' := by
  have hm' : (t.size : Int) < 4000000000000000000 := by omega
  clear hm
  rcases h with h | h
  · have h1 : (t.size : Int) - 4 < 0 := by omega
    go_enter Try.func55, Try.ntmps55
    go_wp2
    go_quiet (fail)
    go_wp2
    go_ret2
    exact ⟨rfl, below_drewN (Below.refl _ _) _⟩
  · have h1 : decide ((t.size : Int) - 4 < 0) = false := by simp; omega
    have h2 : (12000 : Int) < (t.size : Int) - 4 := by omega
    go_enter Try.func55, Try.ntmps55
    go_wp2
    go_quiet (fail)
    go_wp2
    go_ret2
    exact ⟨rfl, below_drewN (Below.refl _ _) _⟩

theorem specSumOf_b (t : ByteArray) (w : World) (ht : t.size ≤ 4000000000000000000) :
    Calls Try.prog 94 #[.string t] w fun e w' => e = .returned (.int .u32 (sumL 4294967295 t.data.toList : Nat)) ∧ Below w.heap.size w w' :=
  (specSumOf_any t w ht).mono fun _ _ h => ⟨h.1, by rw [h.2]; exact Below.refl _ _⟩

set_option maxHeartbeats 2000000 in
set_option maxRecDepth 100000 in
theorem specUnsealed_in (t : ByteArray) (w : World) (h1 : 4 ≤ t.size) (h2 : t.size ≤ 12004) :
    Calls Try.prog 55 #[.string t] w fun e w' => e = .returned (unsealedV t) ∧ Below w.heap.size w w' := by
  have d1 : decide ((t.size : Int) - 4 < 0) = false := by simp; omega
  have d2 : decide ((12000 : Int) < (t.size : Int) - 4) = false := by simp; omega
  have hin : (t.extract 0 (t.size - 4)).size ≤ 4000000000000000000 := by rw [ByteArray.size_extract]; omega
  obtain ⟨Y, hY⟩ : ∃ Y, sumL 4294967295 (t.extract 0 (t.size - 4)).data.toList = Y := ⟨_, rfl⟩
  have hY1 : Y < 4294967296 := by rw [← hY]; exact sumL_lt _ (by decide)
  have hSum := fun W => specSumOf_b (t.extract 0 (t.size - 4)) W hin
  have HOK : Hid (Unit → sealOk t = ((t.extract (t.size - 4) t.size).toList == (strOfNums (fourB Y)).toList)) := fun _ => by unfold sealOk innerS; rw [hY]
  rw [hY] at hSum
  clear hY
  obtain ⟨F, hF⟩ : ∃ F, strOfNums (fourB Y) = F := ⟨_, rfl⟩
  have hFour := fun W => l02Four_any Y W hY1
  rw [hF] at hFour HOK
  clear hF hY1
  have cQ1 := fun d os => Calls.regrown_of (w := w) (d := d) (os := os) (hSum (grow (redrawn w d) os))
  have cQ2 := fun d os => Calls.regrown_of (w := w) (d := d) (os := os) (hFour (grow (redrawn w d) os))
  clear hSum hFour
  clear hin
  go_enter Try.func55, Try.ntmps55
  go_wp2
  refine wp_region_quiet_below (by kernel_rfl) (by kernel_rfl) ?_
  iterate 13 (first | go_big_quiet_step (fail) | quiet_step (fail))
  first | go_big_quiet_step (exact cQ1 _ _) | quiet_step (exact cQ1 _ _)
  first | go_big_quiet_step (exact cQ2 _ _) | quiet_step (exact cQ2 _ _)
  repeat (first | go_big_quiet_step (fail) | quiet_step (fail))
  refine wpQuiet_nil ?_
  intro _ hw'
  obtain ⟨⟨dq, osq⟩, hw''⟩ := hw'
  subst hw''
  obtain ⟨c, hc⟩ : ∃ c, ((t.extract (t.size - 4) t.size).toList == F.toList) = c := ⟨_, rfl⟩
  simp only [hc]
  have HC : Hid (Unit → sealOk t = c) := fun _ => (HOK.out ()).trans hc
  clear HOK hc
  cases c
  · go_wp2
    go_ret2
    exact ⟨by rw [unsealedV_no (HC.out ())]; rfl, below_regrown w dq osq⟩
  · go_wp2
    go_ret2
    exact ⟨by rw [unsealedV_yes (HC.out ())]; rfl, below_regrown w dq osq⟩

end Go.Proofs.Ytgaphgejpnepfaa
