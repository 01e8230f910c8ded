/-
  The walk of the program's own Unsealed.
-/
import Derived.Test.YtcdnmacnnbcfhabISums
import Derived.Test.YtcdnmacnnbcfhabUnseal
import Derived.Test.YtcdnmacnnbcfhabShelf
namespace Go.Proofs.Ytcdnmacnnbcfhab
open Go.RowKit Go.Sort
set_option linter.unusedVariables false

set_option maxHeartbeats 1000000 in
set_option maxRecDepth 100000 in
theorem iUnsealed_out (t : ByteArray) (w : World) (h : t.size < 4 ∨ 12004 < t.size) (hm : t.size ≤ 1048576) :
    Calls Try.prog 12 #[.string t] w fun e w' => e = .returned (.tuple #[.string ⟨#[]⟩, .bool false]) ∧ Below w.heap.size w w' := by
  rcases h with h | h
  · have h1 : (t.size : Int) - 4 < 0 := by omega
    go_enter Try.func12, Try.ntmps12
    go_wp2
    go_ret2
    exact ⟨rfl, Below.refl _ _⟩
  · have h1 : decide ((t.size : Int) - 4 < 0) = false := by simp; omega
    have h2 : (12000 : Int) < (t.size : Int) - 4 := by omega
    go_enter Try.func12, Try.ntmps12
    go_wp2
    go_ret2
    exact ⟨rfl, Below.refl _ _⟩

theorem iClone (t : ByteArray) (w : World) (ht : t.size ≤ 281474976710656) :
    Calls Try.prog 26 #[.string t] w fun e w' => e = .returned (.string t) ∧ Below w.heap.size w w' := by
  go_enter Try.func26, Try.ntmps26
  go_wp2_with (go_at_call 34; refine (Try.stringslite_Clone t _ ht).mono ?_; rintro e w' ⟨rfl, hb⟩)
  go_ret
  exact ⟨rfl, hb⟩

theorem text_eq_comm (a b : ByteArray) : (a.toList == b.toList) = (b.toList == a.toList) := by
  rw [Bool.eq_iff_iff]
  simp only [beq_iff_eq]
  exact eq_comm

set_option maxHeartbeats 2000000 in
set_option maxRecDepth 100000 in
theorem iUnsealed_in (t : ByteArray) (w : World) (h1 : 4 ≤ t.size) (h2 : t.size ≤ 12004) :
    Calls Try.prog 12 #[.string t] w fun e w' => e = .returned (unsealedV t) ∧ Below w.heap.size w w' := by
  have d1 : decide ((t.size : Int) - 4 < 0) = false := by simp; omega
  have d2 : decide ((12000 : Int) < (t.size : Int) - 4) = false := by simp; omega
  have hin : (t.extract 0 (t.size - 4)).size ≤ 1048576 := by rw [ByteArray.size_extract]; omega
  obtain ⟨Y, hY⟩ : ∃ Y, sumL 4294967295 (t.extract 0 (t.size - 4)).data.toList = Y := ⟨_, rfl⟩
  have hY1 : Y < 4294967296 := by rw [← hY]; exact sumL_lt _ (by decide)
  have hSum := fun W => iSumOf (t.extract 0 (t.size - 4)) W hin
  have hClone := fun W => iClone (t.extract 0 (t.size - 4)) W (by omega)
  have HOK : Hid (Unit → sealOk t = ((strOfNums (fourB Y)).toList == (t.extract (t.size - 4) t.size).toList)) := fun _ => by unfold sealOk innerS; rw [hY, text_eq_comm]
  rw [hY] at hSum
  clear hY
  obtain ⟨F, hF⟩ : ∃ F, strOfNums (fourB Y) = F := ⟨_, rfl⟩
  have hFour := fun W => iInBytes Y W hY1
  rw [hF] at hFour HOK
  clear hF hY1
  have cQ1 := fun d os => Calls.regrown_of (w := w) (d := d) (os := os) (hSum (grow (redrawn w d) os))
  have cQ2 := fun d os => Calls.regrown_of (w := w) (d := d) (os := os) (hFour (grow (redrawn w d) os))
  clear hSum hFour
  clear hin
  go_enter Try.func12, Try.ntmps12
  go_wp2
  refine wp_region_quiet_below (by kernel_rfl) (by kernel_rfl) ?_
  repeat (first | go_big_quiet_step (first | exact cQ1 _ _ | exact cQ2 _ _) | quiet_step (first | exact cQ1 _ _ | exact cQ2 _ _))
  refine wpQuiet_nil ?_
  intro _ hw'
  obtain ⟨⟨dq, osq⟩, hw''⟩ := hw'
  subst hw''
  obtain ⟨c, hc⟩ : ∃ c, (F.toList == (t.extract (t.size - 4) t.size).toList) = c := ⟨_, rfl⟩
  simp only [hc]
  have HC : Hid (Unit → sealOk t = c) := fun _ => (HOK.out ()).trans hc
  clear HOK hc
  cases c
  · go_wp2
    go_ret2
    exact ⟨by rw [unsealedV_no (HC.out ())]; rfl, below_regrown w dq osq⟩
  · go_wp2_with (go_at_call 26; refine (hClone _).mono ?_; rintro e w' ⟨rfl, hb⟩)
    go_ret2
    exact ⟨by rw [unsealedV_yes (HC.out ())]; rfl, chain (below_regrown w dq osq) hb⟩

end Go.Proofs.Ytcdnmacnnbcfhab
