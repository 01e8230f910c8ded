/-
  The walk of the specification's difference in limbs of 32 bits.
-/
import Derived.Test.YtfbdhafbpcpjlaaBinW
namespace Go.Proofs.Ytfbdhafbpcpjlaa
open Go.RowKit
set_option linter.unusedVariables false

set_option maxHeartbeats 2000000 in
set_option maxRecDepth 100000 in
theorem l07Sub_any (v u : Value) (ls ms : List Nat) (B C : Nat) (w : World) (hA : RowW w B v ls) (hB : RowW w C u ms) (oa : BinOk ls) (ob : BinOk ms) (la : ls.length ≤ 1048576) (lb : ms.length ≤ 1048576) (hle : binV ms ≤ binV ls) :
    Calls Try.prog 55 #[v, u] w fun e w' => ∃ (v' : Value) (xs : List Nat), e = .returned v' ∧ RowW w' w.heap.size v' xs ∧ Below w.heap.size w w' ∧ binV xs = binV ls - binV ms ∧ BinOk xs ∧ xs.length = ls.length := by
  obtain ⟨i0, hi, hz0, hz1, hz2⟩ := info_parts Try.infoWord
  obtain ⟨pa, ca, rfl⟩ := hA.shape
  obtain ⟨pb, cb, rfl⟩ := hB.shape
  have HA : Hid (RowW w B (.slice pa ls.length ca) ls ∧ BinOk ls) := ⟨hA, oa⟩
  have HB : Hid (RowW w C (.slice pb ms.length cb) ms ∧ BinOk ms) := ⟨hB, ob⟩
  have HL : Hid (Unit → binV ms ≤ binV ls) := fun _ => hle
  clear hA hB oa ob hle
  go_enter Try.func55, Try.ntmps55
  go_upto_region 4 with fail
  go_loopw [5, 6, 7] (fun u x y wr => ∃ (i c : Nat) (xs : List Nat), y = .int .i64 i ∧ x = .int .u64 c ∧ i ≤ ls.length ∧ (c : Int) ≤ 1 ∧ wr.ownsRow w.heap.size 24 1 u i (xs.map fun x => Value.int .u64 (x : Nat)) ∧ Below w.heap.size w wr ∧ Hid (BinSubAt ls ms xs i c)) (fun _ _ y _ => ls.length - (intOf y).toNat)
  case atStart => exact ⟨0, 0, [], rfl, rfl, by omega, by omega, World.ownsRow_made w #[] 0 (Nat.le_refl _) (Nat.zero_le _) rfl, (Below.refl _ _).alloc (Nat.le_refl _) _, binSub_start ls ms⟩
  case round =>
    obtain ⟨i, c, xs, rfl, rfl, hil, hc, hown, hbel, HI⟩ := hrel
    have hsz := hbel.size
    by_cases hlt : i < ls.length
    · obtain ⟨ga, rfl, hca⟩ := (HA.out.1.below hbel).at hlt
      have o2 := binOk_at HA.out.2 i
      have o3 := binOk_at HB.out.2 i
      have hil' : (i : Int) < ls.length := by omega
      by_cases hmb : i < ms.length
      · obtain ⟨gb, rfl, hcb⟩ := (HB.out.1.below hbel).at hmb
        have hmb' : (i : Int) < ms.length := by omega
        have HS : Hid (∀ c' z, z < 4294967296 → z + ms.getD i 0 + c = ls.getD i 0 + 4294967296 * c' → BinSubAt ls ms (xs ++ [z]) (i + 1) c') := fun c' z h1 h2 => binSub_step HI.out h1 h2
        obtain ⟨x, hx⟩ : ∃ x, ls.getD i 0 = x := ⟨_, rfl⟩
        obtain ⟨b, hb⟩ : ∃ b, ms.getD i 0 = b := ⟨_, rfl⟩
        rw [hx] at hca o2 HS
        rw [hb] at hcb o3 HS
        obtain ⟨y, hy⟩ : ∃ y, c + b = y := ⟨_, rfl⟩
        have hyv : (c : Int) + b = y := by omega
        have x2 : (x : Int) < 4294967296 := by omega
        have y2 : (y : Int) ≤ 4294967296 := by omega
        have HS : Hid (∀ c' z, z < 4294967296 → z + y = x + 4294967296 * c' → BinSubAt ls ms (xs ++ [z]) (i + 1) c') := fun c' z h1 h2 => HS.out c' z h1 (by omega)
        clear hx hb HI o2 o3 hy
        by_cases hxy : x < y
        · obtain ⟨z, hz⟩ : ∃ z, x + 4294967296 - y = z := ⟨_, rfl⟩
          have hzv : (x : Int) + 4294967296 - y = z := by omega
          have HN : Hid (BinSubAt ls ms (xs ++ [z]) (i + 1) 1) := HS.out 1 z (by omega) (by omega)
          clear HS hz
          go_wp2_with (at_builtin; refine append_one (w0 := w) rfl _ _ 45 rfl w.heap.size 24 i0 (.int .u64 0) 8 Try.underlying45 hi hz0 hz1 hz2 rfl _ _ _ rfl hown (.int .u64 (z : Int)) rfl rfl (by omega) (by decide) hbel hsz ?_)
          intro v' w2 hown' hbel'
          have hrow : w2.ownsRow w.heap.size 24 1 v' (i + 1) ((xs ++ [z]).map fun x => Value.int .u64 (x : Nat)) := by simpa using hown'
          clear hown' hown
          go_wp2
          go_roundw
          case rel => exact ⟨i + 1, 1, xs ++ [z], by go_num, rfl, by omega, by omega, hrow, hbel', HN⟩
          case measure => simp [intOf]; omega
        · have dxy : decide ((x : Int) < y) = false := by simp; omega
          obtain ⟨z, hz⟩ : ∃ z, x - y = z := ⟨_, rfl⟩
          have hzv : (x : Int) - y = z := by omega
          have HN : Hid (BinSubAt ls ms (xs ++ [z]) (i + 1) 0) := HS.out 0 z (by omega) (by omega)
          clear HS hz
          go_wp2_with (at_builtin; refine append_one (w0 := w) rfl _ _ 45 rfl w.heap.size 24 i0 (.int .u64 0) 8 Try.underlying45 hi hz0 hz1 hz2 rfl _ _ _ rfl hown (.int .u64 (z : Int)) rfl rfl (by omega) (by decide) hbel hsz ?_)
          intro v' w2 hown' hbel'
          have hrow : w2.ownsRow w.heap.size 24 1 v' (i + 1) ((xs ++ [z]).map fun x => Value.int .u64 (x : Nat)) := by simpa using hown'
          clear hown' hown
          go_wp2
          go_roundw
          case rel => exact ⟨i + 1, 0, xs ++ [z], by go_num, rfl, by omega, by omega, hrow, hbel', HN⟩
          case measure => simp [intOf]; omega
      · have hmb' : decide (i < ms.length) = false := by simp; omega
        have HS : Hid (∀ c' z, z < 4294967296 → z + c = ls.getD i 0 + 4294967296 * c' → BinSubAt ls ms (xs ++ [z]) (i + 1) c') := fun c' z h1 h2 => binSub_step HI.out h1 (by rw [getD_out (by omega : ms.length ≤ i)]; omega)
        obtain ⟨x, hx⟩ : ∃ x, ls.getD i 0 = x := ⟨_, rfl⟩
        rw [hx] at hca o2 HS
        have x2 : (x : Int) < 4294967296 := by omega
        clear hx HI o2 o3 hmb
        by_cases hxy : x < c
        · obtain ⟨z, hz⟩ : ∃ z, x + 4294967296 - c = z := ⟨_, rfl⟩
          have hzv : (x : Int) + 4294967296 - c = z := by omega
          have HN : Hid (BinSubAt ls ms (xs ++ [z]) (i + 1) 1) := HS.out 1 z (by omega) (by omega)
          clear HS hz
          go_wp2_with (at_builtin; refine append_one (w0 := w) rfl _ _ 45 rfl w.heap.size 24 i0 (.int .u64 0) 8 Try.underlying45 hi hz0 hz1 hz2 rfl _ _ _ rfl hown (.int .u64 (z : Int)) rfl rfl (by omega) (by decide) hbel hsz ?_)
          intro v' w2 hown' hbel'
          have hrow : w2.ownsRow w.heap.size 24 1 v' (i + 1) ((xs ++ [z]).map fun x => Value.int .u64 (x : Nat)) := by simpa using hown'
          clear hown' hown
          go_wp2
          go_roundw
          case rel => exact ⟨i + 1, 1, xs ++ [z], by go_num, rfl, by omega, by omega, hrow, hbel', HN⟩
          case measure => simp [intOf]; omega
        · have dxy : decide ((x : Int) < c) = false := by simp; omega
          obtain ⟨z, hz⟩ : ∃ z, x - c = z := ⟨_, rfl⟩
          have hzv : (x : Int) - c = z := by omega
          have HN : Hid (BinSubAt ls ms (xs ++ [z]) (i + 1) 0) := HS.out 0 z (by omega) (by omega)
          clear HS hz
          go_wp2_with (at_builtin; refine append_one (w0 := w) rfl _ _ 45 rfl w.heap.size 24 i0 (.int .u64 0) 8 Try.underlying45 hi hz0 hz1 hz2 rfl _ _ _ rfl hown (.int .u64 (z : Int)) rfl rfl (by omega) (by decide) hbel hsz ?_)
          intro v' w2 hown' hbel'
          have hrow : w2.ownsRow w.heap.size 24 1 v' (i + 1) ((xs ++ [z]).map fun x => Value.int .u64 (x : Nat)) := by simpa using hown'
          clear hown' hown
          go_wp2
          go_roundw
          case rel => exact ⟨i + 1, 0, xs ++ [z], by go_num, rfl, by omega, by omega, hrow, hbel', HN⟩
          case measure => simp [intOf]; omega
    · have hie : i = ls.length := by omega
      subst hie
      have HE : Hid (binV xs = binV ls - binV ms ∧ BinOk xs ∧ xs.length = ls.length) := ⟨binSub_end HI.out HA.out.2 (HL.out ()), HI.out.ok, HI.out.len⟩
      clear HI
      go_wp2
      go_ret
      refine ⟨_, xs, rfl, ?_, hbel, HE.out.1, HE.out.2.1, HE.out.2.2⟩
      show World.ownsRow _ _ _ _ _ xs.length _
      rw [HE.out.2.2]
      exact hown

end Go.Proofs.Ytfbdhafbpcpjlaa
