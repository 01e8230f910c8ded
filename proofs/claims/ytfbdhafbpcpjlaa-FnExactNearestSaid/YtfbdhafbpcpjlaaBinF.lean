/-
  The walks of the specification's great numbers out of figures.
-/
import Derived.Test.YtfbdhafbpcpjlaaBinU
namespace Go.Proofs.Ytfbdhafbpcpjlaa
open Go.RowKit
set_option linter.unusedVariables false

/-- noughts alone -/
def zeroB (l : List UInt8) : Bool := l.all fun c => c == 48
theorem zeroB_snoc (l : List UInt8) (c : UInt8) : zeroB (l ++ [c]) = (zeroB l && (c == 48)) := by simp [zeroB]
theorem zeroB_val {l : List UInt8} (h : Figs l) : zeroB l = decide (digV l = 0) := by
  revert h
  refine snocInd (P := fun l => Figs l → zeroB l = decide (digV l = 0)) (fun _ => by rfl) (fun l c ih h => ?_) l
  have hc := h c (by simp)
  rw [zeroB_snoc, ih h.left, digV_snoc, Bool.eq_iff_iff]
  simp only [Bool.and_eq_true, decide_eq_true_eq, beq_iff_eq]
  constructor
  · rintro ⟨h1, h2⟩
    subst h2
    rw [h1]
    rfl
  · intro h1
    refine ⟨by omega, ?_⟩
    have : c.toNat = 48 := by omega
    exact UInt8.toNat_inj.mp (by rw [this]; rfl)

set_option maxHeartbeats 1000000 in
set_option maxRecDepth 100000 in
theorem l07Zero_any (s : ByteArray) (w : World) (ls : s.size ≤ 1048576) :
    Calls Try.prog 26 #[.string s] w fun e w' => e = .returned (.bool (zeroB s.data.toList)) ∧ w = w' := by
  obtain ⟨R, hR⟩ : ∃ R, zeroB s.data.toList = R := ⟨_, rfl⟩
  rw [hR]
  have HR : Hid (Unit → zeroB s.data.toList = R) := fun _ => hR
  clear hR
  go_enter Try.func26, Try.ntmps26
  go_wp2_with fail
  go_loop [3] (fun x => ∃ k : Nat, x = .int .i64 k ∧ k ≤ s.size ∧ Hid (zeroB (s.data.toList.take k) = true)) (fun x => s.size - (intOf x).toNat)
  case atStart => exact ⟨0, rfl, Nat.zero_le _, by rfl⟩
  case round =>
    obtain ⟨k, rfl, hk, HI⟩ := hrel
    by_cases hlt : k < s.size
    · have HT := take_snoc s k hlt
      obtain ⟨c, hc⟩ : ∃ c : Nat, (s[k]).toNat = c := ⟨_, rfl⟩
      by_cases hz : c = 48
      · have HN : Hid (zeroB (s.data.toList.take (k + 1)) = true) := by
          show zeroB _ = true
          rw [HT, zeroB_snoc, HI.out, Bool.true_and, beq_iff_eq]
          exact UInt8.toNat_inj.mp (by rw [hc, hz]; rfl)
        clear HI HT
        subst hz
        go_wp2
        go_round
        case rel => exact ⟨k + 1, by go_num, by omega, HN⟩
        case measure => simp [intOf]; omega
      · have HZ : Hid (Unit → R = false) := fun _ => by
          rw [← HR.out (), ← List.take_append_drop (k + 1) s.data.toList, HT]
          unfold zeroB
          rw [List.all_append, List.all_append]
          have : (s[k] == 48) = false := by
            rw [beq_eq_false_iff_ne]
            intro h
            rw [h] at hc
            exact hz (hc.symm.trans rfl)
          simp [this]
        have dz : ((c : Int) == 48) = false := by rw [beq_eq_false_iff_ne]; omega
        clear HI HT
        go_wp2
        go_ret
        exact ⟨by rw [HZ.out ()]; rfl, rfl⟩
    · have hke : k = s.size := by omega
      subst hke
      have HZ : Hid (Unit → R = true) := fun _ => by
        rw [← HR.out ()]
        have := HI.out
        rw [take_all] at this
        exact this
      clear HI
      go_wp2
      go_ret
      exact ⟨by rw [HZ.out ()]; rfl, rfl⟩

set_option maxHeartbeats 2000000 in
set_option maxRecDepth 100000 in
theorem l07Bin_any (s : ByteArray) (w : World) (hs : Figs s.data.toList) (ls : s.size ≤ 800) :
    Calls Try.prog 27 #[.string s] w fun e w' => ∃ (v : Value) (xs : List Nat), e = .returned v ∧ RowW w' w.heap.size v xs ∧ Below w.heap.size w w' ∧ binV xs = digV s.data.toList ∧ BinOk xs ∧ xs.length ≤ s.size := by
  have HF : Hid (Figs s.data.toList) := hs
  clear hs
  go_enter Try.func27, Try.ntmps27
  go_upto_region 3 with fail
  go_loopw [3, 4] (fun v x wr => ∃ (k : Nat) (xs : List Nat), x = .int .i64 k ∧ k ≤ s.size ∧ RowW wr w.heap.size v xs ∧ Below w.heap.size w wr ∧ Hid (binV xs = digV (s.data.toList.take k) ∧ BinOk xs ∧ xs.length ≤ k)) (fun _ x _ => s.size - (intOf x).toNat)
  case atStart => exact ⟨0, [], rfl, Nat.zero_le _, World.ownsRow_made w #[] 0 (Nat.le_refl _) (Nat.zero_le _) rfl, (Below.refl _ _).alloc (Nat.le_refl _) _, ⟨by rfl, binOk_nil, by simp⟩⟩
  case round =>
    obtain ⟨k, xs, rfl, hk, hrow, hbel, HI⟩ := hrel
    have hsz := hbel.size
    by_cases hlt : k < s.size
    · have HT : Hid _ := take_snoc s k hlt
      obtain ⟨c, hc⟩ : ∃ c : Nat, (s[k]).toNat = c := ⟨_, rfl⟩
      have hc1 : 48 ≤ c ∧ c ≤ 57 := by
        rw [← hc]
        exact HF.out _ (by rw [← List.take_append_drop (k + 1) s.data.toList, take_snoc s k hlt]; simp)
      obtain ⟨d, hd⟩ : ∃ d : Nat, (c : Int) - 48 = d := ⟨c - 48, by omega⟩
      have hc2 : (48 : Int) ≤ c := by omega
      have hc3 : (c : Int) ≤ 57 := by omega
      have cM := l07MulAdd_any _ xs 10 d w.heap.size wr hrow HI.out.2.1 (by decide) (by omega) (by have := HI.out.2.2; omega)
      have HD : Hid (Unit → ∀ ys, binV ys = binV xs * 10 + d → ys.length ≤ xs.length + 1 → binV ys = digV (s.data.toList.take (k + 1)) ∧ ys.length ≤ k + 1) := fun _ ys h1 h2 => by
        have h3 := HI.out.1
        have h4 := HI.out.2.2
        refine ⟨?_, by omega⟩
        rw [HT.out, digV_snoc, hc, h1, h3]
        omega
      clear HI HT hc1
      go_wp2_with fail
      refine cM.mono ?_
      rintro e w2 ⟨v', ys, rfl, hrow2, hb2, h1, h2, h3⟩
      obtain ⟨d1, d2⟩ := HD.out () ys h1 h3
      have HN : Hid (binV ys = digV (s.data.toList.take (k + 1)) ∧ BinOk ys ∧ ys.length ≤ k + 1) := ⟨d1, h2, d2⟩
      have hrow3 := hrow2.base hsz
      have hbel3 := chain hbel hb2
      clear HD h1 h2 h3 d1 d2 cM hrow2 hb2 hrow
      go_wp2
      go_roundw
      case rel => exact ⟨k + 1, ys, by go_num, by omega, hrow3, hbel3, HN⟩
      case measure => simp [intOf]; omega
    · have hke : k = s.size := by omega
      subst hke
      have HN : Hid (binV xs = digV s.data.toList ∧ BinOk xs ∧ xs.length ≤ s.size) := by
        have := HI.out
        rw [take_all] at this
        exact this
      clear HI
      go_wp2
      go_ret
      exact ⟨_, xs, rfl, hrow, hbel, HN.out.1, HN.out.2.1, HN.out.2.2⟩

end Go.Proofs.Ytfbdhafbpcpjlaa
