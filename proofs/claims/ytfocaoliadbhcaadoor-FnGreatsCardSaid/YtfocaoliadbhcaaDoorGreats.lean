/-
  The walks of the specification's GreatAdd, GreatMul and GreatPower.
-/
import Derived.Test.YtfocaoliadbhcaaDoorLimbPow
namespace Go.Proofs.YtfocaoliadbhcaaDoor
open Go.RowKit
set_option linter.unusedVariables false

/-- a great number as it is answered: its figures, and whether they are not too many -/
def greatS (n : Nat) : ByteArray := if (Lib.decDigits n).length ≤ 800 then txt (Lib.decDigits n) else ⟨#[]⟩
def greatB (n : Nat) : Bool := decide ((Lib.decDigits n).length ≤ 800)
/-- what is answered of two texts: the text, and whether there is one -/
def opS (f : Nat → Nat → Nat) (a b : ByteArray) : ByteArray := if figsOk a.data.toList = true ∧ figsOk b.data.toList = true then greatS (f (digV a.data.toList) (digV b.data.toList)) else ⟨#[]⟩
def opB (f : Nat → Nat → Nat) (a b : ByteArray) : Bool := if figsOk a.data.toList = true ∧ figsOk b.data.toList = true then greatB (f (digV a.data.toList) (digV b.data.toList)) else false
def powS (b n : Int) : ByteArray := if 2 ≤ b ∧ b ≤ 10 ∧ 0 ≤ n ∧ n ≤ 1100 then greatS (b.toNat ^ n.toNat) else ⟨#[]⟩
def powB (b n : Int) : Bool := if 2 ≤ b ∧ b ≤ 10 ∧ 0 ≤ n ∧ n ≤ 1100 then greatB (b.toNat ^ n.toNat) else false

theorem fits_any (n : Nat) (w : World) : Calls Tryd.prog 29 #[.string (txt (Lib.decDigits n))] w fun e w' => e = .returned (.tuple #[.string (greatS n), .bool (greatB n)]) ∧ w = w' := by
  have h := l06Fits_any (txt (Lib.decDigits n)) w
  rw [txt_size] at h
  exact h

theorem figsOk_size {s : ByteArray} (h : figsOk s.data.toList = true) : s.size ≤ 800 := by
  unfold figsOk at h
  simp only [Bool.and_eq_true, decide_eq_true_eq] at h
  rw [← size_list]; exact h.1.1.2

set_option maxHeartbeats 1000000 in
set_option maxRecDepth 100000 in
theorem specGreatAdd_any (a b : ByteArray) (w : World) :
    Calls Tryd.prog 10 #[.string a, .string b] w fun e w' => e = .returned (.tuple #[.string (opS (· + ·) a b), .bool (opB (· + ·) a b)]) ∧ Below w.heap.size w w' := by
  have cA := fun W => specFiguresOk_any a W
  have cB := fun W => specFiguresOk_any b W
  by_cases ha : figsOk a.data.toList = true
  · by_cases hb : figsOk b.data.toList = true
    · have hR : opS (· + ·) a b = greatS (digV a.data.toList + digV b.data.toList) ∧ opB (· + ·) a b = greatB (digV a.data.toList + digV b.data.toList) := by
        unfold opS opB
        rw [if_pos ⟨ha, hb⟩, if_pos ⟨ha, hb⟩]
        exact ⟨rfl, rfl⟩
      rw [hR.1, hR.2]
      have sa := figsOk_size ha
      have sb := figsOk_size hb
      have HFa : Hid (Figs a.data.toList) := figsOk_figs ha
      have HFb : Hid (Figs b.data.toList) := figsOk_figs hb
      rw [ha] at cA
      rw [hb] at cB
      have HN0 : Hid (∃ N, digV a.data.toList + digV b.data.toList = N) := ⟨_, rfl⟩
      obtain ⟨N, hN⟩ := HN0.out
      have HN : Hid (digV a.data.toList + digV b.data.toList = N) := hN
      rw [hN]
      have cF := fun W => fits_any N W
      obtain ⟨S, hS⟩ : ∃ S, greatS N = S := ⟨_, rfl⟩
      obtain ⟨k, hk⟩ : ∃ k, greatB N = k := ⟨_, rfl⟩
      rw [hS, hk] at cF ⊢
      clear hS hk hN HN0 hR ha hb
      go_enter Tryd.func10, Tryd.ntmps10
      go_wp2_with fail
      refine (cA _).mono ?_
      rintro e w' ⟨rfl, rfl⟩
      go_wp2_with fail
      refine (cB _).mono ?_
      rintro e w' ⟨rfl, rfl⟩
      go_wp2_with fail
      refine (l06Limbs_any a _ (by omega) HFa.out).mono ?_
      rintro e w1 ⟨v1, xs, rfl, r1, b1, e1, k1, n1⟩
      go_wp2_with fail
      refine (l06Limbs_any b _ (by omega) HFb.out).mono ?_
      rintro e w2 ⟨v2, ys, rfl, r2, b2, e2, k2, n2⟩
      go_wp2_with fail
      have s1 := b1.size
      refine (l06Add_any _ _ xs ys w.heap.size _ (r1.below b2) (r2.base s1) k1 k2 (by omega) (by omega)).mono ?_
      rintro e w3 ⟨v3, zs, rfl, r3, b3, e3, k3, n3⟩
      go_wp2_with fail
      have hv : limbV zs = digV a.data.toList + digV b.data.toList := by rw [e3, e1, e2]
      have cT := fun W (hW : Row W w2.heap.size v3 zs) => l06Text_any v3 zs w2.heap.size W hW k3 (by omega)
      rw [hv] at cT
      have bb := chain (chain b1 b2) b3
      clear e1 e2 e3 k1 k2 k3 r1 r2 hv
      rw [HN.out] at cT
      refine (cT _ r3).mono ?_
      rintro e w4 ⟨rfl, b4⟩
      clear cT r3
      go_wp2_with fail
      refine (cF _).mono ?_
      rintro e w' ⟨rfl, rfl⟩
      go_wp2
      go_ret2
      exact ⟨rfl, chain bb b4⟩
    · have hR : opS (· + ·) a b = ⟨#[]⟩ ∧ opB (· + ·) a b = false := by
        unfold opS opB
        rw [if_neg (fun h => hb h.2), if_neg (fun h => hb h.2)]
        exact ⟨rfl, rfl⟩
      have hb' : figsOk b.data.toList = false := by simpa using hb
      rw [hR.1, hR.2]
      rw [ha] at cA
      rw [hb'] at cB
      clear hR ha hb hb'
      go_enter Tryd.func10, Tryd.ntmps10
      go_wp2_with fail
      refine (cA _).mono ?_
      rintro e w' ⟨rfl, rfl⟩
      go_wp2_with fail
      refine (cB _).mono ?_
      rintro e w' ⟨rfl, rfl⟩
      go_wp2
      go_ret2
      exact ⟨rfl, Below.refl _ _⟩
  · have hR : opS (· + ·) a b = ⟨#[]⟩ ∧ opB (· + ·) a b = false := by
      unfold opS opB
      rw [if_neg (fun h => ha h.1), if_neg (fun h => ha h.1)]
      exact ⟨rfl, rfl⟩
    have ha' : figsOk a.data.toList = false := by simpa using ha
    rw [hR.1, hR.2]
    rw [ha'] at cA
    clear hR ha ha'
    go_enter Tryd.func10, Tryd.ntmps10
    go_wp2_with fail
    refine (cA _).mono ?_
    rintro e w' ⟨rfl, rfl⟩
    go_wp2
    go_ret2
    exact ⟨rfl, Below.refl _ _⟩

set_option maxHeartbeats 1000000 in
set_option maxRecDepth 100000 in
theorem specGreatMul_any (a b : ByteArray) (w : World) :
    Calls Tryd.prog 14 #[.string a, .string b] w fun e w' => e = .returned (.tuple #[.string (opS (· * ·) a b), .bool (opB (· * ·) a b)]) ∧ Below w.heap.size w w' := by
  have cA := fun W => specFiguresOk_any a W
  have cB := fun W => specFiguresOk_any b W
  by_cases ha : figsOk a.data.toList = true
  · by_cases hb : figsOk b.data.toList = true
    · have hR : opS (· * ·) a b = greatS (digV a.data.toList * digV b.data.toList) ∧ opB (· * ·) a b = greatB (digV a.data.toList * digV b.data.toList) := by
        unfold opS opB
        rw [if_pos ⟨ha, hb⟩, if_pos ⟨ha, hb⟩]
        exact ⟨rfl, rfl⟩
      rw [hR.1, hR.2]
      have sa := figsOk_size ha
      have sb := figsOk_size hb
      have HFa : Hid (Figs a.data.toList) := figsOk_figs ha
      have HFb : Hid (Figs b.data.toList) := figsOk_figs hb
      rw [ha] at cA
      rw [hb] at cB
      have HN0 : Hid (∃ N, digV a.data.toList * digV b.data.toList = N) := ⟨_, rfl⟩
      obtain ⟨N, hN⟩ := HN0.out
      have HN : Hid (digV a.data.toList * digV b.data.toList = N) := hN
      rw [hN]
      have cF := fun W => fits_any N W
      obtain ⟨S, hS⟩ : ∃ S, greatS N = S := ⟨_, rfl⟩
      obtain ⟨k, hk⟩ : ∃ k, greatB N = k := ⟨_, rfl⟩
      rw [hS, hk] at cF ⊢
      clear hS hk hN HN0 hR ha hb
      go_enter Tryd.func14, Tryd.ntmps14
      go_wp2_with fail
      refine (cA _).mono ?_
      rintro e w' ⟨rfl, rfl⟩
      go_wp2_with fail
      refine (cB _).mono ?_
      rintro e w' ⟨rfl, rfl⟩
      go_wp2_with fail
      refine (l06Limbs_any a _ (by omega) HFa.out).mono ?_
      rintro e w1 ⟨v1, xs, rfl, r1, b1, e1, k1, n1⟩
      go_wp2_with fail
      refine (l06Limbs_any b _ (by omega) HFb.out).mono ?_
      rintro e w2 ⟨v2, ys, rfl, r2, b2, e2, k2, n2⟩
      go_wp2_with fail
      have s1 := b1.size
      refine (l06Mul_any _ _ xs ys w.heap.size _ (r1.below b2) (r2.base s1) k1 k2 (by omega) (by omega)).mono ?_
      rintro e w3 ⟨v3, zs, rfl, r3, b3, e3, k3, n3⟩
      go_wp2_with fail
      have hv : limbV zs = digV a.data.toList * digV b.data.toList := by rw [e3, e1, e2]
      have cT := fun W (hW : Row W w2.heap.size v3 zs) => l06Text_any v3 zs w2.heap.size W hW k3 (by omega)
      rw [hv] at cT
      have bb := chain (chain b1 b2) b3
      clear e1 e2 e3 k1 k2 k3 r1 r2 hv
      rw [HN.out] at cT
      refine (cT _ r3).mono ?_
      rintro e w4 ⟨rfl, b4⟩
      clear cT r3
      go_wp2_with fail
      refine (cF _).mono ?_
      rintro e w' ⟨rfl, rfl⟩
      go_wp2
      go_ret2
      exact ⟨rfl, chain bb b4⟩
    · have hR : opS (· * ·) a b = ⟨#[]⟩ ∧ opB (· * ·) a b = false := by
        unfold opS opB
        rw [if_neg (fun h => hb h.2), if_neg (fun h => hb h.2)]
        exact ⟨rfl, rfl⟩
      have hb' : figsOk b.data.toList = false := by simpa using hb
      rw [hR.1, hR.2]
      rw [ha] at cA
      rw [hb'] at cB
      clear hR ha hb hb'
      go_enter Tryd.func14, Tryd.ntmps14
      go_wp2_with fail
      refine (cA _).mono ?_
      rintro e w' ⟨rfl, rfl⟩
      go_wp2_with fail
      refine (cB _).mono ?_
      rintro e w' ⟨rfl, rfl⟩
      go_wp2
      go_ret2
      exact ⟨rfl, Below.refl _ _⟩
  · have hR : opS (· * ·) a b = ⟨#[]⟩ ∧ opB (· * ·) a b = false := by
      unfold opS opB
      rw [if_neg (fun h => ha h.1), if_neg (fun h => ha h.1)]
      exact ⟨rfl, rfl⟩
    have ha' : figsOk a.data.toList = false := by simpa using ha
    rw [hR.1, hR.2]
    rw [ha'] at cA
    clear hR ha ha'
    go_enter Tryd.func14, Tryd.ntmps14
    go_wp2_with fail
    refine (cA _).mono ?_
    rintro e w' ⟨rfl, rfl⟩
    go_wp2
    go_ret2
    exact ⟨rfl, Below.refl _ _⟩

set_option maxHeartbeats 1000000 in
set_option maxRecDepth 100000 in
theorem specGreatPower_any (b n : Int) (w : World) (hb0 : -9223372036854775808 ≤ b) (hb1 : b ≤ 9223372036854775807) (hn0 : -9223372036854775808 ≤ n) (hn1 : n ≤ 9223372036854775807) :
    Calls Tryd.prog 16 #[.int .i64 b, .int .i64 n] w fun e w' => e = .returned (.tuple #[.string (powS b n), .bool (powB b n)]) ∧ Below w.heap.size w w' := by
  have cA := fun W => l01In_any b 2 10 W
  have cB := fun W => l01In_any n 0 1100 W
  by_cases ha : 2 ≤ b ∧ b ≤ 10
  · rw [decide_eq_true ha.1, decide_eq_true ha.2] at cA
    by_cases hb : 0 ≤ n ∧ n ≤ 1100
    · rw [decide_eq_true hb.1, decide_eq_true hb.2] at cB
      obtain ⟨c, hc⟩ : ∃ c : Nat, b = c := ⟨b.toNat, by omega⟩
      obtain ⟨m, hm⟩ : ∃ m : Nat, n = m := ⟨n.toNat, by omega⟩
      subst hc hm
      have hR : powS c m = greatS (c ^ m) ∧ powB c m = greatB (c ^ m) := by
        unfold powS powB
        rw [if_pos ⟨ha.1, ha.2, hb.1, hb.2⟩, if_pos ⟨ha.1, ha.2, hb.1, hb.2⟩]
        exact ⟨rfl, rfl⟩
      rw [hR.1, hR.2]
      have cP := fun W => l06Power_any c m W (by omega) (by omega)
      obtain ⟨N, hN⟩ : ∃ N, c ^ m = N := ⟨_, rfl⟩
      rw [hN] at cP ⊢
      have cF := fun W => fits_any N W
      obtain ⟨S, hS⟩ : ∃ S, greatS N = S := ⟨_, rfl⟩
      obtain ⟨k, hk⟩ : ∃ k, greatB N = k := ⟨_, rfl⟩
      rw [hS, hk] at cF ⊢
      clear hS hk hN hR ha hb hb0 hb1 hn0 hn1
      go_enter Tryd.func16, Tryd.ntmps16
      go_wp2_with fail
      refine (cA _).mono ?_
      rintro e w' ⟨rfl, rfl⟩
      go_wp2_with fail
      refine (cB _).mono ?_
      rintro e w' ⟨rfl, rfl⟩
      go_wp2_with fail
      refine (cP _).mono ?_
      rintro e w1 ⟨v1, xs, rfl, r1, b1, e1, k1, n1, n2⟩
      go_wp2_with fail
      have cT := fun W (hW : Row W w.heap.size v1 xs) => l06Text_any v1 xs w.heap.size W hW k1 (by omega)
      rw [e1] at cT
      refine (cT _ r1).mono ?_
      rintro e w4 ⟨rfl, b4⟩
      clear cT
      clear r1 e1 k1
      go_wp2_with fail
      refine (cF _).mono ?_
      rintro e w' ⟨rfl, rfl⟩
      go_wp2
      go_ret2
      exact ⟨rfl, chain b1 b4⟩
    · have hR : powS b n = ⟨#[]⟩ ∧ powB b n = false := by
        unfold powS powB
        rw [if_neg (by omega), if_neg (by omega)]
        exact ⟨rfl, rfl⟩
      have hb' : (decide (0 ≤ n) && decide (n ≤ 1100)) = false := by rw [Bool.and_eq_false_iff, decide_eq_false_iff_not, decide_eq_false_iff_not]; omega
      rw [hR.1, hR.2]
      rw [hb'] at cB
      clear hR ha hb hb'
      go_enter Tryd.func16, Tryd.ntmps16
      go_wp2_with fail
      refine (cA _).mono ?_
      rintro e w' ⟨rfl, rfl⟩
      go_wp2_with fail
      refine (cB _).mono ?_
      rintro e w' ⟨rfl, rfl⟩
      go_wp2
      go_ret2
      exact ⟨rfl, Below.refl _ _⟩
  · have hR : powS b n = ⟨#[]⟩ ∧ powB b n = false := by
      unfold powS powB
      rw [if_neg (by omega), if_neg (by omega)]
      exact ⟨rfl, rfl⟩
    have ha' : (decide (2 ≤ b) && decide (b ≤ 10)) = false := by rw [Bool.and_eq_false_iff, decide_eq_false_iff_not, decide_eq_false_iff_not]; omega
    rw [hR.1, hR.2]
    rw [ha'] at cA
    clear hR ha ha'
    go_enter Tryd.func16, Tryd.ntmps16
    go_wp2_with fail
    refine (cA _).mono ?_
    rintro e w' ⟨rfl, rfl⟩
    go_wp2
    go_ret2
    exact ⟨rfl, Below.refl _ _⟩

end Go.Proofs.YtfocaoliadbhcaaDoor
