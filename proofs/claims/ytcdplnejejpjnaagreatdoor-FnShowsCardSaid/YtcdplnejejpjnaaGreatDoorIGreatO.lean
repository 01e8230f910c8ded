/-
  The walks of the program's GreatAdd, GreatSub and GreatMul.
-/
import Derived.Test.YtcdplnejejpjnaaGreatDoorIFigs
import Derived.Test.YtcdplnejejpjnaaGreatDoorILimbs
import Derived.Test.YtcdplnejejpjnaaGreatDoorIOps
namespace Go.Proofs.YtcdplnejejpjnaaGreatDoor
open Go.RowKit
set_option linter.unusedVariables false

theorem both_false {a b : ByteArray} (h : ¬(figsOk a.data.toList = true ∧ figsOk b.data.toList = true)) : (figsOk a.data.toList && figsOk b.data.toList) = false := by
  rw [Bool.and_eq_false_iff]
  rcases Bool.eq_false_or_eq_true (figsOk a.data.toList) with h1 | h1
  · rcases Bool.eq_false_or_eq_true (figsOk b.data.toList) with h2 | h2
    · exact absurd ⟨h1, h2⟩ h
    · exact .inr h2
  · exact .inl h1

set_option maxHeartbeats 1000000 in
set_option maxRecDepth 100000 in
theorem iGreatAdd (a b : ByteArray) (w : World) (sa : a.size ≤ 1048576) (sb : b.size ≤ 1048576) :
    Calls Tryz.prog 57 #[.string a, .string b] w fun e w' => e = .returned (.tuple #[.string (opS (· + ·) a b), .bool (opB (· + ·) a b)]) ∧ Below w.heap.size w w' := by
  have cO := fun W => bothWalk a b W
  by_cases hok : figsOk a.data.toList = true ∧ figsOk b.data.toList = true
  · have hR : opS (· + ·) a b = greatS (digV a.data.toList + digV b.data.toList) ∧ opB (· + ·) a b = greatB (digV a.data.toList + digV b.data.toList) := by
      unfold opS opB
      rw [if_pos hok, if_pos hok]
      exact ⟨rfl, rfl⟩
    rw [hR.1, hR.2]
    have sa := figsOk_size hok.1
    have sb := figsOk_size hok.2
    have cA := fun W => limbsWalk a W (by omega) (figsOk_figs hok.1)
    have cB := fun W => limbsWalk b W (by omega) (figsOk_figs hok.2)
    rw [hok.1, hok.2] at cO
    obtain ⟨DA, hDA⟩ : ∃ D, digV a.data.toList = D := ⟨_, rfl⟩
    obtain ⟨DB, hDB⟩ : ∃ D, digV b.data.toList = D := ⟨_, rfl⟩
    rw [hDA] at cA ⊢
    rw [hDB] at cB ⊢
    have cF := fun v xs B W h1 h2 h3 h4 => ifRightWalk v xs B (DA + DB) W h1 h2 h3 h4
    obtain ⟨S, hS⟩ : ∃ S, greatS (DA + DB) = S := ⟨_, rfl⟩
    obtain ⟨k, hk⟩ : ∃ k, greatB (DA + DB) = k := ⟨_, rfl⟩
    rw [hS, hk] at cF ⊢
    clear hS hk hDA hDB hR hok
    go_enter Tryz.func57, Tryz.ntmps57
    go_wp2_with fail
    refine (cO _).mono ?_
    rintro e w' ⟨rfl, rfl⟩
    go_wp2_with fail
    refine (cA _).mono ?_
    rintro e w1 ⟨v1, ls, rfl, r1, b1, e1, k1, m1, n1⟩
    go_wp2_with fail
    refine (cB _).mono ?_
    rintro e w2 ⟨v2, ms, rfl, r2, b2, e2, k2, m2, n2⟩
    have hs1 := b1.size
    go_wp2_with fail
    refine (plusWalk v1 v2 ls ms w.heap.size w2 (r1.below b2) (r2.base hs1) k1 k2 (by omega) (by omega)).mono ?_
    rintro e w3 ⟨v3, xs, rfl, r3, b3, e3, k3, n3⟩
    go_wp2_with fail
    refine (cF v3 xs w2.heap.size _ r3 k3 (by omega) (by rw [e3, e1, e2])).mono ?_
    rintro e w4 ⟨rfl, b4⟩
    go_wp2
    go_ret2
    exact ⟨rfl, chain (chain (chain b1 b2) b3) b4⟩
  · have hR : opS (· + ·) a b = ⟨#[]⟩ ∧ opB (· + ·) a b = false := by
      unfold opS opB
      rw [if_neg hok, if_neg hok]
      exact ⟨rfl, rfl⟩
    rw [hR.1, hR.2]
    rw [both_false hok] at cO
    clear hR hok
    go_enter Tryz.func57, Tryz.ntmps57
    go_wp2_with fail
    refine (cO _).mono ?_
    rintro e w' ⟨rfl, rfl⟩
    go_wp2
    go_ret2
    exact ⟨rfl, Below.refl _ _⟩

set_option maxHeartbeats 1000000 in
set_option maxRecDepth 100000 in
theorem iGreatMul (a b : ByteArray) (w : World) (sa : a.size ≤ 1048576) (sb : b.size ≤ 1048576) :
    Calls Tryz.prog 98 #[.string a, .string b] w fun e w' => e = .returned (.tuple #[.string (opS (· * ·) a b), .bool (opB (· * ·) a b)]) ∧ Below w.heap.size w w' := by
  have cO := fun W => bothWalk a b W
  by_cases hok : figsOk a.data.toList = true ∧ figsOk b.data.toList = true
  · have hR : opS (· * ·) a b = greatS (digV a.data.toList * digV b.data.toList) ∧ opB (· * ·) a b = greatB (digV a.data.toList * digV b.data.toList) := by
      unfold opS opB
      rw [if_pos hok, if_pos hok]
      exact ⟨rfl, rfl⟩
    rw [hR.1, hR.2]
    have sa := figsOk_size hok.1
    have sb := figsOk_size hok.2
    have cA := fun W => limbsWalk a W (by omega) (figsOk_figs hok.1)
    have cB := fun W => limbsWalk b W (by omega) (figsOk_figs hok.2)
    rw [hok.1, hok.2] at cO
    obtain ⟨DA, hDA⟩ : ∃ D, digV a.data.toList = D := ⟨_, rfl⟩
    obtain ⟨DB, hDB⟩ : ∃ D, digV b.data.toList = D := ⟨_, rfl⟩
    rw [hDA] at cA ⊢
    rw [hDB] at cB ⊢
    have cF := fun v xs B W h1 h2 h3 h4 => ifRightWalk v xs B (DA * DB) W h1 h2 h3 h4
    obtain ⟨S, hS⟩ : ∃ S, greatS (DA * DB) = S := ⟨_, rfl⟩
    obtain ⟨k, hk⟩ : ∃ k, greatB (DA * DB) = k := ⟨_, rfl⟩
    rw [hS, hk] at cF ⊢
    clear hS hk hDA hDB hR hok
    go_enter Tryz.func98, Tryz.ntmps98
    go_wp2_with fail
    refine (cO _).mono ?_
    rintro e w' ⟨rfl, rfl⟩
    go_wp2_with fail
    refine (cA _).mono ?_
    rintro e w1 ⟨v1, ls, rfl, r1, b1, e1, k1, m1, n1⟩
    go_wp2_with fail
    refine (cB _).mono ?_
    rintro e w2 ⟨v2, ms, rfl, r2, b2, e2, k2, m2, n2⟩
    have hs1 := b1.size
    go_wp2_with fail
    refine (timesWalk v1 v2 ls ms w.heap.size w2 (r1.below b2) (r2.base hs1) k1 k2 (by omega) (by omega)).mono ?_
    rintro e w3 ⟨v3, xs, rfl, r3, b3, e3, k3, n3⟩
    go_wp2_with fail
    refine (cF v3 xs w2.heap.size _ r3 k3 (by omega) (by rw [e3, e1, e2])).mono ?_
    rintro e w4 ⟨rfl, b4⟩
    go_wp2
    go_ret2
    exact ⟨rfl, chain (chain (chain b1 b2) b3) b4⟩
  · have hR : opS (· * ·) a b = ⟨#[]⟩ ∧ opB (· * ·) a b = false := by
      unfold opS opB
      rw [if_neg hok, if_neg hok]
      exact ⟨rfl, rfl⟩
    rw [hR.1, hR.2]
    rw [both_false hok] at cO
    clear hR hok
    go_enter Tryz.func98, Tryz.ntmps98
    go_wp2_with fail
    refine (cO _).mono ?_
    rintro e w' ⟨rfl, rfl⟩
    go_wp2
    go_ret2
    exact ⟨rfl, Below.refl _ _⟩

/-- a difference never has too many figures -/
theorem dec_length_le (n k : Nat) (h : n < 10 ^ k) (hk : 0 < k) : (Lib.decDigits n).length ≤ k := by
  induction k generalizing n with
  | zero => omega
  | succ k ih =>
    by_cases h10 : n < 10
    · rw [dec_small h10]; simp
    · have e : n = 10 * (n / 10) + n % 10 := by omega
      rw [e, dec_more (by omega) (by omega), List.length_append, List.length_singleton]
      rw [Nat.pow_succ] at h
      have := ih (n / 10) (by omega) (by
        rcases Nat.eq_zero_or_pos k with h0 | h0
        · subst h0; simp at h; omega
        · exact h0)
      omega

theorem sub_length {l : List UInt8} (h : figsOk l = true) (d : Nat) : (Lib.decDigits (digV l - d)).length ≤ 800 := by
  have h1 := digV_lt (figsOk_figs h)
  unfold figsOk at h
  simp only [Bool.and_eq_true, decide_eq_true_eq] at h
  exact Nat.le_trans (dec_length_le _ l.length (Nat.lt_of_le_of_lt (Nat.sub_le _ _) h1) (by omega)) h.1.1.2

end Go.Proofs.YtcdplnejejpjnaaGreatDoor
