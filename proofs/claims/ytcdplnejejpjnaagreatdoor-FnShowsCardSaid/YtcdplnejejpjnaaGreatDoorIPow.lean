/-
  The walks of the program's Decimal of small numbers and of GreatPower.
-/
import Derived.Test.YtcdplnejejpjnaaGreatDoorIGreatO
namespace Go.Proofs.YtcdplnejejpjnaaGreatDoor
open Go.RowKit
set_option linter.unusedVariables false

theorem dec_mono : ∀ (m n : Nat), m ≤ n → (Lib.decDigits m).length ≤ (Lib.decDigits n).length := by
  intro m
  induction m using Nat.strongRecOn with
  | ind m ih =>
    intro n h
    by_cases hm : m < 10
    · rw [dec_small hm]
      exact List.length_pos_iff.2 (digV_dec n).2.2
    · have e1 : m = 10 * (m / 10) + m % 10 := by omega
      have e2 : n = 10 * (n / 10) + n % 10 := by omega
      have k := ih (m / 10) (by omega) (n / 10) (by omega)
      rw [e1, e2, dec_more (by omega) (by omega), dec_more (by omega) (by omega), List.length_append, List.length_append]
      simp only [List.length_singleton]
      omega

theorem greatS_size (n : Nat) : (greatS n).size ≤ 800 := by
  unfold greatS
  split
  · rw [txt_size]; assumption
  · exact Nat.zero_le _
theorem greatS_yes {n : Nat} (h : (Lib.decDigits n).length ≤ 800) : greatS n = txt (Lib.decDigits n) ∧ greatB n = true := by
  unfold greatS greatB
  rw [if_pos h, decide_eq_true h]
  exact ⟨rfl, rfl⟩
theorem greatS_no {n : Nat} (h : ¬(Lib.decDigits n).length ≤ 800) : greatS n = ⟨#[]⟩ ∧ greatB n = false := by
  unfold greatS greatB
  rw [if_neg h, decide_eq_false h]
  exact ⟨rfl, rfl⟩

/-- a product of what is answered of great numbers -/
theorem op_great {X Y : Nat} (hx : 0 < X) (hy : 0 < Y) : opS (· * ·) (greatS X) (greatS Y) = greatS (X * Y) ∧ opB (· * ·) (greatS X) (greatS Y) = greatB (X * Y) := by
  have hnil : figsOk (⟨#[]⟩ : ByteArray).data.toList = false := rfl
  by_cases h1 : (Lib.decDigits X).length ≤ 800
  · by_cases h2 : (Lib.decDigits Y).length ≤ 800
    · rw [(greatS_yes h1).1, (greatS_yes h2).1]
      unfold opS opB
      rw [txt_data, txt_data, if_pos ⟨dec_ok X h1, dec_ok Y h2⟩, if_pos ⟨dec_ok X h1, dec_ok Y h2⟩, (digV_dec X).1, (digV_dec Y).1]
      exact ⟨rfl, rfl⟩
    · have h3 : ¬(Lib.decDigits (X * Y)).length ≤ 800 := fun h => h2 (Nat.le_trans (dec_mono Y (X * Y) (Nat.le_mul_of_pos_left Y hx)) h)
      rw [(greatS_no h2).1, (greatS_no h3).1, (greatS_no h3).2]
      unfold opS opB
      rw [if_neg (fun h => by rw [hnil] at h; exact absurd h.2 (by decide)), if_neg (fun h => by rw [hnil] at h; exact absurd h.2 (by decide))]
      exact ⟨rfl, rfl⟩
  · have h3 : ¬(Lib.decDigits (X * Y)).length ≤ 800 := fun h => h1 (Nat.le_trans (dec_mono X (X * Y) (Nat.le_mul_of_pos_right X hy)) h)
    rw [(greatS_no h1).1, (greatS_no h3).1, (greatS_no h3).2]
    unfold opS opB
    rw [if_neg (fun h => by rw [hnil] at h; exact absurd h.1 (by decide)), if_neg (fun h => by rw [hnil] at h; exact absurd h.1 (by decide))]
    exact ⟨rfl, rfl⟩

theorem mulGreat (X Y : Nat) (hx : 0 < X) (hy : 0 < Y) (w : World) :
    Calls Tryz.prog 98 #[.string (greatS X), .string (greatS Y)] w fun e w' => e = .returned (.tuple #[.string (greatS (X * Y)), .bool (greatB (X * Y))]) ∧ Below w.heap.size w w' := by
  have h := iGreatMul (greatS X) (greatS Y) w (by have := greatS_size X; omega) (by have := greatS_size Y; omega)
  rw [(op_great hx hy).1, (op_great hx hy).2] at h
  exact h

set_option maxHeartbeats 400000 in
set_option maxRecDepth 100000 in
theorem decSmall (b : Nat) (hb : b ≤ 10) (w : World) :
    Calls Tryz.prog 64 #[.int .i64 b] w fun e w' => e = .returned (.string (greatS b)) ∧ w = w' := by
  have c := Tryz.strconv_Itoa_small b (by omega) w
  have e : (⟨(Lib.decDigits b).toArray⟩ : ByteArray) = greatS b := by
    have hl : (Lib.decDigits b).length ≤ 800 := Nat.le_trans (dec_length_le b 2 (by omega) (by decide)) (by decide)
    rw [(greatS_yes hl).1]; rfl
  rw [e] at c
  clear e
  obtain ⟨T, hT⟩ : ∃ T, greatS b = T := ⟨_, rfl⟩
  rw [hT] at c ⊢
  clear hT
  go_enter Tryz.func64, Tryz.ntmps64
  go_wp2_with (go_at_call 106; refine c.mono ?_; rintro e w' ⟨rfl, rfl⟩)
  go_ret
  exact ⟨rfl, rfl⟩

set_option maxHeartbeats 1000000 in
set_option maxRecDepth 100000 in
theorem powWalk (b : Nat) (hb : 2 ≤ b) (hb2 : b ≤ 10) : ∀ (n : Nat), n ≤ 1100 → ∀ w : World,
    Calls Tryz.prog 97 #[.int .i64 b, .int .i64 n] w fun e w' => e = .returned (.tuple #[.string (greatS (b ^ n)), .bool (greatB (b ^ n))]) ∧ Below w.heap.size w w' := by
  intro n
  induction n using Nat.strongRecOn with
  | ind n ih =>
    intro hn w
    have d1 : decide ((b : Int) < 2) = false := by simp; omega
    have d2 : decide ((10 : Int) < b) = false := by simp; omega
    have d3 : decide ((1100 : Int) < n) = false := by simp; omega
    have d4 : decide ((n : Int) < 0) = false := by simp
    have hb' : (2 : Int) ≤ b := by omega
    have hb2' : (b : Int) ≤ 10 := by omega
    have hn' : (n : Int) ≤ 1100 := by omega
    by_cases h0 : n = 0
    · subst h0
      have e : greatS (b ^ 0) = ⟨#[49]⟩ ∧ greatB (b ^ 0) = true := by
        have hl : (Lib.decDigits (b ^ 0)).length ≤ 800 := by rw [Nat.pow_zero, dec_small (by decide)]; simp
        refine ⟨?_, (greatS_yes hl).2⟩
        rw [(greatS_yes hl).1, Nat.pow_zero, dec_small (by decide)]
        rfl
      rw [e.1, e.2]
      clear ih e d4 d3
      go_enter Tryz.func97, Tryz.ntmps97
      go_wp2
      go_ret2
      exact ⟨rfl, Below.refl _ _⟩
    · obtain ⟨j, hj⟩ : ∃ j, n / 2 = j := ⟨_, rfl⟩
      have hz : ((n : Int) == 0) = false := by rw [beq_eq_false_iff_ne]; omega
      have hj' : (n : Int) / 2 = j := by omega
      have c1 := ih j (by omega) (by omega)
      have hp : 0 < b ^ j := Nat.pow_pos (by omega)
      have c2 := mulGreat (b ^ j) (b ^ j) hp hp
      rw [← Nat.pow_add] at c2
      by_cases hr : n % 2 = 1
      · have hr' : (n : Int) % 2 = 1 := by omega
        have c3 := decSmall b hb2
        have c4 := mulGreat (b ^ (j + j)) b (Nat.pow_pos (by omega)) (by omega)
        rw [← Nat.pow_succ, (by omega : (j + j).succ = n)] at c4
        obtain ⟨H, hH⟩ : ∃ H, greatS (b ^ j) = H := ⟨_, rfl⟩
        obtain ⟨P, hP⟩ : ∃ H, greatS (b ^ (j + j)) = H := ⟨_, rfl⟩
        obtain ⟨R, hR⟩ : ∃ H, greatS (b ^ n) = H := ⟨_, rfl⟩
        obtain ⟨D, hD⟩ : ∃ H, greatS b = H := ⟨_, rfl⟩
        obtain ⟨k1, hk1⟩ : ∃ H, greatB (b ^ j) = H := ⟨_, rfl⟩
        obtain ⟨k2, hk2⟩ : ∃ H, greatB (b ^ (j + j)) = H := ⟨_, rfl⟩
        obtain ⟨k3, hk3⟩ : ∃ H, greatB (b ^ n) = H := ⟨_, rfl⟩
        rw [hH, hk1] at c1
        rw [hH, hP, hk2] at c2
        rw [hD] at c3
        rw [hP, hD, hR, hk3] at c4
        rw [hR, hk3]
        clear hH hP hR hD hk1 hk2 hk3 ih hp hj hr
        go_enter Tryz.func97, Tryz.ntmps97
        go_wp2_with fail
        refine (c1 _).mono ?_
        rintro e w1 ⟨rfl, b1⟩
        go_wp2_with fail
        refine (c2 _).mono ?_
        rintro e w2 ⟨rfl, b2⟩
        go_wp2_with fail
        refine (c3 _).mono ?_
        rintro e w3 ⟨rfl, rfl⟩
        go_wp2_with fail
        refine (c4 _).mono ?_
        rintro e w4 ⟨rfl, b4⟩
        go_wp2
        go_ret2
        exact ⟨rfl, chain (chain b1 b2) b4⟩
      · have hr' : (n : Int) % 2 = 0 := by omega
        rw [(by omega : j + j = n)] at c2
        obtain ⟨H, hH⟩ : ∃ H, greatS (b ^ j) = H := ⟨_, rfl⟩
        obtain ⟨R, hR⟩ : ∃ H, greatS (b ^ n) = H := ⟨_, rfl⟩
        obtain ⟨k1, hk1⟩ : ∃ H, greatB (b ^ j) = H := ⟨_, rfl⟩
        obtain ⟨k3, hk3⟩ : ∃ H, greatB (b ^ n) = H := ⟨_, rfl⟩
        rw [hH, hk1] at c1
        rw [hH, hR, hk3] at c2
        rw [hR, hk3]
        clear hH hR hk1 hk3 ih hp hj hr
        go_enter Tryz.func97, Tryz.ntmps97
        go_wp2_with fail
        refine (c1 _).mono ?_
        rintro e w1 ⟨rfl, b1⟩
        go_wp2_with fail
        refine (c2 _).mono ?_
        rintro e w2 ⟨rfl, b2⟩
        go_wp2
        go_ret2
        exact ⟨rfl, chain b1 b2⟩

set_option maxHeartbeats 1000000 in
set_option maxRecDepth 100000 in
theorem iGreatPower (b n : Int) (w : World) (h1 : -9223372036854775808 ≤ b) (h2 : b ≤ 9223372036854775807) (h3 : -9223372036854775808 ≤ n) (h4 : n ≤ 9223372036854775807) :
    Calls Tryz.prog 97 #[.int .i64 b, .int .i64 n] w fun e w' => e = .returned (.tuple #[.string (powS b n), .bool (powB b n)]) ∧ Below w.heap.size w w' := by
  unfold powS powB
  by_cases h : 2 ≤ b ∧ b ≤ 10 ∧ 0 ≤ n ∧ n ≤ 1100
  · rw [if_pos h, if_pos h]
    have c := powWalk b.toNat (by omega) (by omega) n.toNat (by omega) w
    rw [Int.toNat_of_nonneg (by omega), Int.toNat_of_nonneg (by omega)] at c
    exact c
  · rw [if_neg h, if_neg h]
    by_cases g1 : b < 2
    · go_enter Tryz.func97, Tryz.ntmps97
      go_wp2
      go_ret2
      exact ⟨rfl, Below.refl _ _⟩
    · have d1 : decide (b < 2) = false := by simp; omega
      by_cases g2 : 10 < b
      · go_enter Tryz.func97, Tryz.ntmps97
        go_wp2
        go_ret2
        exact ⟨rfl, Below.refl _ _⟩
      · have d2 : decide (10 < b) = false := by simp; omega
        by_cases g3 : n < 0
        · go_enter Tryz.func97, Tryz.ntmps97
          go_wp2
          go_ret2
          exact ⟨rfl, Below.refl _ _⟩
        · have d3 : decide (n < 0) = false := by simp; omega
          have g4 : 1100 < n := by omega
          go_enter Tryz.func97, Tryz.ntmps97
          go_wp2
          go_ret2
          exact ⟨rfl, Below.refl _ _⟩

end Go.Proofs.YtcdplnejejpjnaaGreatDoor
