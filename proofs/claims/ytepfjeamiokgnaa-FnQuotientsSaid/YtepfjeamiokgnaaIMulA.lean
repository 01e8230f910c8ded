/-
  The walks of the program's own Mul, Div and Rem.
-/
import Derived.Test.YtepfjeamiokgnaaIMulF
import Derived.Test.YtepfjeamiokgnaaIRest
import Derived.Test.YtepfjeamiokgnaaIOrder
namespace Go.Proofs.Ytepfjeamiokgnaa
open Go.RowKit Go.Sort
set_option linter.unusedVariables false

/-- kinds, by the bits without the sign -/
theorem size_kinds {x : Nat} {p : Int} (hp : (x : Int) % 9223372036854775808 = p) : (kindN x = 1 ∧ 9218868437227405312 < p) ∨ (kindN x = 2 ∧ p = 9218868437227405312) ∨ (kindN x = 3 ∧ p = 0) ∨ (kindN x = 4 ∧ 0 < p ∧ p < 9218868437227405312) := by
  rcases Nat.lt_trichotomy 9218868437227405312 (x % 9223372036854775808) with h | h | h
  · exact .inl ⟨kind_nan h, by omega⟩
  · exact .inr (.inl ⟨kind_inf h.symm, by omega⟩)
  · by_cases h0 : x % 9223372036854775808 = 0
    · exact .inr (.inr (.inl ⟨kind_zero h0, by omega⟩))
    · exact .inr (.inr (.inr ⟨kind_fin h h0, by omega, by omega⟩))

structure MulCases (a b R : Nat) (g l : Int) (u : Bool) : Prop where
  nan : 9218868437227405312 < g → R = 9221120237041090560
  none : g = 9218868437227405312 → l = 0 → R = 9221120237041090560
  inf : g = 9218868437227405312 → l ≠ 0 → R = signN u 9218868437227405312
  zero : g < 9218868437227405312 → l = 0 → R = signN u 0
  fin : g < 9218868437227405312 → l ≠ 0 → kindN a = 4 ∧ kindN b = 4 ∧ R = signN u (roundN (mantN a * mantN b) (expN a + expN b) false)

theorem mulN_cases {a b : Nat} {p q g l : Int} {u : Bool} (hp : (a : Int) % 9223372036854775808 = p) (hq : (b : Int) % 9223372036854775808 = q) (hg : max p q = g) (hl : min p q = l)
    (hu : (decide (9223372036854775808 ≤ a) != decide (9223372036854775808 ≤ b)) = u) : MulCases a b (mulN a b) g l u := by
  have x1 := size_kinds hp
  have x2 := size_kinds hq
  have ra : kindN a ≠ 1 → belowN a = decide (9223372036854775808 ≤ a) := belowN_of
  have rb : kindN b ≠ 1 → belowN b = decide (9223372036854775808 ≤ b) := belowN_of
  clear hp hq
  unfold mulN
  rcases x1 with ⟨k1, x1⟩ | ⟨k1, x1⟩ | ⟨k1, x1⟩ | ⟨k1, x1⟩
  · refine ⟨fun _ => ?_, fun h => ?_, fun h => ?_, fun h => ?_, fun h => ?_⟩
    · simp [mulP, k1]
    · exfalso; omega
    · exfalso; omega
    · exfalso; omega
    · exfalso; omega
  all_goals
    rw [ra (by omega)]
    clear ra
    rcases x2 with ⟨k2, x2⟩ | ⟨k2, x2⟩ | ⟨k2, x2⟩ | ⟨k2, x2⟩
    · refine ⟨fun _ => ?_, fun h => ?_, fun h => ?_, fun h => ?_, fun h => ?_⟩
      · simp [mulP, k2]
      · exfalso; omega
      · exfalso; omega
      · exfalso; omega
      · exfalso; omega
    all_goals
      rw [rb (by omega)]
      unfold mulP
      rw [hu, k1, k2]
      refine ⟨fun h => ?_, fun h h2 => ?_, fun h h2 => ?_, fun h h2 => ?_, fun h h2 => ?_⟩
      all_goals first | (exfalso; omega) | (simp; done) | exact ⟨k1, k2, by simp⟩

set_option maxHeartbeats 1000000 in
set_option maxRecDepth 100000 in
theorem iMul (a b : Nat) (w : World) (ha : a < 18446744073709551616) (hb : b < 18446744073709551616) :
    Calls Try.prog 9 #[.int .u64 a, .int .u64 b] w fun e w' => e = .returned (.int .u64 (mulN a b : Nat)) ∧ Below w.heap.size w w' := by
  have cA := fun W => iBelow a W
  have cB := fun W => iBelow b W
  have cX := fun W => iSize a W
  have cY := fun W => iSize b W
  obtain ⟨p, hp⟩ : ∃ p : Int, (a : Int) % 9223372036854775808 = p := ⟨_, rfl⟩
  obtain ⟨q, hq⟩ : ∃ p : Int, (b : Int) % 9223372036854775808 = p := ⟨_, rfl⟩
  rw [hp] at cX
  rw [hq] at cY
  obtain ⟨g, hg⟩ : ∃ g : Int, max p q = g := ⟨_, rfl⟩
  obtain ⟨l, hl⟩ : ∃ l : Int, min p q = l := ⟨_, rfl⟩
  obtain ⟨u, hu⟩ : ∃ u, (decide (9223372036854775808 ≤ a) != decide (9223372036854775808 ≤ b)) = u := ⟨_, rfl⟩
  have hC := mulN_cases hp hq hg hl hu
  have HC : Hid (Unit → MulCases a b (mulN a b) g l u) := fun _ => hC
  have hF : kindN a = 4 → kindN b = 4 → ∀ W, _ := fun k1 k2 W => iFinProduct a b W ha hb k1 k2
  obtain ⟨s, hs⟩ : ∃ p, decide (9223372036854775808 ≤ a) = p := ⟨_, rfl⟩
  obtain ⟨t, ht⟩ : ∃ p, decide (9223372036854775808 ≤ b) = p := ⟨_, rfl⟩
  rw [hs] at cA hu
  rw [ht] at cB hu
  have hu2 : (!(s == t)) = u := hu
  obtain ⟨R, hR⟩ : ∃ R, mulN a b = R := ⟨_, rfl⟩
  rw [hR] at HC ⊢
  have HF : Hid (Unit → kindN a = 4 → kindN b = 4 → ∀ W : World, Calls Try.prog 29 #[.int .u64 a, .int .u64 b] W fun e w' => e = .returned (.int .u64 (roundN (mantN a * mantN b) (expN a + expN b) false : Nat)) ∧ Below W.heap.size W w') := fun _ => hF
  have HL : Hid (Unit → 0 ≤ l) := fun _ => by omega
  clear hC hF hs ht hu hR hp hq ha hb
  go_enter Try.func9, Try.ntmps9
  go_wp2_with fail
  refine (cA _).mono ?_
  rintro e w' ⟨rfl, rfl⟩
  go_wp2_with fail
  refine (cB _).mono ?_
  rintro e w' ⟨rfl, rfl⟩
  go_wp2_with fail
  refine (cX _).mono ?_
  rintro e w' ⟨rfl, rfl⟩
  go_wp2_with fail
  refine (cY _).mono ?_
  rintro e w' ⟨rfl, rfl⟩
  go_wp2_with fail
  refine (cX _).mono ?_
  rintro e w' ⟨rfl, rfl⟩
  go_wp2_with fail
  refine (cY _).mono ?_
  rintro e w' ⟨rfl, rfl⟩
  clear cA cB cX cY
  by_cases h1 : 9218868437227405312 < g
  · have HR : Hid (Unit → R = 9221120237041090560) := fun _ => (HC.out ()).nan h1
    clear HC HF HL
    go_wp2
    go_ret
    exact ⟨by rw [HR.out ()]; rfl, Below.refl _ _⟩
  · have d1 : decide (9218868437227405312 < g) = false := by simp; omega
    by_cases h2 : g = 9218868437227405312
    · by_cases h3 : l = 0
      · have HR : Hid (Unit → R = 9221120237041090560) := fun _ => (HC.out ()).none h2 h3
        clear HC HF HL h1 d1
        subst h2 h3
        go_wp2
        go_ret
        exact ⟨by rw [HR.out ()]; rfl, Below.refl _ _⟩
      · have d3 : (l == 0) = false := by rw [beq_eq_false_iff_ne]; exact h3
        have HR : Hid (Unit → R = signN u 9218868437227405312) := fun _ => (HC.out ()).inf h2 h3
        have cS : ∀ W, Calls Try.prog 28 #[.int .u64 9218868437227405312, .bool u] W fun e w' => e = .returned (.int .u64 (R : Nat)) ∧ W = w' := fun W => by
          rw [HR.out ()]
          exact iSigned 9218868437227405312 u W (by decide)
        clear HC HF HL h1 d1 h3 HR
        subst h2
        go_wp2_with (go_at_call 28; refine (cS _).mono ?_; rintro e w' ⟨rfl, rfl⟩)
        go_ret
        exact ⟨rfl, Below.refl _ _⟩
    · have d2 : (g == 9218868437227405312) = false := by rw [beq_eq_false_iff_ne]; exact h2
      by_cases h3 : l = 0
      · have HR : Hid (Unit → R = signN u 0) := fun _ => (HC.out ()).zero (by omega) h3
        have cS : ∀ W, Calls Try.prog 28 #[.int .u64 0, .bool u] W fun e w' => e = .returned (.int .u64 (R : Nat)) ∧ W = w' := fun W => by
          rw [HR.out ()]
          exact iSigned 0 u W (by decide)
        clear HC HF HL h1 HR h2
        subst h3
        go_wp2_with (go_at_call 28; refine (cS _).mono ?_; rintro e w' ⟨rfl, rfl⟩)
        go_ret
        exact ⟨rfl, Below.refl _ _⟩
      · have d3 : (l == 0) = false := by rw [beq_eq_false_iff_ne]; exact h3
        obtain ⟨k1, k2, hR⟩ := (HC.out ()).fin (by omega) h3
        have cF := HF.out () k1 k2
        have hle := roundN_le (mantN a * mantN b) (expN a + expN b) false
        obtain ⟨Q, hQ⟩ : ∃ Q, roundN (mantN a * mantN b) (expN a + expN b) false = Q := ⟨_, rfl⟩
        rw [hQ] at cF hR hle
        have cS : ∀ W, Calls Try.prog 28 #[.int .u64 Q, .bool u] W fun e w' => e = .returned (.int .u64 (R : Nat)) ∧ W = w' := fun W => by
          rw [hR]
          exact iSigned Q u W hle
        clear HC HF HL h1 h2 h3 k1 k2 hR hle hQ
        go_wp2_with fail
        refine (cF _).mono ?_
        rintro e w2 ⟨rfl, hb2⟩
        go_wp2_with (go_at_call 28; refine (cS _).mono ?_; rintro e w' ⟨rfl, rfl⟩)
        go_ret
        exact ⟨rfl, hb2⟩

theorem top_quo (m n : Nat) (e : Int) : quoN m n e ≤ 9218868437227405312 := roundN_le _ _ _
theorem top_rest (m : Nat) (e : Int) (n : Nat) (f : Int) : restN m e n f ≤ 9218868437227405312 := roundN_le _ _ _

set_option maxHeartbeats 2000000 in
set_option maxRecDepth 100000 in
theorem iDiv (a b : Nat) (w : World) (ha : a < 18446744073709551616) (hb : b < 18446744073709551616) :
    Calls Try.prog 14 #[.int .u64 a, .int .u64 b] w fun e w' => e = .returned (.int .u64 (divN a b : Nat)) ∧ Below w.heap.size w w' := by
  have cA := fun W => iBelow a W
  have cB := fun W => iBelow b W
  have cK := fun W => iKind a W
  have cL := fun W => iKind b W
  have cW := fun W => iCompares a b W
  have HF : Hid (Unit → kindN a = 4 → kindN b = 4 → ∀ W : World, Calls Try.prog 37 #[.int .u64 a, .int .u64 b] W fun e w' => e = .returned (.int .u64 (quoN (mantN a) (mantN b) (expN a - expN b) : Nat)) ∧ Below W.heap.size W w') := fun _ k1 k2 W => iFinQuotient a b W ha hb k1 k2
  have ra : kindN a ≠ 1 → belowN a = decide (9223372036854775808 ≤ a) := belowN_of
  have rb : kindN b ≠ 1 → belowN b = decide (9223372036854775808 ≤ b) := belowN_of
  obtain ⟨s, hs⟩ : ∃ p, decide (9223372036854775808 ≤ a) = p := ⟨_, rfl⟩
  obtain ⟨t, ht⟩ : ∃ p, decide (9223372036854775808 ≤ b) = p := ⟨_, rfl⟩
  rw [hs] at cA ra
  rw [ht] at cB rb
  obtain ⟨u, hu⟩ : ∃ u, (!(s == t)) = u := ⟨_, rfl⟩
  have hu2 : (s != t) = u := hu
  have HD : Hid (Unit → divN a b = divP (kindN a) (kindN b) (belowN a) (belowN b) (mantN a) (mantN b) (expN a) (expN b)) := fun _ => rfl
  have HRA : Hid (Unit → kindN a ≠ 1 → belowN a = s) := fun _ => ra
  have HRB : Hid (Unit → kindN b ≠ 1 → belowN b = t) := fun _ => rb
  obtain ⟨R, hR⟩ : ∃ R, divN a b = R := ⟨_, rfl⟩
  rw [hR] at HD ⊢
  obtain ⟨k1, h1⟩ : ∃ k, kindN a = k := ⟨_, rfl⟩
  obtain ⟨k2, h2⟩ : ∃ k, kindN b = k := ⟨_, rfl⟩
  obtain ⟨c, hc⟩ : ∃ c, decide (kindN a ≠ 1 ∧ kindN b ≠ 1) = c := ⟨_, rfl⟩
  rw [hc] at cW
  rw [h1] at cK HD HRA hc HF
  rw [h2] at cL HD HRB hc HF
  have HC : Hid (Unit → decide (k1 ≠ 1 ∧ k2 ≠ 1) = c) := fun _ => hc
  have K1 : Hid (Unit → k1 = 1 ∨ k1 = 2 ∨ k1 = 3 ∨ k1 = 4) := fun _ => by rw [← h1]; exact kindN_cases a
  have K2 : Hid (Unit → k2 = 1 ∨ k2 = 2 ∨ k2 = 3 ∨ k2 = 4) := fun _ => by rw [← h2]; exact kindN_cases b
  clear hs ht hR ra rb ha hb h1 h2 hc
  have HU : Hid (Unit → (s != t) = u) := fun _ => hu2
  clear hu2
  go_enter Try.func14, Try.ntmps14
  go_wp2_with fail
  refine (cA _).mono ?_
  rintro e w' ⟨rfl, rfl⟩
  go_wp2_with fail
  refine (cB _).mono ?_
  rintro e w' ⟨rfl, rfl⟩
  go_wp2_with fail
  refine (cK _).mono ?_
  rintro e w' ⟨rfl, rfl⟩
  go_wp2_with fail
  refine (cL _).mono ?_
  rintro e w' ⟨rfl, rfl⟩
  go_wp2_with fail
  refine (cW _).mono ?_
  rintro e w' ⟨rfl, rfl⟩
  clear cA cB cK cL cW hu
  have hk1 := K1.out ()
  have hk2 := K2.out ()
  clear K1 K2
  have hc := HC.out ()
  clear HC
  rcases hk1 with rfl | rfl | rfl | rfl
  · rcases hk2 with rfl | rfl | rfl | rfl
    · have HR : Hid (Unit → R = 9221120237041090560) := fun _ => by rw [HD.out ()]; simp [divP]
      obtain rfl : false = c := by rw [← hc]; decide
      clear hc HD HRA HRB HF HU
      go_wp2
      go_ret
      exact ⟨by rw [HR.out ()]; rfl, Below.refl _ _⟩
    · have HR : Hid (Unit → R = 9221120237041090560) := fun _ => by rw [HD.out ()]; simp [divP]
      obtain rfl : false = c := by rw [← hc]; decide
      clear hc HD HRA HRB HF HU
      go_wp2
      go_ret
      exact ⟨by rw [HR.out ()]; rfl, Below.refl _ _⟩
    · have HR : Hid (Unit → R = 9221120237041090560) := fun _ => by rw [HD.out ()]; simp [divP]
      obtain rfl : false = c := by rw [← hc]; decide
      clear hc HD HRA HRB HF HU
      go_wp2
      go_ret
      exact ⟨by rw [HR.out ()]; rfl, Below.refl _ _⟩
    · have HR : Hid (Unit → R = 9221120237041090560) := fun _ => by rw [HD.out ()]; simp [divP]
      obtain rfl : false = c := by rw [← hc]; decide
      clear hc HD HRA HRB HF HU
      go_wp2
      go_ret
      exact ⟨by rw [HR.out ()]; rfl, Below.refl _ _⟩
  · rcases hk2 with rfl | rfl | rfl | rfl
    · have HR : Hid (Unit → R = 9221120237041090560) := fun _ => by rw [HD.out ()]; simp [divP]
      obtain rfl : false = c := by rw [← hc]; decide
      clear hc HD HRA HRB HF HU
      go_wp2
      go_ret
      exact ⟨by rw [HR.out ()]; rfl, Below.refl _ _⟩
    · have HR : Hid (Unit → R = 9221120237041090560) := fun _ => by rw [HD.out ()]; simp [divP]
      obtain rfl : true = c := by rw [← hc]; decide
      clear hc HD HRA HRB HF HU
      go_wp2
      go_ret
      exact ⟨by rw [HR.out ()]; rfl, Below.refl _ _⟩
    · have hR : R = signN u 9218868437227405312 := by rw [HD.out (), HRA.out () (by decide), HRB.out () (by decide)]; unfold divP; rw [HU.out ()]; simp
      have cS : ∀ W, Calls Try.prog 28 #[.int .u64 9218868437227405312, .bool u] W fun e w' => e = .returned (.int .u64 (R : Nat)) ∧ W = w' := fun W => by
        rw [hR]
        exact iSigned 9218868437227405312 u W (by decide)
      obtain rfl : true = c := by rw [← hc]; decide
      clear hc HD HRA HRB HF HU hR
      go_wp2_with (go_at_call 28; refine (cS _).mono ?_; rintro e w' ⟨rfl, rfl⟩)
      go_ret
      exact ⟨rfl, Below.refl _ _⟩
    · have hR : R = signN u 9218868437227405312 := by rw [HD.out (), HRA.out () (by decide), HRB.out () (by decide)]; unfold divP; rw [HU.out ()]; simp
      have cS : ∀ W, Calls Try.prog 28 #[.int .u64 9218868437227405312, .bool u] W fun e w' => e = .returned (.int .u64 (R : Nat)) ∧ W = w' := fun W => by
        rw [hR]
        exact iSigned 9218868437227405312 u W (by decide)
      obtain rfl : true = c := by rw [← hc]; decide
      clear hc HD HRA HRB HF HU hR
      go_wp2_with (go_at_call 28; refine (cS _).mono ?_; rintro e w' ⟨rfl, rfl⟩)
      go_ret
      exact ⟨rfl, Below.refl _ _⟩
  · rcases hk2 with rfl | rfl | rfl | rfl
    · have HR : Hid (Unit → R = 9221120237041090560) := fun _ => by rw [HD.out ()]; simp [divP]
      obtain rfl : false = c := by rw [← hc]; decide
      clear hc HD HRA HRB HF HU
      go_wp2
      go_ret
      exact ⟨by rw [HR.out ()]; rfl, Below.refl _ _⟩
    · have hR : R = signN u 0 := by rw [HD.out (), HRA.out () (by decide), HRB.out () (by decide)]; unfold divP; rw [HU.out ()]; simp
      have cS : ∀ W, Calls Try.prog 28 #[.int .u64 0, .bool u] W fun e w' => e = .returned (.int .u64 (R : Nat)) ∧ W = w' := fun W => by
        rw [hR]
        exact iSigned 0 u W (by decide)
      obtain rfl : true = c := by rw [← hc]; decide
      clear hc HD HRA HRB HF HU hR
      go_wp2_with (go_at_call 28; refine (cS _).mono ?_; rintro e w' ⟨rfl, rfl⟩)
      go_ret
      exact ⟨rfl, Below.refl _ _⟩
    · have HR : Hid (Unit → R = 9221120237041090560) := fun _ => by rw [HD.out ()]; simp [divP]
      obtain rfl : true = c := by rw [← hc]; decide
      clear hc HD HRA HRB HF HU
      go_wp2
      go_ret
      exact ⟨by rw [HR.out ()]; rfl, Below.refl _ _⟩
    · have hR : R = signN u 0 := by rw [HD.out (), HRA.out () (by decide), HRB.out () (by decide)]; unfold divP; rw [HU.out ()]; simp
      have cS : ∀ W, Calls Try.prog 28 #[.int .u64 0, .bool u] W fun e w' => e = .returned (.int .u64 (R : Nat)) ∧ W = w' := fun W => by
        rw [hR]
        exact iSigned 0 u W (by decide)
      obtain rfl : true = c := by rw [← hc]; decide
      clear hc HD HRA HRB HF HU hR
      go_wp2_with (go_at_call 28; refine (cS _).mono ?_; rintro e w' ⟨rfl, rfl⟩)
      go_ret
      exact ⟨rfl, Below.refl _ _⟩
  · rcases hk2 with rfl | rfl | rfl | rfl
    · have HR : Hid (Unit → R = 9221120237041090560) := fun _ => by rw [HD.out ()]; simp [divP]
      obtain rfl : false = c := by rw [← hc]; decide
      clear hc HD HRA HRB HF HU
      go_wp2
      go_ret
      exact ⟨by rw [HR.out ()]; rfl, Below.refl _ _⟩
    · have hR : R = signN u 0 := by rw [HD.out (), HRA.out () (by decide), HRB.out () (by decide)]; unfold divP; rw [HU.out ()]; simp
      have cS : ∀ W, Calls Try.prog 28 #[.int .u64 0, .bool u] W fun e w' => e = .returned (.int .u64 (R : Nat)) ∧ W = w' := fun W => by
        rw [hR]
        exact iSigned 0 u W (by decide)
      obtain rfl : true = c := by rw [← hc]; decide
      clear hc HD HRA HRB HF HU hR
      go_wp2_with (go_at_call 28; refine (cS _).mono ?_; rintro e w' ⟨rfl, rfl⟩)
      go_ret
      exact ⟨rfl, Below.refl _ _⟩
    · have hR : R = signN u 9218868437227405312 := by rw [HD.out (), HRA.out () (by decide), HRB.out () (by decide)]; unfold divP; rw [HU.out ()]; simp
      have cS : ∀ W, Calls Try.prog 28 #[.int .u64 9218868437227405312, .bool u] W fun e w' => e = .returned (.int .u64 (R : Nat)) ∧ W = w' := fun W => by
        rw [hR]
        exact iSigned 9218868437227405312 u W (by decide)
      obtain rfl : true = c := by rw [← hc]; decide
      clear hc HD HRA HRB HF HU hR
      go_wp2_with (go_at_call 28; refine (cS _).mono ?_; rintro e w' ⟨rfl, rfl⟩)
      go_ret
      exact ⟨rfl, Below.refl _ _⟩
    · have hR : R = signN u (quoN (mantN a) (mantN b) (expN a - expN b)) := by rw [HD.out (), HRA.out () (by decide), HRB.out () (by decide)]; unfold divP; rw [HU.out ()]; simp
      have cF := HF.out () rfl rfl
      have hle := top_quo (mantN a) (mantN b) (expN a - expN b)
      obtain ⟨Q, hQ⟩ : ∃ Q, quoN (mantN a) (mantN b) (expN a - expN b) = Q := ⟨_, rfl⟩
      rw [hQ] at cF hR hle
      have cS : ∀ W, Calls Try.prog 28 #[.int .u64 Q, .bool u] W fun e w' => e = .returned (.int .u64 (R : Nat)) ∧ W = w' := fun W => by
        rw [hR]
        exact iSigned Q u W hle
      obtain rfl : true = c := by rw [← hc]; decide
      clear hc HD HRA HRB HF HU hR hle hQ
      go_wp2_with fail
      refine (cF _).mono ?_
      rintro e w2 ⟨rfl, hb2⟩
      go_wp2_with (go_at_call 28; refine (cS _).mono ?_; rintro e w' ⟨rfl, rfl⟩)
      go_ret
      exact ⟨rfl, hb2⟩

set_option maxHeartbeats 2000000 in
set_option maxRecDepth 100000 in
theorem iRem (a b : Nat) (w : World) (ha : a < 18446744073709551616) (hb : b < 18446744073709551616) :
    Calls Try.prog 17 #[.int .u64 a, .int .u64 b] w fun e w' => e = .returned (.int .u64 (remN a b : Nat)) ∧ Below w.heap.size w w' := by
  have cA := fun W => iBelow a W
  have cK := fun W => iKind a W
  have cL := fun W => iKind b W
  have cW := fun W => iCompares a b W
  have HF : Hid (Unit → kindN a = 4 → kindN b = 4 → ∀ W : World, Calls Try.prog 40 #[.int .u64 a, .int .u64 b] W fun e w' => e = .returned (.int .u64 (restN (mantN a) (expN a) (mantN b) (expN b) : Nat)) ∧ W = w') := fun _ k1 k2 W => iFinRest a b W ha hb k1 k2
  have ra : kindN a ≠ 1 → belowN a = decide (9223372036854775808 ≤ a) := belowN_of
  obtain ⟨s, hs⟩ : ∃ p, decide (9223372036854775808 ≤ a) = p := ⟨_, rfl⟩
  rw [hs] at cA ra
  have HD : Hid (Unit → remN a b = remP a (kindN a) (kindN b) (belowN a) (mantN a) (mantN b) (expN a) (expN b)) := fun _ => rfl
  have HRA : Hid (Unit → kindN a ≠ 1 → belowN a = s) := fun _ => ra
  obtain ⟨R, hR⟩ : ∃ R, remN a b = R := ⟨_, rfl⟩
  rw [hR] at HD ⊢
  obtain ⟨k1, h1⟩ : ∃ k, kindN a = k := ⟨_, rfl⟩
  obtain ⟨k2, h2⟩ : ∃ k, kindN b = k := ⟨_, rfl⟩
  obtain ⟨c, hc⟩ : ∃ c, decide (kindN a ≠ 1 ∧ kindN b ≠ 1) = c := ⟨_, rfl⟩
  rw [hc] at cW
  rw [h1] at cK HD HRA hc HF
  rw [h2] at cL HD hc HF
  have HC : Hid (Unit → decide (k1 ≠ 1 ∧ k2 ≠ 1) = c) := fun _ => hc
  have K1 : Hid (Unit → k1 = 1 ∨ k1 = 2 ∨ k1 = 3 ∨ k1 = 4) := fun _ => by rw [← h1]; exact kindN_cases a
  have K2 : Hid (Unit → k2 = 1 ∨ k2 = 2 ∨ k2 = 3 ∨ k2 = 4) := fun _ => by rw [← h2]; exact kindN_cases b
  clear hs hR ra ha hb h1 h2 hc
  go_enter Try.func17, Try.ntmps17
  go_wp2_with fail
  refine (cK _).mono ?_
  rintro e w' ⟨rfl, rfl⟩
  go_wp2_with fail
  refine (cL _).mono ?_
  rintro e w' ⟨rfl, rfl⟩
  go_wp2_with fail
  refine (cW _).mono ?_
  rintro e w' ⟨rfl, rfl⟩
  clear cK cL cW
  have hk1 := K1.out ()
  have hk2 := K2.out ()
  clear K1 K2
  have hc := HC.out ()
  clear HC
  rcases hk1 with rfl | rfl | rfl | rfl
  · rcases hk2 with rfl | rfl | rfl | rfl
    · have HR : Hid (Unit → R = 9221120237041090560) := fun _ => by rw [HD.out ()]; simp [remP]
      obtain rfl : false = c := by rw [← hc]; decide
      clear hc HD HRA HF cA
      go_wp2
      go_ret
      exact ⟨by rw [HR.out ()]; rfl, Below.refl _ _⟩
    · have HR : Hid (Unit → R = 9221120237041090560) := fun _ => by rw [HD.out ()]; simp [remP]
      obtain rfl : false = c := by rw [← hc]; decide
      clear hc HD HRA HF cA
      go_wp2
      go_ret
      exact ⟨by rw [HR.out ()]; rfl, Below.refl _ _⟩
    · have HR : Hid (Unit → R = 9221120237041090560) := fun _ => by rw [HD.out ()]; simp [remP]
      obtain rfl : false = c := by rw [← hc]; decide
      clear hc HD HRA HF cA
      go_wp2
      go_ret
      exact ⟨by rw [HR.out ()]; rfl, Below.refl _ _⟩
    · have HR : Hid (Unit → R = 9221120237041090560) := fun _ => by rw [HD.out ()]; simp [remP]
      obtain rfl : false = c := by rw [← hc]; decide
      clear hc HD HRA HF cA
      go_wp2
      go_ret
      exact ⟨by rw [HR.out ()]; rfl, Below.refl _ _⟩
  · rcases hk2 with rfl | rfl | rfl | rfl
    · have HR : Hid (Unit → R = 9221120237041090560) := fun _ => by rw [HD.out ()]; simp [remP]
      obtain rfl : false = c := by rw [← hc]; decide
      clear hc HD HRA HF cA
      go_wp2
      go_ret
      exact ⟨by rw [HR.out ()]; rfl, Below.refl _ _⟩
    · have HR : Hid (Unit → R = 9221120237041090560) := fun _ => by rw [HD.out ()]; simp [remP]
      obtain rfl : true = c := by rw [← hc]; decide
      clear hc HD HRA HF cA
      go_wp2
      go_ret
      exact ⟨by rw [HR.out ()]; rfl, Below.refl _ _⟩
    · have HR : Hid (Unit → R = 9221120237041090560) := fun _ => by rw [HD.out ()]; simp [remP]
      obtain rfl : true = c := by rw [← hc]; decide
      clear hc HD HRA HF cA
      go_wp2
      go_ret
      exact ⟨by rw [HR.out ()]; rfl, Below.refl _ _⟩
    · have HR : Hid (Unit → R = 9221120237041090560) := fun _ => by rw [HD.out ()]; simp [remP]
      obtain rfl : true = c := by rw [← hc]; decide
      clear hc HD HRA HF cA
      go_wp2
      go_ret
      exact ⟨by rw [HR.out ()]; rfl, Below.refl _ _⟩
  · rcases hk2 with rfl | rfl | rfl | rfl
    · have HR : Hid (Unit → R = 9221120237041090560) := fun _ => by rw [HD.out ()]; simp [remP]
      obtain rfl : false = c := by rw [← hc]; decide
      clear hc HD HRA HF cA
      go_wp2
      go_ret
      exact ⟨by rw [HR.out ()]; rfl, Below.refl _ _⟩
    · have HR : Hid (Unit → R = a) := fun _ => by rw [HD.out ()]; simp [remP]
      obtain rfl : true = c := by rw [← hc]; decide
      clear hc HD HRA HF cA
      go_wp2
      go_ret
      exact ⟨by rw [HR.out ()]; rfl, Below.refl _ _⟩
    · have HR : Hid (Unit → R = 9221120237041090560) := fun _ => by rw [HD.out ()]; simp [remP]
      obtain rfl : true = c := by rw [← hc]; decide
      clear hc HD HRA HF cA
      go_wp2
      go_ret
      exact ⟨by rw [HR.out ()]; rfl, Below.refl _ _⟩
    · have HR : Hid (Unit → R = a) := fun _ => by rw [HD.out ()]; simp [remP]
      obtain rfl : true = c := by rw [← hc]; decide
      clear hc HD HRA HF cA
      go_wp2
      go_ret
      exact ⟨by rw [HR.out ()]; rfl, Below.refl _ _⟩
  · rcases hk2 with rfl | rfl | rfl | rfl
    · have HR : Hid (Unit → R = 9221120237041090560) := fun _ => by rw [HD.out ()]; simp [remP]
      obtain rfl : false = c := by rw [← hc]; decide
      clear hc HD HRA HF cA
      go_wp2
      go_ret
      exact ⟨by rw [HR.out ()]; rfl, Below.refl _ _⟩
    · have HR : Hid (Unit → R = a) := fun _ => by rw [HD.out ()]; simp [remP]
      obtain rfl : true = c := by rw [← hc]; decide
      clear hc HD HRA HF cA
      go_wp2
      go_ret
      exact ⟨by rw [HR.out ()]; rfl, Below.refl _ _⟩
    · have HR : Hid (Unit → R = 9221120237041090560) := fun _ => by rw [HD.out ()]; simp [remP]
      obtain rfl : true = c := by rw [← hc]; decide
      clear hc HD HRA HF cA
      go_wp2
      go_ret
      exact ⟨by rw [HR.out ()]; rfl, Below.refl _ _⟩
    · have hR : R = signN s (restN (mantN a) (expN a) (mantN b) (expN b)) := by rw [HD.out (), HRA.out () (by decide)]; simp [remP]
      have cF := HF.out () rfl rfl
      have hle := top_rest (mantN a) (expN a) (mantN b) (expN b)
      obtain ⟨Q, hQ⟩ : ∃ Q, restN (mantN a) (expN a) (mantN b) (expN b) = Q := ⟨_, rfl⟩
      rw [hQ] at cF hR hle
      have cS : ∀ W, Calls Try.prog 28 #[.int .u64 Q, .bool s] W fun e w' => e = .returned (.int .u64 (R : Nat)) ∧ W = w' := fun W => by
        rw [hR]
        exact iSigned Q s W hle
      obtain rfl : true = c := by rw [← hc]; decide
      clear hc HD HRA HF hR hle hQ
      go_wp2_with fail
      refine (cF _).mono ?_
      rintro e w2 ⟨rfl, rfl⟩
      go_wp2_with fail
      refine (cA _).mono ?_
      rintro e w2 ⟨rfl, rfl⟩
      go_wp2_with (go_at_call 28; refine (cS _).mono ?_; rintro e w' ⟨rfl, rfl⟩)
      go_ret
      exact ⟨rfl, Below.refl _ _⟩

end Go.Proofs.Ytepfjeamiokgnaa
