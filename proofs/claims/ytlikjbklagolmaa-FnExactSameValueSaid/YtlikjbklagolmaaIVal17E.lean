/-
  The program's own SameValue.
-/
import Derived.Test.YtlikjbklagolmaaIVal17N
import Derived.Test.YtlikjbklagolmaaIVal17V
namespace Go.Proofs.Ytlikjbklagolmaa
open Go.RowKit Go.Sort
set_option linter.unusedVariables false
set_option linter.unusedSimpArgs false

theorem same17 (a b : PVal) : (isNum a && isNum b) = true ∧ valSame a b = equalN (numP a) (numP b) ∨ (isNum a && isNum b) = false ∧ valSame a b = eqP a b := by
  obtain ⟨ak, ax, sa, ra⟩ := a
  obtain ⟨bk, bx, sb, rb⟩ := b
  unfold isNum numP valSame eqP
  by_cases h1 : ak = 2
  · by_cases h2 : bk = 2
    · left
      simp [h1, h2]
    · right
      simp [h1, h2, Ne.symm h2]
  · right
    by_cases h3 : ak = bk
    · subst h3
      simp [h1]
    · simp [h1, h3]

set_option maxHeartbeats 1000000 in
set_option maxRecDepth 100000 in
theorem iSameValue_any (a b : PVal) (w : World) (ha : valW a) (hb : valW b) :
    Calls Try.prog 10 #[.agg #[.int .i64 a.kind, .int .u64 (a.num : Int), .string a.text, .int .i64 a.ref], .agg #[.int .i64 b.kind, .int .u64 (b.num : Int), .string b.text, .int .i64 b.ref]] w fun e w' => e = .returned (.bool (valSame a b)) ∧ Below w.heap.size w w' := by
  have cN := fun W => iNumbersIn a b W
  have hA : numP a < 18446744073709551616 := by
    have := ha.2.1
    unfold N64 at this
    unfold numP
    split <;> omega
  have hB : numP b < 18446744073709551616 := by
    have := hb.2.1
    unfold N64 at this
    unfold numP
    split <;> omega
  have cE := fun W => iEqual (numP a) (numP b) W hA hB
  have hE := fun W => eqFour a b W
  have hs := same17 a b
  clear hA hB ha hb
  obtain ⟨N, hN⟩ : ∃ N, (isNum a && isNum b) = N := ⟨_, rfl⟩
  obtain ⟨F, hF⟩ : ∃ F, valSame a b = F := ⟨_, rfl⟩
  obtain ⟨Q, hQ⟩ : ∃ F, equalN (numP a) (numP b) = F := ⟨_, rfl⟩
  obtain ⟨P, hP⟩ : ∃ F, eqP a b = F := ⟨_, rfl⟩
  obtain ⟨NA, hNA⟩ : ∃ A, numP a = A := ⟨_, rfl⟩
  obtain ⟨NB, hNB⟩ : ∃ B, numP b = B := ⟨_, rfl⟩
  simp only [hN, hF, hQ, hP] at hs
  simp only [hN, hNA, hNB] at cN
  simp only [hQ] at cE
  simp only [hNA, hNB] at cE
  simp only [hP] at hE
  rw [hF]
  clear hN hF hQ hP hNA hNB
  obtain ⟨ak, ax, sa, ra⟩ := a
  obtain ⟨bk, bx, sb, rb⟩ := b
  simp only at cN hE ⊢
  obtain ⟨t0, t1, tz, tb⟩ := two_made w (.cells #[.int .i64 ak, .int .u64 (ax : Int), .string sa, .int .i64 ra] 27) (.cells #[.int .i64 bk, .int .u64 (bx : Int), .string sb, .int .i64 rb] 27)
  obtain ⟨W2, hW2⟩ : ∃ W, ((w.alloc (.cells #[.int .i64 ak, .int .u64 (ax : Int), .string sa, .int .i64 ra] 27)).alloc (.cells #[.int .i64 bk, .int .u64 (bx : Int), .string sb, .int .i64 rb] 27)) = W := ⟨_, rfl⟩
  rw [hW2] at t0 t1 tz tb
  have HW : Hid (_ = W2) := hW2
  clear hW2
  obtain ⟨G, hG⟩ : ∃ G, w.heap.size = G := ⟨_, rfl⟩
  rw [hG] at t0 t1 tz
  have HK : Hid (∀ W, Below W2.heap.size W2 W → (W.cell? ⟨G, 0, none⟩ = some (.int .i64 ak) ∧ W.cell? ⟨G, 1, none⟩ = some (.int .u64 (ax : Int)) ∧ W.cell? ⟨G, 2, none⟩ = some (.string sa) ∧ W.cell? ⟨G, 3, none⟩ = some (.int .i64 ra)) ∧ (W.cell? ⟨G + 1, 0, none⟩ = some (.int .i64 bk) ∧ W.cell? ⟨G + 1, 1, none⟩ = some (.int .u64 (bx : Int)) ∧ W.cell? ⟨G + 1, 2, none⟩ = some (.string sb) ∧ W.cell? ⟨G + 1, 3, none⟩ = some (.int .i64 rb))) := fun W h =>
    ⟨four_cells ((h.block G (by omega)).trans t0), four_cells ((h.block (G + 1) (by omega)).trans t1)⟩
  have HTB : Hid (Below w.heap.size w W2) := tb
  have hst := stoodValue17
  clear t0 t1 tz tb
  go_enter Try.func10, Try.ntmps10
  go_upto_region 1 with fail
  rw [HW.out]
  clear HW
  try simp only [hG]
  obtain ⟨⟨a0, a1, a2, a3⟩, d0, d1, d2, d3⟩ := HK.out W2 (Below.refl _ _)
  go_wp2_with fail
  refine (cN _).mono ?_
  rintro e w1 ⟨rfl, b1⟩
  clear a0 a1 a2 a3 d0 d1 d2 d3 cN
  rcases hs with ⟨rfl, rfl⟩ | ⟨rfl, rfl⟩
  · clear hE HK
    go_wp2_with fail
    refine (cE _).mono ?_
    rintro e w2 ⟨rfl, b2⟩
    go_wp2
    go_ret
    exact ⟨rfl, chain HTB.out (chain b1 b2)⟩
  · obtain ⟨⟨a0, a1, a2, a3⟩, d0, d1, d2, d3⟩ := HK.out w1 b1
    clear HK cE
    have HB1 : Hid (Below w.heap.size w w1) := chain HTB.out b1
    clear b1
    go_wp2
    go_ret
    exact ⟨rfl, HB1.out⟩

end Go.Proofs.Ytlikjbklagolmaa
