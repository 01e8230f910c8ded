/-
  The program's ShowIns.
-/
import Derived.Test.YtojmmmfboahkgaaDoorWords20
import Derived.Test.YtojmmmfboahkgaaDoorItoa
import Derived.Deep.RegionHeldLaw
import Derived.Deep.RegionWith
namespace Go.Proofs.YtojmmmfboahkgaaDoor
open Go.RowKit Go.Sort
set_option linter.unusedVariables false

set_option maxHeartbeats 4000000 in
set_option maxRecDepth 100000 in
theorem iShowIns_any (p : PIns) (w : World) (hp : insW p) (ht : Tabs20 w) :
    Calls Tryd.prog 7 #[.agg #[.int .i64 p.op, .int .i64 p.a, .int .i64 p.b]] w fun e w' => e = .returned (.string (insText p)) ∧ Below w.heap.size w w' := by
  obtain ⟨op, a, b⟩ := p
  obtain ⟨_, ha, hb⟩ := hp
  simp only at ha hb ⊢
  unfold I64 at ha hb
  have cD := fun n (h0 : -9223372036854775808 ≤ n) (h1 : n ≤ 9223372036854775807) W (h : Tabs20 W) => implDecimal_any n W h0 h1 h.tab
  have HTB : Hid (∀ W, Below w.heap.size w W → Tabs20 W) := fun W hW => ht.below hW
  obtain ⟨F, hF⟩ : ∃ F, insText ⟨op, a, b⟩ = F := ⟨_, rfl⟩
  have HF : Hid (insText ⟨op, a, b⟩ = F) := hF
  rw [hF]
  have b0 : Below w.heap.size w (w.alloc (.cells #[.int .i64 op, .int .i64 a, .int .i64 b] 25)) := (Below.refl _ _).alloc (Nat.le_refl _) _
  have z0 := heap_alloc_new w (.cells #[.int .i64 op, .int .i64 a, .int .i64 b] 25)
  obtain ⟨W0, hW0⟩ : ∃ W, w.alloc (.cells #[.int .i64 op, .int .i64 a, .int .i64 b] 25) = W := ⟨_, rfl⟩
  rw [hW0] at b0 z0
  have HW0 : Hid (_ = W0) := hW0
  obtain ⟨G, hG⟩ : ∃ G, w.heap.size = G := ⟨_, rfl⟩
  have HG : Hid (w.heap.size = G) := hG
  rw [hG] at z0
  have lt0 : G < W0.heap.size := by rw [← hW0, ← hG]; simp
  have HK : Hid (∀ V, Below W0.heap.size W0 V → V.cell? ⟨G, 0, none⟩ = some (.int .i64 op) ∧ V.cell? ⟨G, 1, none⟩ = some (.int .i64 a) ∧ V.cell? ⟨G, 2, none⟩ = some (.int .i64 b)) := fun V hV => three_box20 ((hV.block G lt0).trans z0)
  clear hF hW0 z0 lt0 hG
  go_enter Tryd.func7, Tryd.ntmps7
  go_upto_region 1 with fail
  rw [HW0.out]
  try simp only [HG.out]
  obtain ⟨c0, c1, c2⟩ := HK.out W0 (Below.refl _ _)
  by_cases hlo : op < 1
  · have hF : F = ⟨#[]⟩ := by rw [← HF.out, insText_no (by show ¬ (1 ≤ op ∧ op ≤ 19); omega)]
    subst hF
    go_wp2
    go_ret
    exact ⟨rfl, b0⟩
  by_cases hhi : 19 < op
  · have hF : F = ⟨#[]⟩ := by rw [← HF.out, insText_no (by show ¬ (1 ≤ op ∧ op ≤ 19); omega)]
    subst hF
    go_wp2
    go_ret
    exact ⟨rfl, b0⟩
  obtain ⟨k, rfl⟩ : ∃ k : Nat, op = (k : Int) := ⟨op.toNat, by omega⟩
  have hk1 : 1 ≤ k := by omega
  have hk2 : k ≤ 19 := by omega
  have hki : (k : Int) < 20 := by omega
  have hk0 : (0 : Int) ≤ (k : Int) := by omega
  obtain ⟨T, hT⟩ : ∃ T, insWord k = T := ⟨_, rfl⟩
  have HT : Hid (insWord k = T) := hT
  have cW : W0.cell? ⟨0, k, none⟩ = some (.string T) := by rw [← hT]; exact (HTB.out W0 b0).words.2 k (by omega)
  clear hT
  go_upto_region 4 with fail
  clear hlo hhi cW c0 c1 c2
  have HB : Hid (∀ V, Below W0.heap.size W0 V → Below w.heap.size w V) := fun V hV => chain b0 hV
  have HK2 := HK
  clear HK
  obtain ⟨c0, c1, c2⟩ := HK2.out W0 (Below.refl _ _)
  by_cases hw : k = 10 ∨ k = 11 ∨ k = 17 ∨ k = 18 ∨ k = 19
  · have hF : F = T := by rw [← HF.out, insText_word rfl hw, HT.out]
    subst hF
    have HE : Hid (Below w.heap.size w W0) := HB.out W0 (Below.refl _ _)
    clear HF HT HB HK2
    rcases hw with rfl | rfl | rfl | rfl | rfl <;>
      (go_wp2; go_ret; exact ⟨rfl, by first | exact HE.out | (rw [← HG.out]; exact HE.out)⟩)
  by_cases hw2 : k = 9 ∨ k = 16
  · have hF : F = T ++ ⟨#[32]⟩ ++ decA a ++ ⟨#[32]⟩ ++ decA b := by rw [← HF.out, insText_two rfl hw2, HT.out]
    have HF2 : Hid (F = T ++ ⟨#[32]⟩ ++ decA a ++ ⟨#[32]⟩ ++ decA b) := hF
    have dA := fun W (hW : Below W0.heap.size W0 W) => (cD a (by omega) (by omega) W (HTB.out W (chain b0 hW))).mono (fun e w' (hh : e = .returned (.string (decA a)) ∧ Below W.heap.size W w') => show e = .returned (.string (decA a)) ∧ Hid (Below W0.heap.size W0 w') from ⟨hh.1, chain hW hh.2⟩)
    have dB := fun W (hW : Below W0.heap.size W0 W) => (cD b (by omega) (by omega) W (HTB.out W (chain b0 hW))).mono (fun e w' (hh : e = .returned (.string (decA b)) ∧ Below W.heap.size W w') => show e = .returned (.string (decA b)) ∧ Hid (Below W0.heap.size W0 w') from ⟨hh.1, chain hW hh.2⟩)
    obtain ⟨A, hA⟩ : ∃ A, decA a = A := ⟨_, rfl⟩
    obtain ⟨B, hB⟩ : ∃ B, decA b = B := ⟨_, rfl⟩
    rw [hA, hB] at HF2
    obtain ⟨s1, s2, s3, s4, s5, s6, s7⟩ := sizes20 (T := T) (A := A) (B := B) (by rw [← HT.out]; exact insWord_size k) (by rw [← hA]; exact decA_size a (by omega) (by omega)) (by rw [← hB]; exact decA_size b (by omega) (by omega))
    simp only [hA] at dA
    simp only [hB] at dB
    clear HF HT hF hA hB hw
    have hk9 : ((k : Int) = 9) ∨ ((k : Int) = 16) := by omega
    clear hki hk0 hk1 hk2
    rcases hw2 with rfl | rfl
    all_goals
      clear hk9
      go_upto_region 13 with fail
      clear c0 c1 c2
      go_region_held_law (fun V => V.cell? ⟨G, 1, none⟩ = some (.int .i64 a) ∧ V.cell? ⟨G, 2, none⟩ = some (.int .i64 b))
        (exact (HK2.out _ (by first | with_reducible exact HBB.out | with_reducible exact RowKit.Below.drew HBB.out | with_reducible exact HBA.out | with_reducible exact RowKit.Below.drew HBA.out | with_reducible exact Below.refl _ _ | with_reducible exact RowKit.Below.drew (Below.refl _ _))).2)
        (first
          | (go_at_call 16; (with_reducible refine (dA _ (by first | with_reducible exact Below.refl _ _ | with_reducible exact RowKit.Below.drew (Below.refl _ _))).mono ?_); rintro e wA ⟨rfl, HBA⟩)
          | (go_at_call 16; (with_reducible refine (dB _ (by first | with_reducible exact HBA.out | with_reducible exact RowKit.Below.drew HBA.out)).mono ?_); rintro e wB ⟨rfl, HBB⟩))
      have HE : Hid (Below w.heap.size w wB) := HB.out _ HBB.out
      clear dA dB HBA HBB HB HK2
      go_wp2
      go_ret
      rw [HF2.out]
      exact ⟨rfl, by first | exact HE.out | (rw [← HG.out]; exact HE.out)⟩
  · have hF : F = T ++ ⟨#[32]⟩ ++ decA a := by rw [← HF.out, insText_one rfl hk1 hk2 hw hw2, HT.out]
    have HF2 : Hid (F = T ++ ⟨#[32]⟩ ++ decA a) := hF
    have dA := cD a (by omega) (by omega) W0 (HTB.out W0 b0)
    rw [show (⟨(Lib.itoa a).toArray⟩ : ByteArray) = decA a from rfl] at dA
    obtain ⟨A, hA⟩ : ∃ A, decA a = A := ⟨_, rfl⟩
    rw [hA] at HF2 dA
    obtain ⟨s1, s2, s3, s4, s5, s6, s7⟩ := sizes20 (T := T) (A := A) (B := A) (by rw [← HT.out]; exact insWord_size k) (by rw [← hA]; exact decA_size a (by omega) (by omega)) (by rw [← hA]; exact decA_size a (by omega) (by omega))
    clear HF HT hF hA
    have z10 : ((k : Int) == 10) = false := by rw [beq_eq_false_iff_ne]; omega
    have y10 : ¬ (k : Int) = 10 := by omega
    have z11 : ((k : Int) == 11) = false := by rw [beq_eq_false_iff_ne]; omega
    have y11 : ¬ (k : Int) = 11 := by omega
    have z17 : ((k : Int) == 17) = false := by rw [beq_eq_false_iff_ne]; omega
    have y17 : ¬ (k : Int) = 17 := by omega
    have z18 : ((k : Int) == 18) = false := by rw [beq_eq_false_iff_ne]; omega
    have y18 : ¬ (k : Int) = 18 := by omega
    have z19 : ((k : Int) == 19) = false := by rw [beq_eq_false_iff_ne]; omega
    have y19 : ¬ (k : Int) = 19 := by omega
    have z9 : ((k : Int) == 9) = false := by rw [beq_eq_false_iff_ne]; omega
    have y9 : ¬ (k : Int) = 9 := by omega
    have z16 : ((k : Int) == 16) = false := by rw [beq_eq_false_iff_ne]; omega
    have y16 : ¬ (k : Int) = 16 := by omega
    clear hw hw2 hki hk0 hk1 hk2
    go_wp2_with (go_at_call 16; (with_reducible refine dA.mono ?_); rintro e w' ⟨rfl, hb1⟩)
    go_ret
    rw [HF2.out]
    exact ⟨rfl, by first | exact HB.out _ hb1 | (rw [← HG.out]; exact HB.out _ hb1)⟩

end Go.Proofs.YtojmmmfboahkgaaDoor
