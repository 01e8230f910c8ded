/-
  The words of instructions, and what is shown of one: the specification's ShowIns.
-/
import Derived.Test.YtojmmmfboahkgaaDoorItoa
import Derived.Test.YtojmmmfboahkgaaDoorImg13C
import Derived.Lib.ItoaLen
import Derived.Deep.RegionHeldLaw
import Derived.Deep.RegionWith
namespace Go.Proofs.YtojmmmfboahkgaaDoor
open Go.RowKit Go.Sort
set_option linter.unusedVariables false

def insWords : List ByteArray := [⟨#[]⟩, ⟨#[99, 111, 110, 115, 116]⟩, ⟨#[103, 101, 116]⟩, ⟨#[112, 117, 116]⟩, ⟨#[110, 101, 119, 99, 101, 108, 108]⟩, ⟨#[103, 101, 116, 99, 101, 108, 108]⟩, ⟨#[112, 117, 116, 99, 101, 108, 108]⟩, ⟨#[103, 101, 116, 99, 97, 112]⟩, ⟨#[112, 117, 116, 99, 97, 112]⟩, ⟨#[98, 105, 110, 97, 114, 121]⟩, ⟨#[110, 111, 116]⟩, ⟨#[109, 105, 110, 117, 115]⟩, ⟨#[106, 117, 109, 112]⟩, ⟨#[105, 102, 110, 111, 116]⟩, ⟨#[105, 102]⟩, ⟨#[102, 117, 110]⟩, ⟨#[99, 97, 108, 108]⟩, ⟨#[114, 101, 116, 117, 114, 110]⟩, ⟨#[116, 104, 114, 111, 119]⟩, ⟨#[112, 114, 105, 110, 116]⟩]
def insWord (k : Nat) : ByteArray := insWords.getD k ⟨#[]⟩
def decA (n : Int) : ByteArray := ⟨(Lib.itoa n).toArray⟩
theorem decA_size (n : Int) (h0 : -9223372036854775808 ≤ n) (h1 : n ≤ 9223372036854775807) : (decA n).size ≤ 21 := by
  have h := Lib.itoa_length_le n h0 h1
  show (Lib.itoa n).toArray.size ≤ 21
  rw [List.size_toArray]
  exact h
theorem insWord_size (k : Nat) : (insWord k).size ≤ 7 := by
  have h : ∀ x ∈ insWords, x.size ≤ 7 := by
    unfold insWords
    simp only [List.forall_mem_cons, show ∀ a : Array UInt8, (⟨a⟩ : ByteArray).size = a.size from fun _ => rfl]
    simp
  unfold insWord
  rw [List.getD_eq_getElem?_getD]
  cases e : insWords[k]? with
  | none => exact Nat.zero_le _
  | some x => exact h x (List.mem_of_getElem? e)
theorem sizes20 {T A B : ByteArray} (hT : T.size ≤ 7) (hA : A.size ≤ 21) (hB : B.size ≤ 21) : ¬ 9223372036854775807 < T.size + 1 ∧ ¬ 9223372036854775807 < (T ++ ⟨#[32]⟩).size + A.size ∧ ¬ 9223372036854775807 < (T ++ ⟨#[32]⟩ ++ A).size + 1 ∧ ¬ 9223372036854775807 < (T ++ ⟨#[32]⟩ ++ A ++ ⟨#[32]⟩).size + B.size ∧ ¬ 9223372036854775807 < T.size + 1 + A.size ∧ ¬ 9223372036854775807 < T.size + 1 + A.size + 1 ∧ ¬ 9223372036854775807 < T.size + 1 + A.size + 1 + B.size := by
  have h1 : (⟨#[32]⟩ : ByteArray).size = 1 := rfl
  simp only [ByteArray.size_append, h1]
  omega
def insText (i : PIns) : ByteArray :=
  if 1 ≤ i.op ∧ i.op ≤ 19 then
    if i.op = 10 ∨ i.op = 11 ∨ i.op = 17 ∨ i.op = 18 ∨ i.op = 19 then insWord i.op.toNat
    else if i.op = 9 ∨ i.op = 16 then insWord i.op.toNat ++ ⟨#[32]⟩ ++ decA i.a ++ ⟨#[32]⟩ ++ decA i.b
    else insWord i.op.toNat ++ ⟨#[32]⟩ ++ decA i.a
  else ⟨#[]⟩
theorem insText_no {i : PIns} (h : ¬ (1 ≤ i.op ∧ i.op ≤ 19)) : insText i = ⟨#[]⟩ := if_neg h
theorem insText_word {k : Nat} {i : PIns} (h : i.op = (k : Int)) (hk : k = 10 ∨ k = 11 ∨ k = 17 ∨ k = 18 ∨ k = 19) : insText i = insWord k := by
  unfold insText
  rw [if_pos (by omega), if_pos (by omega), h, Int.toNat_natCast]
theorem insText_two {k : Nat} {i : PIns} (h : i.op = (k : Int)) (hk : k = 9 ∨ k = 16) : insText i = insWord k ++ ⟨#[32]⟩ ++ decA i.a ++ ⟨#[32]⟩ ++ decA i.b := by
  unfold insText
  rw [if_pos (by omega), if_neg (by omega), if_pos (by omega), h, Int.toNat_natCast]
theorem insText_one {k : Nat} {i : PIns} (h : i.op = (k : Int)) (h1 : 1 ≤ k) (h2 : k ≤ 19) (hk : ¬ (k = 10 ∨ k = 11 ∨ k = 17 ∨ k = 18 ∨ k = 19)) (hk2 : ¬ (k = 9 ∨ k = 16)) : insText i = insWord k ++ ⟨#[32]⟩ ++ decA i.a := by
  unfold insText
  rw [if_pos (by omega), if_neg (by omega), if_neg (by omega), h, Int.toNat_natCast]
def wordsC20 : Array Value := (insWords.map Value.string).toArray
theorem wordsC20_at (w : World) (k : Nat) (hk : k < 20) : (w.alloc (.cells wordsC20 9)).cell? ⟨w.heap.size, k, none⟩ = some (.string (insWord k)) := by
  rw [cell_of_row _ _ _ _ _ _ (heap_alloc_new w (.cells wordsC20 9))]
  have h : insWords[k]? = some (insWord k) := by
    unfold insWord
    rw [List.getD_eq_getElem?_getD, List.getElem?_eq_getElem (show k < insWords.length from hk)]
    rfl
  unfold wordsC20
  rw [List.getElem?_toArray, List.getElem?_map, h]
  rfl

set_option maxHeartbeats 1000000 in
set_option maxRecDepth 100000 in
theorem l20Words_any (w : World) :
    Calls Tryd.prog 14 #[] w fun e w' => ∃ g, e = .returned (.slice (some ⟨g, 0, none⟩) 20 20) ∧ Hid (g < w'.heap.size ∧ ∀ k, k < 20 → w'.cell? ⟨g, k, none⟩ = some (.string (insWord k))) ∧ Below w.heap.size w w' := by
  have H : Hid (w.heap.size < (w.alloc (.cells wordsC20 9)).heap.size ∧ ∀ k, k < 20 → (w.alloc (.cells wordsC20 9)).cell? ⟨w.heap.size, k, none⟩ = some (.string (insWord k))) := ⟨by simp, wordsC20_at w⟩
  go_enter Tryd.func14, Tryd.ntmps14
  go_wp2
  go_ret
  exact ⟨w.heap.size, rfl, H, (Below.refl _ _).alloc (Nat.le_refl _) _⟩

theorem three_box20 {W : World} {G : Nat} {a b c : Value} {t : TypeId} {r : Nat × Nat} (h : W.heap[G]? = some (.cells #[a, b, c] t r)) : W.cell? ⟨G, 0, none⟩ = some a ∧ W.cell? ⟨G, 1, none⟩ = some b ∧ W.cell? ⟨G, 2, none⟩ = some c := by
  refine ⟨?_, ?_, ?_⟩ <;> (rw [cell_of_row _ _ _ _ _ _ h]; rfl)

set_option maxHeartbeats 4000000 in
set_option maxRecDepth 100000 in
theorem specShowIns_any (p : PIns) (w : World) (hp : insW p) :
    Calls Tryd.prog 5 #[.agg #[.int .i64 p.op, .int .i64 p.a, .int .i64 p.b]] w fun e w' => e = .returned (.string (insText p)) ∧ Below w.heap.size w w' := by
  obtain ⟨op, a, b⟩ := p
  obtain ⟨_, ha, hb⟩ := hp
  simp only at ha hb ⊢
  unfold I64 at ha hb
  have cR := fun W => l01In_b op 1 19 W
  obtain ⟨F, hF⟩ : ∃ F, insText ⟨op, a, b⟩ = F := ⟨_, rfl⟩
  have HF : Hid (insText ⟨op, a, b⟩ = F) := hF
  rw [hF]
  have b0 : Below w.heap.size w (w.alloc (.cells #[.int .i64 op, .int .i64 a, .int .i64 b] 25)) := (Below.refl _ _).alloc (Nat.le_refl _) _
  have z0 := heap_alloc_new w (.cells #[.int .i64 op, .int .i64 a, .int .i64 b] 25)
  obtain ⟨W0, hW0⟩ : ∃ W, w.alloc (.cells #[.int .i64 op, .int .i64 a, .int .i64 b] 25) = W := ⟨_, rfl⟩
  rw [hW0] at b0 z0
  have HW0 : Hid (_ = W0) := hW0
  obtain ⟨G, hG⟩ : ∃ G, w.heap.size = G := ⟨_, rfl⟩
  have HG : Hid (w.heap.size = G) := hG
  rw [hG] at z0
  have lt0 : G < W0.heap.size := by rw [← hW0, ← hG]; simp
  have HK : Hid (∀ V, Below W0.heap.size W0 V → V.cell? ⟨G, 0, none⟩ = some (.int .i64 op) ∧ V.cell? ⟨G, 1, none⟩ = some (.int .i64 a) ∧ V.cell? ⟨G, 2, none⟩ = some (.int .i64 b)) := fun V hV => three_box20 ((hV.block G lt0).trans z0)
  clear hF hW0 z0 lt0 hG
  go_enter Tryd.func5, Tryd.ntmps5
  go_upto_region 1 with fail
  rw [HW0.out]
  try simp only [HG.out]
  obtain ⟨c0, c1, c2⟩ := HK.out W0 (Below.refl _ _)
  by_cases hop : ¬ (1 ≤ op ∧ op ≤ 19)
  · have hB : inB op 1 19 = false := by
      unfold inB
      by_cases h : 1 ≤ op
      · rw [decide_eq_true h, decide_eq_false (by omega)]; rfl
      · rw [decide_eq_false h]; rfl
    rw [hB] at cR
    have hF : F = ⟨#[]⟩ := by rw [← HF.out, insText_no hop]
    subst hF
    go_wp2_with (go_at_call 13; (with_reducible refine (cR _).mono ?_); rintro e w' ⟨rfl, rfl⟩)
    go_ret
    exact ⟨rfl, b0⟩
  have hB : inB op 1 19 = true := by
    unfold inB
    rw [decide_eq_true (by omega), decide_eq_true (by omega)]
    rfl
  rw [hB] at cR
  obtain ⟨k, rfl⟩ : ∃ k : Nat, op = (k : Int) := ⟨op.toNat, by omega⟩
  have hk1 : 1 ≤ k := by omega
  have hk2 : k ≤ 19 := by omega
  have hki : (k : Int) < 20 := by omega
  have hk0 : (0 : Int) ≤ (k : Int) := by omega
  clear hB hop
  go_upto_region 3 with (go_at_call 13; (with_reducible refine (cR _).mono ?_); rintro e w' ⟨rfl, rfl⟩)
  clear cR c0 c1 c2
  have cL := fun W (hW : Below W0.heap.size W0 W) => (l20Words_any W).mono (fun e w' (hh : ∃ g, e = .returned (.slice (some ⟨g, 0, none⟩) 20 20) ∧ Hid (g < w'.heap.size ∧ ∀ k, k < 20 → w'.cell? ⟨g, k, none⟩ = some (.string (insWord k))) ∧ Below W.heap.size W w') => show ∃ g, e = .returned (.slice (some ⟨g, 0, none⟩) 20 20) ∧ (w'.cell? ⟨g, k, none⟩ = some (.string (insWord k)) ∧ w'.drew.cell? ⟨g, k, none⟩ = some (.string (insWord k))) ∧ (w'.cell? ⟨G, 0, none⟩ = some (.int .i64 (k : Int)) ∧ w'.drew.cell? ⟨G, 0, none⟩ = some (.int .i64 (k : Int))) ∧ Hid (Below W0.heap.size W0 w') by
    obtain ⟨g, e1, e2, e3⟩ := hh
    exact ⟨g, e1, ⟨e2.out.2 k (by omega), e2.out.2 k (by omega)⟩, ⟨(HK.out _ (chain hW e3)).1, (HK.out _ (chain hW e3)).1⟩, chain hW e3⟩)
  obtain ⟨c0, _, _⟩ := HK.out W0 (Below.refl _ _)
  have c0' : W0.drew.cell? ⟨G, 0, none⟩ = some (.int .i64 (k : Int)) := c0
  go_cut [3] (fun x wx => x = .string (insWord k) ∧ Below W0.heap.size W0 wx)
  case first =>
    go_region_with (first | (go_at_call 14; (with_reducible refine (cL _ (by first | with_reducible exact Below.refl _ _ | with_reducible exact RowKit.Below.drew (Below.refl _ _))).mono ?_); rintro e wL ⟨g, rfl, ⟨hg1, hg2⟩, ⟨hg3, hg4⟩, HBL⟩))
    all_goals
      have HBM : Hid (Below W0.heap.size W0 wL ∧ Below W0.heap.size W0 wL.drew) := ⟨HBL.out, RowKit.Below.drew HBL.out⟩
      clear HBL cL
      go_wp2
      go_meet
      case rel => exact ⟨rfl, by first | exact HBM.out.1 | exact HBM.out.2⟩
  case rest =>
  obtain ⟨rfl, HC0⟩ := hcut
  have HC : Hid (Below W0.heap.size W0 wc) := HC0
  obtain ⟨T, hT⟩ : ∃ T, insWord k = T := ⟨_, rfl⟩
  have HT : Hid (insWord k = T) := hT
  rw [hT]
  have HK2 : Hid (∀ V, Below wc.heap.size wc V → V.cell? ⟨G, 0, none⟩ = some (.int .i64 (k : Int)) ∧ V.cell? ⟨G, 1, none⟩ = some (.int .i64 a) ∧ V.cell? ⟨G, 2, none⟩ = some (.int .i64 b)) := fun V hV => HK.out V (chain HC.out hV)
  have HB : Hid (∀ V, Below wc.heap.size wc V → Below w.heap.size w V) := fun V hV => chain b0 (chain HC.out hV)
  clear hT c0 c0' cL HK HC HC0 b0
  obtain ⟨c0, c1, c2⟩ := HK2.out wc (Below.refl _ _)
  by_cases hw : k = 10 ∨ k = 11 ∨ k = 17 ∨ k = 18 ∨ k = 19
  · have hF : F = T := by rw [← HF.out, insText_word rfl hw, HT.out]
    subst hF
    have HE : Hid (Below w.heap.size w wc) := HB.out wc (Below.refl _ _)
    clear HF HT HB HK2
    rcases hw with rfl | rfl | rfl | rfl | rfl <;>
      (go_wp2; go_ret; exact ⟨rfl, by first | exact HE.out | (rw [← HG.out]; exact HE.out)⟩)
  by_cases hw2 : k = 9 ∨ k = 16
  · have hF : F = T ++ ⟨#[32]⟩ ++ decA a ++ ⟨#[32]⟩ ++ decA b := by rw [← HF.out, insText_two rfl hw2, HT.out]
    have HF2 : Hid (F = T ++ ⟨#[32]⟩ ++ decA a ++ ⟨#[32]⟩ ++ decA b) := hF
    have dA := fun W (hW : Below wc.heap.size wc W) => (specDecimal_any a W (by omega) (by omega)).mono (fun e w' (hh : e = .returned (.string (decA a)) ∧ Below W.heap.size W w') => show e = .returned (.string (decA a)) ∧ Hid (Below wc.heap.size wc w') from ⟨hh.1, chain hW hh.2⟩)
    have dB := fun W (hW : Below wc.heap.size wc W) => (specDecimal_any b W (by omega) (by omega)).mono (fun e w' (hh : e = .returned (.string (decA b)) ∧ Below W.heap.size W w') => show e = .returned (.string (decA b)) ∧ Hid (Below wc.heap.size wc w') from ⟨hh.1, chain hW hh.2⟩)
    obtain ⟨A, hA⟩ : ∃ A, decA a = A := ⟨_, rfl⟩
    obtain ⟨B, hB⟩ : ∃ B, decA b = B := ⟨_, rfl⟩
    rw [hA, hB] at HF2
    obtain ⟨s1, s2, s3, s4, s5, s6, s7⟩ := sizes20 (T := T) (A := A) (B := B) (by rw [← HT.out]; exact insWord_size k) (by rw [← hA]; exact decA_size a (by omega) (by omega)) (by rw [← hB]; exact decA_size b (by omega) (by omega))
    simp only [hA] at dA
    simp only [hB] at dB
    clear HF HT hF hA hB hw
    have hk9 : ((k : Int) = 9) ∨ ((k : Int) = 16) := by omega
    clear hki hk0 hk1 hk2
    rcases hw2 with rfl | rfl
    all_goals
      clear hk9
      go_upto_region 13 with fail
      clear c0 c1 c2
      go_region_held_law (fun V => V.cell? ⟨G, 1, none⟩ = some (.int .i64 a) ∧ V.cell? ⟨G, 2, none⟩ = some (.int .i64 b))
        (exact (HK2.out _ (by first | with_reducible exact HBB.out | with_reducible exact RowKit.Below.drew HBB.out | with_reducible exact HBA.out | with_reducible exact RowKit.Below.drew HBA.out | with_reducible exact Below.refl _ _ | with_reducible exact RowKit.Below.drew (Below.refl _ _))).2)
        (first
          | (go_at_call 15; (with_reducible refine (dA _ (by first | with_reducible exact Below.refl _ _ | with_reducible exact RowKit.Below.drew (Below.refl _ _))).mono ?_); rintro e wA ⟨rfl, HBA⟩)
          | (go_at_call 15; (with_reducible refine (dB _ (by first | with_reducible exact HBA.out | with_reducible exact RowKit.Below.drew HBA.out)).mono ?_); rintro e wB ⟨rfl, HBB⟩))
      have HE : Hid (Below w.heap.size w wB) := HB.out _ HBB.out
      clear dA dB HBA HBB HB HK2
      go_wp2
      go_ret
      rw [HF2.out]
      exact ⟨rfl, by first | exact HE.out | (rw [← HG.out]; exact HE.out)⟩
  · have hF : F = T ++ ⟨#[32]⟩ ++ decA a := by rw [← HF.out, insText_one rfl hk1 hk2 hw hw2, HT.out]
    have HF2 : Hid (F = T ++ ⟨#[32]⟩ ++ decA a) := hF
    have dA := specDecimal_any a wc (by omega) (by omega)
    rw [show (⟨(Lib.itoa a).toArray⟩ : ByteArray) = decA a from rfl] at dA
    obtain ⟨A, hA⟩ : ∃ A, decA a = A := ⟨_, rfl⟩
    rw [hA] at HF2 dA
    obtain ⟨s1, s2, s3, s4, s5, s6, s7⟩ := sizes20 (T := T) (A := A) (B := A) (by rw [← HT.out]; exact insWord_size k) (by rw [← hA]; exact decA_size a (by omega) (by omega)) (by rw [← hA]; exact decA_size a (by omega) (by omega))
    clear HF HT hF hA
    have z10 : ((k : Int) == 10) = false := by rw [beq_eq_false_iff_ne]; omega
    have y10 : ¬ (k : Int) = 10 := by omega
    have z11 : ((k : Int) == 11) = false := by rw [beq_eq_false_iff_ne]; omega
    have y11 : ¬ (k : Int) = 11 := by omega
    have z17 : ((k : Int) == 17) = false := by rw [beq_eq_false_iff_ne]; omega
    have y17 : ¬ (k : Int) = 17 := by omega
    have z18 : ((k : Int) == 18) = false := by rw [beq_eq_false_iff_ne]; omega
    have y18 : ¬ (k : Int) = 18 := by omega
    have z19 : ((k : Int) == 19) = false := by rw [beq_eq_false_iff_ne]; omega
    have y19 : ¬ (k : Int) = 19 := by omega
    have z9 : ((k : Int) == 9) = false := by rw [beq_eq_false_iff_ne]; omega
    have y9 : ¬ (k : Int) = 9 := by omega
    have z16 : ((k : Int) == 16) = false := by rw [beq_eq_false_iff_ne]; omega
    have y16 : ¬ (k : Int) = 16 := by omega
    clear hw hw2 hki hk0 hk1 hk2
    go_wp2_with (go_at_call 15; (with_reducible refine dA.mono ?_); rintro e w' ⟨rfl, hb1⟩)
    go_ret
    rw [HF2.out]
    exact ⟨rfl, by first | exact HB.out _ hb1 | (rw [← HG.out]; exact HB.out _ hb1)⟩

end Go.Proofs.YtojmmmfboahkgaaDoor
