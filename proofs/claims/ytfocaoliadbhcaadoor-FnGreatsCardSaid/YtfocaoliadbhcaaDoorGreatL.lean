/-
  What great numbers answer, where the texts are the figures of numbers.
-/
import Derived.Test.YtfocaoliadbhcaaDoorExactL
namespace Go.Proofs.YtfocaoliadbhcaaDoor
open Go.RowKit

theorem ok_txt {A : Nat} (hA : A < 10 ^ 800) : figsOk (txt (Lib.decDigits A)).data.toList = true := by
  rw [txt_data]; exact figs_of_dec (dec_len (by omega) hA)
theorem size_txt {A : Nat} (hA : A < 10 ^ 800) : (txt (Lib.decDigits A)).size ≤ 1048576 := by
  have := figsOk_size (ok_txt hA)
  omega
theorem op_txt (f : Nat → Nat → Nat) {A B C : Nat} (hA : A < 10 ^ 800) (hB : B < 10 ^ 800) (hf : f A B = C) (hC : C < 10 ^ 800) :
    opS f (txt (Lib.decDigits A)) (txt (Lib.decDigits B)) = txt (Lib.decDigits C) ∧ opB f (txt (Lib.decDigits A)) (txt (Lib.decDigits B)) = true := by
  unfold opS opB
  rw [if_pos ⟨ok_txt hA, ok_txt hB⟩, if_pos ⟨ok_txt hA, ok_txt hB⟩, txt_data, txt_data, (digV_dec A).1, (digV_dec B).1, hf]
  unfold greatS greatB
  rw [if_pos (dec_len (by omega) hC), decide_eq_true (dec_len (by omega) hC)]
  exact ⟨rfl, rfl⟩
theorem sub_txt {A B C : Nat} (hB : B < 10 ^ 800) (hC : C < 10 ^ 800) (h : C = A + B) :
    subS (txt (Lib.decDigits C)) (txt (Lib.decDigits B)) = txt (Lib.decDigits A) ∧ subB (txt (Lib.decDigits C)) (txt (Lib.decDigits B)) = true := by
  have hc : figsOk (txt (Lib.decDigits C)).data.toList = true ∧ figsOk (txt (Lib.decDigits B)).data.toList = true ∧ digV (txt (Lib.decDigits B)).data.toList ≤ digV (txt (Lib.decDigits C)).data.toList := by
    refine ⟨ok_txt hC, ok_txt hB, ?_⟩
    rw [txt_data, txt_data, (digV_dec C).1, (digV_dec B).1]
    clear hB hC; omega
  unfold subS subB
  rw [if_pos hc, decide_eq_true hc, txt_data, txt_data, (digV_dec C).1, (digV_dec B).1, h, Nat.add_sub_cancel]
  exact ⟨rfl, rfl⟩
theorem powB_txt {b n : Nat} (hb : 2 ≤ b ∧ b ≤ 10) (hn : n ≤ 1100) (h : b ^ n < 10 ^ 800) : powB b n = true := by
  unfold powB greatB
  rw [if_pos (by clear h; omega), Int.toNat_natCast, Int.toNat_natCast, decide_eq_true (dec_len (by omega) h)]
theorem less_txt {A B : Nat} (hA : A < 10 ^ 800) (hB : B < 10 ^ 800) : lessG (txt (Lib.decDigits A)) (txt (Lib.decDigits B)) = decide (A < B) := by
  unfold lessG
  rw [ok_txt hA, ok_txt hB, txt_data, txt_data, (digV_dec A).1, (digV_dec B).1]
  rfl

theorem seven_pow {k : Nat} (h : k ≤ 200) : 7 ^ k < 10 ^ 800 := by
  have a : 7 ^ k ≤ 10 ^ k := Nat.pow_le_pow_left (by decide) k
  have b : (10 : Nat) ^ k < 10 ^ (k + 1) := Nat.pow_lt_pow_right (by decide) (by omega)
  exact pow_up (n := k + 1) (m := 800) (Nat.lt_of_le_of_lt a b) (by omega)

theorem sixty_add {m n : Nat} (hm : m < 10 ^ 60) (hn : n < 10 ^ 60) : m < 10 ^ 800 ∧ n < 10 ^ 800 ∧ m + n < 10 ^ 800 ∧ n + 1 < 10 ^ 800 ∧ m * n < 10 ^ 800 ∧ m * (n + 1) < 10 ^ 800 := by
  have h1 : m + n < 10 ^ 130 := by omega
  have h2 : n + 1 < 10 ^ 130 := by omega
  have h3 : m * (n + 1) ≤ 10 ^ 60 * 10 ^ 60 := Nat.mul_le_mul (by omega) (by omega)
  have h4 : m * n ≤ 10 ^ 60 * 10 ^ 60 := Nat.mul_le_mul (by omega) (by omega)
  have h5 : m * (n + 1) < 10 ^ 130 := by omega
  have h6 : m * n < 10 ^ 130 := by omega
  exact ⟨pow_up (n := 60) (m := 800) hm (by decide), pow_up (n := 60) (m := 800) hn (by decide), pow_up (n := 130) (m := 800) h1 (by decide), pow_up (n := 130) (m := 800) h2 (by decide), pow_up (n := 130) (m := 800) h6 (by decide), pow_up (n := 130) (m := 800) h5 (by decide)⟩

theorem one_txt : (⟨#[49]⟩ : ByteArray) = txt (Lib.decDigits 1) := by rw [dec_small (by omega)]; rfl
theorem seven_txt : (⟨#[55]⟩ : ByteArray) = txt (Lib.decDigits 7) := by rw [dec_small (by omega)]; rfl

end Go.Proofs.YtfocaoliadbhcaaDoor
