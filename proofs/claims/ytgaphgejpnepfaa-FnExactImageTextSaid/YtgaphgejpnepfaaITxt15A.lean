/-
  The program's own byteText, varTexts.
-/
import Derived.Test.YtgaphgejpnepfaaIBld15
import Derived.Test.YtgaphgejpnepfaaTxt15S
import Derived.Test.YtgaphgejpnepfaaSums
import Derived.Laws.Shifts
namespace Go.Proofs.Ytgaphgejpnepfaa
open Go.RowKit
set_option linter.unusedVariables false

theorem one_conv (w : World) (a : Int) : (convert 22 9 (.slice (some ⟨w.heap.size, 0, none⟩) 1 1)).run Try.prog (w.alloc (.cells #[.int .u8 a] 5)) = .ok (.string (strOfNums [a])) (w.alloc (.cells #[.int .u8 a] 5)) := by
  refine run_convert_bytes_arg _ 22 5 Try.underlying22 Try.underlying5 w.heap.size 0 1 1 [a] rfl ?_ 9 Try.underlying9
  intro i hi
  have hg : (w.alloc (.cells #[.int .u8 a] 5)).heap[w.heap.size]? = some (.cells #[.int .u8 a] 5) := alloc_new _ _
  unfold World.cell?
  simp only [hg]
  obtain rfl : i = 0 := by omega
  rfl

set_option maxHeartbeats 400000 in
set_option maxRecDepth 100000 in
theorem iByteText (x : Int) (w : World) (h0 : 0 ≤ x) (h1 : x < 256) :
    Calls Try.prog 108 #[.int .i64 x] w fun e w' => e = .returned (.string (strOfNums [x])) ∧ Below w.heap.size w w' := by
  have hcv := one_conv w
  go_enter Try.func108, Try.ntmps108
  go_wp2
  go_ret
  exact ⟨rfl, (Below.refl _ _).alloc (Nat.le_refl _) _⟩

theorem strNums_append (a b : List Int) : strOfNums (a ++ b) = strOfNums a ++ strOfNums b := by
  unfold strOfNums
  rw [List.map_append]
  apply ByteArray.ext
  simp

theorem vars_len (l : List Nat) (h : ∀ x ∈ l, x ≤ 1000000000) : (l.flatMap varB).length ≤ 5 * l.length := flat_le varB 5 l (fun q hq => varN_few (h q hq))

set_option maxHeartbeats 1000000 in
set_option maxRecDepth 100000 in
theorem iVarTexts (l : List Nat) (b c : Nat) (w : World) (hl : ∀ x ∈ l, x ≤ 1000000000) (hn : l.length ≤ 1000) (hb : b < w.heap.size) (hc : ∀ (j x : Nat), l[j]? = some x → w.cell? ⟨b, j, none⟩ = some (.int .i64 (x : Int))) :
    Calls Try.prog 106 #[.slice (some ⟨b, 0, none⟩) l.length c] w fun e w' => e = .returned (.string (strOfNums (l.flatMap varB))) ∧ Below w.heap.size w w' := by
  have HV : Hid (∀ k, ((l.take k).flatMap varB).length ≤ 5000) := fun k => by
    have h1 := vars_len (l.take k) (fun x hx => hl x (List.mem_of_mem_take hx))
    have h2 : (l.take k).length ≤ l.length := by rw [List.length_take]; omega
    omega
  have HL : Hid (∀ x ∈ l, x ≤ 1000000000) := hl
  have HC : Hid _ := hc
  obtain ⟨n, e1⟩ : ∃ n, l.length = n := ⟨_, rfl⟩
  rw [e1] at hn ⊢
  have E1 : Hid (l.length = n) := e1
  obtain ⟨T, hT⟩ : ∃ T, strOfNums (l.flatMap varB) = T := ⟨_, rfl⟩
  rw [hT]
  have HT : Hid (_ = T) := hT
  have f0 : Hid _ := bld_new w
  have b0 : Below w.heap.size w (w.alloc (.cells #[.pointer none, .slice none 0 0] 166)) := (Below.refl _ _).alloc (Nat.le_refl _) _
  clear hl hc e1 hT
  go_enter Try.func106, Try.ntmps106
  go_wp2
  go_loopw [10] (fun i wr => ∃ k : Nat, k ≤ n ∧ i = .int .i64 k ∧ Hid (Bld w.heap.size w.heap.size (strOfNums ((l.take k).flatMap varB)) wr) ∧ Below w.heap.size w wr) (fun i _ => n - (intOf i).toNat)
  case atStart => exact ⟨0, Nat.zero_le _, rfl, f0, b0⟩
  case round =>
    obtain ⟨k, hk, rfl, HB, hbel⟩ := hrel
    by_cases hkn : k < n
    · obtain ⟨q, hq⟩ : ∃ q, l[k]? = some q := ⟨_, List.getElem?_eq_getElem (by have := E1.out; omega)⟩
      have hq9 : q ≤ 1000000000 := HL.out q (List.mem_iff_getElem?.2 ⟨_, hq⟩)
      have g0 : wr.cell? ⟨b, k, none⟩ = some (.int .i64 (q : Int)) := (hbel.cell hb).trans (HC.out k q hq)
      have hki : (k : Int) < (n : Int) := by omega
      have hk0 : (0 : Int) ≤ (k : Int) := by omega
      have cV := fun W => implVarText_in q W hq9
      have HQ : Hid (l[k]? = some q) := hq
      have hz : w.heap.size ≤ wr.heap.size := hbel.size
      clear hq f0 b0
      go_wp2_with (go_at_call 170; with_reducible refine (cV _).mono ?_; rintro e w1 ⟨rfl, hb1⟩)
      have hm : (strOfNums ((l.take k).flatMap varB)).size + (strOfNums (varB q)).size ≤ 140737488355328 := by
        rw [strOfNums_size, strOfNums_size]
        have := HV.out k
        have := varN_few hq9
        omega
      have hz1 : w.heap.size ≤ w1.heap.size := Nat.le_trans hz hb1.size
      have cW := bld_write w.heap.size w.heap.size _ (strOfNums (varB q)) w1 (HB.out.keep hb1) hm hz1
      go_wp2_with (go_at_call 105; with_reducible refine cW.mono ?_; rintro e w2 ⟨rfl, HB2, hb2⟩)
      go_roundw
      case rel => exact ⟨k + 1, by omega, by go_num, by rw [flat_more varB l k q HQ.out, strNums_append]; exact HB2, (hbel.trans (hb1.mono hz)).trans hb2⟩
      case measure => simp [intOf]; omega
    · have hd : decide ((k : Int) < (n : Int)) = false := decide_eq_false (by omega)
      have hT : strOfNums ((l.take k).flatMap varB) = T := by
        rw [List.take_of_length_le (by have := E1.out; omega)]
        exact HT.out
      have HB1 := HB.out
      rw [hT] at HB1
      have cS := bld_string w.heap.size w.heap.size T wr HB1 hbel.size
      clear HB HB1 hT HT
      go_wp2_with (go_at_call 107; with_reducible refine cS.mono ?_; rintro e w1 ⟨rfl, hb1⟩)
      go_ret
      exact ⟨rfl, hbel.trans hb1⟩

end Go.Proofs.Ytgaphgejpnepfaa
