/-
  The program's own listText of Caps and of Consts.
-/
import Derived.Test.YtgaphgejpnepfaaITxt15D
namespace Go.Proofs.Ytgaphgejpnepfaa
open Go.RowKit Go.Sort
set_option linter.unusedVariables false

set_option maxHeartbeats 2000000 in
set_option maxRecDepth 100000 in
theorem iListCap (l : List PCap) (v : Value) (w : World) (h : ArgFlat w v 2 l.length (l.flatMap capC)) (ho : ∀ q ∈ l, capOk q = true) (hn : l.length ≤ 1000) :
    Calls Try.prog 111 #[v, .func (.func 112) #[] #[]] w fun e w' => e = .returned (.string (strOfNums (varB l.length ++ l.flatMap capT))) ∧ Below w.heap.size w w' := by
  obtain ⟨x, c, rfl, m, o⟩ := h.opened capC_len
  clear h m
  have HZ : Hid (∀ k, (strOfNums (varB l.length ++ (l.take k).flatMap capT)).size ≤ 100000) := fun k => by
    rw [strOfNums_size, List.length_append]
    have h1 := varN_few (x := l.length) (by omega)
    have h2 := flat_take_le capT 6 k l (fun q hq => capT_len (ho q hq))
    omega
  have HO : Hid (∀ q ∈ l, capOk q = true) := ho
  obtain ⟨n, e1⟩ : ∃ n, l.length = n := ⟨_, rfl⟩
  rw [e1] at hn o ⊢
  simp only [e1] at HZ
  obtain ⟨F, hF⟩ : ∃ F, strOfNums (varB n ++ l.flatMap capT) = F := ⟨_, rfl⟩
  rw [hF]
  have HF : Hid (_ = F) := hF
  have H1 : Hid (0 < n → ∃ b o, x = some ⟨b, o, none⟩ ∧ b < w.heap.size ∧ ∀ j q, l[j]? = some q → ∀ c u, (capC q)[c]? = some u → w.cell? ⟨b, o + j * 2 + c, none⟩ = some u) := o
  have E1 : Hid (l.length = n) := e1
  clear o e1 hF ho
  have f0 : Hid (Bld w.heap.size w.heap.size ⟨#[]⟩ (w.alloc (.cells #[.pointer none, .slice none 0 0] 166))) := bld_new w
  have bN : ∀ (W : World) cs t, Below W.heap.size W (W.alloc (.cells cs t)) := fun W cs t => (Below.refl _ _).alloc (Nat.le_refl _) _
  have nr : NumRow ((w.alloc (.cells #[.pointer none, .slice none 0 0] 166)).alloc (.cells #[.int .i64 (n : Int)] 3)) (w.heap.size + 1) [n] := by
    have := numRow_new (w.alloc (.cells #[.pointer none, .slice none 0 0] 166)) [n] #[.int .i64 (n : Int)] rfl
    simpa using this
  have cV := varTexts1 n (by omega)
  have HS : Hid ((strOfNums (varB n)).size ≤ 5) := by rw [Hid]; rw [strOfNums_size]; exact varN_few (by omega)
  go_enter Try.func111, Try.ntmps111
  go_wp2_with (go_at_call 106; (with_reducible refine (cV _ _ _ (by first | with_reducible exact nr | exact nr)).mono ?_); rintro e w1 ⟨rfl, hb1⟩)
  have HB1 := f0.out.keep (chain (bN _ _ _) hb1)
  have hW1 : Below w.heap.size w w1 := chain (chain (bN _ _ _) (bN _ _ _)) hb1
  have cW := bld_write w.heap.size w.heap.size _ (strOfNums (varB n)) w1 HB1 (by have := HS.out; show 0 + _ ≤ _; omega) hW1.size
  clear HB1 f0 hb1 nr cV
  go_wp2_with (go_at_call 105; (with_reducible refine cW.mono ?_); rintro e w2 ⟨rfl, HB2, hb2⟩)
  have hW2 : Below w.heap.size w w2 := hW1.trans hb2
  have f1 : Hid (Bld w.heap.size w.heap.size (strOfNums (varB n ++ (l.take 0).flatMap capT)) w2) := by
    have e : (⟨#[]⟩ : ByteArray) ++ strOfNums (varB n) = strOfNums (varB n ++ (l.take 0).flatMap capT) := by
      have := strNums_append [] (varB n)
      rw [show strOfNums [] = (⟨#[]⟩ : ByteArray) from rfl] at this
      rw [← this]
      simp
    rw [← e]
    exact HB2
  clear cW HB2 hb2 hW1
  go_loopw [15] (fun i wr => ∃ k : Nat, k ≤ n ∧ i = .int .i64 k ∧ Hid (Bld w.heap.size w.heap.size (strOfNums (varB n ++ (l.take k).flatMap capT)) wr) ∧ Below w.heap.size w wr) (fun i _ => n - (intOf i).toNat)
  case atStart => exact ⟨0, Nat.zero_le _, rfl, f1, hW2⟩
  case round =>
    obtain ⟨k, hk, rfl, HB, hb⟩ := hrel
    clear f1 hW2
    by_cases hkn : k < n
    · obtain ⟨b, o, rfl, hbz, hcell⟩ := H1.out (by omega)
      obtain ⟨q, hq⟩ : ∃ q, l[k]? = some q := ⟨_, List.getElem?_eq_getElem (by have := E1.out; omega)⟩
      have g0 : wr.cell? ⟨b, o + k * 2, none⟩ = some (.bool q.reg) := (hb.cell hbz).trans (hcell k q hq 0 _ rfl)
      have g1 : wr.cell? ⟨b, o + k * 2 + 1, none⟩ = some (.int .i64 q.index) := (hb.cell hbz).trans (hcell k q hq 1 _ rfl)
      have hki : (k : Int) < (n : Int) := by omega
      have hk0 : (0 : Int) ≤ (k : Int) := by omega
      have cI := fun W => iCapText q W (HO.out q (List.mem_iff_getElem?.2 ⟨_, hq⟩))
      have HQ : Hid (l[k]? = some q) := hq
      have HI : Hid ((capT q).length ≤ 100) := Nat.le_trans (capT_len (HO.out q (List.mem_iff_getElem?.2 ⟨_, hq⟩))) (by decide)
      obtain ⟨U, eU⟩ : ∃ U, strOfNums (capT q) = U := ⟨_, rfl⟩
      simp only [eU] at cI
      have HU : Hid (strOfNums (capT q) = U) := eU
      have hz : w.heap.size ≤ wr.heap.size := hb.size
      clear hcell hq eU H1
      go_wp2_with (go_at_call 112; (with_reducible refine (cI _).mono ?_); rintro e w3 ⟨rfl, hb3⟩)
      have hY : Below wr.heap.size wr w3 := chain (by repeat (first | exact Below.refl _ _ | refine Below.setCell ?_ (by show wr.heap.size ≤ wr.heap.size; exact Nat.le_refl _) _ | refine Below.alloc ?_ (Nat.le_refl _) _)) hb3
      have hU : U.size ≤ 100 := by rw [← HU.out, strOfNums_size]; exact HI.out
      have cW := bld_write w.heap.size w.heap.size _ U w3 (HB.out.keep hY) (by have h1 := HZ.out k; omega) (Nat.le_trans hz hY.size)
      clear hU
      clear hb3 cI
      go_wp2_with (go_at_call 105; (with_reducible refine cW.mono ?_); rintro e w4 ⟨rfl, HB4, hb4⟩)
      go_roundw
      case rel => exact ⟨k + 1, by omega, by go_num, by rw [flat_more capT l k q HQ.out, ← List.append_assoc, strNums_append, HU.out]; exact HB4, (chain hb hY).trans hb4⟩
      case measure => simp [intOf]; omega
    · have hd : decide ((k : Int) < (n : Int)) = false := decide_eq_false (by omega)
      have hT : strOfNums (varB n ++ (l.take k).flatMap capT) = F := by
        rw [List.take_of_length_le (by have := E1.out; omega)]
        exact HF.out
      have HB5 := HB.out
      rw [hT] at HB5
      have cS := bld_string w.heap.size w.heap.size F wr HB5 hb.size
      clear HB HB5 hT HF H1
      go_wp2_with (go_at_call 107; (with_reducible refine cS.mono ?_); rintro e w5 ⟨rfl, hb5⟩)
      go_ret
      exact ⟨rfl, hb.trans hb5⟩

set_option maxHeartbeats 2000000 in
set_option maxRecDepth 100000 in
theorem iListConst (l : List PCon) (v : Value) (w : World) (h : ArgFlat w v 3 l.length (l.flatMap conC)) (ho : ∀ q ∈ l, conOk q = true) (hn : l.length ≤ 1000) (HW : ∀ x ∈ l, conW x) :
    Calls Try.prog 49 #[v, .func (.func 50) #[] #[]] w fun e w' => e = .returned (.string (strOfNums (varB l.length ++ l.flatMap conT))) ∧ Below w.heap.size w w' := by
  obtain ⟨x, c, rfl, m, o⟩ := h.opened conC_len
  clear h m
  have HZ : Hid (∀ k, (strOfNums (varB l.length ++ (l.take k).flatMap conT)).size ≤ 100000) := fun k => by
    rw [strOfNums_size, List.length_append]
    have h1 := varN_few (x := l.length) (by omega)
    have h2 := flat_take_le conT 60 k l (fun q hq => conT_len (ho q hq))
    omega
  have HO : Hid (∀ q ∈ l, conOk q = true) := ho
  obtain ⟨n, e1⟩ : ∃ n, l.length = n := ⟨_, rfl⟩
  rw [e1] at hn o ⊢
  simp only [e1] at HZ
  obtain ⟨F, hF⟩ : ∃ F, strOfNums (varB n ++ l.flatMap conT) = F := ⟨_, rfl⟩
  rw [hF]
  have HF : Hid (_ = F) := hF
  have H1 : Hid (0 < n → ∃ b o, x = some ⟨b, o, none⟩ ∧ b < w.heap.size ∧ ∀ j q, l[j]? = some q → ∀ c u, (conC q)[c]? = some u → w.cell? ⟨b, o + j * 3 + c, none⟩ = some u) := o
  have E1 : Hid (l.length = n) := e1
  clear o e1 hF ho
  have f0 : Hid (Bld w.heap.size w.heap.size ⟨#[]⟩ (w.alloc (.cells #[.pointer none, .slice none 0 0] 166))) := bld_new w
  have bN : ∀ (W : World) cs t, Below W.heap.size W (W.alloc (.cells cs t)) := fun W cs t => (Below.refl _ _).alloc (Nat.le_refl _) _
  have nr : NumRow ((w.alloc (.cells #[.pointer none, .slice none 0 0] 166)).alloc (.cells #[.int .i64 (n : Int)] 3)) (w.heap.size + 1) [n] := by
    have := numRow_new (w.alloc (.cells #[.pointer none, .slice none 0 0] 166)) [n] #[.int .i64 (n : Int)] rfl
    simpa using this
  have cV := varTexts1 n (by omega)
  have HS : Hid ((strOfNums (varB n)).size ≤ 5) := by rw [Hid]; rw [strOfNums_size]; exact varN_few (by omega)
  go_enter Try.func49, Try.ntmps49
  go_wp2_with (go_at_call 106; (with_reducible refine (cV _ _ _ (by first | with_reducible exact nr | exact nr)).mono ?_); rintro e w1 ⟨rfl, hb1⟩)
  have HB1 := f0.out.keep (chain (bN _ _ _) hb1)
  have hW1 : Below w.heap.size w w1 := chain (chain (bN _ _ _) (bN _ _ _)) hb1
  have cW := bld_write w.heap.size w.heap.size _ (strOfNums (varB n)) w1 HB1 (by have := HS.out; show 0 + _ ≤ _; omega) hW1.size
  clear HB1 f0 hb1 nr cV
  go_wp2_with (go_at_call 105; (with_reducible refine cW.mono ?_); rintro e w2 ⟨rfl, HB2, hb2⟩)
  have hW2 : Below w.heap.size w w2 := hW1.trans hb2
  have f1 : Hid (Bld w.heap.size w.heap.size (strOfNums (varB n ++ (l.take 0).flatMap conT)) w2) := by
    have e : (⟨#[]⟩ : ByteArray) ++ strOfNums (varB n) = strOfNums (varB n ++ (l.take 0).flatMap conT) := by
      have := strNums_append [] (varB n)
      rw [show strOfNums [] = (⟨#[]⟩ : ByteArray) from rfl] at this
      rw [← this]
      simp
    rw [← e]
    exact HB2
  clear cW HB2 hb2 hW1
  go_loopw [15] (fun i wr => ∃ k : Nat, k ≤ n ∧ i = .int .i64 k ∧ Hid (Bld w.heap.size w.heap.size (strOfNums (varB n ++ (l.take k).flatMap conT)) wr) ∧ Below w.heap.size w wr) (fun i _ => n - (intOf i).toNat)
  case atStart => exact ⟨0, Nat.zero_le _, rfl, f1, hW2⟩
  case round =>
    obtain ⟨k, hk, rfl, HB, hb⟩ := hrel
    clear f1 hW2
    by_cases hkn : k < n
    · obtain ⟨b, o, rfl, hbz, hcell⟩ := H1.out (by omega)
      obtain ⟨q, hq⟩ : ∃ q, l[k]? = some q := ⟨_, List.getElem?_eq_getElem (by have := E1.out; omega)⟩
      have g0 : wr.cell? ⟨b, o + k * 3, none⟩ = some (.int .i64 q.kind) := (hb.cell hbz).trans (hcell k q hq 0 _ rfl)
      have g1 : wr.cell? ⟨b, o + k * 3 + 1, none⟩ = some (.int .u64 (q.num : Int)) := (hb.cell hbz).trans (hcell k q hq 1 _ rfl)
      have g2 : wr.cell? ⟨b, o + k * 3 + 2, none⟩ = some (.string q.text) := (hb.cell hbz).trans (hcell k q hq 2 _ rfl)
      have hki : (k : Int) < (n : Int) := by omega
      have hk0 : (0 : Int) ≤ (k : Int) := by omega
      have cI := fun W => iConstText q W (HO.out q (List.mem_iff_getElem?.2 ⟨_, hq⟩)) (HW q (List.mem_iff_getElem?.2 ⟨_, hq⟩))
      have HQ : Hid (l[k]? = some q) := hq
      have HI : Hid ((conT q).length ≤ 100) := Nat.le_trans (conT_len (HO.out q (List.mem_iff_getElem?.2 ⟨_, hq⟩))) (by decide)
      obtain ⟨U, eU⟩ : ∃ U, strOfNums (conT q) = U := ⟨_, rfl⟩
      simp only [eU] at cI
      have HU : Hid (strOfNums (conT q) = U) := eU
      have hz : w.heap.size ≤ wr.heap.size := hb.size
      clear hcell hq eU H1
      go_wp2_with (go_at_call 50; (with_reducible refine (cI _).mono ?_); rintro e w3 ⟨rfl, hb3⟩)
      have hY : Below wr.heap.size wr w3 := chain (by repeat (first | exact Below.refl _ _ | refine Below.setCell ?_ (by show wr.heap.size ≤ wr.heap.size; exact Nat.le_refl _) _ | refine Below.alloc ?_ (Nat.le_refl _) _)) hb3
      have hU : U.size ≤ 100 := by rw [← HU.out, strOfNums_size]; exact HI.out
      have cW := bld_write w.heap.size w.heap.size _ U w3 (HB.out.keep hY) (by have h1 := HZ.out k; omega) (Nat.le_trans hz hY.size)
      clear hU
      clear hb3 cI
      go_wp2_with (go_at_call 105; (with_reducible refine cW.mono ?_); rintro e w4 ⟨rfl, HB4, hb4⟩)
      go_roundw
      case rel => exact ⟨k + 1, by omega, by go_num, by rw [flat_more conT l k q HQ.out, ← List.append_assoc, strNums_append, HU.out]; exact HB4, (chain hb hY).trans hb4⟩
      case measure => simp [intOf]; omega
    · have hd : decide ((k : Int) < (n : Int)) = false := decide_eq_false (by omega)
      have hT : strOfNums (varB n ++ (l.take k).flatMap conT) = F := by
        rw [List.take_of_length_le (by have := E1.out; omega)]
        exact HF.out
      have HB5 := HB.out
      rw [hT] at HB5
      have cS := bld_string w.heap.size w.heap.size F wr HB5 hb.size
      clear HB HB5 hT HF H1
      go_wp2_with (go_at_call 107; (with_reducible refine cS.mono ?_); rintro e w5 ⟨rfl, hb5⟩)
      go_ret
      exact ⟨rfl, hb.trans hb5⟩

end Go.Proofs.Ytgaphgejpnepfaa
