/-
  The walk of the specification's GreatLess.
-/
import Derived.Test.YtfocaoliadbhcaaDoorGreats
namespace Go.Proofs.YtfocaoliadbhcaaDoor
open Go.RowKit
set_option linter.unusedVariables false

/-- less, by the numbers -/
def lessG (a b : ByteArray) : Bool := figsOk a.data.toList && figsOk b.data.toList && decide (digV a.data.toList < digV b.data.toList)

/-- fewer right figures are a lesser number -/
theorem figs_fewer {l m : List UInt8} (hl : figsOk l = true) (hm : figsOk m = true) (h : l.length < m.length) : digV l < digV m := by
  have h1 := digV_lt (figsOk_figs hl)
  have hf := figsOk_figs hm
  unfold figsOk at hl hm
  simp only [Bool.and_eq_true, Bool.or_eq_true, decide_eq_true_eq] at hl hm
  have h2 : 1 < m.length := by omega
  match m, h2, hm, hf with
  | c :: r, h2, hm, hf =>
    have hc := hf c (by simp)
    have hn : c.toNat ≠ 48 := by
      rcases hm.1.2 with h' | h'
      · omega
      · simpa using h'
    have e := digV_append [c] r
    rw [List.singleton_append] at e
    have e2 : digV [c] = c.toNat - 48 := by simp [digV]
    rw [e, e2]
    have h3 : 10 ^ l.length ≤ 10 ^ r.length := Nat.pow_le_pow_right (by decide) (by simp at h; omega)
    have h4 : 1 * 10 ^ r.length ≤ (c.toNat - 48) * 10 ^ r.length := Nat.mul_le_mul_right _ (by omega)
    omega

theorem digV_cons (c : UInt8) (r : List UInt8) : digV (c :: r) = (c.toNat - 48) * 10 ^ r.length + digV r := by
  have e := digV_append [c] r
  rw [List.singleton_append] at e
  have e2 : digV [c] = c.toNat - 48 := by simp [digV]
  rw [e, e2]

/-- as many figures: byte by byte -/
theorem less_bytes : ∀ (l m : List UInt8), Figs l → Figs m → l.length = m.length → Op.bytesLess l m = decide (digV l < digV m)
  | [], [], _, _, _ => by simp [Op.bytesLess, digV_nil]
  | [], _ :: _, _, _, h => by simp at h
  | _ :: _, [], _, _, h => by simp at h
  | a :: l, b :: m, hl, hm, h => by
    have hlen : l.length = m.length := by simpa using h
    have hl' : Figs l := fun c hc => hl c (by simp [hc])
    have hm' : Figs m := fun c hc => hm c (by simp [hc])
    have ih := less_bytes l m hl' hm' hlen
    have ha := hl a (by simp)
    have hb := hm b (by simp)
    have v1 := digV_lt hl'
    have v2 := digV_lt hm'
    rw [Op.bytesLess, ih, digV_cons, digV_cons, hlen]
    rw [hlen] at v1
    have hP : 0 < 10 ^ m.length := Nat.pow_pos (by decide)
    rcases Nat.lt_trichotomy a.toNat b.toNat with h1 | h1 | h1
    · have h2 : a < b := UInt8.lt_iff_toNat_lt.2 h1
      have h3 : (a.toNat - 48 + 1) * 10 ^ m.length ≤ (b.toNat - 48) * 10 ^ m.length := Nat.mul_le_mul_right _ (by omega)
      rw [Nat.add_mul] at h3
      rw [decide_eq_true h2, Bool.true_or, decide_eq_true (by omega)]
    · have h2 : a = b := UInt8.toNat_inj.1 h1
      subst h2
      have h3 : ¬a < a := by rw [UInt8.lt_iff_toNat_lt]; omega
      rw [decide_eq_false h3, Bool.false_or, beq_self_eq_true, Bool.true_and, Bool.eq_iff_iff, decide_eq_true_iff, decide_eq_true_iff]
      omega
    · have h2 : ¬a < b := by rw [UInt8.lt_iff_toNat_lt]; omega
      have h3 : (a == b) = false := by
        rw [beq_eq_false_iff_ne]
        intro e; subst e; omega
      have h4 : (b.toNat - 48 + 1) * 10 ^ m.length ≤ (a.toNat - 48) * 10 ^ m.length := Nat.mul_le_mul_right _ (by omega)
      rw [Nat.add_mul] at h4
      rw [decide_eq_false h2, h3, Bool.false_and, Bool.or_false, decide_eq_false (by omega)]

set_option maxHeartbeats 1000000 in
set_option maxRecDepth 100000 in
theorem specGreatLess_any (a b : ByteArray) (w : World) :
    Calls Tryd.prog 37 #[.string a, .string b] w fun e w' => e = .returned (.bool (lessG a b)) ∧ w = w' := by
  have cA := fun W => specFiguresOk_any a W
  have cB := fun W => specFiguresOk_any b W
  by_cases ha : figsOk a.data.toList = true
  · by_cases hb : figsOk b.data.toList = true
    · have hR : lessG a b = decide (digV a.data.toList < digV b.data.toList) := by unfold lessG; rw [ha, hb]; rfl
      by_cases hl : a.size = b.size
      · have hl' : (a.size : Int) = b.size := by omega
        have HL : Hid (Op.bytesLess a.toList b.toList = lessG a b) := by
          show _ = _
          rw [hR, Lib.toList_data, Lib.toList_data]
          exact less_bytes _ _ (figsOk_figs ha) (figsOk_figs hb) (by rw [size_list, size_list]; exact hl)
        rw [ha] at cA
        rw [hb] at cB
        clear hR ha hb hl
        go_enter Tryd.func37, Tryd.ntmps37
        go_wp2_with fail
        refine (cA _).mono ?_
        rintro e w' ⟨rfl, rfl⟩
        go_wp2_with fail
        refine (cB _).mono ?_
        rintro e w' ⟨rfl, rfl⟩
        go_wp2_with fail
        go_ret
        exact ⟨by rw [← HL.out]; rfl, rfl⟩
      · have hl' : ((a.size : Int) == b.size) = false := by rw [beq_eq_false_iff_ne]; omega
        rw [ha] at cA
        rw [hb] at cB
        by_cases hlt : a.size < b.size
        · have HL : Hid (lessG a b = true) := by
            show _ = _
            rw [hR, decide_eq_true (figs_fewer ha hb (by rw [size_list, size_list]; exact hlt))]
          clear hR ha hb
          go_enter Tryd.func37, Tryd.ntmps37
          go_wp2_with fail
          refine (cA _).mono ?_
          rintro e w' ⟨rfl, rfl⟩
          go_wp2_with fail
          refine (cB _).mono ?_
          rintro e w' ⟨rfl, rfl⟩
          go_wp2
          go_ret
          exact ⟨by rw [HL.out]; rfl, rfl⟩
        · have HL : Hid (lessG a b = false) := by
            show _ = _
            have := figs_fewer hb ha (by rw [size_list, size_list]; omega)
            rw [hR, decide_eq_false (by omega)]
          have hlt' : decide (a.size < b.size) = false := by simp; omega
          clear hR ha hb
          go_enter Tryd.func37, Tryd.ntmps37
          go_wp2_with fail
          refine (cA _).mono ?_
          rintro e w' ⟨rfl, rfl⟩
          go_wp2_with fail
          refine (cB _).mono ?_
          rintro e w' ⟨rfl, rfl⟩
          go_wp2
          go_ret
          exact ⟨by rw [HL.out]; rfl, rfl⟩
    · have hb' : figsOk b.data.toList = false := by simpa using hb
      have HL : Hid (lessG a b = false) := by
        show _ = _
        unfold lessG; rw [hb', Bool.and_false]; rfl
      rw [ha] at cA
      rw [hb'] at cB
      clear ha hb hb'
      go_enter Tryd.func37, Tryd.ntmps37
      go_wp2_with fail
      refine (cA _).mono ?_
      rintro e w' ⟨rfl, rfl⟩
      go_wp2_with fail
      refine (cB _).mono ?_
      rintro e w' ⟨rfl, rfl⟩
      go_wp2
      go_ret
      exact ⟨by rw [HL.out]; rfl, rfl⟩
  · have ha' : figsOk a.data.toList = false := by simpa using ha
    have HL : Hid (lessG a b = false) := by
      show _ = _
      unfold lessG; rw [ha']; rfl
    rw [ha'] at cA
    clear ha ha'
    go_enter Tryd.func37, Tryd.ntmps37
    go_wp2_with fail
    refine (cA _).mono ?_
    rintro e w' ⟨rfl, rfl⟩
    go_wp2
    go_ret
    exact ⟨by rw [HL.out]; rfl, rfl⟩

end Go.Proofs.YtfocaoliadbhcaaDoor
