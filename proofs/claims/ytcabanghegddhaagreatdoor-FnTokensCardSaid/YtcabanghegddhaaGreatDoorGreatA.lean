/-
  Several texts in one: Great, Limb, LimbAdd, LimbMul.
-/
import Derived.Test.YtcabanghegddhaaGreatDoorBaseA
import Derived.Test.YtcabanghegddhaaGreatDoorFigA
import Derived.Deep.DeepCutAuto
import Derived.Deep.CutRange
import Derived.Deep.QuietTactic
import Derived.BigQuiet
namespace Go.Proofs.YtcabanghegddhaaGreatDoor
open Go.RowKit
set_option linter.unusedVariables false

theorem size_list (s : ByteArray) : s.data.toList.length = s.size := (Lib.size_eq s).symm
theorem getD_first (s : ByteArray) (h : 0 < s.size) : s.data.toList.getD 0 0 = s[0] := by
  rw [List.getD_eq_getElem?_getD, List.getElem?_eq_getElem (by rw [size_list]; exact h)]
  rfl
theorem fo_size {s : ByteArray} (h : ¬(1 ≤ s.size ∧ s.size ≤ 800)) : figsOk s.data.toList = false := by
  unfold figsOk
  rw [size_list, decide_eq_false h]
  rfl
theorem fo_lead {s : ByteArray} (h : 1 < s.size) (h0 : (s[0]).toNat = 48) : figsOk s.data.toList = false := by
  unfold figsOk
  rw [size_list, getD_first s (by omega), decide_eq_false (by omega : ¬s.size ≤ 1), decide_eq_false (by omega : ¬(s[0]).toNat ≠ 48)]
  simp
theorem fo_bad {s : ByteArray} {k : Nat} (h : k < s.size) (hb : ¬(48 ≤ (s[k]).toNat ∧ (s[k]).toNat ≤ 57)) : figsOk s.data.toList = false := by
  have hm : s[k] ∈ s.data.toList := by
    have : s[k] = s.data.toList[k]'(by rw [size_list]; exact h) := rfl
    rw [this]; exact List.getElem_mem _
  have ha : (s.data.toList.all fun c => decide (48 ≤ c.toNat ∧ c.toNat ≤ 57)) = false := by
    rw [List.all_eq_false]
    exact ⟨_, hm, by simp only [decide_eq_true_eq]; exact hb⟩
  unfold figsOk
  rw [ha, Bool.and_false]
theorem fo_good {s : ByteArray} (h1 : 1 ≤ s.size) (h2 : s.size ≤ 800) (h3 : s.size ≤ 1 ∨ (s.data.toList.getD 0 0).toNat ≠ 48) (h4 : Figs s.data.toList) : figsOk s.data.toList = true := by
  have ha : (s.data.toList.all fun c => decide (48 ≤ c.toNat ∧ c.toNat ≤ 57)) = true := by
    rw [List.all_eq_true]
    intro c hc
    rw [decide_eq_true_eq]; exact h4 c hc
  unfold figsOk
  rw [ha, size_list, decide_eq_true ⟨h1, h2⟩, Bool.and_true, Bool.true_and]
  rcases h3 with h | h
  · rw [decide_eq_true h]; rfl
  · rw [decide_eq_true h, Bool.or_true]

set_option maxHeartbeats 400000 in
set_option maxRecDepth 100000 in
theorem l01In_any (x a b : Int) (w : World) :
    Calls Tryz.prog 53 #[.int .i64 x, .int .i64 a, .int .i64 b] w fun e w' => e = .returned (.bool (decide (a ≤ x) && decide (x ≤ b))) ∧ w = w' := by
  by_cases h1 : a ≤ x
  · by_cases h2 : x ≤ b
    · have e2 : decide (x ≤ b) = true := by simpa using h2
      go_enter Tryz.func53, Tryz.ntmps53
      go_wp2
      go_ret
      exact ⟨by rw [decide_eq_true h1, e2]; rfl, rfl⟩
    · have e2 : decide (x ≤ b) = false := by simpa using h2
      go_enter Tryz.func53, Tryz.ntmps53
      go_wp2
      go_ret
      exact ⟨rfl, rfl⟩
  · have e1 : decide (a ≤ x) = false := by simpa using h1
    go_enter Tryz.func53, Tryz.ntmps53
    go_wp2
    go_ret
    exact ⟨rfl, rfl⟩

set_option maxHeartbeats 1000000 in
set_option maxRecDepth 100000 in
theorem specFiguresOk_any (s : ByteArray) (w : World) :
    Calls Tryz.prog 65 #[.string s] w fun e w' => e = .returned (.bool (figsOk s.data.toList)) ∧ w = w' := by
  have cI := fun W => l01In_any (s.size : Int) 1 800 W
  obtain ⟨R, hR⟩ : ∃ R, figsOk s.data.toList = R := ⟨_, rfl⟩
  by_cases h1 : 1 ≤ s.size ∧ s.size ≤ 800
  · rw [decide_eq_true (by omega : (1 : Int) ≤ s.size), decide_eq_true (by omega : (s.size : Int) ≤ 800)] at cI
    by_cases h2 : 1 < s.size ∧ (s.data.toList.getD 0 0).toNat = 48
    · have h0 : (s[0]'(by omega)).toNat = 48 := by rw [← getD_first s (by omega)]; exact h2.2
      have HR : Hid (Unit → R = false) := fun _ => by rw [← hR]; exact fo_lead h2.1 h0
      have hz : 0 < s.size := by omega
      have h3 : (1 : Int) < s.size := by omega
      have h0' : ((s[0]'(by omega)).toNat : Int) = 48 := by omega
      rw [hR]
      clear hR h2 h1 h0
      go_enter Tryz.func65, Tryz.ntmps65
      go_wp2_with (go_at_call 53; refine (cI _).mono ?_; rintro e w' ⟨rfl, rfl⟩)
      go_ret
      exact ⟨by rw [HR.out ()]; rfl, rfl⟩
    · have HRR : Hid (figsOk s.data.toList = R) := hR
      have HG : Hid (s.size ≤ 1 ∨ (s.data.toList.getD 0 0).toNat ≠ 48) := by
        show s.size ≤ 1 ∨ (s.data.toList.getD 0 0).toNat ≠ 48
        omega
      rw [hR]
      clear hR
      by_cases hs1 : (1 : Int) < s.size
      · have h0 : (s[0]'(by omega)).toNat ≠ 48 := by rw [← getD_first s (by omega)]; exact fun h => h2 ⟨by omega, h⟩
        have hz : 0 < s.size := by omega
        have h0' : (((s[0]'(by omega)).toNat : Int) == 48) = false := by rw [beq_eq_false_iff_ne]; omega
        clear h2 h0
        go_enter Tryz.func65, Tryz.ntmps65
        go_upto_region 4 with (go_at_call 53; refine (cI _).mono ?_; rintro e w' ⟨rfl, rfl⟩)
        go_loop [3] (fun i => ∃ k : Nat, k ≤ s.size ∧ i = .int .i64 k ∧ Hid (Figs (s.data.toList.take k))) (fun i => s.size - (intOf i).toNat)
        case atStart => exact ⟨0, Nat.zero_le _, rfl, by rw [List.take_zero]; exact figs_nil⟩
        case round =>
          obtain ⟨k, hk, rfl, HK⟩ := hrel
          by_cases hlt : k < s.size
          · by_cases hc1 : ((s[k]).toNat : Int) < 48
            · have HR : Hid (Unit → R = false) := fun _ => by rw [← HRR.out]; exact fo_bad hlt (by omega)
              go_wp2
              go_ret
              exact ⟨by rw [HR.out ()]; rfl, rfl⟩
            · have hc1' : decide (((s[k]).toNat : Int) < 48) = false := by simp; omega
              by_cases hc2 : (57 : Int) < ((s[k]).toNat : Int)
              · have HR : Hid (Unit → R = false) := fun _ => by rw [← HRR.out]; exact fo_bad hlt (by omega)
                go_wp2
                go_ret
                exact ⟨by rw [HR.out ()]; rfl, rfl⟩
              · have hc2' : decide ((57 : Int) < ((s[k]).toNat : Int)) = false := by simp; omega
                have HN : Hid (Figs (s.data.toList.take (k + 1))) := by
                  show Figs _
                  rw [take_snoc s k hlt]
                  exact figs_snoc HK.out (by omega)
                go_wp2
                go_round
                case rel => exact ⟨k + 1, by omega, by go_num, HN⟩
                case measure => simp [intOf]; omega
          · have hkk : k = s.size := by omega
            have HR : Hid (Unit → R = true) := fun _ => by
              rw [← HRR.out]
              have h4 := HK.out
              rw [hkk, take_all] at h4
              exact fo_good h1.1 h1.2 HG.out h4
            go_wp2
            go_ret
            exact ⟨by rw [HR.out ()]; rfl, rfl⟩
      · have hs1' : decide ((1 : Int) < s.size) = false := by simp; omega
        clear h2
        go_enter Tryz.func65, Tryz.ntmps65
        go_upto_region 4 with (go_at_call 53; refine (cI _).mono ?_; rintro e w' ⟨rfl, rfl⟩)
        go_loop [3] (fun i => ∃ k : Nat, k ≤ s.size ∧ i = .int .i64 k ∧ Hid (Figs (s.data.toList.take k))) (fun i => s.size - (intOf i).toNat)
        case atStart => exact ⟨0, Nat.zero_le _, rfl, by rw [List.take_zero]; exact figs_nil⟩
        case round =>
          obtain ⟨k, hk, rfl, HK⟩ := hrel
          by_cases hlt : k < s.size
          · by_cases hc1 : ((s[k]).toNat : Int) < 48
            · have HR : Hid (Unit → R = false) := fun _ => by rw [← HRR.out]; exact fo_bad hlt (by omega)
              go_wp2
              go_ret
              exact ⟨by rw [HR.out ()]; rfl, rfl⟩
            · have hc1' : decide (((s[k]).toNat : Int) < 48) = false := by simp; omega
              by_cases hc2 : (57 : Int) < ((s[k]).toNat : Int)
              · have HR : Hid (Unit → R = false) := fun _ => by rw [← HRR.out]; exact fo_bad hlt (by omega)
                go_wp2
                go_ret
                exact ⟨by rw [HR.out ()]; rfl, rfl⟩
              · have hc2' : decide ((57 : Int) < ((s[k]).toNat : Int)) = false := by simp; omega
                have HN : Hid (Figs (s.data.toList.take (k + 1))) := by
                  show Figs _
                  rw [take_snoc s k hlt]
                  exact figs_snoc HK.out (by omega)
                go_wp2
                go_round
                case rel => exact ⟨k + 1, by omega, by go_num, HN⟩
                case measure => simp [intOf]; omega
          · have hkk : k = s.size := by omega
            have HR : Hid (Unit → R = true) := fun _ => by
              rw [← HRR.out]
              have h4 := HK.out
              rw [hkk, take_all] at h4
              exact fo_good h1.1 h1.2 HG.out h4
            go_wp2
            go_ret
            exact ⟨by rw [HR.out ()]; rfl, rfl⟩
  · have HR : Hid (Unit → R = false) := fun _ => by rw [← hR]; exact fo_size h1
    have e1 : (decide ((1 : Int) ≤ s.size) && decide ((s.size : Int) ≤ 800)) = false := by
      rw [Bool.and_eq_false_iff, decide_eq_false_iff_not, decide_eq_false_iff_not]; omega
    rw [e1] at cI
    rw [hR]
    clear hR h1 e1
    go_enter Tryz.func65, Tryz.ntmps65
    go_wp2_with (go_at_call 53; refine (cI _).mono ?_; rintro e w' ⟨rfl, rfl⟩)
    go_ret
    exact ⟨by rw [HR.out ()]; rfl, rfl⟩

end Go.Proofs.YtcabanghegddhaaGreatDoor

namespace Go.Proofs.YtcabanghegddhaaGreatDoor
open Go.RowKit
set_option linter.unusedVariables false

/-- a list of whole numbers that a call made -/
def Row (w : World) (B : Nat) (v : Value) (xs : List Nat) : Prop := w.ownsRow B 3 1 v xs.length (xs.map fun x => Value.int .i64 (x : Nat))

theorem own_below {w w' : World} {B : Nat} {e : TypeId} {v : Value} {n : Nat} {xs : List Value} (h : w.ownsRow B e 1 v n xs) (hb : Below w.heap.size w w') : w'.ownsRow B e 1 v n xs := by
  refine ⟨h.1, ?_⟩
  rcases h.2 with hn | ⟨g, cap, cur, rfl, h1, h2, rest⟩
  · exact .inl hn
  · refine .inr ⟨g, cap, cur, rfl, h1, ?_, rest⟩
    rw [hb.block g (Array.getElem?_eq_some_iff.1 h2).1]
    exact h2
theorem own_base {w : World} {B B' : Nat} {e : TypeId} {v : Value} {n : Nat} {xs : List Value} (h : w.ownsRow B e 1 v n xs) (hb : B' ≤ B) : w.ownsRow B' e 1 v n xs := by
  refine ⟨h.1, ?_⟩
  rcases h.2 with hn | ⟨g, cap, cur, rfl, h1, rest⟩
  · exact .inl hn
  · exact .inr ⟨g, cap, cur, rfl, by omega, rest⟩
theorem Row.below {w w' : World} {B : Nat} {v : Value} {xs : List Nat} (h : Row w B v xs) (hb : Below w.heap.size w w') : Row w' B v xs := own_below h hb
theorem Row.base {w : World} {B B' : Nat} {v : Value} {xs : List Nat} (h : Row w B v xs) (hb : B' ≤ B) : Row w B' v xs := own_base h hb

/-- what can be read of it -/
theorem Row.cells {w : World} {B : Nat} {v : Value} {xs : List Nat} (h : Row w B v xs) :
    (v = .slice none 0 0 ∧ xs = []) ∨ ∃ g cap, v = .slice (some ⟨g, 0, none⟩) xs.length cap ∧ B ≤ g ∧ g < w.heap.size ∧ ∀ j, j < xs.length → w.cell? ⟨g, j, none⟩ = some (.int .i64 (xs.getD j 0 : Nat)) := by
  have hc := fun g (hg : v.ownBlock = some g) => World.ownsRow.cells h hg
  have hl := World.ownsRow.lt h
  rcases h.2 with ⟨hv, hn⟩ | ⟨g, cap, cur, rfl, h1, h2, h3, h4, h5, h6⟩
  · exact .inl ⟨hv, List.eq_nil_of_length_eq_zero hn⟩
  · refine .inr ⟨g, cap, rfl, h1, (hl g rfl).2, fun j hj => ?_⟩
    have hadd : (⟨g, 0, none⟩ : Addr).add j = ⟨g, j, none⟩ := by unfold Addr.add; split <;> simp_all
    have := hc g rfl j (.int .i64 (xs.getD j 0 : Nat)) (by
      rw [List.getElem?_map, List.getElem?_eq_getElem hj, List.getD_eq_getElem?_getD, List.getElem?_eq_getElem hj]
      rfl)
    rw [hadd] at this
    exact this

theorem sl_take {s : ByteArray} {a b : Nat} (h : a ≤ b) : s.data.toList.take b = s.data.toList.take a ++ sl s a b := by
  unfold sl
  obtain ⟨d, rfl⟩ : ∃ d, b = a + d := ⟨b - a, by omega⟩
  rw [List.take_add, Nat.add_sub_cancel_left]
theorem sl_figs {s : ByteArray} (h : Figs s.data.toList) (a b : Nat) : Figs (sl s a b) := fun c hc => h c (List.mem_of_mem_drop (List.mem_of_mem_take hc))

/-- the limbs up to a place, and what is ahead of it -/
theorem limbs_step {s : ByteArray} {xs : List Nat} {E : Int} {f : Nat} (hE : 0 < E) (hE2 : E ≤ s.size) (hf : (f : Int) = max (E - 9) 0)
    (h : limbV xs + 10 ^ (9 * xs.length) * digV (s.data.toList.take E.toNat) = digV s.data.toList) :
    limbV (xs ++ [digV (sl s f E.toNat)]) + 10 ^ (9 * (xs ++ [digV (sl s f E.toNat)]).length) * digV (s.data.toList.take (E - 9).toNat) = digV s.data.toList := by
  have e1 : s.data.toList.take E.toNat = s.data.toList.take f ++ sl s f E.toNat := sl_take (by omega)
  rw [e1, digV_append, sl_length (by omega)] at h
  rw [limbV_snoc, List.length_append, List.length_singleton, nine_pow, (by omega : (E - 9).toNat = f), ← h, Nat.mul_add, Nat.add_assoc]
  congr 1
  rw [Nat.add_comm]
  congr 1
  by_cases h9 : 9 ≤ E
  · have e2 : E.toNat - f = 9 := by omega
    have e3 : (10 : Nat) ^ 9 = 1000000000 := by decide
    rw [e2, e3, Nat.mul_comm 1000000000, Nat.mul_assoc, Nat.mul_comm (digV _)]
  · have e2 : f = 0 := by omega
    subst e2
    rw [List.take_zero, digV_nil, Nat.zero_mul, Nat.mul_zero, Nat.mul_zero]

end Go.Proofs.YtcabanghegddhaaGreatDoor

namespace Go.Proofs.YtcabanghegddhaaGreatDoor
open Go.RowKit
set_option linter.unusedVariables false

theorem Row.shape {w : World} {B : Nat} {v : Value} {xs : List Nat} (h : Row w B v xs) : ∃ p c, v = .slice p xs.length c := by
  rcases h.cells with ⟨rfl, rfl⟩ | ⟨g, cap, rfl, _⟩
  · exact ⟨none, 0, rfl⟩
  · exact ⟨_, cap, rfl⟩

/-- a sum of limbs up to a place -/
structure AddAt (ls ms xs : List Nat) (i c : Nat) : Prop where
  ok : LimbsOk xs
  len : xs.length = i
  eq : limbV xs + 10 ^ (9 * i) * c = limbV (ls.take i) + limbV (ms.take i)
theorem addAt_start (ls ms : List Nat) : AddAt ls ms [] 0 0 := ⟨limbsOk_nil, rfl, by simp [limbV]⟩
theorem addAt_step {ls ms xs : List Nat} {i c : Nat} (h : AddAt ls ms xs i c) : AddAt ls ms (xs ++ [(ls.getD i 0 + ms.getD i 0 + c) % 1000000000]) (i + 1) ((ls.getD i 0 + ms.getD i 0 + c) / 1000000000) := by
  obtain ⟨h1, h2, h3⟩ := h
  refine ⟨limbsOk_snoc h1 (Nat.mod_lt _ (by decide)), by simp [h2], ?_⟩
  rw [limbV_snoc, limbV_take, limbV_take, h2, nine_pow]
  generalize ls.getD i 0 = x
  generalize ms.getD i 0 = y
  generalize 10 ^ (9 * i) = P at *
  have e := Nat.div_add_mod (x + y + c) 1000000000
  generalize (x + y + c) / 1000000000 = q at *
  generalize (x + y + c) % 1000000000 = r at *
  have e2 : P * (1000000000 * q + r) = P * (x + y + c) := by rw [e]
  rw [Nat.mul_add, Nat.mul_add, Nat.mul_add] at e2
  have e3 : 1000000000 * P * q = P * (1000000000 * q) := by rw [Nat.mul_comm 1000000000, Nat.mul_assoc]
  omega
theorem addAt_end {ls ms xs : List Nat} {i : Nat} (h : AddAt ls ms xs i 0) (ha : ls.length ≤ i) (hb : ms.length ≤ i) : limbV xs = limbV ls + limbV ms := by
  have := h.eq
  rw [List.take_of_length_le ha, List.take_of_length_le hb] at this
  omega

end Go.Proofs.YtcabanghegddhaaGreatDoor

namespace Go.Proofs.YtcabanghegddhaaGreatDoor
open Go.RowKit
set_option linter.unusedVariables false

/-- a product of limbs: behind i of the first, and k of the second -/
structure MulAt (ls ms ys : List Nat) (i k c : Nat) : Prop where
  ok : LimbsOk ys
  len : ys.length = ls.length + ms.length + 1
  eq : limbV ys + 10 ^ (9 * (i + k)) * c = limbV (ls.take i) * limbV ms + 10 ^ (9 * i) * ls.getD i 0 * limbV (ms.take k)

theorem mulAt_next {ls ms ys : List Nat} {i k : Nat} (h : MulAt ls ms ys i k 0) (hk : ms.length ≤ k) : MulAt ls ms ys (i + 1) 0 0 := by
  refine ⟨h.ok, h.len, ?_⟩
  have e := h.eq
  rw [List.take_of_length_le hk, Nat.mul_zero, Nat.add_zero] at e
  rw [Nat.mul_zero, Nat.add_zero, List.take_zero, limbV_take, Nat.add_mul, e]
  rfl

theorem mulAt_start (ls ms : List Nat) : MulAt ls ms (List.replicate (ls.length + ms.length + 1) 0) 0 0 0 := by
  have hz : ∀ n, limbV (List.replicate n 0) = 0 := fun n => by
    induction n with
    | zero => rfl
    | succ n ih => rw [List.replicate_succ, limbV, ih]
  refine ⟨fun x hx => ?_, by simp, ?_⟩
  · rw [List.eq_of_mem_replicate hx]; omega
  · rw [hz, List.take_zero, List.take_zero]
    simp [limbV]

theorem mulAt_end {ls ms ys : List Nat} {i : Nat} (h : MulAt ls ms ys i 0 0) (hi : ls.length ≤ i) : limbV ys = limbV ls * limbV ms := by
  have e := h.eq
  rw [List.take_of_length_le hi, List.take_zero] at e
  simpa [limbV] using e

/-- where the carry goes on there is still room -/
theorem mulAt_room {ls ms ys : List Nat} {i k c : Nat} (h : MulAt ls ms ys i k c) (ol : LimbsOk ls) (om : LimbsOk ms) (hc : 0 < c) (hi : i < ls.length) : k ≤ ms.length := by
  have e := h.eq
  rcases Nat.lt_or_ge ms.length k with hk | hk
  · exfalso
    rw [(List.take_of_length_le (by omega) : ms.take k = ms), ← Nat.add_mul, ← limbV_take] at e
    have h1 := limbV_lt (xs := ls.take (i + 1)) (fun x hx => ol x (List.mem_of_mem_take hx))
    rw [List.length_take, Nat.min_eq_left (by omega)] at h1
    have h2 := limbV_lt om
    have h3 : limbV (ls.take (i + 1)) * limbV ms < 10 ^ (9 * (i + 1)) * 10 ^ (9 * ms.length) := Nat.mul_lt_mul'' h1 h2
    rw [← Nat.pow_add] at h3
    have h4 : 10 ^ (9 * (i + 1) + 9 * ms.length) ≤ 10 ^ (9 * (i + k)) := Nat.pow_le_pow_right (by decide) (by omega)
    have h5 : 10 ^ (9 * (i + k)) * 1 ≤ 10 ^ (9 * (i + k)) * c := Nat.mul_le_mul_left _ hc
    omega
  · exact hk

theorem mulAt_step {ls ms ys : List Nat} {i k c X : Nat} (h : MulAt ls ms ys i k c) (hn : i + k < ys.length) (hX : ys.getD (i + k) 0 + c + ls.getD i 0 * ms.getD k 0 = X) :
    MulAt ls ms (ys.set (i + k) (X % 1000000000)) i (k + 1) (X / 1000000000) := by
  obtain ⟨h1, h2, h3⟩ := h
  refine ⟨limbsOk_set h1 (Nat.mod_lt _ (by decide)), by rw [List.length_set]; exact h2, ?_⟩
  have h4 := limbV_set (y := X % 1000000000) hn
  rw [limbV_take, (by omega : i + (k + 1) = i + k + 1), nine_pow]
  have e0 : 10 ^ (9 * (i + k)) = 10 ^ (9 * i) * 10 ^ (9 * k) := by rw [Nat.mul_add, Nat.pow_add]
  have e1 : 10 ^ (9 * i) * ls.getD i 0 * (limbV (ms.take k) + 10 ^ (9 * k) * ms.getD k 0) = 10 ^ (9 * i) * ls.getD i 0 * limbV (ms.take k) + 10 ^ (9 * (i + k)) * (ls.getD i 0 * ms.getD k 0) := by
    rw [Nat.mul_add, e0]
    congr 1
    rw [Nat.mul_assoc, Nat.mul_assoc, Nat.mul_left_comm (ls.getD i 0)]
  rw [e1]
  generalize 10 ^ (9 * (i + k)) = P at *
  generalize 10 ^ (9 * i) * ls.getD i 0 * limbV (ms.take k) = U at *
  generalize limbV (ls.take i) * limbV ms = V at *
  generalize ls.getD i 0 * ms.getD k 0 = p at *
  generalize ys.getD (i + k) 0 = o at *
  generalize limbV (ys.set (i + k) (X % 1000000000)) = A at *
  have e2 := Nat.div_add_mod X 1000000000
  have e3 : P * (1000000000 * (X / 1000000000) + X % 1000000000) = P * (o + c + p) := by rw [e2, hX]
  rw [Nat.mul_add, Nat.mul_add, Nat.mul_add] at e3
  have e4 : 1000000000 * P * (X / 1000000000) = P * (1000000000 * (X / 1000000000)) := by rw [Nat.mul_comm 1000000000, Nat.mul_assoc]
  omega

theorem row_free {w : World} {B : Nat} {e : TypeId} {g n c : Nat} {xs : List Value} (h : w.ownsRow B e 1 (.slice (some ⟨g, 0, none⟩) n c) n xs) (j : Nat) : w.frozen? ⟨g, j, none⟩ = false := World.ownsRow.frozenAt h j

end Go.Proofs.YtcabanghegddhaaGreatDoor
