/-
  Several texts in one: Great, Limb, LimbAdd, LimbMul.
-/
import Derived.Test.YtcdplnejejpjnaaGreatDoorBaseA
import Derived.Test.YtcdplnejejpjnaaGreatDoorFigA
import Derived.Deep.DeepCutAuto
import Derived.Deep.CutRange
import Derived.Deep.QuietTactic
import Derived.BigQuiet
namespace Go.Proofs.YtcdplnejejpjnaaGreatDoor
open Go.RowKit
set_option linter.unusedVariables false

theorem size_list (s : ByteArray) : s.data.toList.length = s.size := (Lib.size_eq s).symm
theorem getD_first (s : ByteArray) (h : 0 < s.size) : s.data.toList.getD 0 0 = s[0] := by
  rw [List.getD_eq_getElem?_getD, List.getElem?_eq_getElem (by rw [size_list]; exact h)]
  rfl
theorem fo_size {s : ByteArray} (h : ¬(1 ≤ s.size ∧ s.size ≤ 800)) : figsOk s.data.toList = false := by
  unfold figsOk
  rw [size_list, decide_eq_false h]
  rfl
theorem fo_lead {s : ByteArray} (h : 1 < s.size) (h0 : (s[0]).toNat = 48) : figsOk s.data.toList = false := by
  unfold figsOk
  rw [size_list, getD_first s (by omega), decide_eq_false (by omega : ¬s.size ≤ 1), decide_eq_false (by omega : ¬(s[0]).toNat ≠ 48)]
  simp
theorem fo_bad {s : ByteArray} {k : Nat} (h : k < s.size) (hb : ¬(48 ≤ (s[k]).toNat ∧ (s[k]).toNat ≤ 57)) : figsOk s.data.toList = false := by
  have hm : s[k] ∈ s.data.toList := by
    have : s[k] = s.data.toList[k]'(by rw [size_list]; exact h) := rfl
    rw [this]; exact List.getElem_mem _
  have ha : (s.data.toList.all fun c => decide (48 ≤ c.toNat ∧ c.toNat ≤ 57)) = false := by
    rw [List.all_eq_false]
    exact ⟨_, hm, by simp only [decide_eq_true_eq]; exact hb⟩
  unfold figsOk
  rw [ha, Bool.and_false]
theorem fo_good {s : ByteArray} (h1 : 1 ≤ s.size) (h2 : s.size ≤ 800) (h3 : s.size ≤ 1 ∨ (s.data.toList.getD 0 0).toNat ≠ 48) (h4 : Figs s.data.toList) : figsOk s.data.toList = true := by
  have ha : (s.data.toList.all fun c => decide (48 ≤ c.toNat ∧ c.toNat ≤ 57)) = true := by
    rw [List.all_eq_true]
    intro c hc
    rw [decide_eq_true_eq]; exact h4 c hc
  unfold figsOk
  rw [ha, size_list, decide_eq_true ⟨h1, h2⟩, Bool.and_true, Bool.true_and]
  rcases h3 with h | h
  · rw [decide_eq_true h]; rfl
  · rw [decide_eq_true h, Bool.or_true]

set_option maxHeartbeats 400000 in
set_option maxRecDepth 100000 in
theorem l01In_any (x a b : Int) (w : World) :
    Calls Tryz.prog 91 #[.int .i64 x, .int .i64 a, .int .i64 b] w fun e w' => e = .returned (.bool (decide (a ≤ x) && decide (x ≤ b))) ∧ w = w' := by
  by_cases h1 : a ≤ x
  · by_cases h2 : x ≤ b
    · have e2 : decide (x ≤ b) = true := by simpa using h2
      go_enter Tryz.func91, Tryz.ntmps91
      go_wp2
      go_ret
      exact ⟨by rw [decide_eq_true h1, e2]; rfl, rfl⟩
    · have e2 : decide (x ≤ b) = false := by simpa using h2
      go_enter Tryz.func91, Tryz.ntmps91
      go_wp2
      go_ret
      exact ⟨rfl, rfl⟩
  · have e1 : decide (a ≤ x) = false := by simpa using h1
    go_enter Tryz.func91, Tryz.ntmps91
    go_wp2
    go_ret
    exact ⟨rfl, rfl⟩

set_option maxHeartbeats 1000000 in
set_option maxRecDepth 100000 in
theorem specFiguresOk_any (s : ByteArray) (w : World) :
    Calls Tryz.prog 87 #[.string s] w fun e w' => e = .returned (.bool (figsOk s.data.toList)) ∧ w = w' := by
  have cI := fun W => l01In_any (s.size : Int) 1 800 W
  obtain ⟨R, hR⟩ : ∃ R, figsOk s.data.toList = R := ⟨_, rfl⟩
  by_cases h1 : 1 ≤ s.size ∧ s.size ≤ 800
  · rw [decide_eq_true (by omega : (1 : Int) ≤ s.size), decide_eq_true (by omega : (s.size : Int) ≤ 800)] at cI
    by_cases h2 : 1 < s.size ∧ (s.data.toList.getD 0 0).toNat = 48
    · have h0 : (s[0]'(by omega)).toNat = 48 := by rw [← getD_first s (by omega)]; exact h2.2
      have HR : Hid (Unit → R = false) := fun _ => by rw [← hR]; exact fo_lead h2.1 h0
      have hz : 0 < s.size := by omega
      have h3 : (1 : Int) < s.size := by omega
      have h0' : ((s[0]'(by omega)).toNat : Int) = 48 := by omega
      rw [hR]
      clear hR h2 h1 h0
      go_enter Tryz.func87, Tryz.ntmps87
      go_wp2_with (go_at_call 91; refine (cI _).mono ?_; rintro e w' ⟨rfl, rfl⟩)
      go_ret
      exact ⟨by rw [HR.out ()]; rfl, rfl⟩
    · have HRR : Hid (figsOk s.data.toList = R) := hR
      have HG : Hid (s.size ≤ 1 ∨ (s.data.toList.getD 0 0).toNat ≠ 48) := by
        show s.size ≤ 1 ∨ (s.data.toList.getD 0 0).toNat ≠ 48
        omega
      rw [hR]
      clear hR
      by_cases hs1 : (1 : Int) < s.size
      · have h0 : (s[0]'(by omega)).toNat ≠ 48 := by rw [← getD_first s (by omega)]; exact fun h => h2 ⟨by omega, h⟩
        have hz : 0 < s.size := by omega
        have h0' : (((s[0]'(by omega)).toNat : Int) == 48) = false := by rw [beq_eq_false_iff_ne]; omega
        clear h2 h0
        go_enter Tryz.func87, Tryz.ntmps87
        go_upto_region 4 with (go_at_call 91; refine (cI _).mono ?_; rintro e w' ⟨rfl, rfl⟩)
        go_loop [3] (fun i => ∃ k : Nat, k ≤ s.size ∧ i = .int .i64 k ∧ Hid (Figs (s.data.toList.take k))) (fun i => s.size - (intOf i).toNat)
        case atStart => exact ⟨0, Nat.zero_le _, rfl, by rw [List.take_zero]; exact figs_nil⟩
        case round =>
          obtain ⟨k, hk, rfl, HK⟩ := hrel
          by_cases hlt : k < s.size
          · by_cases hc1 : ((s[k]).toNat : Int) < 48
            · have HR : Hid (Unit → R = false) := fun _ => by rw [← HRR.out]; exact fo_bad hlt (by omega)
              go_wp2
              go_ret
              exact ⟨by rw [HR.out ()]; rfl, rfl⟩
            · have hc1' : decide (((s[k]).toNat : Int) < 48) = false := by simp; omega
              by_cases hc2 : (57 : Int) < ((s[k]).toNat : Int)
              · have HR : Hid (Unit → R = false) := fun _ => by rw [← HRR.out]; exact fo_bad hlt (by omega)
                go_wp2
                go_ret
                exact ⟨by rw [HR.out ()]; rfl, rfl⟩
              · have hc2' : decide ((57 : Int) < ((s[k]).toNat : Int)) = false := by simp; omega
                have HN : Hid (Figs (s.data.toList.take (k + 1))) := by
                  show Figs _
                  rw [take_snoc s k hlt]
                  exact figs_snoc HK.out (by omega)
                go_wp2
                go_round
                case rel => exact ⟨k + 1, by omega, by go_num, HN⟩
                case measure => simp [intOf]; omega
          · have hkk : k = s.size := by omega
            have HR : Hid (Unit → R = true) := fun _ => by
              rw [← HRR.out]
              have h4 := HK.out
              rw [hkk, take_all] at h4
              exact fo_good h1.1 h1.2 HG.out h4
            go_wp2
            go_ret
            exact ⟨by rw [HR.out ()]; rfl, rfl⟩
      · have hs1' : decide ((1 : Int) < s.size) = false := by simp; omega
        clear h2
        go_enter Tryz.func87, Tryz.ntmps87
        go_upto_region 4 with (go_at_call 91; refine (cI _).mono ?_; rintro e w' ⟨rfl, rfl⟩)
        go_loop [3] (fun i => ∃ k : Nat, k ≤ s.size ∧ i = .int .i64 k ∧ Hid (Figs (s.data.toList.take k))) (fun i => s.size - (intOf i).toNat)
        case atStart => exact ⟨0, Nat.zero_le _, rfl, by rw [List.take_zero]; exact figs_nil⟩
        case round =>
          obtain ⟨k, hk, rfl, HK⟩ := hrel
          by_cases hlt : k < s.size
          · by_cases hc1 : ((s[k]).toNat : Int) < 48
            · have HR : Hid (Unit → R = false) := fun _ => by rw [← HRR.out]; exact fo_bad hlt (by omega)
              go_wp2
              go_ret
              exact ⟨by rw [HR.out ()]; rfl, rfl⟩
            · have hc1' : decide (((s[k]).toNat : Int) < 48) = false := by simp; omega
              by_cases hc2 : (57 : Int) < ((s[k]).toNat : Int)
              · have HR : Hid (Unit → R = false) := fun _ => by rw [← HRR.out]; exact fo_bad hlt (by omega)
                go_wp2
                go_ret
                exact ⟨by rw [HR.out ()]; rfl, rfl⟩
              · have hc2' : decide ((57 : Int) < ((s[k]).toNat : Int)) = false := by simp; omega
                have HN : Hid (Figs (s.data.toList.take (k + 1))) := by
                  show Figs _
                  rw [take_snoc s k hlt]
                  exact figs_snoc HK.out (by omega)
                go_wp2
                go_round
                case rel => exact ⟨k + 1, by omega, by go_num, HN⟩
                case measure => simp [intOf]; omega
          · have hkk : k = s.size := by omega
            have HR : Hid (Unit → R = true) := fun _ => by
              rw [← HRR.out]
              have h4 := HK.out
              rw [hkk, take_all] at h4
              exact fo_good h1.1 h1.2 HG.out h4
            go_wp2
            go_ret
            exact ⟨by rw [HR.out ()]; rfl, rfl⟩
  · have HR : Hid (Unit → R = false) := fun _ => by rw [← hR]; exact fo_size h1
    have e1 : (decide ((1 : Int) ≤ s.size) && decide ((s.size : Int) ≤ 800)) = false := by
      rw [Bool.and_eq_false_iff, decide_eq_false_iff_not, decide_eq_false_iff_not]; omega
    rw [e1] at cI
    rw [hR]
    clear hR h1 e1
    go_enter Tryz.func87, Tryz.ntmps87
    go_wp2_with (go_at_call 91; refine (cI _).mono ?_; rintro e w' ⟨rfl, rfl⟩)
    go_ret
    exact ⟨by rw [HR.out ()]; rfl, rfl⟩

end Go.Proofs.YtcdplnejejpjnaaGreatDoor

namespace Go.Proofs.YtcdplnejejpjnaaGreatDoor
open Go.RowKit
set_option linter.unusedVariables false

/-- a list of whole numbers that a call made -/
def Row (w : World) (B : Nat) (v : Value) (xs : List Nat) : Prop := w.ownsRow B 3 1 v xs.length (xs.map fun x => Value.int .i64 (x : Nat))

theorem own_below {w w' : World} {B : Nat} {e : TypeId} {v : Value} {n : Nat} {xs : List Value} (h : w.ownsRow B e 1 v n xs) (hb : Below w.heap.size w w') : w'.ownsRow B e 1 v n xs := by
  refine ⟨h.1, ?_⟩
  rcases h.2 with hn | ⟨g, cap, cur, rfl, h1, h2, rest⟩
  · exact .inl hn
  · refine .inr ⟨g, cap, cur, rfl, h1, ?_, rest⟩
    rw [hb.block g (Array.getElem?_eq_some_iff.1 h2).1]
    exact h2
theorem own_base {w : World} {B B' : Nat} {e : TypeId} {v : Value} {n : Nat} {xs : List Value} (h : w.ownsRow B e 1 v n xs) (hb : B' ≤ B) : w.ownsRow B' e 1 v n xs := by
  refine ⟨h.1, ?_⟩
  rcases h.2 with hn | ⟨g, cap, cur, rfl, h1, rest⟩
  · exact .inl hn
  · exact .inr ⟨g, cap, cur, rfl, by omega, rest⟩
theorem Row.below {w w' : World} {B : Nat} {v : Value} {xs : List Nat} (h : Row w B v xs) (hb : Below w.heap.size w w') : Row w' B v xs := own_below h hb
theorem Row.base {w : World} {B B' : Nat} {v : Value} {xs : List Nat} (h : Row w B v xs) (hb : B' ≤ B) : Row w B' v xs := own_base h hb

/-- what can be read of it -/
theorem Row.cells {w : World} {B : Nat} {v : Value} {xs : List Nat} (h : Row w B v xs) :
    (v = .slice none 0 0 ∧ xs = []) ∨ ∃ g cap, v = .slice (some ⟨g, 0, none⟩) xs.length cap ∧ B ≤ g ∧ g < w.heap.size ∧ ∀ j, j < xs.length → w.cell? ⟨g, j, none⟩ = some (.int .i64 (xs.getD j 0 : Nat)) := by
  have hc := fun g (hg : v.ownBlock = some g) => World.ownsRow.cells h hg
  have hl := World.ownsRow.lt h
  rcases h.2 with ⟨hv, hn⟩ | ⟨g, cap, cur, rfl, h1, h2, h3, h4, h5, h6⟩
  · exact .inl ⟨hv, List.eq_nil_of_length_eq_zero hn⟩
  · refine .inr ⟨g, cap, rfl, h1, (hl g rfl).2, fun j hj => ?_⟩
    have hadd : (⟨g, 0, none⟩ : Addr).add j = ⟨g, j, none⟩ := by unfold Addr.add; split <;> simp_all
    have := hc g rfl j (.int .i64 (xs.getD j 0 : Nat)) (by
      rw [List.getElem?_map, List.getElem?_eq_getElem hj, List.getD_eq_getElem?_getD, List.getElem?_eq_getElem hj]
      rfl)
    rw [hadd] at this
    exact this

set_option maxHeartbeats 400000 in
set_option maxRecDepth 100000 in
theorem l06At_any (v : Value) (xs : List Nat) (i B : Nat) (w : World) (h : Row w B v xs) :
    Calls Tryz.prog 127 #[v, .int .i64 i] w fun e w' => e = .returned (.int .i64 (xs.getD i 0 : Nat)) ∧ w = w' := by
  rcases h.cells with ⟨rfl, rfl⟩ | ⟨g, cap, rfl, h1, h2, hc⟩
  · clear h
    go_enter Tryz.func127, Tryz.ntmps127
    go_wp2
    go_ret
    exact ⟨rfl, rfl⟩
  · by_cases hi : i < xs.length
    · have hci := hc i hi
      have hi' : (i : Int) < xs.length := by omega
      obtain ⟨y, hy⟩ : ∃ y, xs.getD i 0 = y := ⟨_, rfl⟩
      rw [hy] at hci ⊢
      have hle : decide (xs.length ≤ i) = false := by simp; omega
      clear h hc hy
      go_enter Tryz.func127, Tryz.ntmps127
      go_wp2
      go_ret
      exact ⟨rfl, rfl⟩
    · have hz : xs.getD i 0 = 0 := by rw [List.getD_eq_getElem?_getD, List.getElem?_eq_none (by omega)]; rfl
      have hle : xs.length ≤ i := by omega
      rw [hz]
      clear h hc hz
      go_enter Tryz.func127, Tryz.ntmps127
      go_wp2
      go_ret
      exact ⟨rfl, rfl⟩

theorem sl_take {s : ByteArray} {a b : Nat} (h : a ≤ b) : s.data.toList.take b = s.data.toList.take a ++ sl s a b := by
  unfold sl
  obtain ⟨d, rfl⟩ : ∃ d, b = a + d := ⟨b - a, by omega⟩
  rw [List.take_add, Nat.add_sub_cancel_left]
theorem sl_figs {s : ByteArray} (h : Figs s.data.toList) (a b : Nat) : Figs (sl s a b) := fun c hc => h c (List.mem_of_mem_drop (List.mem_of_mem_take hc))

/-- the limbs up to a place, and what is ahead of it -/
theorem limbs_step {s : ByteArray} {xs : List Nat} {E : Int} {f : Nat} (hE : 0 < E) (hE2 : E ≤ s.size) (hf : (f : Int) = max (E - 9) 0)
    (h : limbV xs + 10 ^ (9 * xs.length) * digV (s.data.toList.take E.toNat) = digV s.data.toList) :
    limbV (xs ++ [digV (sl s f E.toNat)]) + 10 ^ (9 * (xs ++ [digV (sl s f E.toNat)]).length) * digV (s.data.toList.take (E - 9).toNat) = digV s.data.toList := by
  have e1 : s.data.toList.take E.toNat = s.data.toList.take f ++ sl s f E.toNat := sl_take (by omega)
  rw [e1, digV_append, sl_length (by omega)] at h
  rw [limbV_snoc, List.length_append, List.length_singleton, nine_pow, (by omega : (E - 9).toNat = f), ← h, Nat.mul_add, Nat.add_assoc]
  congr 1
  rw [Nat.add_comm]
  congr 1
  by_cases h9 : 9 ≤ E
  · have e2 : E.toNat - f = 9 := by omega
    have e3 : (10 : Nat) ^ 9 = 1000000000 := by decide
    rw [e2, e3, Nat.mul_comm 1000000000, Nat.mul_assoc, Nat.mul_comm (digV _)]
  · have e2 : f = 0 := by omega
    subst e2
    rw [List.take_zero, digV_nil, Nat.zero_mul, Nat.mul_zero, Nat.mul_zero]

set_option maxHeartbeats 2000000 in
set_option maxRecDepth 100000 in
theorem l06Limbs_any (s : ByteArray) (w : World) (hs : s.size ≤ 1048576) (hF : Figs s.data.toList) :
    Calls Tryz.prog 90 #[.string s] w fun e w' => ∃ (v : Value) (xs : List Nat), e = .returned v ∧ Row w' w.heap.size v xs ∧ Below w.heap.size w w' ∧ limbV xs = digV s.data.toList ∧ LimbsOk xs ∧ xs.length ≤ s.size := by
  obtain ⟨i0, hi, hz0, hz1, hz2⟩ := info_parts Tryz.infoInt
  have HF : Hid (Figs s.data.toList) := hF
  clear hF
  go_enter Tryz.func90, Tryz.ntmps90
  go_upto_region 3 with fail
  go_loopw [3, 4] (fun v x wr => ∃ (E : Int) (xs : List Nat), x = .int .i64 E ∧ -9 ≤ E ∧ E ≤ s.size ∧ (xs.length : Int) + (max E 0) ≤ s.size ∧ wr.ownsRow w.heap.size 3 1 v xs.length (xs.map fun x => Value.int .i64 (x : Nat)) ∧ Below w.heap.size w wr ∧ Hid (LimbsOk xs ∧ limbV xs + 10 ^ (9 * xs.length) * digV (s.data.toList.take E.toNat) = digV s.data.toList)) (fun _ x _ => (intOf x + 9).toNat)
  case atStart =>
    refine ⟨s.size, [], rfl, by omega, by omega, by simp, World.ownsRow_made w #[] 0 (Nat.le_refl _) (Nat.zero_le _) rfl, (Below.refl _ _).alloc (Nat.le_refl _) _, ?_⟩
    show LimbsOk [] ∧ _
    refine ⟨limbsOk_nil, ?_⟩
    rw [Int.toNat_natCast, take_all]
    simp [limbV]
  case round =>
    obtain ⟨E, xs, rfl, hE1, hE2, hlen, hown, hbel, HI⟩ := hrel
    have hsz := hbel.size
    by_cases hpos : 0 < E
    · obtain ⟨f, hf⟩ : ∃ f : Nat, (f : Int) = max (E - 9) 0 := ⟨(max (E - 9) 0).toNat, by omega⟩
      by_cases h9 : E - 9 < 0
      · have hf0 : f = 0 := by omega
        subst hf0
        go_upto_region 10 with fail
        go_loop [6, 7] (fun x i => ∃ (k y : Nat), (0 : Int) ≤ k ∧ (k : Int) ≤ E ∧ i = .int .i64 k ∧ x = .int .i64 y ∧ (y : Int) < 1000000000 ∧ Hid (y = digV (sl s 0 k))) (fun _ i => (E - intOf i).toNat)
        case atStart => exact ⟨0, 0, by omega, by omega, by rfl, rfl, by omega, by show 0 = digV (sl s 0 0); rw [sl_self]; rfl⟩
        case round =>
          obtain ⟨k, y, hk1, hk2, rfl, rfl, hy, HY⟩ := hrel
          by_cases hlt : (k : Int) < E
          · have hks : k < s.size := by omega
            obtain ⟨c, hc⟩ : ∃ c : Nat, (s[k]).toNat = c := ⟨_, rfl⟩
            have hc1 : 48 ≤ c ∧ c ≤ 57 := by
              rw [← hc]
              refine HF.out _ ?_
              have : s[k] = s.data.toList[k]'(by rw [size_list]; exact hks) := rfl
              rw [this]; exact List.getElem_mem _
            have hc2 : ((s[k]).toNat : Int) = c := by omega
            have c1 : (48 : Int) ≤ c := by omega
            have c2 : (c : Int) ≤ 57 := by omega
            have HN : Hid (10 * y + (c - 48) = digV (sl s 0 (k + 1)) ∧ 10 * y + (c - 48) < 1000000000) := by
              show 10 * y + (c - 48) = digV (sl s 0 (k + 1)) ∧ 10 * y + (c - 48) < 1000000000
              have e1 : 10 * y + (c - 48) = digV (sl s 0 (k + 1)) := by rw [sl_snoc (by omega) hks, digV_snoc, hc, ← HY.out]
              refine ⟨e1, ?_⟩
              rw [e1]
              have h1 := digV_lt (sl_figs HF.out 0 (k + 1))
              rw [sl_length (by omega)] at h1
              have h2 : 10 ^ (k + 1 - 0) ≤ 10 ^ 9 := Nat.pow_le_pow_right (by decide) (by omega)
              omega
            clear hc hc1
            go_wp2
            go_round
            case rel => exact ⟨k + 1, 10 * y + (c - 48), by omega, by omega, by go_num, by go_num, by have := HN.out.2; omega, HN.out.1⟩
            case measure => simp [intOf]; omega
          · have hkE : (k : Int) = E := by omega
            have HL : Hid (LimbsOk (xs ++ [y]) ∧ limbV (xs ++ [y]) + 10 ^ (9 * (xs ++ [y]).length) * digV (s.data.toList.take (E - 9).toNat) = digV s.data.toList) := by
              show LimbsOk (xs ++ [y]) ∧ _
              have hyy : y = digV (sl s 0 E.toNat) := by rw [HY.out, (by omega : E.toNat = k)]
              refine ⟨limbsOk_snoc HI.out.1 (by omega), ?_⟩
              rw [hyy]
              exact limbs_step hpos hE2 hf HI.out.2
            have hlt' : decide ((k : Int) < E) = false := by simp; omega
            go_wp2_with (at_builtin; refine append_one (w0 := w) rfl _ _ 101 rfl w.heap.size 3 i0 (.int .i64 0) 8 Tryz.underlying101 hi hz0 hz1 hz2 rfl _ _ _ rfl hown (.int .i64 (y : Int)) rfl rfl (by omega) (by decide) hbel hsz ?_)
            intro v' w2 hown' hbel'
            have hrow : w2.ownsRow w.heap.size 3 1 v' (xs ++ [y]).length ((xs ++ [y]).map fun x => Value.int .i64 (x : Nat)) := by simpa using hown'
            clear hown' hown HI
            go_wp2
            go_roundw
            case rel => exact ⟨E - 9, xs ++ [y], by go_num, by omega, by omega, by simp; omega, hrow, hbel', HL⟩
            case measure => simp [intOf]; omega
      · have h9' : decide (E - 9 < 0) = false := by simp; omega
        have hf9 : E - 9 = f := by omega
        have HFF : Hid ((f : Int) = max (E - 9) 0) := hf
        clear hf
        go_upto_region 10 with fail
        go_loop [6, 7] (fun x i => ∃ (k y : Nat), (f : Int) ≤ k ∧ (k : Int) ≤ E ∧ i = .int .i64 k ∧ x = .int .i64 y ∧ (y : Int) < 1000000000 ∧ Hid (y = digV (sl s f k))) (fun _ i => (E - intOf i).toNat)
        case atStart => exact ⟨f, 0, by omega, by omega, by rfl, rfl, by omega, by show 0 = digV (sl s f f); rw [sl_self]; rfl⟩
        case round =>
          obtain ⟨k, y, hk1, hk2, rfl, rfl, hy, HY⟩ := hrel
          by_cases hlt : (k : Int) < E
          · have hks : k < s.size := by omega
            obtain ⟨c, hc⟩ : ∃ c : Nat, (s[k]).toNat = c := ⟨_, rfl⟩
            have hc1 : 48 ≤ c ∧ c ≤ 57 := by
              rw [← hc]
              refine HF.out _ ?_
              have : s[k] = s.data.toList[k]'(by rw [size_list]; exact hks) := rfl
              rw [this]; exact List.getElem_mem _
            have hc2 : ((s[k]).toNat : Int) = c := by omega
            have c1 : (48 : Int) ≤ c := by omega
            have c2 : (c : Int) ≤ 57 := by omega
            have HN : Hid (10 * y + (c - 48) = digV (sl s f (k + 1)) ∧ 10 * y + (c - 48) < 1000000000) := by
              show 10 * y + (c - 48) = digV (sl s f (k + 1)) ∧ 10 * y + (c - 48) < 1000000000
              have e1 : 10 * y + (c - 48) = digV (sl s f (k + 1)) := by rw [sl_snoc (by omega) hks, digV_snoc, hc, ← HY.out]
              refine ⟨e1, ?_⟩
              rw [e1]
              have h1 := digV_lt (sl_figs HF.out f (k + 1))
              rw [sl_length (by omega)] at h1
              have h2 : 10 ^ (k + 1 - f) ≤ 10 ^ 9 := Nat.pow_le_pow_right (by decide) (by omega)
              omega
            clear hc hc1
            go_wp2
            go_round
            case rel => exact ⟨k + 1, 10 * y + (c - 48), by omega, by omega, by go_num, by go_num, by have := HN.out.2; omega, HN.out.1⟩
            case measure => simp [intOf]; omega
          · have hkE : (k : Int) = E := by omega
            have HL : Hid (LimbsOk (xs ++ [y]) ∧ limbV (xs ++ [y]) + 10 ^ (9 * (xs ++ [y]).length) * digV (s.data.toList.take (E - 9).toNat) = digV s.data.toList) := by
              show LimbsOk (xs ++ [y]) ∧ _
              have hyy : y = digV (sl s f E.toNat) := by rw [HY.out, (by omega : E.toNat = k)]
              refine ⟨limbsOk_snoc HI.out.1 (by omega), ?_⟩
              rw [hyy]
              exact limbs_step hpos hE2 HFF.out HI.out.2
            have hlt' : decide ((k : Int) < E) = false := by simp; omega
            go_wp2_with (at_builtin; refine append_one (w0 := w) rfl _ _ 101 rfl w.heap.size 3 i0 (.int .i64 0) 8 Tryz.underlying101 hi hz0 hz1 hz2 rfl _ _ _ rfl hown (.int .i64 (y : Int)) rfl rfl (by omega) (by decide) hbel hsz ?_)
            intro v' w2 hown' hbel'
            have hrow : w2.ownsRow w.heap.size 3 1 v' (xs ++ [y]).length ((xs ++ [y]).map fun x => Value.int .i64 (x : Nat)) := by simpa using hown'
            clear hown' hown HI
            go_wp2
            go_roundw
            case rel => exact ⟨E - 9, xs ++ [y], by go_num, by omega, by omega, by simp; omega, hrow, hbel', HL⟩
            case measure => simp [intOf]; omega
    · have hpos' : decide (0 < E) = false := by simp; omega
      go_wp2
      go_ret
      refine ⟨_, rfl, xs, hown, hbel, ?_, HI.out.1, by omega⟩
      have h := HI.out.2
      rw [(by omega : E.toNat = 0), List.take_zero, digV_nil, Nat.mul_zero, Nat.add_zero] at h
      exact h

end Go.Proofs.YtcdplnejejpjnaaGreatDoor

namespace Go.Proofs.YtcdplnejejpjnaaGreatDoor
open Go.RowKit
set_option linter.unusedVariables false

theorem Row.shape {w : World} {B : Nat} {v : Value} {xs : List Nat} (h : Row w B v xs) : ∃ p c, v = .slice p xs.length c := by
  rcases h.cells with ⟨rfl, rfl⟩ | ⟨g, cap, rfl, _⟩
  · exact ⟨none, 0, rfl⟩
  · exact ⟨_, cap, rfl⟩

/-- a sum of limbs up to a place -/
structure AddAt (ls ms xs : List Nat) (i c : Nat) : Prop where
  ok : LimbsOk xs
  len : xs.length = i
  eq : limbV xs + 10 ^ (9 * i) * c = limbV (ls.take i) + limbV (ms.take i)
theorem addAt_start (ls ms : List Nat) : AddAt ls ms [] 0 0 := ⟨limbsOk_nil, rfl, by simp [limbV]⟩
theorem addAt_step {ls ms xs : List Nat} {i c : Nat} (h : AddAt ls ms xs i c) : AddAt ls ms (xs ++ [(ls.getD i 0 + ms.getD i 0 + c) % 1000000000]) (i + 1) ((ls.getD i 0 + ms.getD i 0 + c) / 1000000000) := by
  obtain ⟨h1, h2, h3⟩ := h
  refine ⟨limbsOk_snoc h1 (Nat.mod_lt _ (by decide)), by simp [h2], ?_⟩
  rw [limbV_snoc, limbV_take, limbV_take, h2, nine_pow]
  generalize ls.getD i 0 = x
  generalize ms.getD i 0 = y
  generalize 10 ^ (9 * i) = P at *
  have e := Nat.div_add_mod (x + y + c) 1000000000
  generalize (x + y + c) / 1000000000 = q at *
  generalize (x + y + c) % 1000000000 = r at *
  have e2 : P * (1000000000 * q + r) = P * (x + y + c) := by rw [e]
  rw [Nat.mul_add, Nat.mul_add, Nat.mul_add] at e2
  have e3 : 1000000000 * P * q = P * (1000000000 * q) := by rw [Nat.mul_comm 1000000000, Nat.mul_assoc]
  omega
theorem addAt_end {ls ms xs : List Nat} {i : Nat} (h : AddAt ls ms xs i 0) (ha : ls.length ≤ i) (hb : ms.length ≤ i) : limbV xs = limbV ls + limbV ms := by
  have := h.eq
  rw [List.take_of_length_le ha, List.take_of_length_le hb] at this
  omega

set_option maxHeartbeats 2000000 in
set_option maxRecDepth 100000 in
theorem l06Add_any (va vb : Value) (ls ms : List Nat) (B : Nat) (w : World) (hA : Row w B va ls) (hB : Row w B vb ms) (oa : LimbsOk ls) (ob : LimbsOk ms) (la : ls.length ≤ 1048576) (lb : ms.length ≤ 1048576) :
    Calls Tryz.prog 89 #[va, vb] w fun e w' => ∃ (v : Value) (xs : List Nat), e = .returned v ∧ Row w' w.heap.size v xs ∧ Below w.heap.size w w' ∧ limbV xs = limbV ls + limbV ms ∧ LimbsOk xs ∧ xs.length ≤ max ls.length ms.length + 1 := by
  obtain ⟨i0, hi, hz0, hz1, hz2⟩ := info_parts Tryz.infoInt
  obtain ⟨pa, ca, rfl⟩ := hA.shape
  obtain ⟨pb, cb, rfl⟩ := hB.shape
  have HA : Hid (Row w B (.slice pa ls.length ca) ls ∧ LimbsOk ls) := ⟨hA, oa⟩
  have HB : Hid (Row w B (.slice pb ms.length cb) ms ∧ LimbsOk ms) := ⟨hB, ob⟩
  clear hA hB oa ob
  go_enter Tryz.func89, Tryz.ntmps89
  go_upto_region 4 with fail
  go_loopw [5, 6, 7] (fun v x y wr => ∃ (i c : Nat) (xs : List Nat), y = .int .i64 i ∧ x = .int .i64 c ∧ (i : Int) ≤ max ls.length ms.length + 1 ∧ (c : Int) ≤ 1 ∧ ((i : Int) = max ls.length ms.length + 1 → c = 0) ∧ wr.ownsRow w.heap.size 3 1 v i (xs.map fun x => Value.int .i64 (x : Nat)) ∧ Below w.heap.size w wr ∧ Hid (AddAt ls ms xs i c)) (fun _ _ y _ => max ls.length ms.length + 1 - (intOf y).toNat)
  case atStart => exact ⟨0, 0, [], rfl, rfl, by omega, by omega, by omega, World.ownsRow_made w #[] 0 (Nat.le_refl _) (Nat.zero_le _) rfl, (Below.refl _ _).alloc (Nat.le_refl _) _, addAt_start ls ms⟩
  case round =>
    obtain ⟨i, c, xs, rfl, rfl, hi1, hc1, hic, hown, hbel, HI⟩ := hrel
    have hsz := hbel.size
    go_upto_region 4 with fail
    go_cut [23] from 10 to 41 (fun x wx => ∃ b : Bool, x = .bool b ∧ wx = wr ∧ Hid ((b = true → i < ls.length ∨ i < ms.length ∨ 0 < c) ∧ (b = false → ls.length ≤ i ∧ ms.length ≤ i ∧ c = 0)))
    case first =>
      by_cases h1 : i < ls.length
      · go_wp2
        go_meet
        case rel => exact ⟨true, rfl, rfl, ⟨fun _ => .inl h1, fun h => by simp at h⟩⟩
      · have h1' : decide (i < ls.length) = false := by simp; omega
        by_cases h2 : i < ms.length
        · go_wp2
          go_meet
          case rel => exact ⟨true, rfl, rfl, ⟨fun _ => .inr (.inl h2), fun h => by simp at h⟩⟩
        · have h2' : decide (i < ms.length) = false := by simp; omega
          by_cases h3 : 0 < c
          · go_wp2
            go_meet
            case rel => exact ⟨true, rfl, rfl, ⟨fun _ => .inr (.inr h3), fun h => by simp at h⟩⟩
          · have h3' : c = 0 := by omega
            subst h3'
            go_wp2
            go_meet
            case rel => exact ⟨false, rfl, rfl, ⟨fun h => by simp at h, fun _ => by simp; omega⟩⟩
    case rest =>
      obtain ⟨b, rfl, rfl, HC⟩ := hcut
      cases b
      · obtain ⟨h1, h2, h3⟩ := HC.out.2 rfl
        subst h3
        have hE := addAt_end HI.out h1 h2
        have hok := HI.out.ok
        have hxl := HI.out.len
        have HE : Hid (limbV xs = limbV ls + limbV ms ∧ LimbsOk xs ∧ xs.length = i) := ⟨hE, hok, hxl⟩
        clear hE hok hxl HI HC
        go_wp2
        go_ret
        refine ⟨_, rfl, xs, ?_, hbel, HE.out.1, HE.out.2.1, by have := HE.out.2.2; omega⟩
        show World.ownsRow _ _ _ _ _ xs.length _
        rw [HE.out.2.2]
        exact hown
      · have hcond := HC.out.1 rfl
        have cA := fun W (hW : Below w.heap.size w W) => l06At_any _ ls i B W (HA.out.1.below hW)
        have cB := fun W (hW : Below w.heap.size w W) => l06At_any _ ms i B W (HB.out.1.below hW)
        have xb := limbsOk_at HA.out.2 i
        have yb := limbsOk_at HB.out.2 i
        have HS := addAt_step HI.out
        obtain ⟨x, hx⟩ : ∃ x, ls.getD i 0 = x := ⟨_, rfl⟩
        obtain ⟨y, hy⟩ : ∃ y, ms.getD i 0 = y := ⟨_, rfl⟩
        rw [hx] at cA xb HS
        rw [hy] at cB yb HS
        have HSS : Hid (AddAt ls ms (xs ++ [(x + y + c) % 1000000000]) (i + 1) ((x + y + c) / 1000000000)) := HS
        have xb' : (x : Int) < 1000000000 := by omega
        have yb' : (y : Int) < 1000000000 := by omega
        have hend : ((i : Int) + 1 = max ls.length ms.length + 1 → (x + y + c) / 1000000000 = 0) := by
          intro h
          have x0 : x = 0 := by rw [← hx, List.getD_eq_getElem?_getD, List.getElem?_eq_none (by omega)]; rfl
          have y0 : y = 0 := by rw [← hy, List.getD_eq_getElem?_getD, List.getElem?_eq_none (by omega)]; rfl
          omega
        have HEnd : Hid ((i : Int) + 1 = max ls.length ms.length + 1 → (x + y + c) / 1000000000 = 0) := hend
        have HCC : Hid (i < ls.length ∨ i < ms.length ∨ 0 < c) := hcond
        clear hend hcond
        clear HS hx hy HC
        go_wp2_with fail
        refine (cA _ hbel).mono ?_
        rintro e w' ⟨rfl, rfl⟩
        go_wp2_with fail
        refine (cB _ hbel).mono ?_
        rintro e w' ⟨rfl, rfl⟩
        go_wp2_with (at_builtin; refine append_one (w0 := w) rfl _ _ 101 rfl w.heap.size 3 i0 (.int .i64 0) 8 Tryz.underlying101 hi hz0 hz1 hz2 rfl _ _ _ rfl hown (.int .i64 (((x : Int) + y + c) % 1000000000)) rfl rfl (by omega) (by decide) hbel hsz ?_)
        intro v' w2 hown' hbel'
        have hrow : w2.ownsRow w.heap.size 3 1 v' (i + 1) ((xs ++ [(x + y + c) % 1000000000]).map fun x => Value.int .i64 (x : Nat)) := by simpa using hown'
        clear hown' hown HI
        go_wp2
        go_roundw
        case rel =>
          have hcond := HCC.out
          have hend := HEnd.out
          exact ⟨i + 1, (x + y + c) / 1000000000, xs ++ [(x + y + c) % 1000000000], by go_num, by go_num, by omega, by omega, by omega, hrow, hbel', HSS⟩
        case measure => have hcond := HCC.out; simp [intOf]; omega

end Go.Proofs.YtcdplnejejpjnaaGreatDoor

namespace Go.Proofs.YtcdplnejejpjnaaGreatDoor
open Go.RowKit
set_option linter.unusedVariables false

/-- a product of limbs: behind i of the first, and k of the second -/
structure MulAt (ls ms ys : List Nat) (i k c : Nat) : Prop where
  ok : LimbsOk ys
  len : ys.length = ls.length + ms.length + 1
  eq : limbV ys + 10 ^ (9 * (i + k)) * c = limbV (ls.take i) * limbV ms + 10 ^ (9 * i) * ls.getD i 0 * limbV (ms.take k)

theorem mulAt_next {ls ms ys : List Nat} {i k : Nat} (h : MulAt ls ms ys i k 0) (hk : ms.length ≤ k) : MulAt ls ms ys (i + 1) 0 0 := by
  refine ⟨h.ok, h.len, ?_⟩
  have e := h.eq
  rw [List.take_of_length_le hk, Nat.mul_zero, Nat.add_zero] at e
  rw [Nat.mul_zero, Nat.add_zero, List.take_zero, limbV_take, Nat.add_mul, e]
  rfl

theorem mulAt_start (ls ms : List Nat) : MulAt ls ms (List.replicate (ls.length + ms.length + 1) 0) 0 0 0 := by
  have hz : ∀ n, limbV (List.replicate n 0) = 0 := fun n => by
    induction n with
    | zero => rfl
    | succ n ih => rw [List.replicate_succ, limbV, ih]
  refine ⟨fun x hx => ?_, by simp, ?_⟩
  · rw [List.eq_of_mem_replicate hx]; omega
  · rw [hz, List.take_zero, List.take_zero]
    simp [limbV]

theorem mulAt_end {ls ms ys : List Nat} {i : Nat} (h : MulAt ls ms ys i 0 0) (hi : ls.length ≤ i) : limbV ys = limbV ls * limbV ms := by
  have e := h.eq
  rw [List.take_of_length_le hi, List.take_zero] at e
  simpa [limbV] using e

/-- where the carry goes on there is still room -/
theorem mulAt_room {ls ms ys : List Nat} {i k c : Nat} (h : MulAt ls ms ys i k c) (ol : LimbsOk ls) (om : LimbsOk ms) (hc : 0 < c) (hi : i < ls.length) : k ≤ ms.length := by
  have e := h.eq
  rcases Nat.lt_or_ge ms.length k with hk | hk
  · exfalso
    rw [(List.take_of_length_le (by omega) : ms.take k = ms), ← Nat.add_mul, ← limbV_take] at e
    have h1 := limbV_lt (xs := ls.take (i + 1)) (fun x hx => ol x (List.mem_of_mem_take hx))
    rw [List.length_take, Nat.min_eq_left (by omega)] at h1
    have h2 := limbV_lt om
    have h3 : limbV (ls.take (i + 1)) * limbV ms < 10 ^ (9 * (i + 1)) * 10 ^ (9 * ms.length) := Nat.mul_lt_mul'' h1 h2
    rw [← Nat.pow_add] at h3
    have h4 : 10 ^ (9 * (i + 1) + 9 * ms.length) ≤ 10 ^ (9 * (i + k)) := Nat.pow_le_pow_right (by decide) (by omega)
    have h5 : 10 ^ (9 * (i + k)) * 1 ≤ 10 ^ (9 * (i + k)) * c := Nat.mul_le_mul_left _ hc
    omega
  · exact hk

theorem mulAt_step {ls ms ys : List Nat} {i k c X : Nat} (h : MulAt ls ms ys i k c) (hn : i + k < ys.length) (hX : ys.getD (i + k) 0 + c + ls.getD i 0 * ms.getD k 0 = X) :
    MulAt ls ms (ys.set (i + k) (X % 1000000000)) i (k + 1) (X / 1000000000) := by
  obtain ⟨h1, h2, h3⟩ := h
  refine ⟨limbsOk_set h1 (Nat.mod_lt _ (by decide)), by rw [List.length_set]; exact h2, ?_⟩
  have h4 := limbV_set (y := X % 1000000000) hn
  rw [limbV_take, (by omega : i + (k + 1) = i + k + 1), nine_pow]
  have e0 : 10 ^ (9 * (i + k)) = 10 ^ (9 * i) * 10 ^ (9 * k) := by rw [Nat.mul_add, Nat.pow_add]
  have e1 : 10 ^ (9 * i) * ls.getD i 0 * (limbV (ms.take k) + 10 ^ (9 * k) * ms.getD k 0) = 10 ^ (9 * i) * ls.getD i 0 * limbV (ms.take k) + 10 ^ (9 * (i + k)) * (ls.getD i 0 * ms.getD k 0) := by
    rw [Nat.mul_add, e0]
    congr 1
    rw [Nat.mul_assoc, Nat.mul_assoc, Nat.mul_left_comm (ls.getD i 0)]
  rw [e1]
  generalize 10 ^ (9 * (i + k)) = P at *
  generalize 10 ^ (9 * i) * ls.getD i 0 * limbV (ms.take k) = U at *
  generalize limbV (ls.take i) * limbV ms = V at *
  generalize ls.getD i 0 * ms.getD k 0 = p at *
  generalize ys.getD (i + k) 0 = o at *
  generalize limbV (ys.set (i + k) (X % 1000000000)) = A at *
  have e2 := Nat.div_add_mod X 1000000000
  have e3 : P * (1000000000 * (X / 1000000000) + X % 1000000000) = P * (o + c + p) := by rw [e2, hX]
  rw [Nat.mul_add, Nat.mul_add, Nat.mul_add] at e3
  have e4 : 1000000000 * P * (X / 1000000000) = P * (1000000000 * (X / 1000000000)) := by rw [Nat.mul_comm 1000000000, Nat.mul_assoc]
  omega

theorem row_free {w : World} {B : Nat} {e : TypeId} {g n c : Nat} {xs : List Value} (h : w.ownsRow B e 1 (.slice (some ⟨g, 0, none⟩) n c) n xs) (j : Nat) : w.frozen? ⟨g, j, none⟩ = false := World.ownsRow.frozenAt h j

set_option maxHeartbeats 4000000 in
set_option maxRecDepth 100000 in
theorem l06Mul_any (va vb : Value) (ls ms : List Nat) (B : Nat) (w : World) (hA : Row w B va ls) (hB : Row w B vb ms) (oa : LimbsOk ls) (ob : LimbsOk ms) (la : ls.length ≤ 1048576) (lb : ms.length ≤ 1048576) :
    Calls Tryz.prog 84 #[va, vb] w fun e w' => ∃ (v : Value) (xs : List Nat), e = .returned v ∧ Row w' w.heap.size v xs ∧ Below w.heap.size w w' ∧ limbV xs = limbV ls * limbV ms ∧ LimbsOk xs ∧ xs.length = ls.length + ms.length + 1 := by
  obtain ⟨i0, hi, hz0, hz1, hz2⟩ := info_parts Tryz.infoInt
  obtain ⟨pa, ca, rfl⟩ := hA.shape
  obtain ⟨pb, cb, rfl⟩ := hB.shape
  have HA : Hid (Row w B (.slice pa ls.length ca) ls ∧ LimbsOk ls) := ⟨hA, oa⟩
  have HB : Hid (Row w B (.slice pb ms.length cb) ms ∧ LimbsOk ms) := ⟨hB, ob⟩
  clear hA hB oa ob
  obtain ⟨n, hn⟩ : ∃ n, ls.length + ms.length + 1 = n := ⟨_, rfl⟩
  have hn' : (ls.length : Int) + ms.length + 1 = n := by omega
  have hmk := fun W : World => run_make (P := Tryz.prog) W 101 3 i0 (.int .i64 0) Tryz.underlying101 hi hz0 .i64 .i64 (n : Int) (n : Int) (by omega) (by omega) (by rw [hz2]; omega) (by omega)
  go_enter Tryz.func84, Tryz.ntmps84
  go_upto_region 3 with fail
  clear hmk
  go_loopw [6] (fun x wr => ∃ (i : Nat) (ys : List Nat), x = .int .i64 i ∧ i ≤ ls.length ∧ wr.ownsRow w.heap.size 3 1 (.slice (some ⟨w.heap.size, 0, none⟩) n n) n (ys.map fun x => Value.int .i64 (x : Nat)) ∧ Below w.heap.size w wr ∧ Hid (MulAt ls ms ys i 0 0)) (fun x _ => ls.length - (intOf x).toNat)
  case atStart =>
    refine ⟨0, List.replicate n 0, rfl, Nat.zero_le _, ⟨by simp, .inr ⟨w.heap.size, n, _, rfl, Nat.le_refl _, heap_alloc_new w _, Nat.le_refl _, by unfold maxLen; omega, by simp [size_madeCells], ?_⟩⟩, (Below.refl _ _).alloc (Nat.le_refl _) _, by rw [← hn]; exact mulAt_start ls ms⟩
    rw [toList_madeCells_one, Nat.mul_one, List.map_replicate, List.take_of_length_le (by simp)]
    rfl
  case round =>
    obtain ⟨i, ys, rfl, hil, hown, hbel, HI⟩ := hrel
    have hsz := hbel.size
    by_cases hlt : i < ls.length
    · go_upto_region 7 with fail
      go_loopw [7, 8] (fun x y wr => ∃ (k c : Nat) (ys : List Nat), y = .int .i64 k ∧ x = .int .i64 c ∧ k ≤ ms.length + 1 ∧ (c : Int) < 1000000000 ∧ wr.ownsRow w.heap.size 3 1 (.slice (some ⟨w.heap.size, 0, none⟩) n n) n (ys.map fun x => Value.int .i64 (x : Nat)) ∧ Below w.heap.size w wr ∧ Hid (MulAt ls ms ys i k c)) (fun _ y _ => ms.length + 1 - (intOf y).toNat)
      case atStart => exact ⟨0, 0, ys, rfl, rfl, by omega, by omega, hown, hbel, HI⟩
      case round =>
        clear hown hbel HI hsz
        clear ys
        obtain ⟨k, c, ys, rfl, rfl, hkl, hc, hown, hbel, HI⟩ := hrel
        have hsz := hbel.size
        go_upto_region 7 with fail
        go_cut [30] from 23 to 58 (fun x wx => ∃ b : Bool, x = .bool b ∧ wx = wr ∧ Hid ((b = true → k < ms.length ∨ 0 < c) ∧ (b = false → ms.length ≤ k ∧ c = 0)))
        case first =>
          by_cases h1 : k < ms.length
          · go_wp2
            go_meet
            case rel => exact ⟨true, rfl, rfl, ⟨fun _ => .inl h1, fun h => by simp at h⟩⟩
          · have h1' : decide (k < ms.length) = false := by simp; omega
            by_cases h3 : 0 < c
            · go_wp2
              go_meet
              case rel => exact ⟨true, rfl, rfl, ⟨fun _ => .inr h3, fun h => by simp at h⟩⟩
            · have h3' : c = 0 := by omega
              subst h3'
              go_wp2
              go_meet
              case rel => exact ⟨false, rfl, rfl, ⟨fun h => by simp at h, fun _ => by simp; omega⟩⟩
        case rest =>
          obtain ⟨b, rfl, rfl, HC⟩ := hcut
          cases b
          · obtain ⟨h1, h2⟩ := HC.out.2 rfl
            subst h2
            have HN : Hid (MulAt ls ms ys (i + 1) 0 0) := mulAt_next HI.out h1
            clear HI HC
            go_wp2
            go_roundw
            case rel => exact ⟨i + 1, ys, by go_num, by omega, hown, hbel, HN⟩
            case measure => simp [intOf]; omega
          · have hkm : k ≤ ms.length := by
              rcases HC.out.1 rfl with h | h
              · omega
              · exact mulAt_room HI.out HA.out.2 HB.out.2 h hlt
            obtain ⟨K, hK⟩ : ∃ K, i + k = K := ⟨_, rfl⟩
            have hK' : (i : Int) + k = K := by omega
            have hKn : K < n := by omega
            have hlen := HI.out.len
            have o1 := limbsOk_at HI.out.ok K
            have o2 := limbsOk_at HA.out.2 i
            have o3 := limbsOk_at HB.out.2 k
            have hco : wc.cell? ⟨w.heap.size, K, none⟩ = some (.int .i64 (ys.getD K 0 : Nat)) := by
              rw [World.ownsRow.cellAt hown K (by omega), List.getElem?_map, List.getElem?_eq_getElem (by omega), List.getD_eq_getElem?_getD, List.getElem?_eq_getElem (by omega)]
              rfl
            have hca : ∃ ga, pa = some ⟨ga, 0, none⟩ ∧ wc.cell? ⟨ga, i, none⟩ = some (.int .i64 (ls.getD i 0 : Nat)) := by
              rcases (HA.out.1.below hbel).cells with ⟨h, h'⟩ | ⟨ga, cap, h, _, _, h'⟩
              · rw [h'] at hlt; simp at hlt
              · injection h with h _ _
                exact ⟨ga, h, h' i hlt⟩
            obtain ⟨ga, rfl, hca⟩ := hca
            have hrB : Row wc B (.slice pb ms.length cb) ms := HB.out.1.below hbel
            have qB := fun m : Nat => Calls.quiet_of_same ((l06At_any _ ms k B (wc.drewN m) hrB).mono (by rintro e w' ⟨rfl, rfl⟩; exact ⟨rfl, rfl⟩))
            have HS := mulAt_step (X := ys.getD K 0 + c + ls.getD i 0 * ms.getD k 0) HI.out (by omega) (by rw [hK])
            rw [hK] at HS
            have hfz := row_free hown K
            obtain ⟨o, ho⟩ : ∃ o, ys.getD K 0 = o := ⟨_, rfl⟩
            obtain ⟨x, hx⟩ : ∃ o, ls.getD i 0 = o := ⟨_, rfl⟩
            obtain ⟨y, hy⟩ : ∃ o, ms.getD k 0 = o := ⟨_, rfl⟩
            rw [ho] at hco o1 HS
            rw [hx] at hca o2 HS
            rw [hy] at qB o3 HS
            obtain ⟨p, hp⟩ : ∃ p, x * y = p := ⟨_, rfl⟩
            rw [hp] at HS
            have hp1 : (x : Int) * y = p := by rw [← hp]; simp
            have hp2 : (p : Int) ≤ 999999998000000001 := by
              have : x * y ≤ 999999999 * 999999999 := Nat.mul_le_mul (by omega) (by omega)
              omega
            have o1' : (o : Int) < 1000000000 := by omega
            obtain ⟨X, hX⟩ : ∃ X, o + c + p = X := ⟨_, rfl⟩
            rw [hX] at HS
            have hX1 : (o : Int) + c + p = X := by omega
            have hX2 : (X : Int) < 1000000000000000000 := by omega
            have HSS : Hid (MulAt ls ms (ys.set K (X % 1000000000)) i (k + 1) (X / 1000000000)) := HS
            have hKi : (K : Int) < n := by omega
            have hil' : (i : Int) < ls.length := by omega
            have st := fun m : Nat => (show (wc.drewN m).ownsRow w.heap.size 3 1 (.slice (some ⟨w.heap.size, 0, none⟩) n n) n (ys.map fun x => Value.int .i64 (x : Nat)) from hown).stored K (.int .i64 ((X : Int) % 1000000000))
            have HST : Hid _ := st
            clear HS ho hx hy hp hX hK st HI HC hrB o1 o2 o3 hlen
            go_wp2_with fail
            go_quiet (exact qB _)
            go_wp2
            go_roundw
            case rel =>
              refine ⟨k + 1, X / 1000000000, ys.set K (X % 1000000000), by go_num, by go_num, by omega, by omega, ?_, (below_drewN hbel _).setCell (Nat.le_refl _) _, HSS⟩
              have h := (HST.out nq).1
              rw [List.map_set]
              exact h
            case measure => simp [intOf]; omega
    · have hE := mulAt_end HI.out (by omega)
      have HE : Hid (limbV ys = limbV ls * limbV ms ∧ LimbsOk ys ∧ ys.length = n) := ⟨hE, HI.out.ok, by rw [HI.out.len, hn]⟩
      have hlt' : decide (i < ls.length) = false := by simp; omega
      clear hE HI
      go_wp2
      go_ret
      refine ⟨_, ys, rfl, ?_, hbel, HE.out.1, HE.out.2.1, by rw [HE.out.2.2, hn]⟩
      show World.ownsRow _ _ _ _ _ ys.length _
      rw [HE.out.2.2]
      exact hown

end Go.Proofs.YtcdplnejejpjnaaGreatDoor
