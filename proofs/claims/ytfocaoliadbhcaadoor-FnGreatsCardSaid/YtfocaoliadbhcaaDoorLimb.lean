/-
  The walks of the specification's limbs: taken out of figures, read, added.
-/
import Derived.Test.YtfocaoliadbhcaaDoorGreat
namespace Go.Proofs.YtfocaoliadbhcaaDoor
open Go.RowKit
set_option linter.unusedVariables false

/-- a list of whole numbers that a call made -/
def Row (w : World) (B : Nat) (v : Value) (xs : List Nat) : Prop := w.ownsRow B 3 1 v xs.length (xs.map fun x => Value.int .i64 (x : Nat))

theorem own_below {w w' : World} {B : Nat} {e : TypeId} {v : Value} {n : Nat} {xs : List Value} (h : w.ownsRow B e 1 v n xs) (hb : Below w.heap.size w w') : w'.ownsRow B e 1 v n xs := by
  refine ⟨h.1, ?_⟩
  rcases h.2 with hn | ⟨g, cap, cur, rfl, h1, h2, rest⟩
  · exact .inl hn
  · refine .inr ⟨g, cap, cur, rfl, h1, ?_, rest⟩
    rw [hb.block g (Array.getElem?_eq_some_iff.1 h2).1]
    exact h2
theorem own_base {w : World} {B B' : Nat} {e : TypeId} {v : Value} {n : Nat} {xs : List Value} (h : w.ownsRow B e 1 v n xs) (hb : B' ≤ B) : w.ownsRow B' e 1 v n xs := by
  refine ⟨h.1, ?_⟩
  rcases h.2 with hn | ⟨g, cap, cur, rfl, h1, rest⟩
  · exact .inl hn
  · exact .inr ⟨g, cap, cur, rfl, by omega, rest⟩
theorem Row.below {w w' : World} {B : Nat} {v : Value} {xs : List Nat} (h : Row w B v xs) (hb : Below w.heap.size w w') : Row w' B v xs := own_below h hb
theorem Row.base {w : World} {B B' : Nat} {v : Value} {xs : List Nat} (h : Row w B v xs) (hb : B' ≤ B) : Row w B' v xs := own_base h hb

/-- what can be read of it -/
theorem Row.cells {w : World} {B : Nat} {v : Value} {xs : List Nat} (h : Row w B v xs) :
    (v = .slice none 0 0 ∧ xs = []) ∨ ∃ g cap, v = .slice (some ⟨g, 0, none⟩) xs.length cap ∧ B ≤ g ∧ g < w.heap.size ∧ ∀ j, j < xs.length → w.cell? ⟨g, j, none⟩ = some (.int .i64 (xs.getD j 0 : Nat)) := by
  have hc := fun g (hg : v.ownBlock = some g) => World.ownsRow.cells h hg
  have hl := World.ownsRow.lt h
  rcases h.2 with ⟨hv, hn⟩ | ⟨g, cap, cur, rfl, h1, h2, h3, h4, h5, h6⟩
  · exact .inl ⟨hv, List.eq_nil_of_length_eq_zero hn⟩
  · refine .inr ⟨g, cap, rfl, h1, (hl g rfl).2, fun j hj => ?_⟩
    have hadd : (⟨g, 0, none⟩ : Addr).add j = ⟨g, j, none⟩ := by unfold Addr.add; split <;> simp_all
    have := hc g rfl j (.int .i64 (xs.getD j 0 : Nat)) (by
      rw [List.getElem?_map, List.getElem?_eq_getElem hj, List.getD_eq_getElem?_getD, List.getElem?_eq_getElem hj]
      rfl)
    rw [hadd] at this
    exact this

set_option maxHeartbeats 400000 in
set_option maxRecDepth 100000 in
theorem l06At_any (v : Value) (xs : List Nat) (i B : Nat) (w : World) (h : Row w B v xs) :
    Calls Tryd.prog 38 #[v, .int .i64 i] w fun e w' => e = .returned (.int .i64 (xs.getD i 0 : Nat)) ∧ w = w' := by
  rcases h.cells with ⟨rfl, rfl⟩ | ⟨g, cap, rfl, h1, h2, hc⟩
  · clear h
    go_enter Tryd.func38, Tryd.ntmps38
    go_wp2
    go_ret
    exact ⟨rfl, rfl⟩
  · by_cases hi : i < xs.length
    · have hci := hc i hi
      have hi' : (i : Int) < xs.length := by omega
      obtain ⟨y, hy⟩ : ∃ y, xs.getD i 0 = y := ⟨_, rfl⟩
      rw [hy] at hci ⊢
      have hle : decide (xs.length ≤ i) = false := by simp; omega
      clear h hc hy
      go_enter Tryd.func38, Tryd.ntmps38
      go_wp2
      go_ret
      exact ⟨rfl, rfl⟩
    · have hz : xs.getD i 0 = 0 := by rw [List.getD_eq_getElem?_getD, List.getElem?_eq_none (by omega)]; rfl
      have hle : xs.length ≤ i := by omega
      rw [hz]
      clear h hc hz
      go_enter Tryd.func38, Tryd.ntmps38
      go_wp2
      go_ret
      exact ⟨rfl, rfl⟩

theorem sl_take {s : ByteArray} {a b : Nat} (h : a ≤ b) : s.data.toList.take b = s.data.toList.take a ++ sl s a b := by
  unfold sl
  obtain ⟨d, rfl⟩ : ∃ d, b = a + d := ⟨b - a, by omega⟩
  rw [List.take_add, Nat.add_sub_cancel_left]
theorem sl_figs {s : ByteArray} (h : Figs s.data.toList) (a b : Nat) : Figs (sl s a b) := fun c hc => h c (List.mem_of_mem_drop (List.mem_of_mem_take hc))

/-- the limbs up to a place, and what is ahead of it -/
theorem limbs_step {s : ByteArray} {xs : List Nat} {E : Int} {f : Nat} (hE : 0 < E) (hE2 : E ≤ s.size) (hf : (f : Int) = max (E - 9) 0)
    (h : limbV xs + 10 ^ (9 * xs.length) * digV (s.data.toList.take E.toNat) = digV s.data.toList) :
    limbV (xs ++ [digV (sl s f E.toNat)]) + 10 ^ (9 * (xs ++ [digV (sl s f E.toNat)]).length) * digV (s.data.toList.take (E - 9).toNat) = digV s.data.toList := by
  have e1 : s.data.toList.take E.toNat = s.data.toList.take f ++ sl s f E.toNat := sl_take (by omega)
  rw [e1, digV_append, sl_length (by omega)] at h
  rw [limbV_snoc, List.length_append, List.length_singleton, nine_pow, (by omega : (E - 9).toNat = f), ← h, Nat.mul_add, Nat.add_assoc]
  congr 1
  rw [Nat.add_comm]
  congr 1
  by_cases h9 : 9 ≤ E
  · have e2 : E.toNat - f = 9 := by omega
    have e3 : (10 : Nat) ^ 9 = 1000000000 := by decide
    rw [e2, e3, Nat.mul_comm 1000000000, Nat.mul_assoc, Nat.mul_comm (digV _)]
  · have e2 : f = 0 := by omega
    subst e2
    rw [List.take_zero, digV_nil, Nat.zero_mul, Nat.mul_zero, Nat.mul_zero]

set_option maxHeartbeats 2000000 in
set_option maxRecDepth 100000 in
theorem l06Limbs_any (s : ByteArray) (w : World) (hs : s.size ≤ 1048576) (hF : Figs s.data.toList) :
    Calls Tryd.prog 32 #[.string s] w fun e w' => ∃ (v : Value) (xs : List Nat), e = .returned v ∧ Row w' w.heap.size v xs ∧ Below w.heap.size w w' ∧ limbV xs = digV s.data.toList ∧ LimbsOk xs ∧ xs.length ≤ s.size := by
  obtain ⟨i0, hi, hz0, hz1, hz2⟩ := info_parts Tryd.infoInt
  have HF : Hid (Figs s.data.toList) := hF
  clear hF
  go_enter Tryd.func32, Tryd.ntmps32
  go_upto_region 3 with fail
  go_loopw [3, 4] (fun v x wr => ∃ (E : Int) (xs : List Nat), x = .int .i64 E ∧ -9 ≤ E ∧ E ≤ s.size ∧ (xs.length : Int) + (max E 0) ≤ s.size ∧ wr.ownsRow w.heap.size 3 1 v xs.length (xs.map fun x => Value.int .i64 (x : Nat)) ∧ Below w.heap.size w wr ∧ Hid (LimbsOk xs ∧ limbV xs + 10 ^ (9 * xs.length) * digV (s.data.toList.take E.toNat) = digV s.data.toList)) (fun _ x _ => (intOf x + 9).toNat)
  case atStart =>
    refine ⟨s.size, [], rfl, by omega, by omega, by simp, World.ownsRow_made w #[] 0 (Nat.le_refl _) (Nat.zero_le _) rfl, (Below.refl _ _).alloc (Nat.le_refl _) _, ?_⟩
    show LimbsOk [] ∧ _
    refine ⟨limbsOk_nil, ?_⟩
    rw [Int.toNat_natCast, take_all]
    simp [limbV]
  case round =>
    obtain ⟨E, xs, rfl, hE1, hE2, hlen, hown, hbel, HI⟩ := hrel
    have hsz := hbel.size
    by_cases hpos : 0 < E
    · obtain ⟨f, hf⟩ : ∃ f : Nat, (f : Int) = max (E - 9) 0 := ⟨(max (E - 9) 0).toNat, by omega⟩
      by_cases h9 : E - 9 < 0
      · have hf0 : f = 0 := by omega
        subst hf0
        go_upto_region 10 with fail
        go_loop [6, 7] (fun x i => ∃ (k y : Nat), (0 : Int) ≤ k ∧ (k : Int) ≤ E ∧ i = .int .i64 k ∧ x = .int .i64 y ∧ (y : Int) < 1000000000 ∧ Hid (y = digV (sl s 0 k))) (fun _ i => (E - intOf i).toNat)
        case atStart => exact ⟨0, 0, by omega, by omega, by rfl, rfl, by omega, by show 0 = digV (sl s 0 0); rw [sl_self]; rfl⟩
        case round =>
          obtain ⟨k, y, hk1, hk2, rfl, rfl, hy, HY⟩ := hrel
          by_cases hlt : (k : Int) < E
          · have hks : k < s.size := by omega
            obtain ⟨c, hc⟩ : ∃ c : Nat, (s[k]).toNat = c := ⟨_, rfl⟩
            have hc1 : 48 ≤ c ∧ c ≤ 57 := by
              rw [← hc]
              refine HF.out _ ?_
              have : s[k] = s.data.toList[k]'(by rw [size_list]; exact hks) := rfl
              rw [this]; exact List.getElem_mem _
            have hc2 : ((s[k]).toNat : Int) = c := by omega
            have c1 : (48 : Int) ≤ c := by omega
            have c2 : (c : Int) ≤ 57 := by omega
            have HN : Hid (10 * y + (c - 48) = digV (sl s 0 (k + 1)) ∧ 10 * y + (c - 48) < 1000000000) := by
              show 10 * y + (c - 48) = digV (sl s 0 (k + 1)) ∧ 10 * y + (c - 48) < 1000000000
              have e1 : 10 * y + (c - 48) = digV (sl s 0 (k + 1)) := by rw [sl_snoc (by omega) hks, digV_snoc, hc, ← HY.out]
              refine ⟨e1, ?_⟩
              rw [e1]
              have h1 := digV_lt (sl_figs HF.out 0 (k + 1))
              rw [sl_length (by omega)] at h1
              have h2 : 10 ^ (k + 1 - 0) ≤ 10 ^ 9 := Nat.pow_le_pow_right (by decide) (by omega)
              omega
            clear hc hc1
            go_wp2
            go_round
            case rel => exact ⟨k + 1, 10 * y + (c - 48), by omega, by omega, by go_num, by go_num, by have := HN.out.2; omega, HN.out.1⟩
            case measure => simp [intOf]; omega
          · have hkE : (k : Int) = E := by omega
            have HL : Hid (LimbsOk (xs ++ [y]) ∧ limbV (xs ++ [y]) + 10 ^ (9 * (xs ++ [y]).length) * digV (s.data.toList.take (E - 9).toNat) = digV s.data.toList) := by
              show LimbsOk (xs ++ [y]) ∧ _
              have hyy : y = digV (sl s 0 E.toNat) := by rw [HY.out, (by omega : E.toNat = k)]
              refine ⟨limbsOk_snoc HI.out.1 (by omega), ?_⟩
              rw [hyy]
              exact limbs_step hpos hE2 hf HI.out.2
            have hlt' : decide ((k : Int) < E) = false := by simp; omega
            go_wp2_with (at_builtin; refine append_one (w0 := w) rfl _ _ 42 rfl w.heap.size 3 i0 (.int .i64 0) 8 Tryd.underlying42 hi hz0 hz1 hz2 rfl _ _ _ rfl hown (.int .i64 (y : Int)) rfl rfl (by omega) (by decide) hbel hsz ?_)
            intro v' w2 hown' hbel'
            have hrow : w2.ownsRow w.heap.size 3 1 v' (xs ++ [y]).length ((xs ++ [y]).map fun x => Value.int .i64 (x : Nat)) := by simpa using hown'
            clear hown' hown HI
            go_wp2
            go_roundw
            case rel => exact ⟨E - 9, xs ++ [y], by go_num, by omega, by omega, by simp; omega, hrow, hbel', HL⟩
            case measure => simp [intOf]; omega
      · have h9' : decide (E - 9 < 0) = false := by simp; omega
        have hf9 : E - 9 = f := by omega
        have HFF : Hid ((f : Int) = max (E - 9) 0) := hf
        clear hf
        go_upto_region 10 with fail
        go_loop [6, 7] (fun x i => ∃ (k y : Nat), (f : Int) ≤ k ∧ (k : Int) ≤ E ∧ i = .int .i64 k ∧ x = .int .i64 y ∧ (y : Int) < 1000000000 ∧ Hid (y = digV (sl s f k))) (fun _ i => (E - intOf i).toNat)
        case atStart => exact ⟨f, 0, by omega, by omega, by rfl, rfl, by omega, by show 0 = digV (sl s f f); rw [sl_self]; rfl⟩
        case round =>
          obtain ⟨k, y, hk1, hk2, rfl, rfl, hy, HY⟩ := hrel
          by_cases hlt : (k : Int) < E
          · have hks : k < s.size := by omega
            obtain ⟨c, hc⟩ : ∃ c : Nat, (s[k]).toNat = c := ⟨_, rfl⟩
            have hc1 : 48 ≤ c ∧ c ≤ 57 := by
              rw [← hc]
              refine HF.out _ ?_
              have : s[k] = s.data.toList[k]'(by rw [size_list]; exact hks) := rfl
              rw [this]; exact List.getElem_mem _
            have hc2 : ((s[k]).toNat : Int) = c := by omega
            have c1 : (48 : Int) ≤ c := by omega
            have c2 : (c : Int) ≤ 57 := by omega
            have HN : Hid (10 * y + (c - 48) = digV (sl s f (k + 1)) ∧ 10 * y + (c - 48) < 1000000000) := by
              show 10 * y + (c - 48) = digV (sl s f (k + 1)) ∧ 10 * y + (c - 48) < 1000000000
              have e1 : 10 * y + (c - 48) = digV (sl s f (k + 1)) := by rw [sl_snoc (by omega) hks, digV_snoc, hc, ← HY.out]
              refine ⟨e1, ?_⟩
              rw [e1]
              have h1 := digV_lt (sl_figs HF.out f (k + 1))
              rw [sl_length (by omega)] at h1
              have h2 : 10 ^ (k + 1 - f) ≤ 10 ^ 9 := Nat.pow_le_pow_right (by decide) (by omega)
              omega
            clear hc hc1
            go_wp2
            go_round
            case rel => exact ⟨k + 1, 10 * y + (c - 48), by omega, by omega, by go_num, by go_num, by have := HN.out.2; omega, HN.out.1⟩
            case measure => simp [intOf]; omega
          · have hkE : (k : Int) = E := by omega
            have HL : Hid (LimbsOk (xs ++ [y]) ∧ limbV (xs ++ [y]) + 10 ^ (9 * (xs ++ [y]).length) * digV (s.data.toList.take (E - 9).toNat) = digV s.data.toList) := by
              show LimbsOk (xs ++ [y]) ∧ _
              have hyy : y = digV (sl s f E.toNat) := by rw [HY.out, (by omega : E.toNat = k)]
              refine ⟨limbsOk_snoc HI.out.1 (by omega), ?_⟩
              rw [hyy]
              exact limbs_step hpos hE2 HFF.out HI.out.2
            have hlt' : decide ((k : Int) < E) = false := by simp; omega
            go_wp2_with (at_builtin; refine append_one (w0 := w) rfl _ _ 42 rfl w.heap.size 3 i0 (.int .i64 0) 8 Tryd.underlying42 hi hz0 hz1 hz2 rfl _ _ _ rfl hown (.int .i64 (y : Int)) rfl rfl (by omega) (by decide) hbel hsz ?_)
            intro v' w2 hown' hbel'
            have hrow : w2.ownsRow w.heap.size 3 1 v' (xs ++ [y]).length ((xs ++ [y]).map fun x => Value.int .i64 (x : Nat)) := by simpa using hown'
            clear hown' hown HI
            go_wp2
            go_roundw
            case rel => exact ⟨E - 9, xs ++ [y], by go_num, by omega, by omega, by simp; omega, hrow, hbel', HL⟩
            case measure => simp [intOf]; omega
    · have hpos' : decide (0 < E) = false := by simp; omega
      go_wp2
      go_ret
      refine ⟨_, rfl, xs, hown, hbel, ?_, HI.out.1, by omega⟩
      have h := HI.out.2
      rw [(by omega : E.toNat = 0), List.take_zero, digV_nil, Nat.mul_zero, Nat.add_zero] at h
      exact h

end Go.Proofs.YtfocaoliadbhcaaDoor
