/-
  The walk of the program's limbsOf.
-/
import Derived.Test.YtcabanghegddhaaGreatDoorGreatC
namespace Go.Proofs.YtcabanghegddhaaGreatDoor
open Go.RowKit
set_option linter.unusedVariables false

set_option maxHeartbeats 4000000 in
set_option maxRecDepth 100000 in
theorem limbsWalk (s : ByteArray) (w : World) (hs : s.size ≤ 1048576) (hF : Figs s.data.toList) :
    Calls Tryz.prog 98 #[.string s] w fun e w' => ∃ (v : Value) (xs : List Nat), e = .returned v ∧ Row w' w.heap.size v xs ∧ Below w.heap.size w w' ∧ limbV xs = digV s.data.toList ∧ LimbsOk xs ∧ s.size ≤ 9 * xs.length ∧ 9 * xs.length < s.size + 9 := by
  obtain ⟨i0, hi, hz0, hz1, hz2⟩ := info_parts Tryz.infoInt
  have HF : Hid (Figs s.data.toList) := hF
  clear hF
  go_enter Tryz.func98, Tryz.ntmps98
  go_upto_region 3 with fail
  go_loopw [3, 4] (fun v x wr => ∃ (E : Int) (xs : List Nat), x = .int .i64 E ∧ -9 < E ∧ E ≤ s.size ∧ E + 9 * (xs.length : Int) = s.size ∧ wr.ownsRow w.heap.size 3 1 v xs.length (xs.map fun x => Value.int .i64 (x : Nat)) ∧ Below w.heap.size w wr ∧ Hid (LimbsOk xs ∧ limbV xs + 10 ^ (9 * xs.length) * digV (s.data.toList.take E.toNat) = digV s.data.toList)) (fun _ x _ => (intOf x + 9).toNat)
  case atStart =>
    refine ⟨s.size, [], rfl, by omega, by omega, by simp, ⟨rfl, .inl ⟨rfl, rfl⟩⟩, Below.refl _ _, ?_⟩
    show LimbsOk [] ∧ _
    refine ⟨limbsOk_nil, ?_⟩
    rw [Int.toNat_natCast, take_all]
    simp [limbV]
  case round =>
    obtain ⟨E, xs, rfl, hE1, hE2, hlen, hown, hbel, HI⟩ := hrel
    have hsz := hbel.size
    by_cases hpos : 0 < E
    · obtain ⟨f, hf⟩ : ∃ f : Nat, (f : Int) = max (E - 9) 0 := ⟨(max (E - 9) 0).toNat, by omega⟩
      have HFF : Hid ((f : Int) = max (E - 9) 0) := hf
      have hf1 : (f : Int) < E := by omega
      have hf2 : E - 9 ≤ f := by omega
      clear hf
      by_cases h9 : E - 9 < 0
      · have hf0 : f = 0 := by have := HFF.out; omega
        subst hf0
        go_upto_region 7 with fail
        go_loop [5, 6] (fun x i => ∃ (k y : Nat), ((0 : Nat) : Int) ≤ k ∧ (k : Int) ≤ E ∧ i = .int .i64 k ∧ x = .int .i64 y ∧ (y : Int) < 1000000000 ∧ Hid (y = digV (sl s 0 k))) (fun _ i => (E - intOf i).toNat)
        case atStart => exact ⟨0, 0, by omega, by omega, by rfl, rfl, by omega, by show 0 = digV (sl s 0 0); rw [sl_self]; rfl⟩
        case round =>
          obtain ⟨k, y, hk1, hk2, rfl, rfl, hy, HY⟩ := hrel
          by_cases hlt : (k : Int) < E
          · have hks : k < s.size := by omega
            obtain ⟨c, hc⟩ : ∃ c : Nat, (s[k]).toNat = c := ⟨_, rfl⟩
            have hc1 : 48 ≤ c ∧ c ≤ 57 := by
              rw [← hc]
              refine HF.out _ ?_
              have : s[k] = s.data.toList[k]'(by rw [size_list]; exact hks) := rfl
              rw [this]; exact List.getElem_mem _
            have hc2 : ((s[k]).toNat : Int) = c := by omega
            have c1 : (48 : Int) ≤ c := by omega
            have c2 : (c : Int) ≤ 57 := by omega
            have HN : Hid (10 * y + (c - 48) = digV (sl s 0 (k + 1)) ∧ 10 * y + (c - 48) < 1000000000) := by
              show 10 * y + (c - 48) = digV (sl s 0 (k + 1)) ∧ 10 * y + (c - 48) < 1000000000
              have e1 : 10 * y + (c - 48) = digV (sl s 0 (k + 1)) := by rw [sl_snoc (by omega) hks, digV_snoc, hc, ← HY.out]
              refine ⟨e1, ?_⟩
              rw [e1]
              have h1 := digV_lt (sl_figs HF.out 0 (k + 1))
              rw [sl_length (by omega)] at h1
              have h2 : 10 ^ (k + 1 - 0) ≤ 10 ^ 9 := Nat.pow_le_pow_right (by decide) (by omega)
              omega
            clear hc hc1
            go_wp2
            go_round
            case rel => exact ⟨k + 1, 10 * y + (c - 48), by omega, by omega, by go_num, by go_num, by have := HN.out.2; omega, HN.out.1⟩
            case measure => simp [intOf]; omega
          · have hkE : (k : Int) = E := by omega
            have HL : Hid (LimbsOk (xs ++ [y]) ∧ limbV (xs ++ [y]) + 10 ^ (9 * (xs ++ [y]).length) * digV (s.data.toList.take (E - 9).toNat) = digV s.data.toList) := by
              show LimbsOk (xs ++ [y]) ∧ _
              have hyy : y = digV (sl s 0 E.toNat) := by rw [HY.out, (by omega : E.toNat = k)]
              refine ⟨limbsOk_snoc HI.out.1 (by omega), ?_⟩
              rw [hyy]
              exact limbs_step hpos hE2 HFF.out HI.out.2
            have hlt' : decide ((k : Int) < E) = false := by simp; omega
            go_wp2_with (at_builtin; refine append_one (w0 := w) rfl _ _ 116 rfl w.heap.size 3 i0 (.int .i64 0) 8 Tryz.underlying116 hi hz0 hz1 hz2 rfl _ _ _ rfl hown (.int .i64 (y : Int)) rfl rfl (by omega) (by decide) hbel hsz ?_)
            intro v' w2 hown' hbel'
            have hrow : w2.ownsRow w.heap.size 3 1 v' (xs ++ [y]).length ((xs ++ [y]).map fun x => Value.int .i64 (x : Nat)) := by simpa using hown'
            clear hown' hown HI
            go_wp2
            go_roundw
            case rel => exact ⟨E - 9, xs ++ [y], by go_num, by omega, by omega, by simp; omega, hrow, hbel', HL⟩
            case measure => simp [intOf]; omega
      · have h9' : decide (E - 9 < 0) = false := by simp; omega
        have hf9 : E - 9 = f := by have := HFF.out; omega
        have h9p : (0 : Int) ≤ E - 9 := by omega
        go_upto_region 7 with fail
        go_loop [5, 6] (fun x i => ∃ (k y : Nat), (f : Int) ≤ k ∧ (k : Int) ≤ E ∧ i = .int .i64 k ∧ x = .int .i64 y ∧ (y : Int) < 1000000000 ∧ Hid (y = digV (sl s f k))) (fun _ i => (E - intOf i).toNat)
        case atStart => exact ⟨f, 0, by omega, by omega, by rfl, rfl, by omega, by show 0 = digV (sl s f f); rw [sl_self]; rfl⟩
        case round =>
          obtain ⟨k, y, hk1, hk2, rfl, rfl, hy, HY⟩ := hrel
          by_cases hlt : (k : Int) < E
          · have hks : k < s.size := by omega
            obtain ⟨c, hc⟩ : ∃ c : Nat, (s[k]).toNat = c := ⟨_, rfl⟩
            have hc1 : 48 ≤ c ∧ c ≤ 57 := by
              rw [← hc]
              refine HF.out _ ?_
              have : s[k] = s.data.toList[k]'(by rw [size_list]; exact hks) := rfl
              rw [this]; exact List.getElem_mem _
            have hc2 : ((s[k]).toNat : Int) = c := by omega
            have c1 : (48 : Int) ≤ c := by omega
            have c2 : (c : Int) ≤ 57 := by omega
            have HN : Hid (10 * y + (c - 48) = digV (sl s f (k + 1)) ∧ 10 * y + (c - 48) < 1000000000) := by
              show 10 * y + (c - 48) = digV (sl s f (k + 1)) ∧ 10 * y + (c - 48) < 1000000000
              have e1 : 10 * y + (c - 48) = digV (sl s f (k + 1)) := by rw [sl_snoc (by omega) hks, digV_snoc, hc, ← HY.out]
              refine ⟨e1, ?_⟩
              rw [e1]
              have h1 := digV_lt (sl_figs HF.out f (k + 1))
              rw [sl_length (by omega)] at h1
              have h2 : 10 ^ (k + 1 - f) ≤ 10 ^ 9 := Nat.pow_le_pow_right (by decide) (by omega)
              omega
            clear hc hc1
            go_wp2
            go_round
            case rel => exact ⟨k + 1, 10 * y + (c - 48), by omega, by omega, by go_num, by go_num, by have := HN.out.2; omega, HN.out.1⟩
            case measure => simp [intOf]; omega
          · have hkE : (k : Int) = E := by omega
            have HL : Hid (LimbsOk (xs ++ [y]) ∧ limbV (xs ++ [y]) + 10 ^ (9 * (xs ++ [y]).length) * digV (s.data.toList.take (E - 9).toNat) = digV s.data.toList) := by
              show LimbsOk (xs ++ [y]) ∧ _
              have hyy : y = digV (sl s f E.toNat) := by rw [HY.out, (by omega : E.toNat = k)]
              refine ⟨limbsOk_snoc HI.out.1 (by omega), ?_⟩
              rw [hyy]
              exact limbs_step hpos hE2 HFF.out HI.out.2
            have hlt' : decide ((k : Int) < E) = false := by simp; omega
            go_wp2_with (at_builtin; refine append_one (w0 := w) rfl _ _ 116 rfl w.heap.size 3 i0 (.int .i64 0) 8 Tryz.underlying116 hi hz0 hz1 hz2 rfl _ _ _ rfl hown (.int .i64 (y : Int)) rfl rfl (by omega) (by decide) hbel hsz ?_)
            intro v' w2 hown' hbel'
            have hrow : w2.ownsRow w.heap.size 3 1 v' (xs ++ [y]).length ((xs ++ [y]).map fun x => Value.int .i64 (x : Nat)) := by simpa using hown'
            clear hown' hown HI
            go_wp2
            go_roundw
            case rel => exact ⟨E - 9, xs ++ [y], by go_num, by omega, by omega, by simp; omega, hrow, hbel', HL⟩
            case measure => simp [intOf]; omega
    · have hpos' : decide (0 < E) = false := by simp; omega
      go_wp2
      go_ret
      refine ⟨_, rfl, xs, hown, hbel, ?_, HI.out.1, by omega, by omega⟩
      have h := HI.out.2
      rw [(by omega : E.toNat = 0), List.take_zero, digV_nil, Nat.mul_zero, Nat.add_zero] at h
      exact h

end Go.Proofs.YtcabanghegddhaaGreatDoor
