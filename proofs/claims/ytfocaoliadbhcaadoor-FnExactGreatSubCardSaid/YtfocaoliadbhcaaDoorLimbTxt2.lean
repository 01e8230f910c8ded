/-
  The walks of the specification's l06Text, l06Fits and l06Short.
-/
import Derived.Test.YtfocaoliadbhcaaDoorLimbTxt
namespace Go.Proofs.YtfocaoliadbhcaaDoor
open Go.RowKit
set_option linter.unusedVariables false

theorem fill_text {N n : Nat} {zs : List Nat} (h : FillAt N n n zs) (hN : N < 10 ^ n) : trimL (strOfNums (zs.map fun (x : Nat) => (x : Int))).data.toList = Lib.decDigits N := by
  have e : (strOfNums (zs.map fun (x : Nat) => (x : Int))).data.toList = padD N n := by
    rw [strOfNums_data, List.map_map, ← fill_end h]
    rfl
  rw [e, ← dec_trim _ (padD_figs N n), padD_digV N n hN]

set_option maxHeartbeats 4000000 in
set_option maxRecDepth 100000 in
theorem l06Text_any (v : Value) (xs : List Nat) (B : Nat) (w : World) (hA : Row w B v xs) (oa : LimbsOk xs) (la : xs.length ≤ 100000) :
    Calls Tryd.prog 30 #[v] w fun e w' => e = .returned (.string (txt (Lib.decDigits (limbV xs)))) ∧ Below w.heap.size w w' := by
  obtain ⟨i0, hi, hz0, hz1, hz2⟩ := info_parts Tryd.infoByte
  obtain ⟨pa, ca, rfl⟩ := hA.shape
  have HA : Hid (Row w B (.slice pa xs.length ca) xs ∧ LimbsOk xs) := ⟨hA, oa⟩
  clear hA oa
  obtain ⟨n, hn⟩ : ∃ n, 9 * xs.length = n := ⟨_, rfl⟩
  have hn' : 9 * (xs.length : Int) = n := by omega
  obtain ⟨N, hN⟩ : ∃ N, limbV xs = N := ⟨_, rfl⟩
  have HN : Hid (limbV xs = N ∧ N < 10 ^ n) := ⟨hN, by rw [← hN, ← hn]; exact limbV_lt HA.out.2⟩
  rw [hN]
  clear hN
  have hmk := fun W : World => run_make (P := Tryd.prog) W 31 5 i0 (.int .u8 0) Tryd.underlying31 hi hz0 .i64 .i64 (n : Int) (n : Int) (by omega) (by omega) (by rw [hz2]; omega) (by omega)
  go_enter Tryd.func30, Tryd.ntmps30
  go_upto_region 3 with fail
  clear hmk
  go_loopw [4] (fun x wr => ∃ (i : Nat) (zs : List Nat), x = .int .i64 i ∧ i ≤ xs.length ∧ wr.ownsRow w.heap.size 5 1 (.slice (some ⟨w.heap.size, 0, none⟩) n n) n ((zs.map fun (x : Nat) => (x : Int)).map (Value.int .u8)) ∧ Below w.heap.size w wr ∧ Hid (FillAt N n (9 * i) zs)) (fun x _ => xs.length - (intOf x).toNat)
  case atStart =>
    refine ⟨0, List.replicate n 0, rfl, Nat.zero_le _, ⟨by simp, .inr ⟨w.heap.size, n, _, rfl, Nat.le_refl _, heap_alloc_new w _, Nat.le_refl _, by unfold maxLen; omega, by simp [size_madeCells], ?_⟩⟩, (Below.refl _ _).alloc (Nat.le_refl _) _, fill_start N n⟩
    rw [toList_madeCells_one, Nat.mul_one, List.map_replicate, List.map_replicate, List.take_of_length_le (by simp)]
    rfl
  case round =>
    obtain ⟨i, zs, rfl, hil, hown, hbel, HI⟩ := hrel
    have hsz := hbel.size
    by_cases hlt : i < xs.length
    · have hca : ∃ ga, pa = some ⟨ga, 0, none⟩ ∧ wr.cell? ⟨ga, i, none⟩ = some (.int .i64 (xs.getD i 0 : Nat)) := by
        rcases (HA.out.1.below hbel).cells with ⟨h, h'⟩ | ⟨ga, cap, h, _, _, h'⟩
        · rw [h'] at hlt; simp at hlt
        · injection h with h _ _
          exact ⟨ga, h, h' i hlt⟩
      obtain ⟨ga, rfl, hca⟩ := hca
      have o2 := limbsOk_at HA.out.2 i
      have HX : Hid (∀ k, k < 9 → figAt N (9 * i + k) = 48 + xs.getD i 0 / 10 ^ k % 10) := fun k hk => by
        unfold figAt
        rw [← HN.out.1, limb_fig HA.out.2 hlt hk]
      obtain ⟨x, hx⟩ : ∃ x, xs.getD i 0 = x := ⟨_, rfl⟩
      rw [hx] at hca o2 HX
      have o2' : (x : Int) < 1000000000 := by omega
      have hil' : (i : Int) < xs.length := by omega
      clear hx o2
      go_upto_region 7 with fail
      clear hca
      go_loopw [5, 6] (fun y z wr => ∃ (k u : Nat) (zs : List Nat), z = .int .i64 k ∧ y = .int .i64 u ∧ (k : Int) ≤ 9 ∧ (u : Int) < 1000000000 ∧ wr.ownsRow w.heap.size 5 1 (.slice (some ⟨w.heap.size, 0, none⟩) n n) n ((zs.map fun (x : Nat) => (x : Int)).map (Value.int .u8)) ∧ Below w.heap.size w wr ∧ Hid (FillAt N n (9 * i + k) zs ∧ u = x / 10 ^ k)) (fun _ z _ => (9 - intOf z).toNat)
      case atStart => exact ⟨0, x, zs, rfl, rfl, by omega, by omega, hown, hbel, ⟨HI.out, by simp⟩⟩
      case round =>
        clear hown hbel HI hsz
        clear zs
        obtain ⟨k, u, zs, rfl, rfl, hk, hu, hown, hbel, HI⟩ := hrel
        by_cases hk9 : (k : Int) < 9
        · obtain ⟨K, hK⟩ : ∃ K, n - 1 - (9 * i + k) = K := ⟨_, rfl⟩
          have hK' : 9 * ((xs.length : Int) - i) - 1 - k = K := by omega
          have hKn : (K : Int) < n := by omega
          have hK0 : (0 : Int) ≤ K := by omega
          obtain ⟨f, hf⟩ : ∃ f, figAt N (9 * i + k) = f := ⟨_, rfl⟩
          have hf1 : 48 + (u : Int) % 10 = f := by
            have h1 := HX.out k (by omega)
            rw [hf, ← HI.out.2] at h1
            omega
          have hf2 := figAt_le N (9 * i + k)
          rw [hf] at hf2
          have hf3 : (f : Int) ≤ 57 := by omega
          have hlen := HI.out.1.len
          have HS : Hid (FillAt N n (9 * i + (k + 1)) (zs.set K f) ∧ u / 10 = x / 10 ^ (k + 1)) := by
            refine ⟨?_, by rw [HI.out.2, Nat.pow_succ, Nat.div_div_eq_div_mul]⟩
            have h1 := fill_step HI.out.1 (by omega)
            rw [hK, hf] at h1
            exact h1
          have hcell : ∃ o, wr.cell? ⟨w.heap.size, K, none⟩ = some (.int .u8 o) := by
            refine ⟨(zs.getD K 0 : Nat), ?_⟩
            rw [World.ownsRow.cellAt hown K (by omega), List.getElem?_map, List.getElem?_map, List.getElem?_eq_getElem (by omega), List.getD_eq_getElem?_getD, List.getElem?_eq_getElem (by omega)]
            rfl
          obtain ⟨o, hcell⟩ := hcell
          have hfz := row_free hown K
          have st := World.ownsRow.stored hown K (.int .u8 (f : Int))
          have HST : Hid _ := st
          clear st hf hf2 hK HI hlen
          go_wp2
          go_roundw
          case rel =>
            refine ⟨k + 1, u / 10, zs.set K f, by go_num, by go_num, by omega, by omega, ?_, hbel.setCell (Nat.le_refl _) _, HS⟩
            rw [List.map_set, List.map_set]
            exact HST.out.1
          case measure => simp [intOf]; omega
        · have hk10 : k = 9 := by omega
          subst hk10
          have HF : Hid (FillAt N n (9 * (i + 1)) zs) := by
            have := HI.out.1
            rw [(by omega : 9 * i + 9 = 9 * (i + 1))] at this
            exact this
          clear HI
          go_wp2
          go_roundw
          case rel => exact ⟨i + 1, zs, by go_num, by omega, hown, hbel, HF⟩
          case measure => simp [intOf]; omega
    · have hlt' : decide (i < xs.length) = false := by simp; omega
      have hcv := conv_own (P := Tryd.prog) _ Tryd.underlying31 Tryd.underlying5 Tryd.underlying9 hown
      have HF : Hid (FillAt N n n zs) := by
        have := HI.out
        rw [(by omega : 9 * i = n)] at this
        exact this
      obtain ⟨t, ht⟩ : ∃ t, strOfNums (zs.map fun (x : Nat) => (x : Int)) = t := ⟨_, rfl⟩
      have hts : t.size ≤ 10000000 := by
        rw [← ht, strOfNums_size, List.length_map, HF.out.len]; omega
      have hte : trimL t.data.toList = Lib.decDigits N := by rw [← ht]; exact fill_text HF.out HN.out.2
      have cT := fun W => l06Trim_any t W hts
      rw [hte] at cT
      rw [ht] at hcv
      clear HF HI hte hts ht
      go_wp2_with (go_at_call 53; refine (cT _).mono ?_; rintro e w' ⟨rfl, rfl⟩)
      go_ret
      exact ⟨rfl, hbel⟩

set_option maxHeartbeats 400000 in
set_option maxRecDepth 100000 in
theorem l06Fits_any (s : ByteArray) (w : World) :
    Calls Tryd.prog 29 #[.string s] w fun e w' => e = .returned (.tuple #[.string (if s.size ≤ 800 then s else ⟨#[]⟩), .bool (decide (s.size ≤ 800))]) ∧ w = w' := by
  by_cases h : s.size ≤ 800
  · have h' : decide ((800 : Int) < s.size) = false := by simp; omega
    rw [if_pos h, decide_eq_true h]
    go_enter Tryd.func29, Tryd.ntmps29
    go_wp2
    go_ret2
    exact ⟨rfl, rfl⟩
  · have h' : (800 : Int) < s.size := by omega
    rw [if_neg h, decide_eq_false h]
    go_enter Tryd.func29, Tryd.ntmps29
    go_wp2
    go_ret2
    exact ⟨rfl, rfl⟩

end Go.Proofs.YtfocaoliadbhcaaDoor
