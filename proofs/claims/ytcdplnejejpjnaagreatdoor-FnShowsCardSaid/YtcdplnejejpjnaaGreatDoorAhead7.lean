/-
  The walks of the specification's noughts: taken off the end of figures, and a text of noughts.
-/
import Derived.Test.YtcdplnejejpjnaaGreatDoorExact
import Derived.Test.YtcdplnejejpjnaaGreatDoorBaseA
namespace Go.Proofs.YtcdplnejejpjnaaGreatDoor
open Go.RowKit
set_option linter.unusedVariables false

set_option maxHeartbeats 2000000 in
set_option maxRecDepth 100000 in
theorem l07Ahead_any (N : Nat) (E : Int) (w : World) (hN : N ≠ 0) (hL : (Lib.decDigits N).length ≤ 1000) (e1 : -10000 ≤ E) (e2 : E ≤ 10000) :
    Calls Tryz.prog 52 #[.string (txt (Lib.decDigits N)), .int .i64 E] w fun e w' => e = .returned (.tuple #[.string (txt (Lib.decDigits (stripN N).1)), .int .i64 (E + ((stripN N).2 : Nat))]) ∧ w = w' := by
  obtain ⟨F, hF⟩ : ∃ F, txt (Lib.decDigits (stripN N).1) = F := ⟨_, rfl⟩
  obtain ⟨X, hX⟩ : ∃ X, E + ((stripN N).2 : Int) = X := ⟨_, rfl⟩
  rw [hF, hX]
  have HF2 : Hid (txt (Lib.decDigits (stripN N).1) = F ∧ E + ((stripN N).2 : Int) = X) := ⟨hF, hX⟩
  have HN0 : Hid (N ≠ 0) := hN
  obtain ⟨L, hLL⟩ : ∃ L, (Lib.decDigits N).length = L := ⟨_, rfl⟩
  have HLL : Hid ((Lib.decDigits N).length = L) := hLL
  rw [hLL] at hL
  obtain ⟨t0, ht0⟩ : ∃ t, txt (Lib.decDigits N) = t := ⟨_, rfl⟩
  have HT0 : Hid (txt (Lib.decDigits N) = t0) := ht0
  rw [ht0]
  clear hF hX hN hLL ht0
  go_enter Tryz.func52, Tryz.ntmps52
  go_wp2_with fail
  go_loop [0, 1] (fun x0 x1 => ∃ (M z : Nat) (t : ByteArray), x0 = .string t ∧ x1 = .int .i64 (E + z) ∧ (t.size : Int) + z ≤ L ∧ Hid (t = txt (Lib.decDigits M) ∧ StripAt N M z)) (fun x0 _ => sizeOfS x0)
  case atStart => exact ⟨N, 0, t0, rfl, by simp, by rw [← HT0.out, txt_size, HLL.out]; omega, HT0.out.symm, HN0.out, by simp, by omega⟩
  case round =>
    obtain ⟨M, z, t, rfl, rfl, hz, HI⟩ := hrel
    obtain ⟨l, l1, l2, l3⟩ := dec_last (M := M)
    have ht := HI.out.1
    have hsz : t.size = l.length + 1 := by rw [ht, txt_size, l1]; simp
    obtain ⟨k, hk⟩ : ∃ k, l.length = k := ⟨_, rfl⟩
    have hks : k < t.size := by omega
    have hk1 : (t.size : Int) - 1 = k := by omega
    have hc : t[k] = UInt8.ofNat (48 + M % 10) := txt_get (by rw [ht, l1]) hk.symm hks
    have hc2 : (t[k]).toNat = 48 + M % 10 := by
      rw [hc, UInt8.toNat_ofNat']; omega
    obtain ⟨G, hG⟩ : ∃ G : Int, E + (z : Int) = G := ⟨_, rfl⟩
    rw [hG]
    have HG : Hid (E + (z : Int) = G) := hG
    have G1 : -10000 ≤ G := by omega
    have G2 : G ≤ 20001 := by omega
    have HZ : Hid ((t.size : Int) + z ≤ L) := hz
    have hkb : (k : Int) ≤ 45001 := by omega
    have HK : Hid (l.length = k ∧ t.size = k + 1) := ⟨hk, by omega⟩
    clear hG hz hc hsz hk ht
    have finish : stripN N = (M, z) → txt (Lib.decDigits (stripN N).1) = F ∧ E + ((stripN N).2 : Int) = X → t = F ∧ G = X := fun h1 h2 => by
      rw [h1] at h2
      exact ⟨by rw [HI.out.1]; exact h2.1, by rw [← HG.out]; exact h2.2⟩
    by_cases hgt : (1 : Int) < t.size
    · have hM10 : 10 ≤ M := by
        rcases Nat.lt_or_ge M 10 with h' | h'
        · have := l2.2 h'
          rw [this] at HK
          have := HK.out
          simp at this
          omega
        · exact h'
      by_cases h0 : M % 10 = 0
      · have h0' : ((t[k]).toNat : Int) = 48 := by omega
        have HS : Hid (t.extract 0 k = txt (Lib.decDigits (M / 10)) ∧ StripAt N (M / 10) (z + 1)) := by
          refine ⟨?_, stripAt_step HI.out.2 h0⟩
          rw [HI.out.1, l1, Lib.extract_eq, txt_data, List.drop_zero, Nat.sub_zero, ← HK.out.1, List.take_left, l3 hM10]
          rfl
        have hes : (t.extract 0 k).size = k := by rw [ByteArray.size_extract]; omega
        clear finish l1 l2 l3 HI h0 hc2 hM10
        go_wp2
        go_round
        case rel => exact ⟨M / 10, z + 1, t.extract 0 k, rfl, by have := HG.out; go_num, by have := HZ.out; have := HK.out; rw [hes]; omega, HS.out⟩
        case measure =>
          show (t.extract 0 k).size < t.size
          rw [hes]; exact hks
      · have h0' : (((t[k]).toNat : Int) == 48) = false := by rw [beq_eq_false_iff_ne]; omega
        have hfin := finish (by rw [HI.out.2.eq, strip_done h0]; simp) HF2.out
        have HFin : Hid (t = F ∧ G = X) := hfin
        clear finish hfin l1 l2 l3 HI h0 hc2 hM10
        go_wp2
        go_ret2
        exact ⟨by rw [← HFin.out.1, ← HFin.out.2]; rfl, rfl⟩
    · have hgt' : decide ((1 : Int) < t.size) = false := by simp; omega
      have hM : M < 10 := l2.1 (List.eq_nil_of_length_eq_zero (by have := HK.out; omega))
      have h0 : M % 10 ≠ 0 := by have := HI.out.2.ne; omega
      have hfin := finish (by rw [HI.out.2.eq, strip_done h0]; simp) HF2.out
      have HFin : Hid (t = F ∧ G = X) := hfin
      clear finish hfin l1 l2 l3 HI h0 hM
      go_wp2
      go_ret2
      exact ⟨by rw [← HFin.out.1, ← HFin.out.2]; rfl, rfl⟩

theorem nums_noughts (n : Nat) : strOfNums (List.replicate n 48) = txt (List.replicate n 48) := by
  apply ByteArray.ext
  apply Array.toList_inj.mp
  rw [strOfNums_data, txt_data, List.map_replicate]
  rfl

set_option maxHeartbeats 1000000 in
set_option maxRecDepth 100000 in
theorem l01Long_noughts (n : Nat) (w : World) (hn : n ≤ 1000000) :
    Calls Tryz.prog 26 #[.int .i64 n, .int .u8 48] w fun e w' => e = .returned (.string (txt (List.replicate n 48))) ∧ Below w.heap.size w w' := by
  obtain ⟨i0, hi, hz0, hz1, hz2⟩ := info_parts Tryz.infoByte
  have hmk := fun W : World => run_make (P := Tryz.prog) W 22 5 i0 (.int .u8 0) Tryz.underlying22 hi hz0 .i64 .i64 (n : Int) (n : Int) (by omega) (by omega) (by rw [hz2]; omega) (by omega)
  go_enter Tryz.func26, Tryz.ntmps26
  go_wp2
  clear hmk
  go_loopw [6] (fun x wr => ∃ (k : Nat) (zs : List Int), k ≤ n ∧ x = .int .i64 k ∧ zs.length = n ∧ wr.ownsRow w.heap.size 5 1 (.slice (some ⟨w.heap.size, 0, none⟩) n n) n (zs.map (Value.int .u8)) ∧ Below w.heap.size w wr ∧ Hid (zs.take k = List.replicate k 48)) (fun x _ => n - (intOf x).toNat)
  case atStart =>
    refine ⟨0, List.replicate n 0, Nat.zero_le _, rfl, by simp, ⟨by simp, .inr ⟨w.heap.size, n, _, rfl, Nat.le_refl _, heap_alloc_new w _, Nat.le_refl _, by unfold maxLen; omega, by simp [size_madeCells], ?_⟩⟩, (Below.refl _ _).alloc (Nat.le_refl _) _, by rfl⟩
    rw [toList_madeCells_one, Nat.mul_one, List.map_replicate, List.take_of_length_le (by simp)]
  case round =>
    obtain ⟨k, zs, hk, rfl, hzl, hown, hbel, HI⟩ := hrel
    by_cases hlt : k < n
    · have hki : (k : Int) < (n : Int) := by omega
      have hk0 : (0 : Int) ≤ (k : Int) := by omega
      have hc1 : wr.cell? ⟨w.heap.size, k, none⟩ = some (.int .u8 (zs[k]'(by omega))) := by
        have h := hown.cells (g := w.heap.size) rfl k (.int .u8 (zs[k]'(by omega))) (by rw [List.getElem?_map, List.getElem?_eq_getElem (by omega)]; rfl)
        have hp : (⟨w.heap.size, 0, none⟩ : Addr).add k = ⟨w.heap.size, k, none⟩ := by unfold Addr.add; split <;> simp_all
        rw [← hp]; exact h
      have hf1 : wr.frozen? ⟨w.heap.size, k, none⟩ = false := World.ownsRow.frozenAt hown k
      have st := hown.stored k (.int .u8 48)
      have HS : Hid _ := st
      have HN : Hid ((zs.set k 48).take (k + 1) = List.replicate (k + 1) 48) := by
        show _ = _
        rw [List.take_succ_eq_append_getElem (by simp; omega), List.take_set_of_le (Nat.le_refl _), HI.out, List.getElem_set_self, List.replicate_succ']
      clear st HI
      go_wp2
      go_roundw
      case rel => exact ⟨k + 1, zs.set k 48, by omega, by go_num, by simpa using hzl, by rw [List.map_set]; exact HS.out.1, hbel.setCell (Nat.le_refl _) _, HN⟩
      case measure => simp [intOf]; omega
    · obtain rfl : k = n := by omega
      have hcv := conv_own (P := Tryz.prog) zs Tryz.underlying22 Tryz.underlying5 Tryz.underlying9 hown
      have hzs : zs = List.replicate k 48 := by
        have := HI.out
        rw [List.take_of_length_le (by omega)] at this
        exact this
      rw [hzs, nums_noughts] at hcv
      clear HI
      go_wp2
      go_ret
      exact ⟨rfl, hbel⟩

end Go.Proofs.YtcdplnejejpjnaaGreatDoor
