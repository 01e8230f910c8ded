/-
  The walks of the program's sums, differences and products of limbs.
-/
import Derived.Test.YtcdplnejejpjnaaGreatDoorIAddL
namespace Go.Proofs.YtcdplnejejpjnaaGreatDoor
open Go.RowKit
set_option linter.unusedVariables false

theorem limbV_noughts (n : Nat) : limbV (List.replicate n 0) = 0 := by
  induction n with
  | zero => rfl
  | succ n ih => rw [List.replicate_succ, limbV, ih]
theorem noughts_ok (n : Nat) : LimbsOk (List.replicate n 0) := fun x hx => by rw [List.eq_of_mem_replicate hx]; omega
theorem limbV_pow {xs : List Nat} (h : LimbsOk xs) {n : Nat} (hn : xs.length ≤ n) : limbV xs < 10 ^ (9 * n) := Nat.lt_of_lt_of_le (limbV_lt h) (Nat.pow_le_pow_right (by decide) (by omega))

/-- limbs of 0 that were made -/
theorem made_row (w : World) (n : Nat) (hn : n ≤ 1048576) : ∃ W1 : World, (Instr.makeSlice 102 (.int .i64 (n : Int)) (.int .i64 (n : Int))).run Tryz.prog w = .ok (.slice (some ⟨w.heap.size, 0, none⟩) n n) W1 ∧
    W1.ownsRow w.heap.size 3 1 (.slice (some ⟨w.heap.size, 0, none⟩) n n) n ((List.replicate n 0).map fun x => Value.int .i64 (x : Nat)) ∧ Below w.heap.size w W1 := by
  obtain ⟨i0, hi, hz0, hz1, hz2⟩ := info_parts Tryz.infoInt
  have h := run_make (P := Tryz.prog) w 102 3 i0 (.int .i64 0) Tryz.underlying102 hi hz0 .i64 .i64 (n : Int) (n : Int) (by omega) (by omega) (by rw [hz2]; omega) (by omega)
  rw [hz1, Int.toNat_natCast, Nat.mul_one] at h
  refine ⟨_, h, ⟨by simp, .inr ⟨w.heap.size, n, _, rfl, Nat.le_refl _, heap_alloc_new w _, Nat.le_refl _, by unfold maxLen; omega, by simp [size_madeCells], ?_⟩⟩, (Below.refl _ _).alloc (Nat.le_refl _) _⟩
  have hc : (Value.int .i64 0).cells = #[Value.int .i64 0] := rfl
  rw [hc, toList_madeCells_one, Nat.mul_one, List.map_replicate, List.take_of_length_le (by simp)]
  rfl

set_option maxHeartbeats 1000000 in
set_option maxRecDepth 100000 in
theorem plusWalk (va vb : Value) (ls ms : List Nat) (B : Nat) (w : World) (hA : Row w B va ls) (hB : Row w B vb ms) (oa : LimbsOk ls) (ob : LimbsOk ms) (la : ls.length ≤ 10000) (lb : ms.length ≤ 10000) :
    Calls Tryz.prog 100 #[va, vb] w fun e w' => ∃ (v : Value) (xs : List Nat), e = .returned v ∧ Row w' w.heap.size v xs ∧ Below w.heap.size w w' ∧ limbV xs = limbV ls + limbV ms ∧ LimbsOk xs ∧ xs.length ≤ 10001 := by
  obtain ⟨pa, ca, rfl⟩ := hA.shape
  obtain ⟨pb, cb, rfl⟩ := hB.shape
  obtain ⟨n, hn⟩ : ∃ n, max ls.length ms.length + 1 = n := ⟨_, rfl⟩
  obtain ⟨W1, hmk, hrow, hbel⟩ := made_row w n (by omega)
  have c1 := fun W h1 h2 => addWalk w.heap.size 0 n n n B (.slice pa ls.length ca) ls (List.replicate n 0) 1 w W hA oa h1 h2 (noughts_ok n) (by omega) (by omega) (by omega) (by omega)
  have c2 := fun W zs h1 h2 h3 => addWalk w.heap.size 0 n n n B (.slice pb ms.length cb) ms zs 1 w W hB ob h1 h2 h3 (by omega) (by omega) (by omega) (by omega)
  have HE : Hid (∀ zs1 zs2 q1 q2, CarAt (List.replicate n 0) zs1 ls 0 n 1 q1 → 0 ≤ q1 → CarAt zs1 zs2 ms 0 n 1 q2 → 0 ≤ q2 → limbV zs2 = limbV ls + limbV ms ∧ zs2.length = n) := fun zs1 zs2 q1 q2 k1 z1 k2 z2 => by
    have b1 := limbV_pow oa (n := n - 1) (by omega)
    have b2 := limbV_pow ob (n := n - 1) (by omega)
    have bp : 10 ^ (9 * n) = 1000000000 * 10 ^ (9 * (n - 1)) := by rw [← nine_pow]; congr 2; omega
    have e1 : limbV zs1 = limbV ls := carAt_end k1 (by omega) (by omega) (by rw [limbV_noughts]; simp) (by rw [Nat.zero_add]; omega) (.inl z1)
    have e2 : limbV zs2 = limbV ls + limbV ms := carAt_end k2 (by omega) (by omega) (by rw [e1]; simp) (by rw [Nat.zero_add]; omega) (.inl z2)
    exact ⟨e2, by rw [k2.len, k1.len]; simp⟩
  clear hA hB oa ob
  by_cases hm : ls.length < ms.length
  · have hn' : (ms.length : Int) + 1 = n := by omega
    go_enter Tryz.func100, Tryz.ntmps100
    go_wp2_with fail
    refine (c1 _ hbel hrow).mono ?_
    rintro e w2 ⟨zs1, q1, rfl, r1, b1, k1, _, z1⟩
    go_wp2_with fail
    refine (c2 _ zs1 b1 r1 k1.ok).mono ?_
    rintro e w3 ⟨zs2, q2, rfl, r2, b2, k2, _, z2⟩
    have hE := HE.out zs1 zs2 q1 q2 k1 (z1 (by omega)) k2 (z2 (by omega))
    have HK : Hid (LimbsOk zs2 ∧ limbV zs2 = limbV ls + limbV ms ∧ zs2.length = n) := ⟨k2.ok, hE.1, hE.2⟩
    clear hE k1 k2 z1 z2 c1 c2
    go_wp2
    go_ret
    refine ⟨_, zs2, rfl, ?_, b2, HK.out.2.1, HK.out.1, by have := HK.out.2.2; omega⟩
    show World.ownsRow _ _ _ _ _ zs2.length _
    rw [HK.out.2.2]
    exact r2
  · have hn' : (ls.length : Int) + 1 = n := by omega
    go_enter Tryz.func100, Tryz.ntmps100
    go_wp2_with fail
    refine (c1 _ hbel hrow).mono ?_
    rintro e w2 ⟨zs1, q1, rfl, r1, b1, k1, _, z1⟩
    go_wp2_with fail
    refine (c2 _ zs1 b1 r1 k1.ok).mono ?_
    rintro e w3 ⟨zs2, q2, rfl, r2, b2, k2, _, z2⟩
    have hE := HE.out zs1 zs2 q1 q2 k1 (z1 (by omega)) k2 (z2 (by omega))
    have HK : Hid (LimbsOk zs2 ∧ limbV zs2 = limbV ls + limbV ms ∧ zs2.length = n) := ⟨k2.ok, hE.1, hE.2⟩
    clear hE k1 k2 z1 z2 c1 c2
    go_wp2
    go_ret
    refine ⟨_, zs2, rfl, ?_, b2, HK.out.2.1, HK.out.1, by have := HK.out.2.2; omega⟩
    show World.ownsRow _ _ _ _ _ zs2.length _
    rw [HK.out.2.2]
    exact r2

theorem times_step {zs zs' ls ms : List Nat} {j : Nat} {q : Int} (k : CarAt zs zs' ls j (ls.length + 1) (ms.getD j 0 : Nat) q) (hq : 0 ≤ q) (ol : LimbsOk ls) (om : LimbsOk ms) (h : limbV zs = limbV ls * limbV (ms.take j)) : limbV zs' = limbV ls * limbV (ms.take (j + 1)) := by
  have t1 := limbV_take ms j
  have b1 := limbV_lt ol
  have b2 := limbV_lt (xs := ms.take (j + 1)) (fun x hx => om x (List.mem_of_mem_take hx))
  have b3 : 10 ^ (9 * (ms.take (j + 1)).length) ≤ 10 ^ (9 * (j + 1)) := Nat.pow_le_pow_right (by decide) (by rw [List.length_take]; omega)
  have b4 : limbV ls * limbV (ms.take (j + 1)) < 10 ^ (9 * ls.length) * 10 ^ (9 * (j + 1)) := Nat.mul_lt_mul'' b1 (Nat.lt_of_lt_of_le b2 b3)
  refine carAt_end k (by omega) (by omega) ?_ ?_ (.inl hq)
  · rw [h, t1, Nat.mul_add]
    generalize limbV (ms.take j) = V
    generalize limbV ls = L
    generalize ms.getD j 0 = x
    generalize 10 ^ (9 * j) = P
    have e : L * (P * x) = P * (x * L) := by rw [Nat.mul_left_comm, Nat.mul_comm L x]
    rw [e]
    simp only [Int.natCast_add, Int.natCast_mul]
  · have e : 10 ^ (9 * ls.length) * 10 ^ (9 * (j + 1)) = 10 ^ (9 * (j + (ls.length + 1))) := by rw [← Nat.pow_add]; congr 1; omega
    rw [← e]; exact b4

set_option maxHeartbeats 2000000 in
set_option maxRecDepth 100000 in
theorem timesWalk (va vb : Value) (ls ms : List Nat) (B : Nat) (w : World) (hA : Row w B va ls) (hB : Row w B vb ms) (oa : LimbsOk ls) (ob : LimbsOk ms) (la : ls.length ≤ 10000) (lb : ms.length ≤ 10000) :
    Calls Tryz.prog 135 #[va, vb] w fun e w' => ∃ (v : Value) (xs : List Nat), e = .returned v ∧ Row w' w.heap.size v xs ∧ Below w.heap.size w w' ∧ limbV xs = limbV ls * limbV ms ∧ LimbsOk xs ∧ xs.length ≤ 20000 := by
  obtain ⟨pa, ca, rfl⟩ := hA.shape
  obtain ⟨pb, cb, rfl⟩ := hB.shape
  obtain ⟨n, hn⟩ : ∃ n, ls.length + ms.length = n := ⟨_, rfl⟩
  have hn' : (ls.length : Int) + ms.length = n := by omega
  obtain ⟨W1, hmk, hrow, hbel⟩ := made_row w n (by omega)
  have HA : Hid (Row w B (.slice pa ls.length ca) ls ∧ LimbsOk ls) := ⟨hA, oa⟩
  have HB : Hid (Row w B (.slice pb ms.length cb) ms ∧ LimbsOk ms) := ⟨hB, ob⟩
  clear hA hB oa ob
  have HZ : Hid (limbV (List.replicate n 0) = limbV ls * limbV (ms.take 0) ∧ LimbsOk (List.replicate n 0)) := ⟨by rw [limbV_noughts, List.take_zero]; simp [limbV], noughts_ok n⟩
  go_enter Tryz.func135, Tryz.ntmps135
  go_upto_region 3 with fail
  clear hmk
  go_loopw [17] (fun x wr => ∃ (j : Nat) (zs : List Nat), x = .int .i64 j ∧ j ≤ ms.length ∧ wr.ownsRow w.heap.size 3 1 (.slice (some ⟨w.heap.size, 0, none⟩) n n) n (zs.map fun x => Value.int .i64 (x : Nat)) ∧ Below w.heap.size w wr ∧ Hid (limbV zs = limbV ls * limbV (ms.take j) ∧ LimbsOk zs)) (fun x _ => ms.length - (intOf x).toNat)
  case atStart => exact ⟨0, _, rfl, Nat.zero_le _, hrow, hbel, HZ⟩
  case round =>
    clear hrow hbel HZ
    obtain ⟨j, zs, rfl, hjl, hown, hbel, HI⟩ := hrel
    by_cases hlt : j < ms.length
    · have hca : ∃ ga, pb = some ⟨ga, 0, none⟩ ∧ wr.cell? ⟨ga, j, none⟩ = some (.int .i64 (ms.getD j 0 : Nat)) := by
        rcases (HB.out.1.below hbel).cells with ⟨h, h'⟩ | ⟨ga, cap, h, _, _, h'⟩
        · rw [h'] at hlt; simp at hlt
        · injection h with h _ _
          exact ⟨ga, h, h' j hlt⟩
      obtain ⟨ga, rfl, hca⟩ := hca
      have o2 := limbsOk_at HB.out.2 j
      have HS : Hid (∀ zs' q, CarAt zs zs' ls j (ls.length + 1) (ms.getD j 0 : Nat) q → 0 ≤ q → limbV zs' = limbV ls * limbV (ms.take (j + 1))) := fun zs' q k hq => times_step k hq HA.out.2 HB.out.2 HI.out.1
      obtain ⟨x, hx⟩ : ∃ x, ms.getD j 0 = x := ⟨_, rfl⟩
      rw [hx] at hca o2 HS
      have hjl' : (j : Int) < ms.length := by omega
      obtain ⟨E, hE⟩ : ∃ E, j + (ls.length + 1) = E := ⟨_, rfl⟩
      have hE' : (j : Int) + ls.length + 1 = E := by omega
      have hEn : (E : Int) ≤ n := by omega
      have hjE : (j : Int) ≤ E := by omega
      have hEj : E - j = ls.length + 1 := by omega
      have c1 := fun W h1 h2 => addWalk w.heap.size j (E - j) (E - j) n B (.slice pa ls.length ca) ls zs (x : Int) w W HA.out.1 HA.out.2 h1 h2 HI.out.2 (by omega) (by omega) (by omega) (by omega)
      have HEJ : Hid (E - j = ls.length + 1) := hEj
      clear hx o2 hEj
      go_wp2_with fail
      refine (c1 _ hbel hown).mono ?_
      rintro e w2 ⟨zs2, q, rfl, r2, b2, k2, _, z2⟩
      have HN : Hid (limbV zs2 = limbV ls * limbV (ms.take (j + 1)) ∧ LimbsOk zs2) := ⟨HS.out zs2 q (by rw [← HEJ.out]; exact k2) (z2 (by omega)), k2.ok⟩
      clear k2 z2 c1 hown hbel HS
      go_wp2
      go_roundw
      case rel => exact ⟨j + 1, zs2, by go_num, by omega, r2, b2, HN⟩
      case measure => simp [intOf]; omega
    · have hje : j = ms.length := by omega
      subst hje
      have hlz : zs.length = n := by simpa using hown.1
      have HE : Hid (limbV zs = limbV ls * limbV ms ∧ LimbsOk zs ∧ zs.length = n) := ⟨by rw [HI.out.1, List.take_length], HI.out.2, hlz⟩
      clear HI hlz
      go_wp2
      go_ret
      refine ⟨_, zs, rfl, ?_, hbel, HE.out.1, HE.out.2.1, by have := HE.out.2.2; omega⟩
      show World.ownsRow _ _ _ _ _ zs.length _
      rw [HE.out.2.2]
      exact hown

end Go.Proofs.YtcdplnejejpjnaaGreatDoor
