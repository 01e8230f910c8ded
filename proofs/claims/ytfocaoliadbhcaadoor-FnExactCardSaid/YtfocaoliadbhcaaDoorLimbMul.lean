/-
  The walk of the specification's product of limbs.
-/
import Derived.Test.YtfocaoliadbhcaaDoorLimbAdd
import Derived.Deep.QuietTactic
import Derived.BigQuiet
namespace Go.Proofs.YtfocaoliadbhcaaDoor
open Go.RowKit
set_option linter.unusedVariables false

/-- a product of limbs: behind i of the first, and k of the second -/
structure MulAt (ls ms ys : List Nat) (i k c : Nat) : Prop where
  ok : LimbsOk ys
  len : ys.length = ls.length + ms.length + 1
  eq : limbV ys + 10 ^ (9 * (i + k)) * c = limbV (ls.take i) * limbV ms + 10 ^ (9 * i) * ls.getD i 0 * limbV (ms.take k)

theorem mulAt_next {ls ms ys : List Nat} {i k : Nat} (h : MulAt ls ms ys i k 0) (hk : ms.length ≤ k) : MulAt ls ms ys (i + 1) 0 0 := by
  refine ⟨h.ok, h.len, ?_⟩
  have e := h.eq
  rw [List.take_of_length_le hk, Nat.mul_zero, Nat.add_zero] at e
  rw [Nat.mul_zero, Nat.add_zero, List.take_zero, limbV_take, Nat.add_mul, e]
  rfl

theorem mulAt_start (ls ms : List Nat) : MulAt ls ms (List.replicate (ls.length + ms.length + 1) 0) 0 0 0 := by
  have hz : ∀ n, limbV (List.replicate n 0) = 0 := fun n => by
    induction n with
    | zero => rfl
    | succ n ih => rw [List.replicate_succ, limbV, ih]
  refine ⟨fun x hx => ?_, by simp, ?_⟩
  · rw [List.eq_of_mem_replicate hx]; omega
  · rw [hz, List.take_zero, List.take_zero]
    simp [limbV]

theorem mulAt_end {ls ms ys : List Nat} {i : Nat} (h : MulAt ls ms ys i 0 0) (hi : ls.length ≤ i) : limbV ys = limbV ls * limbV ms := by
  have e := h.eq
  rw [List.take_of_length_le hi, List.take_zero] at e
  simpa [limbV] using e

/-- where the carry goes on there is still room -/
theorem mulAt_room {ls ms ys : List Nat} {i k c : Nat} (h : MulAt ls ms ys i k c) (ol : LimbsOk ls) (om : LimbsOk ms) (hc : 0 < c) (hi : i < ls.length) : k ≤ ms.length := by
  have e := h.eq
  rcases Nat.lt_or_ge ms.length k with hk | hk
  · exfalso
    rw [(List.take_of_length_le (by omega) : ms.take k = ms), ← Nat.add_mul, ← limbV_take] at e
    have h1 := limbV_lt (xs := ls.take (i + 1)) (fun x hx => ol x (List.mem_of_mem_take hx))
    rw [List.length_take, Nat.min_eq_left (by omega)] at h1
    have h2 := limbV_lt om
    have h3 : limbV (ls.take (i + 1)) * limbV ms < 10 ^ (9 * (i + 1)) * 10 ^ (9 * ms.length) := Nat.mul_lt_mul'' h1 h2
    rw [← Nat.pow_add] at h3
    have h4 : 10 ^ (9 * (i + 1) + 9 * ms.length) ≤ 10 ^ (9 * (i + k)) := Nat.pow_le_pow_right (by decide) (by omega)
    have h5 : 10 ^ (9 * (i + k)) * 1 ≤ 10 ^ (9 * (i + k)) * c := Nat.mul_le_mul_left _ hc
    omega
  · exact hk

theorem mulAt_step {ls ms ys : List Nat} {i k c X : Nat} (h : MulAt ls ms ys i k c) (hn : i + k < ys.length) (hX : ys.getD (i + k) 0 + c + ls.getD i 0 * ms.getD k 0 = X) :
    MulAt ls ms (ys.set (i + k) (X % 1000000000)) i (k + 1) (X / 1000000000) := by
  obtain ⟨h1, h2, h3⟩ := h
  refine ⟨limbsOk_set h1 (Nat.mod_lt _ (by decide)), by rw [List.length_set]; exact h2, ?_⟩
  have h4 := limbV_set (y := X % 1000000000) hn
  rw [limbV_take, (by omega : i + (k + 1) = i + k + 1), nine_pow]
  have e0 : 10 ^ (9 * (i + k)) = 10 ^ (9 * i) * 10 ^ (9 * k) := by rw [Nat.mul_add, Nat.pow_add]
  have e1 : 10 ^ (9 * i) * ls.getD i 0 * (limbV (ms.take k) + 10 ^ (9 * k) * ms.getD k 0) = 10 ^ (9 * i) * ls.getD i 0 * limbV (ms.take k) + 10 ^ (9 * (i + k)) * (ls.getD i 0 * ms.getD k 0) := by
    rw [Nat.mul_add, e0]
    congr 1
    rw [Nat.mul_assoc, Nat.mul_assoc, Nat.mul_left_comm (ls.getD i 0)]
  rw [e1]
  generalize 10 ^ (9 * (i + k)) = P at *
  generalize 10 ^ (9 * i) * ls.getD i 0 * limbV (ms.take k) = U at *
  generalize limbV (ls.take i) * limbV ms = V at *
  generalize ls.getD i 0 * ms.getD k 0 = p at *
  generalize ys.getD (i + k) 0 = o at *
  generalize limbV (ys.set (i + k) (X % 1000000000)) = A at *
  have e2 := Nat.div_add_mod X 1000000000
  have e3 : P * (1000000000 * (X / 1000000000) + X % 1000000000) = P * (o + c + p) := by rw [e2, hX]
  rw [Nat.mul_add, Nat.mul_add, Nat.mul_add] at e3
  have e4 : 1000000000 * P * (X / 1000000000) = P * (1000000000 * (X / 1000000000)) := by rw [Nat.mul_comm 1000000000, Nat.mul_assoc]
  omega

theorem row_free {w : World} {B : Nat} {e : TypeId} {g n c : Nat} {xs : List Value} (h : w.ownsRow B e 1 (.slice (some ⟨g, 0, none⟩) n c) n xs) (j : Nat) : w.frozen? ⟨g, j, none⟩ = false := World.ownsRow.frozenAt h j

set_option maxHeartbeats 4000000 in
set_option maxRecDepth 100000 in
theorem l06Mul_any (va vb : Value) (ls ms : List Nat) (B : Nat) (w : World) (hA : Row w B va ls) (hB : Row w B vb ms) (oa : LimbsOk ls) (ob : LimbsOk ms) (la : ls.length ≤ 1048576) (lb : ms.length ≤ 1048576) :
    Calls Tryd.prog 41 #[va, vb] w fun e w' => ∃ (v : Value) (xs : List Nat), e = .returned v ∧ Row w' w.heap.size v xs ∧ Below w.heap.size w w' ∧ limbV xs = limbV ls * limbV ms ∧ LimbsOk xs ∧ xs.length = ls.length + ms.length + 1 := by
  obtain ⟨i0, hi, hz0, hz1, hz2⟩ := info_parts Tryd.infoInt
  obtain ⟨pa, ca, rfl⟩ := hA.shape
  obtain ⟨pb, cb, rfl⟩ := hB.shape
  have HA : Hid (Row w B (.slice pa ls.length ca) ls ∧ LimbsOk ls) := ⟨hA, oa⟩
  have HB : Hid (Row w B (.slice pb ms.length cb) ms ∧ LimbsOk ms) := ⟨hB, ob⟩
  clear hA hB oa ob
  obtain ⟨n, hn⟩ : ∃ n, ls.length + ms.length + 1 = n := ⟨_, rfl⟩
  have hn' : (ls.length : Int) + ms.length + 1 = n := by omega
  have hmk := fun W : World => run_make (P := Tryd.prog) W 42 3 i0 (.int .i64 0) Tryd.underlying42 hi hz0 .i64 .i64 (n : Int) (n : Int) (by omega) (by omega) (by rw [hz2]; omega) (by omega)
  go_enter Tryd.func41, Tryd.ntmps41
  go_upto_region 3 with fail
  clear hmk
  go_loopw [6] (fun x wr => ∃ (i : Nat) (ys : List Nat), x = .int .i64 i ∧ i ≤ ls.length ∧ wr.ownsRow w.heap.size 3 1 (.slice (some ⟨w.heap.size, 0, none⟩) n n) n (ys.map fun x => Value.int .i64 (x : Nat)) ∧ Below w.heap.size w wr ∧ Hid (MulAt ls ms ys i 0 0)) (fun x _ => ls.length - (intOf x).toNat)
  case atStart =>
    refine ⟨0, List.replicate n 0, rfl, Nat.zero_le _, ⟨by simp, .inr ⟨w.heap.size, n, _, rfl, Nat.le_refl _, heap_alloc_new w _, Nat.le_refl _, by unfold maxLen; omega, by simp [size_madeCells], ?_⟩⟩, (Below.refl _ _).alloc (Nat.le_refl _) _, by rw [← hn]; exact mulAt_start ls ms⟩
    rw [toList_madeCells_one, Nat.mul_one, List.map_replicate, List.take_of_length_le (by simp)]
    rfl
  case round =>
    obtain ⟨i, ys, rfl, hil, hown, hbel, HI⟩ := hrel
    have hsz := hbel.size
    by_cases hlt : i < ls.length
    · go_upto_region 7 with fail
      go_loopw [7, 8] (fun x y wr => ∃ (k c : Nat) (ys : List Nat), y = .int .i64 k ∧ x = .int .i64 c ∧ k ≤ ms.length + 1 ∧ (c : Int) < 1000000000 ∧ wr.ownsRow w.heap.size 3 1 (.slice (some ⟨w.heap.size, 0, none⟩) n n) n (ys.map fun x => Value.int .i64 (x : Nat)) ∧ Below w.heap.size w wr ∧ Hid (MulAt ls ms ys i k c)) (fun _ y _ => ms.length + 1 - (intOf y).toNat)
      case atStart => exact ⟨0, 0, ys, rfl, rfl, by omega, by omega, hown, hbel, HI⟩
      case round =>
        clear hown hbel HI hsz
        clear ys
        obtain ⟨k, c, ys, rfl, rfl, hkl, hc, hown, hbel, HI⟩ := hrel
        have hsz := hbel.size
        go_upto_region 7 with fail
        go_cut [30] from 23 to 58 (fun x wx => ∃ b : Bool, x = .bool b ∧ wx = wr ∧ Hid ((b = true → k < ms.length ∨ 0 < c) ∧ (b = false → ms.length ≤ k ∧ c = 0)))
        case first =>
          by_cases h1 : k < ms.length
          · go_wp2
            go_meet
            case rel => exact ⟨true, rfl, rfl, ⟨fun _ => .inl h1, fun h => by simp at h⟩⟩
          · have h1' : decide (k < ms.length) = false := by simp; omega
            by_cases h3 : 0 < c
            · go_wp2
              go_meet
              case rel => exact ⟨true, rfl, rfl, ⟨fun _ => .inr h3, fun h => by simp at h⟩⟩
            · have h3' : c = 0 := by omega
              subst h3'
              go_wp2
              go_meet
              case rel => exact ⟨false, rfl, rfl, ⟨fun h => by simp at h, fun _ => by simp; omega⟩⟩
        case rest =>
          obtain ⟨b, rfl, rfl, HC⟩ := hcut
          cases b
          · obtain ⟨h1, h2⟩ := HC.out.2 rfl
            subst h2
            have HN : Hid (MulAt ls ms ys (i + 1) 0 0) := mulAt_next HI.out h1
            clear HI HC
            go_wp2
            go_roundw
            case rel => exact ⟨i + 1, ys, by go_num, by omega, hown, hbel, HN⟩
            case measure => simp [intOf]; omega
          · have hkm : k ≤ ms.length := by
              rcases HC.out.1 rfl with h | h
              · omega
              · exact mulAt_room HI.out HA.out.2 HB.out.2 h hlt
            obtain ⟨K, hK⟩ : ∃ K, i + k = K := ⟨_, rfl⟩
            have hK' : (i : Int) + k = K := by omega
            have hKn : K < n := by omega
            have hlen := HI.out.len
            have o1 := limbsOk_at HI.out.ok K
            have o2 := limbsOk_at HA.out.2 i
            have o3 := limbsOk_at HB.out.2 k
            have hco : wc.cell? ⟨w.heap.size, K, none⟩ = some (.int .i64 (ys.getD K 0 : Nat)) := by
              rw [World.ownsRow.cellAt hown K (by omega), List.getElem?_map, List.getElem?_eq_getElem (by omega), List.getD_eq_getElem?_getD, List.getElem?_eq_getElem (by omega)]
              rfl
            have hca : ∃ ga, pa = some ⟨ga, 0, none⟩ ∧ wc.cell? ⟨ga, i, none⟩ = some (.int .i64 (ls.getD i 0 : Nat)) := by
              rcases (HA.out.1.below hbel).cells with ⟨h, h'⟩ | ⟨ga, cap, h, _, _, h'⟩
              · rw [h'] at hlt; simp at hlt
              · injection h with h _ _
                exact ⟨ga, h, h' i hlt⟩
            obtain ⟨ga, rfl, hca⟩ := hca
            have hrB : Row wc B (.slice pb ms.length cb) ms := HB.out.1.below hbel
            have qB := fun m : Nat => Calls.quiet_of_same ((l06At_any _ ms k B (wc.drewN m) hrB).mono (by rintro e w' ⟨rfl, rfl⟩; exact ⟨rfl, rfl⟩))
            have HS := mulAt_step (X := ys.getD K 0 + c + ls.getD i 0 * ms.getD k 0) HI.out (by omega) (by rw [hK])
            rw [hK] at HS
            have hfz := row_free hown K
            obtain ⟨o, ho⟩ : ∃ o, ys.getD K 0 = o := ⟨_, rfl⟩
            obtain ⟨x, hx⟩ : ∃ o, ls.getD i 0 = o := ⟨_, rfl⟩
            obtain ⟨y, hy⟩ : ∃ o, ms.getD k 0 = o := ⟨_, rfl⟩
            rw [ho] at hco o1 HS
            rw [hx] at hca o2 HS
            rw [hy] at qB o3 HS
            obtain ⟨p, hp⟩ : ∃ p, x * y = p := ⟨_, rfl⟩
            rw [hp] at HS
            have hp1 : (x : Int) * y = p := by rw [← hp]; simp
            have hp2 : (p : Int) ≤ 999999998000000001 := by
              have : x * y ≤ 999999999 * 999999999 := Nat.mul_le_mul (by omega) (by omega)
              omega
            have o1' : (o : Int) < 1000000000 := by omega
            obtain ⟨X, hX⟩ : ∃ X, o + c + p = X := ⟨_, rfl⟩
            rw [hX] at HS
            have hX1 : (o : Int) + c + p = X := by omega
            have hX2 : (X : Int) < 1000000000000000000 := by omega
            have HSS : Hid (MulAt ls ms (ys.set K (X % 1000000000)) i (k + 1) (X / 1000000000)) := HS
            have hKi : (K : Int) < n := by omega
            have hil' : (i : Int) < ls.length := by omega
            have st := fun m : Nat => (show (wc.drewN m).ownsRow w.heap.size 3 1 (.slice (some ⟨w.heap.size, 0, none⟩) n n) n (ys.map fun x => Value.int .i64 (x : Nat)) from hown).stored K (.int .i64 ((X : Int) % 1000000000))
            have HST : Hid _ := st
            clear HS ho hx hy hp hX hK st HI HC hrB o1 o2 o3 hlen
            go_wp2_with fail
            go_quiet (exact qB _)
            go_wp2
            go_roundw
            case rel =>
              refine ⟨k + 1, X / 1000000000, ys.set K (X % 1000000000), by go_num, by go_num, by omega, by omega, ?_, (below_drewN hbel _).setCell (Nat.le_refl _) _, HSS⟩
              have h := (HST.out nq).1
              rw [List.map_set]
              exact h
            case measure => simp [intOf]; omega
    · have hE := mulAt_end HI.out (by omega)
      have HE : Hid (limbV ys = limbV ls * limbV ms ∧ LimbsOk ys ∧ ys.length = n) := ⟨hE, HI.out.ok, by rw [HI.out.len, hn]⟩
      have hlt' : decide (i < ls.length) = false := by simp; omega
      clear hE HI
      go_wp2
      go_ret
      refine ⟨_, ys, rfl, ?_, hbel, HE.out.1, HE.out.2.1, by rw [HE.out.2.2, hn]⟩
      show World.ownsRow _ _ _ _ _ ys.length _
      rw [HE.out.2.2]
      exact hown

end Go.Proofs.YtfocaoliadbhcaaDoor
