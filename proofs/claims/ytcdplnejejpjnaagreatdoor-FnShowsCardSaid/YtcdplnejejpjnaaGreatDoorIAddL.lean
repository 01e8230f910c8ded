/-
  The walk of the program's add: limbs added to in place.
-/
import Derived.Test.YtcdplnejejpjnaaGreatDoorICarry
import Derived.Test.YtcdplnejejpjnaaGreatDoorFigA
import Derived.Deep.RegionHeld
namespace Go.Proofs.YtcdplnejejpjnaaGreatDoor
open Go.RowKit
set_option linter.unusedVariables false

theorem own_far {w : World} {B : Nat} {e : TypeId} {g h off n c : Nat} {v : Value} {xs : List Value} (hO : w.ownsRow B e 1 (.slice (some ⟨g, 0, none⟩) n c) n xs) (hne : g ≠ h) : (w.setCell ⟨h, off, none⟩ v).ownsRow B e 1 (.slice (some ⟨g, 0, none⟩) n c) n xs := by
  refine ⟨hO.1, ?_⟩
  rcases hO.2 with hn | ⟨g', cap, cur, he, h1, h2, rest⟩
  · exact .inl hn
  · refine .inr ⟨g', cap, cur, he, h1, ?_, rest⟩
    injection he with he _ _
    injection he with he
    injection he with he _ _
    subst he
    rw [heap_setCell_other _ _ _ _ hne]
    exact h2

set_option maxHeartbeats 4000000 in
set_option maxRecDepth 100000 in
theorem addWalk (g off len cap L B : Nat) (vo : Value) (os zs0 : List Nat) (t : Int) (w0 w : World) (hO : Row w0 B vo os) (oo : LimbsOk os) (hb : Below w0.heap.size w0 w)
    (hZ : w.ownsRow w0.heap.size 3 1 (.slice (some ⟨g, 0, none⟩) L L) L (zs0.map fun x => Value.int .i64 (x : Nat))) (oz : LimbsOk zs0) (hfit : off + len ≤ L) (hL : L ≤ 1048576) (ht : -1 ≤ t) (ht2 : t < 1000000000) :
    Calls Tryz.prog 136 #[.slice (some ⟨g, off, none⟩) len cap, vo, .int .i64 t] w fun e w' => ∃ (zs : List Nat) (q : Int), e = .returned (.tuple #[]) ∧
      w'.ownsRow w0.heap.size 3 1 (.slice (some ⟨g, 0, none⟩) L L) L (zs.map fun x => Value.int .i64 (x : Nat)) ∧ Below w0.heap.size w0 w' ∧ CarAt zs0 zs os off len t q ∧ -1 ≤ q ∧ (0 ≤ t → 0 ≤ q) := by
  have hzl : zs0.length = L := by simpa using hZ.1
  have hg0 := (World.ownsRow.lt hZ g rfl).1
  have hg1 := (World.ownsRow.lt hZ g rfl).2
  have hsz0 := hb.size
  have HO : Hid (Row w0 B vo os ∧ LimbsOk os) := ⟨hO, oo⟩
  have cC := carryingWalk w
  obtain ⟨h, hh⟩ : ∃ h, w.heap.size = h := ⟨_, rfl⟩
  rw [hh] at cC hg1
  have hZ1 : (w.alloc (.cells #[.int .i64 0] 3)).ownsRow w0.heap.size 3 1 (.slice (some ⟨g, 0, none⟩) L L) L (zs0.map fun x => Value.int .i64 (x : Nat)) := hZ.alloc _
  have hb1 : Below w0.heap.size w0 (w.alloc (.cells #[.int .i64 0] 3)) := hb.alloc hsz0 _
  have hc1 : (w.alloc (.cells #[.int .i64 0] 3)).heap[h]? = some (.cells #[.int .i64 0] 3 (0, 0)) := by rw [← hh]; exact heap_alloc_new w _
  have HOZ : Hid (LimbsOk zs0) := oz
  clear hO oo hZ oz
  go_enter Tryz.func136, Tryz.ntmps136
  go_wp2_with fail
  refine cC.mono ?_
  rintro e w1 ⟨rfl, rfl⟩
  obtain ⟨w1, hw1⟩ : ∃ w1, w.alloc (.cells #[.int .i64 0] 3) = w1 := ⟨_, rfl⟩
  rw [hw1] at hZ1 hb1 hc1
  simp only [hw1]
  clear cC hw1
  go_upto_region 2 with fail
  go_loopw [11] (fun x wr => ∃ (i : Nat) (q : Int) (zs : List Nat), x = .int .i64 i ∧ i ≤ len ∧ -1 ≤ q ∧ q < 1000000000 ∧ Hid (0 ≤ t → 0 ≤ q) ∧ wr.heap[h]? = some (.cells #[.int .i64 q] 3 (0, 0)) ∧ wr.ownsRow w0.heap.size 3 1 (.slice (some ⟨g, 0, none⟩) L L) L (zs.map fun x => Value.int .i64 (x : Nat)) ∧ Below w0.heap.size w0 wr ∧ Hid (CarAt zs0 zs os off i t q)) (fun x _ => len - (intOf x).toNat)
  case atStart => exact ⟨0, 0, zs0, rfl, Nat.zero_le _, by omega, by omega, fun _ => Int.le_refl _, hc1, hZ1, hb1, carAt_start HOZ.out⟩
  case round =>
    clear hc1 hZ1 hb1
    obtain ⟨i, q, zs, rfl, hil, hq1, hq2, HQ, hcel, hown, hbel, HI⟩ := hrel
    by_cases hlt : i < len
    · obtain ⟨K, hK⟩ : ∃ K, off + i = K := ⟨_, rfl⟩
      have hlen : zs.length = L := by rw [HI.out.len, hzl]
      have o1 := limbsOk_at HI.out.ok K
      have o2 := limbsOk_at HO.out.2 i
      have hco : wr.cell? ⟨g, K, none⟩ = some (.int .i64 (zs.getD K 0 : Nat)) := by
        rw [World.ownsRow.cellAt hown K (by omega), List.getElem?_map, List.getElem?_eq_getElem (by omega), List.getD_eq_getElem?_getD, List.getElem?_eq_getElem (by omega)]
        rfl
      have hfz := row_free hown K
      have cA := fun W (hW : Below w0.heap.size w0 W) => atWalk vo os i B W (HO.out.1.below hW)
      have HS : Hid (∀ (r : Nat) (q' : Int), r < 1000000000 → (r : Int) + 1000000000 * q' = (zs.getD K 0 : Nat) + (os.getD i 0 : Nat) * t + q → CarAt zs0 (zs.set K r) os off (i + 1) t q') := fun r q' h1 h2 => by
        have := carAt_step (r := r) (q' := q') HI.out (by omega) h1 (by rw [hK]; exact h2)
        rw [hK] at this
        exact this
      obtain ⟨y, hy⟩ : ∃ o, zs.getD K 0 = o := ⟨_, rfl⟩
      obtain ⟨x, hx⟩ : ∃ o, os.getD i 0 = o := ⟨_, rfl⟩
      rw [hy] at hco o1 HS
      rw [hx] at cA o2 HS
      have bd := car_bounds (x := x) (y := y) (t := t) (q := q) (by omega) (by omega) (by omega) (by omega) ht ht2 hq1 hq2 HQ.out
      obtain ⟨p, hp⟩ : ∃ p : Int, (x : Int) * t = p := ⟨_, rfl⟩
      rw [hp] at HS bd
      obtain ⟨q', hq'⟩ : ∃ q' : Int, ((y : Int) + p + q) / 1000000000 = q' := ⟨_, rfl⟩
      obtain ⟨r, hr⟩ : ∃ r : Nat, ((y : Int) + p + q) % 1000000000 = r := ⟨(((y : Int) + p + q) % 1000000000).toNat, by omega⟩
      rw [hq'] at bd
      have HN : Hid (CarAt zs0 (zs.set K r) os off (i + 1) t q') := HS.out r q' (by omega) (by omega)
      have cC := fun W hW => carryWalk ((y : Int) + p) q h W hW (by omega) (by omega) hq1 hq2
      rw [hq', hr] at cC
      have ew : IntKind.i64.wrap ((y : Int) + IntKind.i64.wrap p) = (y : Int) + p := by
        rw [IntKind.wrap_i64, IntKind.wrap_i64]; omega
      rw [← ew] at cC
      clear ew
      obtain ⟨b1, b2, b3, b4, b5⟩ := bd
      have HB5 : Hid (0 ≤ t → 0 ≤ q') := b5
      have o1' : (y : Int) < 1000000000 := by omega
      have hil' : (i : Int) < len := by omega
      have hgh : g ≠ h := by omega
      have hhg : h ≠ g := by omega
      rw [← hK] at hco hfz
      have HK : Hid (off + i = K) := hK
      have hK0 := hK
      clear hK
      have hco2 : ∀ W : World, W.cell? ⟨g, off + i, none⟩ = some (.int .i64 (y : Int)) → (W.setCell ⟨h, 0, none⟩ (.int .i64 q')).cell? ⟨g, off + i, none⟩ = some (.int .i64 (y : Int)) := fun W hW => by
        rw [World.cell?_setCell_far _ _ _ _ hhg]; exact hW
      have hco3 := hco2 wr.drew hco
      have hfz3 : (wr.drew.setCell ⟨h, 0, none⟩ (.int .i64 q')).frozen? ⟨g, off + i, none⟩ = false := by rw [World.frozen?_setCell]; exact hfz
      clear hco2
      have own2 := (World.ownsRow.stored (own_far (off := 0) (v := .int .i64 q') hown hgh) K (.int .i64 (r : Int))).1
      rw [← List.map_set, ← hK0] at own2
      have HW : Hid (World.ownsRow _ _ _ _ _ _ _) := own2
      have HH : Hid (((wr.setCell ⟨h, 0, none⟩ (.int .i64 q')).setCell ⟨g, off + i, none⟩ (.int .i64 (r : Int))).heap[h]? = some (.cells #[.int .i64 q'] 3 (0, 0))) := by
        show _ = _
        rw [heap_setCell_other _ _ _ _ hhg, heap_setCell_same _ _ _ _ _ _ hcel]
        rfl
      have HBB : Hid (Below w0.heap.size w0 ((wr.setCell ⟨h, 0, none⟩ (.int .i64 q')).setCell ⟨g, off + i, none⟩ (.int .i64 (r : Int)))) := (hbel.setCell (p := ⟨h, 0, none⟩) (by show w0.heap.size ≤ h; omega) _).setCell (p := ⟨g, off + i, none⟩) (by show w0.heap.size ≤ g; omega) _
      clear own2 hK0
      clear HS hx hy hq' hr b5 HI HQ o1 o2 hown
      go_wp2_with fail
      go_region_with (first
        | (go_at_call 152; refine (cA _ ?_).mono ?_; exact hbel.drew; rintro e w' ⟨rfl, rfl⟩)
        | (go_at_call 158; refine (cC _ ?_).mono ?_; exact hcel; rintro e w' ⟨rfl, rfl⟩))
      all_goals go_wp2
      all_goals
        go_roundw
        case rel => exact ⟨i + 1, q', zs.set (off + i) r, by go_num, by omega, b3, b4, HB5, HH.out, HW.out, HBB.out.drew, by have hN := HN.out; rw [← HK.out] at hN; exact hN⟩
        case measure => simp [intOf]; omega
    · have hie : i = len := by omega
      subst hie
      have hlt' : decide ((i : Int) < i) = false := by simp
      go_wp2
      go_end0
      exact ⟨zs, q, rfl, hown, hbel, HI.out, hq1, HQ.out⟩

end Go.Proofs.YtcdplnejejpjnaaGreatDoor
