/-
  The draws of chapters 2 and 3: texts, places, numbers in bits.
-/
import Derived.Test.YtfbdhafbpcpjlaaGreatDoorDraw1
import Derived.Test.YtfbdhafbpcpjlaaGreatDoorBitsA
namespace Go.Proofs.YtfbdhafbpcpjlaaGreatDoor
open Go.RowKit
set_option linter.unusedVariables false

set_option maxHeartbeats 400000 in
set_option maxRecDepth 100000 in
theorem l03Bits64_any (ac : Option Addr) (len cap g : Nat) (w : World) (hC : Cur ac len cap w g) :
    Calls Tryz.prog 51 #[.pointer (some ⟨g, 0, none⟩)] w fun e w' => ∃ x : Nat, x < 18446744073709551616 ∧ e = .returned (.int .u64 x) ∧ Cur ac len cap w' g ∧ w.grownBy w' (some g) := by
  go_enter Tryz.func51, Tryz.ntmps51
  go_wp2_with fail
  refine (l01Below_nat ac len cap g 4294967296 _ hC (by decide) (by decide)).mono ?_
  rintro e w1 ⟨x, hx, rfl, hC1, gr1⟩
  have hx' : (x : Int) < 4294967296 := by omega
  have HX : Hid (Unit → x < 4294967296) := fun _ => hx
  clear hx
  go_wp2_with fail
  refine (l01Below_nat ac len cap g 4294967296 _ hC1 (by decide) (by decide)).mono ?_
  rintro e w2 ⟨y, hy, rfl, hC2, gr2⟩
  have hy' : (y : Int) < 4294967296 := by omega
  have HY : Hid (Unit → y < 4294967296) := fun _ => hy
  clear hy
  go_wp2_with fail
  go_ret
  exact ⟨x * 4294967296 + y, by have := HX.out (); have := HY.out (); omega, ret_int (by omega), hC2, gr1.trans gr2⟩

theorem signN_lt (b : Bool) (m : Nat) (e : Int) (st : Bool) : signN b (roundN m e st) < 18446744073709551616 := by
  have := roundN_le m e st
  unfold signN
  split <;> omega

theorem specRound_int (b : Bool) (m e : Int) (w : World) (h0 : 0 ≤ m) (hm : m < 18446744073709551616) (he0 : -9223372036854775808 ≤ e) (he2 : e ≤ 9223372036854775807) :
    Calls Tryz.prog 49 #[.bool b, .int .u64 m, .int .i64 e, .bool false] w fun en w' => ∃ x : Nat, x < 18446744073709551616 ∧ en = .returned (.int .u64 x) ∧ w = w' := by
  obtain ⟨n, rfl⟩ : ∃ n : Nat, m = n := ⟨m.toNat, by omega⟩
  exact (specRound_any b false n e w (by omega) he0 he2).mono fun en w' h => ⟨_, signN_lt _ _ _ _, h.1, h.2⟩

theorem specFromInt_some (n : Int) (w : World) (h0 : -9223372036854775808 ≤ n) (h1 : n ≤ 9223372036854775807) :
    Calls Tryz.prog 48 #[.int .i64 n] w fun e w' => ∃ x : Nat, x < 18446744073709551616 ∧ e = .returned (.int .u64 x) ∧ w = w' :=
  (specFromInt_any n w h0 h1).mono fun en w' h => ⟨_, signN_lt _ _ _ _, h.1, h.2⟩

def edgeNumbers : List Int := [0, 9223372036854775808, 1, 2, 4503599627370495, 4503599627370496, 4503599627370497, 9218868437227405312, 9218868437227405311, 9218868437227405310, 9221120237041090560, 9221120237041090561, 18442240474082181120, 18444492273895866368, 9218868437227405313, 4607182418800017408, 4607182418800017409]
theorem edge_ok : ∀ i : Fin 17, 0 ≤ edgeNumbers.getD i.val 0 ∧ edgeNumbers.getD i.val 0 < 18446744073709551616 := by decide

theorem edge_cell (w : World) (t : TypeId) (y : Nat) (hy : y < 17) : ∃ v : Nat, v < 18446744073709551616 ∧ (w.alloc (.cells (edgeNumbers.map (Value.int .u64)).toArray t)).cell? ⟨w.heap.size, y, none⟩ = some (.int .u64 v) := by
  have h := heap_alloc_new w (.cells (edgeNumbers.map (Value.int .u64)).toArray t)
  have ho := edge_ok ⟨y, hy⟩
  have hl : y < edgeNumbers.length := hy
  refine ⟨(edgeNumbers.getD y 0).toNat, by simp only at ho; omega, ?_⟩
  have e : (((edgeNumbers.getD y 0).toNat : Nat) : Int) = edgeNumbers.getD y 0 := Int.toNat_of_nonneg ho.1
  rw [e]
  unfold World.cell?
  simp only [h]
  simp [List.getElem?_eq_getElem hl]

set_option maxHeartbeats 1000000 in
set_option maxRecDepth 100000 in
theorem l03Number_any (ac : Option Addr) (len cap g : Nat) (w : World) (hC : Cur ac len cap w g) :
    Calls Tryz.prog 17 #[.pointer (some ⟨g, 0, none⟩)] w fun e w' => ∃ x : Nat, x < 18446744073709551616 ∧ e = .returned (.int .u64 x) ∧ Cur ac len cap w' g ∧ w.grownBy w' (some g) := by
  go_enter Tryz.func17, Tryz.ntmps17
  go_wp2_with fail
  refine (l01Below_nat ac len cap g 8 _ hC (by omega) (by omega)).mono ?_
  rintro e w1 ⟨x, hx, rfl, hC1, gr1⟩
  rcases (by omega : x = 0 ∨ x = 1 ∨ x = 2 ∨ x = 3 ∨ x = 4 ∨ x = 5 ∨ 5 < x) with rfl | rfl | rfl | rfl | rfl | rfl | h5
  · go_wp2_with (go_at_call 21; refine (l03Pow_63 _).mono ?_; rintro e w' ⟨rfl, rfl⟩)
    refine (l01Below_nat ac len cap g 17 _ (cur_alloc hC1 _) (by omega) (by omega)).mono ?_
    rintro e w2 ⟨y, hy, rfl, hC2, gr2⟩
    have hyi : (y : Int) < 17 := by omega
    have hy0 : (0 : Int) ≤ (y : Int) := by omega
    obtain ⟨v, hv, hcell⟩ := edge_cell w1 24 y hy
    have hg := hC1.2.1
    have hc2 : w2.cell? ⟨w1.heap.size, y, none⟩ = some (.int .u64 v) := gr2.cell hcell (by simp; omega)
    have HV : Hid (Unit → v < 18446744073709551616) := fun _ => hv
    clear hv hcell
    go_wp2_with fail
    go_ret
    exact ⟨v, HV.out (), rfl, hC2, (gr1.trans (World.grownBy_alloc _ _ _)).trans gr2⟩
  · go_wp2_with fail
    refine (l01Below_nat ac len cap g 2000 _ hC1 (by omega) (by omega)).mono ?_
    rintro e w2 ⟨y, hy, rfl, hC2, gr2⟩
    go_wp2_with fail
    refine (specFromInt_some _ _ (by omega) (by omega)).mono ?_
    rintro e w3 ⟨v, hv, rfl, rfl⟩
    have HV : Hid (Unit → v < 18446744073709551616) := fun _ => hv
    clear hv
    go_wp2_with fail
    go_ret
    exact ⟨v, HV.out (), rfl, hC2, gr1.trans gr2⟩
  · go_wp2_with fail
    refine (l01Below_nat ac len cap g 2000 _ hC1 (by omega) (by omega)).mono ?_
    rintro e w2 ⟨y, hy, rfl, hC2, gr2⟩
    go_wp2_with fail
    refine (specFromInt_some _ _ (by omega) (by omega)).mono ?_
    rintro e w3 ⟨v, hv, rfl, rfl⟩
    have HV : Hid (Unit → v < 18446744073709551616) := fun _ => hv
    clear hv
    go_wp2_with fail
    go_ret
    exact ⟨v, HV.out (), rfl, hC2, gr1.trans gr2⟩
  · go_wp2_with fail
    refine (l01Once_any ac len cap g 2 _ hC1 (by omega) (by omega)).mono ?_
    rintro e w2 ⟨b, rfl, hC2, gr2⟩
    go_wp2_with fail
    refine (l01Below_nat ac len cap g 1000000 _ hC2 (by omega) (by omega)).mono ?_
    rintro e w3 ⟨y, hy, rfl, hC3, gr3⟩
    go_wp2_with fail
    refine (l01Below_nat ac len cap g 40 _ hC3 (by omega) (by omega)).mono ?_
    rintro e w4 ⟨z, hz, rfl, hC4, gr4⟩
    go_wp2_with fail
    refine (specRound_int b _ _ _ (by omega) (by omega) (by omega) (by omega)).mono ?_
    rintro e w5 ⟨v, hv, rfl, rfl⟩
    have HV : Hid (Unit → v < 18446744073709551616) := fun _ => hv
    clear hv
    go_wp2_with fail
    go_ret
    exact ⟨v, HV.out (), rfl, hC4, ((gr1.trans gr2).trans gr3).trans gr4⟩
  · go_wp2_with fail
    refine (l01Below_nat ac len cap g 2048 _ hC1 (by omega) (by omega)).mono ?_
    rintro e w2 ⟨y, hy, rfl, hC2, gr2⟩
    go_wp2_with fail
    refine (l01Below_nat ac len cap g 4 _ hC2 (by omega) (by omega)).mono ?_
    rintro e w3 ⟨z, hz, rfl, hC3, gr3⟩
    go_wp2_with fail
    go_ret
    exact ⟨y * 4503599627370496 + z, by omega, ret_int (by omega), hC3, (gr1.trans gr2).trans gr3⟩
  · go_wp2_with fail
    refine (l01Once_any ac len cap g 2 _ hC1 (by omega) (by omega)).mono ?_
    rintro e w2 ⟨b, rfl, hC2, gr2⟩
    go_wp2_with fail
    refine (l03Bits64_any ac len cap g _ hC2).mono ?_
    rintro e w3 ⟨y, hy, rfl, hC3, gr3⟩
    have hy' : (y : Int) < 18446744073709551616 := by omega
    clear hy
    go_wp2_with fail
    refine (l01Below_nat ac len cap g 120 _ hC3 (by omega) (by omega)).mono ?_
    rintro e w4 ⟨z, hz, rfl, hC4, gr4⟩
    go_wp2_with fail
    refine (specRound_int b _ _ _ (by omega) (by omega) (by omega) (by omega)).mono ?_
    rintro e w5 ⟨v, hv, rfl, rfl⟩
    have HV : Hid (Unit → v < 18446744073709551616) := fun _ => hv
    clear hv
    go_wp2_with fail
    go_ret
    exact ⟨v, HV.out (), rfl, hC4, ((gr1.trans gr2).trans gr3).trans gr4⟩
  · have e0 : ((x : Int) == 0) = false := by rw [beq_eq_false_iff_ne]; omega
    have e1 : ((x : Int) == 1) = false := by rw [beq_eq_false_iff_ne]; omega
    have e2 : ((x : Int) == 2) = false := by rw [beq_eq_false_iff_ne]; omega
    have e3 : ((x : Int) == 3) = false := by rw [beq_eq_false_iff_ne]; omega
    have e4 : ((x : Int) == 4) = false := by rw [beq_eq_false_iff_ne]; omega
    have e5 : ((x : Int) == 5) = false := by rw [beq_eq_false_iff_ne]; omega
    go_wp2_with fail
    refine (l03Bits64_any ac len cap g _ hC1).mono ?_
    rintro e w2 ⟨v, hv, rfl, hC2, gr2⟩
    have HV : Hid (Unit → v < 18446744073709551616) := fun _ => hv
    clear hv
    go_wp2_with fail
    go_ret
    exact ⟨v, HV.out (), rfl, hC2, gr1.trans gr2⟩

set_option maxHeartbeats 400000 in
set_option maxRecDepth 100000 in
theorem drawNumbers_any (ac : Option Addr) (len cap : Nat) (w : World) (hc : CodeIn w ac len w.heap.size) :
    Calls Tryz.prog 7 #[.slice ac len cap] w fun e w' => ∃ x y z : Nat, x < 18446744073709551616 ∧ y < 18446744073709551616 ∧ z < 18446744073709551616 ∧ e = .returned (.tuple #[.int .u64 x, .int .u64 y, .int .u64 z]) ∧ Below w.heap.size w w' := by
  go_enter Tryz.func7, Tryz.ntmps7
  go_wp2_with fail
  refine (l01New_any ac len cap _ hc).mono ?_
  rintro e w1 ⟨g, rfl, hg, hC1, hb1⟩
  go_wp2_with fail
  refine (l03Number_any ac len cap g _ hC1).mono ?_
  rintro e w2 ⟨x, hx, rfl, hC2, gr2⟩
  have HX : Hid (Unit → x < 18446744073709551616) := fun _ => hx
  clear hx
  go_wp2_with fail
  refine (l03Number_any ac len cap g _ hC2).mono ?_
  rintro e w3 ⟨y, hy, rfl, hC3, gr3⟩
  have HY : Hid (Unit → y < 18446744073709551616) := fun _ => hy
  clear hy
  go_wp2_with fail
  refine (l03Number_any ac len cap g _ hC3).mono ?_
  rintro e w4 ⟨z, hz, rfl, hC4, gr4⟩
  have HZ : Hid (Unit → z < 18446744073709551616) := fun _ => hz
  clear hz
  go_wp2_with fail
  go_ret3
  exact ⟨x, y, z, HX.out (), HY.out (), HZ.out (), rfl, hb1.grown ((gr2.trans gr3).trans gr4) hb1.size (fun k hk => by injection hk with hk; omega)⟩

end Go.Proofs.YtfbdhafbpcpjlaaGreatDoor
