/-
  Part 13 of what is proved of drawn right trees.
-/
import Derived.Test.YtcdbifcidaafnaaGreatDoorPag
import Derived.Test.YtcdbifcidaafnaaGreatDoorPal
import Derived.Test.YtcdbifcidaafnaaGreatDoorPaa
import Derived.Lib.ConvBytes
import Derived.Lib.SmallJoins
import Derived.Maps.AppendAt
import Derived.Test.YtcdbifcidaafnaaGreatDoorPah
import Derived.Test.YtcdbifcidaafnaaGreatDoorRows
import Derived.Laws.OwnMore
import Derived.Handy
import Derived.Test.YtcdbifcidaafnaaGreatDoorPac
import Derived.Test.YtcdbifcidaafnaaGreatDoorPai
import Derived.Test.YtcdbifcidaafnaaGreatDoorPak
import Derived.Laws.BitsAllLaws
import Derived.Deep.CutBlock

namespace Go.Proofs.YtcdbifcidaafnaaGreatDoor
open Go.RowKit Go.Sort
set_option linter.unusedVariables false
set_option linter.unusedSimpArgs false
theorem same17 (a b : PVal) : (isNum a && isNum b) = true ∧ valSame a b = equalN (numP a) (numP b) ∨ (isNum a && isNum b) = false ∧ valSame a b = eqP a b := by
  obtain ⟨ak, ax, sa, ra⟩ := a
  obtain ⟨bk, bx, sb, rb⟩ := b
  unfold isNum numP valSame eqP
  by_cases h1 : ak = 2
  · by_cases h2 : bk = 2
    · left
      simp [h1, h2]
    · right
      simp [h1, h2, Ne.symm h2]
  · right
    by_cases h3 : ak = bk
    · subst h3
      simp [h1]
    · simp [h1, h3]
set_option maxHeartbeats 1000000 in
set_option maxRecDepth 100000 in
theorem iSameValue_any (a b : PVal) (w : World) (ha : valW a) (hb : valW b) :
    Calls Tryz.prog 13 #[.agg #[.int .i64 a.kind, .int .u64 (a.num : Int), .string a.text, .int .i64 a.ref], .agg #[.int .i64 b.kind, .int .u64 (b.num : Int), .string b.text, .int .i64 b.ref]] w fun e w' => e = .returned (.bool (valSame a b)) ∧ Below w.heap.size w w' := by
  have cN := fun W => iNumbersIn a b W
  have hA : numP a < 18446744073709551616 := by
    have := ha.2.1
    unfold N64 at this
    unfold numP
    split <;> omega
  have hB : numP b < 18446744073709551616 := by
    have := hb.2.1
    unfold N64 at this
    unfold numP
    split <;> omega
  have cE := fun W => iEqual (numP a) (numP b) W hA hB
  have hE := fun W => eqFour a b W
  have hs := same17 a b
  clear hA hB ha hb
  obtain ⟨N, hN⟩ : ∃ N, (isNum a && isNum b) = N := ⟨_, rfl⟩
  obtain ⟨F, hF⟩ : ∃ F, valSame a b = F := ⟨_, rfl⟩
  obtain ⟨Q, hQ⟩ : ∃ F, equalN (numP a) (numP b) = F := ⟨_, rfl⟩
  obtain ⟨P, hP⟩ : ∃ F, eqP a b = F := ⟨_, rfl⟩
  obtain ⟨NA, hNA⟩ : ∃ A, numP a = A := ⟨_, rfl⟩
  obtain ⟨NB, hNB⟩ : ∃ B, numP b = B := ⟨_, rfl⟩
  simp only [hN, hF, hQ, hP] at hs
  simp only [hN, hNA, hNB] at cN
  simp only [hQ] at cE
  simp only [hNA, hNB] at cE
  simp only [hP] at hE
  rw [hF]
  clear hN hF hQ hP hNA hNB
  obtain ⟨ak, ax, sa, ra⟩ := a
  obtain ⟨bk, bx, sb, rb⟩ := b
  simp only at cN hE ⊢
  obtain ⟨t0, t1, tz, tb⟩ := two_made w (.cells #[.int .i64 ak, .int .u64 (ax : Int), .string sa, .int .i64 ra] 26) (.cells #[.int .i64 bk, .int .u64 (bx : Int), .string sb, .int .i64 rb] 26)
  obtain ⟨W2, hW2⟩ : ∃ W, ((w.alloc (.cells #[.int .i64 ak, .int .u64 (ax : Int), .string sa, .int .i64 ra] 26)).alloc (.cells #[.int .i64 bk, .int .u64 (bx : Int), .string sb, .int .i64 rb] 26)) = W := ⟨_, rfl⟩
  rw [hW2] at t0 t1 tz tb
  have HW : Hid (_ = W2) := hW2
  clear hW2
  obtain ⟨G, hG⟩ : ∃ G, w.heap.size = G := ⟨_, rfl⟩
  rw [hG] at t0 t1 tz
  have HK : Hid (∀ W, Below W2.heap.size W2 W → (W.cell? ⟨G, 0, none⟩ = some (.int .i64 ak) ∧ W.cell? ⟨G, 1, none⟩ = some (.int .u64 (ax : Int)) ∧ W.cell? ⟨G, 2, none⟩ = some (.string sa) ∧ W.cell? ⟨G, 3, none⟩ = some (.int .i64 ra)) ∧ (W.cell? ⟨G + 1, 0, none⟩ = some (.int .i64 bk) ∧ W.cell? ⟨G + 1, 1, none⟩ = some (.int .u64 (bx : Int)) ∧ W.cell? ⟨G + 1, 2, none⟩ = some (.string sb) ∧ W.cell? ⟨G + 1, 3, none⟩ = some (.int .i64 rb))) := fun W h =>
    ⟨four_cells ((h.block G (by omega)).trans t0), four_cells ((h.block (G + 1) (by omega)).trans t1)⟩
  have HTB : Hid (Below w.heap.size w W2) := tb
  have hst := stoodValue17
  clear t0 t1 tz tb
  go_enter Tryz.func13, Tryz.ntmps13
  go_upto_region 1 with fail
  rw [HW.out]
  clear HW
  try simp only [hG]
  obtain ⟨⟨a0, a1, a2, a3⟩, d0, d1, d2, d3⟩ := HK.out W2 (Below.refl _ _)
  go_wp2_with fail
  refine (cN _).mono ?_
  rintro e w1 ⟨rfl, b1⟩
  clear a0 a1 a2 a3 d0 d1 d2 d3 cN
  rcases hs with ⟨rfl, rfl⟩ | ⟨rfl, rfl⟩
  · clear hE HK
    go_wp2_with fail
    refine (cE _).mono ?_
    rintro e w2 ⟨rfl, b2⟩
    go_wp2
    go_ret
    exact ⟨rfl, chain HTB.out (chain b1 b2)⟩
  · obtain ⟨⟨a0, a1, a2, a3⟩, d0, d1, d2, d3⟩ := HK.out w1 b1
    clear HK cE
    have HB1 : Hid (Below w.heap.size w w1) := chain HTB.out b1
    clear b1
    go_wp2
    go_ret
    exact ⟨rfl, HB1.out⟩
end Go.Proofs.YtcdbifcidaafnaaGreatDoor
namespace Go.Proofs.YtcdbifcidaafnaaGreatDoor
open Go.RowKit
set_option linter.unusedVariables false
set_option maxHeartbeats 1000000 in
set_option maxRecDepth 100000 in
theorem bld_used (b : Nat) (w : World) (h0 : w.cell? ⟨b, 0, none⟩ = some (.pointer (some ⟨b, 0, none⟩))) :
    Calls Tryz.prog 106 #[.pointer (some ⟨b, 0, none⟩)] w fun e w' => e = .returned (.tuple #[]) ∧ w = w' := by
  obtain ⟨j, hj, _⟩ := Option.map_eq_some_iff.1 (Tryz.Builder_Extra_169).sizeBuilder
  go_enter Tryz.func106, Tryz.ntmps106
  go_wp2
  rw [Lib.run_neq_ptr_same w _ Tryz.underlying147 hj]
  go_wp2
  go_end0
  exact ⟨rfl, rfl⟩
set_option maxHeartbeats 1000000 in
set_option maxRecDepth 100000 in
theorem bld_fresh (b : Nat) (w : World) (h0 : w.cell? ⟨b, 0, none⟩ = some (.pointer none)) (hsh : w.shape? b = some (149, 2)) (hfz : w.frozen? ⟨b, 0, none⟩ = false) :
    Calls Tryz.prog 106 #[.pointer (some ⟨b, 0, none⟩)] w fun e w' => e = .returned (.tuple #[]) ∧ w' = w.setCell ⟨b, 0, none⟩ (.pointer (some ⟨b, 0, none⟩)) := by
  obtain ⟨j, hj, hjs⟩ := Option.map_eq_some_iff.1 (Tryz.Builder_Extra_169).sizeBuilder
  go_enter Tryz.func106, Tryz.ntmps106
  go_wp2
  rw [Lib.run_to_unsafe w ⟨b, 0, none⟩ Tryz.underlying147 Tryz.underlying106 hj (by rw [hjs]; decide) hsh (Nat.zero_lt_succ 1)]
  simp only [Result.andThen]
  rw [Oper.upon_value]
  go_wp2
  rw [run_callFunc_extern Tryz.func112 (by kernel_rfl) (by kernel_rfl) (by kernel_rfl) (e := Extern.AbiNoEscape.same) (by kernel_rfl)]
  rw [Lib.run_noEscape]
  simp only [Result.andThen]
  rw [Oper.upon_value]
  go_wp2
  rw [Lib.run_from_unsafe w ⟨b, 0, none⟩ Tryz.underlying106 Tryz.underlying147 hj hsh (Tryz.Builder_Extra_169).liesBuilder]
  simp only [Result.andThen]
  rw [Oper.upon_value]
  go_wp2
  go_end0
  exact ⟨rfl, rfl⟩
def Bld (B b : Nat) (s : ByteArray) (w : World) : Prop := Lib.IsBuilder 149 5 B b (Lib.strCells s) w
theorem bld_check (B b : Nat) (s : ByteArray) (w : World) (h : Bld B b s w) :
    Calls Tryz.prog 106 #[.pointer (some ⟨b, 0, none⟩)] w fun e w' => e = .returned (.tuple #[]) ∧ (Lib.BuilderAt 149 5 B b (.pointer (some ⟨b, 0, none⟩)) (Lib.strCells s) w' ∧ Below B w w') := by
  rcases h with h | h
  · refine (bld_fresh b w h.cell0 h.shape h.frozen0).mono ?_
    rintro e w' ⟨rfl, rfl⟩
    exact ⟨rfl, h.used _, (Below.refl B w).setCell (p := ⟨b, 0, none⟩) h.1 _⟩
  · refine (bld_used b w h.cell0).mono ?_
    rintro e w' ⟨rfl, rfl⟩
    exact ⟨rfl, h, Below.refl B _⟩
theorem strCells_append (s t : ByteArray) : Lib.strCells s ++ Lib.strCells t = Lib.strCells (s ++ t) := by
  unfold Lib.strCells
  rw [← List.map_append]
  congr 1
set_option maxHeartbeats 2000000 in
set_option maxRecDepth 100000 in
theorem bld_write (B b : Nat) (s t : ByteArray) (w : World) (h : Bld B b s w) (hlen : s.size + t.size ≤ 140737488355328) (hBw : B ≤ w.heap.size) :
    Calls Tryz.prog 97 #[.pointer (some ⟨b, 0, none⟩), .string t] w fun e w' => e = .returned (.tuple #[.int .i64 t.size, .nilIface]) ∧ (Bld B b (s ++ t) w' ∧ Below B w w') := by
  obtain ⟨i0, hi, hz0, hz1, hz2⟩ := info_parts Tryz.infoByte
  go_enter Tryz.func97, Tryz.ntmps97
  go_wp2_with (go_at_call 106; refine (bld_check B b s _ h).mono ?_)
  rintro e w1 ⟨rfl, h1, hb1⟩
  obtain ⟨hB, v, hbk, hown, hne⟩ := h1
  have c0 : w1.cell? ⟨b, 0, none⟩ = some (.pointer (some ⟨b, 0, none⟩)) := by rw [Lib.cell_of_heap hbk]; rfl
  have c1 : w1.cell? ⟨b, 1, none⟩ = some v := by rw [Lib.cell_of_heap hbk]; rfl
  rw [Lib.strCells_length] at hown
  go_wp2_with (at_builtin; refine Lib.wpList_append_own_string _ rfl _ _ 22 9 rfl B 5 i0 Tryz.underlying22 Tryz.underlying9 hi hz0 hz1 hz2 _ _ _ rfl hown t rfl ?c3 ?c4 ?c5 ?_)
  case c3 => unfold maxLen; omega
  case c4 => omega
  case c5 => have := hb1.size; omega
  intro v' w2 hown' hgrow _
  have hlt : b < w1.heap.size := by
    rcases Nat.lt_or_ge b w1.heap.size with h' | h'
    · exact h'
    · simp [Array.getElem?_eq_none h'] at hbk
  have hb2 : w2.heap[b]? = some (.cells #[.pointer (some ⟨b, 0, none⟩), v] 149 (0, 0)) := by
    rw [hgrow.block b hlt (fun e => hne e.symm)]
    exact hbk
  have d0 : w2.cell? ⟨b, 0, none⟩ = some (.pointer (some ⟨b, 0, none⟩)) := by rw [Lib.cell_of_heap hb2]; rfl
  have d1 : w2.cell? ⟨b, 1, none⟩ = some v := by rw [Lib.cell_of_heap hb2]; rfl
  have f1 : w2.frozen? ⟨b, 1, none⟩ = false := Lib.frozen_of_heap hb2 1
  obtain ⟨ao, n', cap, rfl⟩ : ∃ ao n' cap, v' = .slice ao n' cap := by
    rcases hown'.2 with ⟨hv, _⟩ | ⟨g, cap, cur, hv, _⟩
    · exact ⟨_, _, _, hv⟩
    · exact ⟨_, _, _, hv⟩
  rw [strCells_append] at hown'
  go_wp2
  go_ret2
  refine ⟨rfl, ?_, ?_⟩
  · exact .inr (Lib.BuilderAt.put (T := 149) (e := 5) hB hb2 (bs' := Lib.strCells (s ++ t)) (by rw [Lib.strCells_length, ByteArray.size_append]; exact hown') (by decide))
  · exact (hb1.grown hgrow (by have := hb1.size; omega) (fun k hk => (hown.lt k hk).1)).setCell (p := ⟨b, 1, none⟩) hB _
theorem bld_string (B b : Nat) (s : ByteArray) (w : World) (h : Bld B b s w) (hBw : B ≤ w.heap.size) :
    Calls Tryz.prog 98 #[.pointer (some ⟨b, 0, none⟩)] w fun e w' => e = .returned (.string s) ∧ Below B w w' := by
  refine (Tryz.Builder_String_any B b s.data.toList w h hBw).mono ?_
  rintro e w' ⟨rfl, hb⟩
  exact ⟨rfl, hb⟩
end Go.Proofs.YtcdbifcidaafnaaGreatDoor
namespace Go.Proofs.YtcdbifcidaafnaaGreatDoor
open Go.RowKit
set_option linter.unusedVariables false
theorem bytes_nil (s : ByteArray) : s ++ (⟨#[]⟩ : ByteArray) = s := by
  apply ByteArray.ext
  simp
theorem nil_bytes (s : ByteArray) : (⟨#[]⟩ : ByteArray) ++ s = s := by
  apply ByteArray.ext
  simp
set_option maxHeartbeats 2000000 in
set_option maxRecDepth 100000 in
theorem iJoin2 (b : Nat) (s u : ByteArray) (w : World) (h0 : w.cell? ⟨b, 0, none⟩ = some (.string s)) (h1 : w.cell? ⟨b, 1, none⟩ = some (.string u)) (hl : s.size + u.size ≤ 200) :
    Calls Tryz.prog 81 #[.slice (some ⟨b, 0, none⟩) 2 2, .string ⟨#[]⟩] w fun e w' => e = .returned (.string (s ++ u)) ∧ Below w.heap.size w w' := by
  have hbl : b < w.heap.size := World.block_lt_of_cell? w _ h0
  have HC : Hid (∀ W, Below w.heap.size w W → W.cell? ⟨b, 0, none⟩ = some (.string s) ∧ W.cell? ⟨b, 1, none⟩ = some (.string u)) := fun W hW => ⟨(hW.cell hbl).trans h0, (hW.cell hbl).trans h1⟩
  have hG : Hid (∀ k : Nat, k ≤ 200 → Calls Tryz.prog 96 #[.pointer (some ⟨w.heap.size, 0, none⟩), .int .i64 k] (w.alloc (.cells #[.pointer none, .slice none 0 0] 149)) fun e w' => e = .returned (.tuple #[]) ∧ Hid (Bld w.heap.size w.heap.size ⟨#[]⟩ w') ∧ Hid (Below w.heap.size w w')) := fun k hk => (Tryz.Builder_Grow_fresh w.heap.size w.heap.size k _ (Nat.le_refl _) (heap_alloc_new w _) (by simp) (by omega)).mono (fun e w' hh => ⟨hh.1, .inr hh.2.1, ((Below.refl _ _).alloc (Nat.le_refl _) _).trans hh.2.2⟩)
  have cW := fun (x y : ByteArray) (W : World) (hx : Bld w.heap.size w.heap.size x W) (hxy : x.size + y.size ≤ 1000) (hW : Below w.heap.size w W) => (bld_write w.heap.size w.heap.size x y W hx (by omega) hW.size).mono (fun e w' (hh : e = .returned (.tuple #[.int .i64 y.size, .nilIface]) ∧ (Bld w.heap.size w.heap.size (x ++ y) w' ∧ Below w.heap.size W w')) => show e = .returned (.tuple #[.int .i64 y.size, .nilIface]) ∧ Hid (Bld w.heap.size w.heap.size (x ++ y) w') ∧ Hid (Below w.heap.size w w') from ⟨hh.1, hh.2.1, hW.trans hh.2.2⟩)
  have cS := fun (x : ByteArray) (W : World) (hx : Bld w.heap.size w.heap.size x W) (hW : Below w.heap.size w W) => bld_string w.heap.size w.heap.size x W hx hW.size
  have e2 : IntKind.i64.wrap ((9223372036854775807 : Int) - (s.size : Int)) = 9223372036854775807 - (s.size : Int) := by rw [IntKind.wrap_i64]; omega
  have e3 : IntKind.i64.wrap ((s.size : Int) + (u.size : Int)) = (s.size : Int) + (u.size : Int) := by rw [IntKind.wrap_i64]; omega
  have g1 : ¬ (9223372036854775807 : Int) < (s.size : Int) := by omega
  have g2 : ¬ (9223372036854775807 - (s.size : Int)) < (u.size : Int) := by omega
  have hG2 := hG.out (s.size + u.size) hl
  rw [show ((s.size + u.size : Nat) : Int) = (s.size : Int) + (u.size : Int) by omega] at hG2
  clear h0 h1 hG
  obtain ⟨k0, k1⟩ := HC.out w (Below.refl _ _)
  go_enter Tryz.func81, Tryz.ntmps81
  go_wp2
  go_loop [5, 7, 41] (fun y z i => (y = .int .i64 0 ∧ i = .int .i64 0) ∨ (y = .int .i64 s.size ∧ i = .int .i64 1) ∨ (y = .int .i64 ((s.size : Int) + (u.size : Int)) ∧ i = .int .i64 2)) (fun _ _ i => 2 - (intOf i).toNat)
  case atStart => exact .inl ⟨rfl, rfl⟩
  case round =>
    obtain ⟨rfl, rfl⟩ | ⟨rfl, rfl⟩ | ⟨rfl, rfl⟩ := hrel
    · go_wp2
      go_round
      case rel => exact .inr (.inl ⟨rfl, rfl⟩)
      case measure => decide
    · go_wp2
      go_round
      case rel => exact .inr (.inr ⟨rfl, rfl⟩)
      case measure => decide
    · clear g1 g2 e2 e3
      go_upto_region 20 with (go_at_call 96; (with_reducible refine hG2.mono ?_); rintro e w1 ⟨rfl, HB1, HW1⟩)
      obtain ⟨q0, q1⟩ := HC.out w1 HW1.out
      have cW1 := cW ⟨#[]⟩ s w1 HB1.out (by show 0 + s.size ≤ 1000; omega) HW1.out
      rw [nil_bytes] at cW1
      clear k0 k1 HB1 HW1 hG2
      go_upto_region 21 with (go_at_call 97; (with_reducible refine cW1.mono ?_); rintro e w2 ⟨rfl, HB2, HW2⟩)
      clear cW1 q0 q1
      go_wp2
      go_loopw [10, 65] (fun z i wr => (i = .int .i64 0 ∧ Hid (Bld w.heap.size w.heap.size s wr) ∧ Hid (Below w.heap.size w wr)) ∨ (i = .int .i64 1 ∧ Hid (Bld w.heap.size w.heap.size (s ++ u) wr) ∧ Hid (Below w.heap.size w wr))) (fun _ i _ => 1 - (intOf i).toNat)
      case atStart => exact .inl ⟨rfl, HB2, HW2⟩
      case round =>
        clear HB2 HW2
        obtain ⟨rfl, HB2, HW2⟩ | ⟨rfl, HB2, HW2⟩ := hrel
        · obtain ⟨q0, q1⟩ := HC.out wr HW2.out
          have cW1 := cW s ⟨#[]⟩ wr HB2.out (by show s.size + 0 ≤ 1000; omega) HW2.out
          rw [bytes_nil] at cW1
          go_upto_region 25 with (go_at_call 97; (with_reducible refine cW1.mono ?_); rintro e w3 ⟨rfl, HB3, HW3⟩)
          have cW3 := cW s u w3 HB3.out (by omega) HW3.out
          clear cW1 HB2 HW2 q0 q1
          go_wp2_with (go_at_call 97; (with_reducible refine cW3.mono ?_); rintro e w4 ⟨rfl, HB4, HW4⟩)
          clear cW3 HB3 HW3
          go_roundw
          case rel => exact .inr ⟨rfl, HB4, HW4⟩
          case measure => decide
        · have cS1 := cS (s ++ u) wr HB2.out HW2.out
          go_wp2_with (go_at_call 98; (with_reducible refine cS1.mono ?_); rintro e w5 ⟨rfl, b5⟩)
          go_ret
          exact ⟨rfl, HW2.out.trans b5⟩
end Go.Proofs.YtcdbifcidaafnaaGreatDoor
namespace Go.Proofs.YtcdbifcidaafnaaGreatDoor
structure UpOf (m : Nat) (e : Int) (M : Nat) (E : Int) : Prop where
  lo : 9223372036854775808 ≤ M
  hi : M < 18446744073709551616
  even : M % 2 = 0
  up : ∃ u : Nat, u ≤ 63 ∧ M = m * 2 ^ u ∧ E = e - u
theorem upOf_of {m u M : Nat} {e : Int} (hm : m < 9007199254740992) (hu : u ≤ 63) (h : M = m * 2 ^ u) (h1 : 9223372036854775808 ≤ M) (h2 : M < 18446744073709551616) : UpOf m e M (e - u) := by
  have h3 : u ≠ 0 := by
    intro h0
    subst h0
    rw [Nat.pow_zero, Nat.mul_one] at h
    omega
  obtain ⟨v, rfl⟩ : ∃ v, u = v + 1 := ⟨u - 1, by omega⟩
  refine ⟨h1, h2, ?_, v + 1, hu, h, rfl⟩
  rw [h, Nat.pow_succ, ← Nat.mul_assoc]
  omega
theorem up_product {m n M N : Nat} {e f E F : Int} (h1 : UpOf m e M E) (h2 : UpOf n f N F) :
    roundN (M * N / 18446744073709551616) (E + F + 64) (decide (M * N % 18446744073709551616 ≠ 0) && decide (72057594037927936 ≤ M * N / 18446744073709551616)) = roundN (m * n) (e + f) false := by
  obtain ⟨u, hu, hM, hE⟩ := h1.up
  obtain ⟨v, hv, hN, hF⟩ := h2.up
  have hp : 9223372036854775808 * 9223372036854775808 ≤ M * N := Nat.mul_le_mul h1.lo h2.lo
  have e64 : (18446744073709551616 : Nat) = 2 ^ 64 := by decide
  have a := round_off (P := M * N) (k := 64) (n := M * N / 18446744073709551616) (l := decide (M * N % 18446744073709551616 ≠ 0)) (E := E + F) (by rw [e64]) (by rw [e64]) (.inr (by omega))
  rw [(by omega : E + F + ((64 : Nat) : Int) = E + F + 64)] at a
  rw [a]
  have b := roundN_times (u + v) (m * n) (e + f) false
  rw [← b]
  have c1 : M * N = m * n * 2 ^ (u + v) := by rw [hM, hN, Nat.pow_add, Nat.mul_mul_mul_comm]
  rw [c1, (by omega : E + F = e + f - ((u + v : Nat) : Int))]
theorem up_quotient {m n M N Q : Nat} {e f E F : Int} (hm : m ≠ 0) (hn : n ≠ 0) (hn2 : n < 9007199254740992) (h1 : UpOf m e M E) (h2 : UpOf n f N F) (hQ : M * 9223372036854775808 / N = Q) :
    Q < 18446744073709551616 ∧ roundN Q (E - F - 63) (decide (Q * N ≠ M * 9223372036854775808) && decide (72057594037927936 ≤ Q)) = quoN m n (e - f) := by
  obtain ⟨u, hu, hM, hE⟩ := h1.up
  obtain ⟨v, hv, hN, hF⟩ := h2.up
  have hN0 : N ≠ 0 := by have := h2.lo; omega
  have e63 : (9223372036854775808 : Nat) = 2 ^ 63 := by decide
  have q1 : 4611686018427387904 ≤ Q := by
    rw [← hQ, Nat.le_div_iff_mul_le (by omega)]
    have := h1.lo
    have := h2.hi
    omega
  have q2 : Q < 18446744073709551616 := by
    rw [← hQ, Nat.div_lt_iff_lt_mul (by omega)]
    have := h1.hi
    have := h2.lo
    omega
  have hmod : decide (Q * N ≠ M * 9223372036854775808) = decide (M * 9223372036854775808 % N ≠ 0) := by
    have hd := Nat.div_add_mod (M * 9223372036854775808) N
    rw [hQ, Nat.mul_comm] at hd
    rw [Bool.eq_iff_iff, decide_eq_true_iff, decide_eq_true_iff]
    omega
  refine ⟨q2, ?_⟩
  rw [hmod, decide_eq_true (by omega : 72057594037927936 ≤ Q), Bool.and_true]
  have a := quo_at (m := M) (n := N) (k := 63) (e := E - F) hN0 (by rw [← e63, hQ]; omega) (by omega)
  rw [← e63, hQ, (by omega : E - F - ((63 : Nat) : Int) = E - F - 63)] at a
  rw [a, hM, hN, (by omega : E - F = e - f - u + v)]
  exact quo_scale hm hn hn2 hv hu
theorem rest_self {a b : Nat} (ka : kindN a = 4) (kb : kindN b = 4) (h : a % 9223372036854775808 < b % 9223372036854775808) : restN (mantN a) (expN a) (mantN b) (expN b) = roundN (mantN a) (expN a) false := by
  obtain ⟨o1, o2, o3⟩ := raw_order (g := b) (l := a) (by omega)
  have o4 : rawE a = rawE b → rawM a ≠ rawM b := by
    intro hE hM
    have a1 : a % 9223372036854775808 / 4503599627370496 = a / 4503599627370496 % 2048 := by omega
    have a2 : b % 9223372036854775808 / 4503599627370496 = b / 4503599627370496 % 2048 := by omega
    have a3 : a % 9223372036854775808 % 4503599627370496 = a % 4503599627370496 := by omega
    have a4 : b % 9223372036854775808 % 4503599627370496 = b % 4503599627370496 := by omega
    unfold rawM at hM
    unfold rawE at hE
    rw [← a1, ← a2, ← a3, ← a4] at hM
    rw [← a1, ← a2] at hE
    generalize a % 9223372036854775808 = u at *
    generalize b % 9223372036854775808 = v at *
    clear a1 a2 a3 a4 o1 o2 o3
    split at hM <;> split at hM <;> (try split at hE) <;> (try split at hE) <;> omega
  have ml := rawM_lt a
  have gl := rawE_ge a
  rw [(raw_fin ka).1, (raw_fin ka).2, (raw_fin kb).2] at *
  rw [(raw_fin kb).1] at *
  obtain ⟨D, hD⟩ : ∃ D : Nat, expN b = expN a + D := ⟨(expN b - expN a).toNat, by omega⟩
  rw [rest_down hD]
  have hlt : mantN a < mantN b * 2 ^ D := by
    by_cases h0 : D = 0
    · subst h0
      have h5 : expN a = expN b := by omega
      have := o2 h5
      have := o4 h5
      rw [Nat.pow_zero, Nat.mul_one]
      omega
    · have h1 : 2 ^ 1 ≤ 2 ^ D := Nat.pow_le_pow_right (by decide) (by omega)
      have h3 : mantN b * 2 ^ 1 ≤ mantN b * 2 ^ D := Nat.mul_le_mul_left _ h1
      have h4 : expN b ≠ -1074 := by omega
      have h5 : 4503599627370496 ≤ mantN b := by
        rcases o3 with h | h
        · exact absurd h h4
        · exact h
      omega
  rw [Nat.mod_eq_of_lt hlt]
theorem rest_places {m n j p : Nat} : m * 2 ^ j % n * 2 ^ p % n = m * 2 ^ (j + p) % n := by
  rw [Nat.pow_add, ← Nat.mul_assoc, Nat.mul_mod (m * 2 ^ j) (2 ^ p) n, Nat.mul_mod (m * 2 ^ j % n) (2 ^ p) n, Nat.mod_mod]
end Go.Proofs.YtcdbifcidaafnaaGreatDoor
namespace Go.Proofs.YtcdbifcidaafnaaGreatDoor
open Go.RowKit Go.Sort
set_option linter.unusedVariables false
set_option maxHeartbeats 400000 in
set_option maxRecDepth 100000 in
theorem iProduct (a b : Nat) (w : World) (ha : a < 18446744073709551616) (hb : b < 18446744073709551616) :
    Calls Tryz.prog 104 #[.int .u64 a, .int .u64 b] w fun e w' => e = .returned (.agg #[.int .u64 ((a * b / 18446744073709551616 : Nat) : Int), .int .u64 ((a * b % 18446744073709551616 : Nat) : Int)]) ∧ ∃ o, w' = w.alloc o := by
  have cM := fun W => Tryz.bits_Mul64 a b ha hb W
  obtain ⟨p, hp⟩ : ∃ p, a * b / 18446744073709551616 = p := ⟨_, rfl⟩
  obtain ⟨q, hq⟩ : ∃ p, a * b % 18446744073709551616 = p := ⟨_, rfl⟩
  rw [hp, hq] at cM ⊢
  clear hp hq ha hb
  go_enter Tryz.func104, Tryz.ntmps104
  go_wp2_with (go_at_call 110; refine (cM _).mono ?_; rintro e w' ⟨rfl, rfl⟩)
  go_returns
  exact ⟨rfl, _, rfl⟩
theorem iHigh (x : Nat) (hx : x < 18446744073709551616) (hk : kindN x = 4) :
    ∃ (M : Nat) (E : Int), UpOf (mantN x) (expN x) M E ∧ -1137 ≤ E ∧ E ≤ 972 ∧ ∀ W, Calls Tryz.prog 103 #[.int .u64 x] W fun en w' => en = .returned (.tuple #[.int .u64 M, .int .i64 E]) ∧ W = w' := by
  have hm := mantN_lt x
  have h0 := mantN_pos hk
  have e1 := expN_ge x
  have e2 := expN_le x
  have cM := fun W => iMantExp x W hx hk
  obtain ⟨f, M, hf, hM1, hM2, hMm, cU⟩ := iMovedUp (mantN x) (by omega) h0
  refine ⟨M, expN x - f, upOf_of hm hf hMm hM1 hM2, by omega, by omega, fun W => ?_⟩
  have cV := fun W => cU (expN x) W (by omega) (by omega)
  generalize mantN x = m at *
  generalize expN x = e at *
  clear hm h0 hMm cU hM1 hM2 hx hk
  go_enter Tryz.func103, Tryz.ntmps103
  go_wp2_with (first | (go_at_call 101; refine (cM _).mono ?_; rintro e w' ⟨rfl, rfl⟩) | (go_at_call 109; refine (cV _).mono ?_; rintro e w' ⟨rfl, rfl⟩))
  go_ret2
  exact ⟨rfl, rfl⟩
end Go.Proofs.YtcdbifcidaafnaaGreatDoor
namespace Go.Proofs.YtcdbifcidaafnaaGreatDoor
structure Guess (u y1 y0 t q r : Nat) : Prop where
  eq : q * y1 + r = u
  top : u * 4294967296 + t < (q + 1) * (y1 * 4294967296 + y0)
theorem guess_mul (q y1 y0 : Nat) : q * (y1 * 4294967296 + y0) = q * y1 * 4294967296 + q * y0 := by rw [Nat.mul_add, Nat.mul_assoc]
theorem guess_start {u y1 y0 t : Nat} (hu : u < y1 * 4294967296 + y0) (h1 : 2147483648 ≤ y1) (h0 : y0 < 4294967296) (ht : t < 4294967296) : Guess u y1 y0 t (u / y1) (u % y1) ∧ u / y1 ≤ 4294967297 ∧ u % y1 < y1 := by
  have e := Nat.div_add_mod u y1
  have hm : u % y1 < y1 := Nat.mod_lt _ (by omega)
  rw [Nat.mul_comm] at e
  refine ⟨⟨e, ?_⟩, ?_, hm⟩
  · rw [guess_mul, Nat.add_mul (u / y1) 1 y1]
    generalize u / y1 * y1 = p at *
    have : (p + 1 * y1) * 4294967296 = p * 4294967296 + y1 * 4294967296 := by omega
    rw [this]
    omega
  · rcases Nat.lt_or_ge 4294967297 (u / y1) with h | h
    · have h2 : 4294967298 * y1 ≤ u / y1 * y1 := Nat.mul_le_mul_right _ h
      omega
    · exact h
theorem guess_down {u y1 y0 t q r : Nat} (h : Guess u y1 y0 t q r) (hu : u < y1 * 4294967296 + y0) (ht : t < 4294967296) (hc : 4294967296 ≤ q ∨ 4294967296 * r + t < q * y0) : 1 ≤ q ∧ Guess u y1 y0 t (q - 1) (r + y1) := by
  have h1 : 1 ≤ q := by
    rcases hc with hc | hc
    · omega
    · rcases Nat.eq_zero_or_pos q with h' | h'
      · subst h'; omega
      · exact h'
  obtain ⟨p, rfl⟩ : ∃ p, q = p + 1 := ⟨q - 1, by omega⟩
  refine ⟨h1, ⟨?_, ?_⟩⟩
  · have := h.eq
    rw [Nat.add_mul] at this
    rw [Nat.add_sub_cancel]
    omega
  · rw [Nat.add_sub_cancel]
    rcases hc with hc | hc
    · have h2 : 4294967296 * (y1 * 4294967296 + y0) ≤ (p + 1) * (y1 * 4294967296 + y0) := Nat.mul_le_mul_right _ hc
      omega
    · have := h.eq
      rw [guess_mul]
      omega
theorem guess_right {u y1 y0 t q : Nat} (hy : 0 < y1 * 4294967296 + y0) (h1 : q * (y1 * 4294967296 + y0) ≤ u * 4294967296 + t) (h2 : u * 4294967296 + t < (q + 1) * (y1 * 4294967296 + y0)) : (u * 4294967296 + t) / (y1 * 4294967296 + y0) = q := by
  apply Nat.le_antisymm
  · exact Nat.lt_succ_iff.mp ((Nat.div_lt_iff_lt_mul hy).mpr h2)
  · exact (Nat.le_div_iff_mul_le hy).mpr h1
theorem guess_end {u y1 y0 t q r : Nat} (h : Guess u y1 y0 t q r) (h1 : 2147483648 ≤ y1) (hc : q * y0 ≤ 4294967296 * r + t) : (u * 4294967296 + t) / (y1 * 4294967296 + y0) = q := by
  refine guess_right (by omega) ?_ h.top
  have := h.eq
  rw [guess_mul]
  omega
theorem guess_break {u y1 y0 t q r : Nat} (h : Guess u y1 y0 t q r) (h1 : 2147483648 ≤ y1) (h0 : y0 < 4294967296) (hq : q ≤ 4294967296) (hr : 4294967296 ≤ r) : (u * 4294967296 + t) / (y1 * 4294967296 + y0) = q := by
  refine guess_end h h1 ?_
  have : q * y0 ≤ 4294967296 * y0 := Nat.mul_le_mul_right _ hq
  omega
theorem two_figures {u y t s q1 q0 : Nat} (hy : 0 < y) (hq1 : (u * 4294967296 + t) / y = q1) (hq0 : ((u * 4294967296 + t - q1 * y) * 4294967296 + s) / y = q0) : (u * 18446744073709551616 + t * 4294967296 + s) / y = q1 * 4294967296 + q0 := by
  have a1 : q1 * y ≤ u * 4294967296 + t := by rw [← hq1]; exact Nat.div_mul_le_self _ _
  obtain ⟨d, hd⟩ : ∃ d, u * 4294967296 + t - q1 * y = d := ⟨_, rfl⟩
  rw [hd] at hq0
  have e : u * 18446744073709551616 + t * 4294967296 + s = y * (q1 * 4294967296) + (d * 4294967296 + s) := by
    have : y * (q1 * 4294967296) = q1 * y * 4294967296 := by rw [← Nat.mul_assoc, Nat.mul_comm y]
    rw [this]
    omega
  rw [e, Nat.mul_add_div hy, hq0]
end Go.Proofs.YtcdbifcidaafnaaGreatDoor
namespace Go.Proofs.YtcdbifcidaafnaaGreatDoor
open Go.RowKit Go.Sort
set_option linter.unusedVariables false
theorem mask_low (y : Nat) (hy : y < 18446744073709551616) : bits .and .u64 (y : Int) 4294967295 = ((y % 4294967296 : Nat) : Int) := by
  have h := u64_and_nat y 4294967295 hy (by decide)
  have e : y &&& 4294967295 = y % 4294967296 := Nat.and_two_pow_sub_one_eq_mod y 32
  rw [e] at h
  exact h
theorem or_none (h : Nat) (hh : h < 18446744073709551616) : bits .or .u64 (h : Int) 0 = (h : Int) := by
  have e := u64_or_nat h 0 hh (by decide)
  rw [Nat.or_zero] at e
  exact e
theorem lz_top (y : Nat) (h1 : 9223372036854775808 ≤ y) (h2 : y < 18446744073709551616) (W : World) :
    Calls Tryz.prog 111 #[.int .u64 y] W fun e w' => e = .returned (.int .i64 0) ∧ W = w' := by
  obtain ⟨f, M, hf, hM1, hM2, hM, c⟩ := lz_any y h2 (by omega)
  have h0 : f = 0 := by
    rcases Nat.eq_zero_or_pos f with h | h
    · exact h
    · have : 2 ^ 1 ≤ 2 ^ f := Nat.pow_le_pow_right (by decide) h
      have : y * 2 ^ 1 ≤ y * 2 ^ f := Nat.mul_le_mul_left _ this
      omega
  subst h0
  exact c W
set_option maxHeartbeats 1000000 in
set_option maxRecDepth 100000 in
theorem iDiv64 (h y : Nat) (w : World) (hy : 9223372036854775808 ≤ y) (hy2 : y < 18446744073709551616) (h0 : h ≠ 0) (hh : h < y) :
    Calls Tryz.prog 105 #[.int .u64 h, .int .u64 0, .int .u64 y] w fun e w' => ∃ r : Value, e = .returned (.tuple #[.int .u64 ((h * 18446744073709551616 / y : Nat) : Int), r]) ∧ w = w' := by
  obtain ⟨Z, hZ⟩ : ∃ Z, h * 18446744073709551616 / y = Z := ⟨_, rfl⟩
  rw [hZ]
  have HZZ : Hid (Unit → h * 18446744073709551616 / y = Z) := fun _ => hZ
  clear hZ
  have cL := fun W => lz_top y hy hy2 W
  have d0 : ((y : Int) == 0) = false := by rw [beq_eq_false_iff_ne]; omega
  have d1 : decide (y ≤ h) = false := by simp; omega
  have d2 : ((h : Int) == 0) = false := by rw [beq_eq_false_iff_ne]; omega
  have m1 := mask_low y hy2
  have m2 := or_none h (by omega)
  obtain ⟨Y1, hY1⟩ : ∃ Y1, y / 4294967296 = Y1 := ⟨_, rfl⟩
  obtain ⟨Y0, hY0⟩ : ∃ Y0, y % 4294967296 = Y0 := ⟨_, rfl⟩
  have v1 : (y : Int) / 4294967296 = Y1 := by omega
  rw [hY0] at m1
  have hyy : y = Y1 * 4294967296 + Y0 := by omega
  have b1 : 2147483648 ≤ Y1 := by omega
  have b2 : Y1 < 4294967296 := by omega
  have b3 : Y0 < 4294967296 := by omega
  obtain ⟨g1, g2, g3⟩ := guess_start (u := h) (y1 := Y1) (y0 := Y0) (t := 0) (by omega) b1 b3 (by omega)
  obtain ⟨q, hq⟩ : ∃ q, h / Y1 = q := ⟨_, rfl⟩
  obtain ⟨r, hr⟩ : ∃ r, h % Y1 = r := ⟨_, rfl⟩
  rw [hq, hr] at g1
  rw [hq] at g2
  rw [hr] at g3
  have v2 : (h : Int) / Y1 = q := by rw [← hq]; simp
  have v3 : IntKind.u64.wrap ((h : Int) - IntKind.u64.wrap ((q : Int) * Y1)) = r := by
    have e1 := g1.eq
    have e2 : (q : Int) * Y1 = ((q * Y1 : Nat) : Int) := by simp
    rw [e2]
    generalize q * Y1 = p at *
    show ((h : Int) - (p : Int) % 18446744073709551616) % 18446744073709551616 = r
    omega
  have z1 : ((Y1 : Int) == 0) = false := by rw [beq_eq_false_iff_ne]; omega
  have z2 : Y1 ≠ 0 := by omega
  have HY : Hid (Unit → y = Y1 * 4294967296 + Y0) := fun _ => hyy
  have HH : Hid (Unit → h < y ∧ y < 18446744073709551616) := fun _ => ⟨hh, hy2⟩
  have HG : Hid (Unit → Guess h Y1 Y0 0 q r) := fun _ => g1
  have B1 : Hid (Unit → 2147483648 ≤ Y1 ∧ Y1 < 4294967296 ∧ Y0 < 4294967296 ∧ q ≤ 4294967297 ∧ r < Y1) := fun _ => ⟨b1, b2, b3, g2, g3⟩
  have y2 : (y : Int) < 18446744073709551616 := by omega
  have h2 : (h : Int) < 18446744073709551616 := by omega
  clear hyy hh hy2 hy h0 g1 g2 g3 b1 b2 b3 hY1 hY0 hq hr
  have q2 : (q : Int) ≤ 4294967297 := by have := (B1.out ()).2.2.2.1; omega
  have r2 : (r : Int) < 4294967296 := by have := B1.out (); omega
  have y3 : (Y1 : Int) < 4294967296 := by have := B1.out (); omega
  have m3 : bits .and .u64 0 4294967295 = 0 := by kernel_rfl
  have HQ : Hid (Unit → ∀ Q, h * 4294967296 / y = Q → Q < 4294967296) := fun _ Q hQ => by
    have := HH.out ()
    rw [← hQ, Nat.div_lt_iff_lt_mul (by omega)]
    omega
  go_enter Tryz.func105, Tryz.ntmps105
  go_upto_block 0 with (go_at_call 111; refine (cL _).mono ?_; rintro e w' ⟨rfl, rfl⟩)
  go_cut [15, 16] from 67 to 85 (fun s15 s16 wx => w = wx ∧ ∃ Q R : Nat, s15 = .int .u64 Q ∧ s16 = .int .u64 R ∧ Hid (Unit → h * 4294967296 / y = Q))
  case first =>
    go_wp2_with fail
    go_loop [15, 16] (fun x15 x16 => ∃ Q R : Nat, x15 = .int .u64 Q ∧ x16 = .int .u64 R ∧ (Q : Int) ≤ 4294967297 ∧ (R : Int) < 4294967296 ∧ Hid (Unit → Guess h Y1 Y0 0 Q R)) (fun x15 _ => (intOf x15).toNat)
    case atStart => exact ⟨q, r, rfl, rfl, q2, r2, HG⟩
    case round =>
      obtain ⟨Q, R, rfl, rfl, hQ, hR, HGG⟩ := hrel
      have HD : Hid (Unit → (4294967296 ≤ Q ∨ 4294967296 * R < Q * Y0) → 1 ≤ Q ∧ Guess h Y1 Y0 0 (Q - 1) (R + Y1)) := fun _ hc => guess_down (HGG.out ()) (by have := HH.out (); have := HY.out (); omega) (by omega) (by omega)
      have HE : Hid (Unit → ∀ R', 4294967296 ≤ R' → Guess h Y1 Y0 0 (Q - 1) R' → h * 4294967296 / y = Q - 1) := fun _ R' h1 h2 => by
        have b := B1.out ()
        have := guess_break h2 b.1 b.2.2.1 (by omega) h1
        rw [Nat.add_zero] at this
        rw [HY.out ()]
        exact this
      by_cases c1 : (4294967296 : Int) ≤ Q
      · by_cases c2 : (4294967296 : Int) ≤ (R : Int) + Y1
        · go_wp2
          go_meet
          case rel => exact ⟨rfl, Q - 1, R + Y1, by go_num, by go_num, fun _ => HE.out () _ (by omega) (HD.out () (.inl (by omega))).2⟩
        · have c2' : decide ((4294967296 : Int) ≤ (R : Int) + Y1) = false := by simp; omega
          go_wp2
          go_round
          case rel => exact ⟨Q - 1, R + Y1, by go_num, by go_num, by omega, by omega, fun _ => (HD.out () (.inl (by omega))).2⟩
          case measure => simp [intOf]; omega
      · have c1' : decide ((4294967296 : Int) ≤ Q) = false := by simp; omega
        obtain ⟨P, hP⟩ : ∃ P : Nat, Q * Y0 = P := ⟨_, rfl⟩
        have wP : IntKind.u64.wrap ((Q : Int) * Y0) = P := by
          have b := B1.out ()
          have e1 : (Q : Int) * Y0 = ((Q * Y0 : Nat) : Int) := by simp
          have e2 : Q * Y0 ≤ 4294967296 * 4294967296 := Nat.mul_le_mul (by omega) (by omega)
          have e3 : Q * Y0 < 18446744073709551616 := by
            have : Q * Y0 ≤ 4294967295 * Y0 := Nat.mul_le_mul_right _ (by omega)
            omega
          rw [e1, hP]
          show (P : Int) % 18446744073709551616 = P
          omega
        by_cases c3 : 4294967296 * (R : Int) < P
        · have hQ1 : (1 : Int) ≤ Q := by have := (HD.out () (.inr (by omega))).1; omega
          by_cases c2 : (4294967296 : Int) ≤ (R : Int) + Y1
          · go_wp2
            go_meet
            case rel => exact ⟨rfl, Q - 1, R + Y1, by go_num, by go_num, fun _ => HE.out () _ (by omega) (HD.out () (.inr (by omega))).2⟩
          · have c2' : decide ((4294967296 : Int) ≤ (R : Int) + Y1) = false := by simp; omega
            go_wp2
            go_round
            case rel => exact ⟨Q - 1, R + Y1, by go_num, by go_num, by omega, by omega, fun _ => (HD.out () (.inr (by omega))).2⟩
            case measure => simp [intOf]; omega
        · have c3' : decide (4294967296 * (R : Int) < P) = false := by simp; omega
          go_wp2
          go_meet
          case rel => exact ⟨rfl, Q, R, rfl, rfl, fun _ => by
            have := guess_end (HGG.out ()) (B1.out ()).1 (by omega)
            rw [Nat.add_zero] at this
            rw [HY.out ()]
            exact this⟩
  case rest =>
    obtain ⟨rfl, Q, R, rfl, rfl, HD⟩ := hcut
    clear HG v2 v3 q2 r2 m1 m2 v1 d0 d1 d2
    have hQ : (Q : Int) < 4294967296 := by have := HQ.out () Q (HD.out ()); omega
    obtain ⟨U, hU⟩ : ∃ U, h * 4294967296 - Q * y = U := ⟨_, rfl⟩
    have hQy : Q * y ≤ h * 4294967296 := by rw [← HD.out ()]; exact Nat.div_mul_le_self _ _
    have hUy : U < y := by
      have h5 := Nat.div_add_mod (h * 4294967296) y
      have h6 := Nat.mod_lt (h * 4294967296) (by have := HH.out (); omega : 0 < y)
      rw [HD.out (), Nat.mul_comm] at h5
      omega
    have vU : IntKind.u64.wrap (IntKind.u64.wrap ((h : Int) * 4294967296) - IntKind.u64.wrap ((Q : Int) * y)) = U := by
      have := (HH.out ()).2
      have e1 : (Q : Int) * y = ((Q * y : Nat) : Int) := by simp
      rw [e1]
      generalize Q * y = P at *
      show ((h : Int) * 4294967296 % 18446744073709551616 - (P : Int) % 18446744073709551616) % 18446744073709551616 = U
      omega
    have wU : IntKind.u64.wrap (IntKind.u64.wrap (IntKind.u64.wrap ((h : Int) * 4294967296)) - IntKind.u64.wrap ((Q : Int) * y)) = U := by
      have e1 : IntKind.u64.wrap (IntKind.u64.wrap ((h : Int) * 4294967296)) = IntKind.u64.wrap ((h : Int) * 4294967296) := by
        show ((h : Int) * 4294967296 % 18446744073709551616) % 18446744073709551616 = (h : Int) * 4294967296 % 18446744073709551616
        omega
      rw [e1]
      exact vU
    have b := B1.out ()
    obtain ⟨g1, g2, g3⟩ := guess_start (u := U) (y1 := Y1) (y0 := Y0) (t := 0) (by have := HY.out (); omega) b.1 b.2.2.1 (by omega)
    obtain ⟨q', hq⟩ : ∃ q, U / Y1 = q := ⟨_, rfl⟩
    obtain ⟨r', hr⟩ : ∃ r, U % Y1 = r := ⟨_, rfl⟩
    rw [hq, hr] at g1
    rw [hq] at g2
    rw [hr] at g3
    have v2 : (U : Int) / Y1 = q' := by rw [← hq]; simp
    have v3 : IntKind.u64.wrap ((U : Int) - IntKind.u64.wrap ((q' : Int) * Y1)) = r' := by
      have e1 := g1.eq
      have e2 : (q' : Int) * Y1 = ((q' * Y1 : Nat) : Int) := by simp
      have := (HH.out ()).2
      rw [e2]
      generalize q' * Y1 = p at *
      show ((U : Int) - (p : Int) % 18446744073709551616) % 18446744073709551616 = r'
      omega
    have q2 : (q' : Int) ≤ 4294967297 := by omega
    have r2 : (r' : Int) < 4294967296 := by omega
    have u2 : (U : Int) < 18446744073709551616 := by have := (HH.out ()).2; omega
    have HG : Hid (Unit → Guess U Y1 Y0 0 q' r') := fun _ => g1
    have HU : Hid (Unit → U < y) := fun _ => hUy
    have HZ : Hid (Unit → ∀ Q0, U * 4294967296 / y = Q0 → Q0 < 4294967296 ∧ h * 18446744073709551616 / y = Q * 4294967296 + Q0) := fun _ Q0 hQ0 => by
      have := HH.out ()
      constructor
      · rw [← hQ0, Nat.div_lt_iff_lt_mul (by omega)]
        omega
      · have h7 := two_figures (u := h) (y := y) (t := 0) (s := 0) (q1 := Q) (q0 := Q0) (by omega) (by simpa using HD.out ()) (by rw [Nat.add_zero, Nat.add_zero, hU]; exact hQ0)
        simpa using h7
    clear hQy hUy hU b g1 g2 g3 hq hr HD HQ
    go_wp2_with fail
    go_loop [18, 16] (fun x18 x16 => ∃ Q R : Nat, x18 = .int .u64 Q ∧ x16 = .int .u64 R ∧ (Q : Int) ≤ 4294967297 ∧ (R : Int) < 4294967296 ∧ Hid (Unit → Guess U Y1 Y0 0 Q R)) (fun x18 _ => (intOf x18).toNat)
    case atStart => exact ⟨q', r', rfl, rfl, q2, r2, HG⟩
    case round =>
      obtain ⟨S, T, rfl, rfl, hS, hT, HGG⟩ := hrel
      have HD : Hid (Unit → (4294967296 ≤ S ∨ 4294967296 * T < S * Y0) → 1 ≤ S ∧ Guess U Y1 Y0 0 (S - 1) (T + Y1)) := fun _ hc => guess_down (HGG.out ()) (by have := HU.out (); have := HY.out (); omega) (by omega) (by omega)
      have HE : Hid (Unit → ∀ R', 4294967296 ≤ R' → Guess U Y1 Y0 0 (S - 1) R' → S - 1 < 4294967296 ∧ h * 18446744073709551616 / y = Q * 4294967296 + (S - 1)) := fun _ R' h1 h2 => by
        have b := B1.out ()
        have := guess_break h2 b.1 b.2.2.1 (by omega) h1
        rw [Nat.add_zero] at this
        refine HZ.out () _ ?_
        rw [HY.out ()]
        exact this
      by_cases c1 : (4294967296 : Int) ≤ S
      · by_cases c2 : (4294967296 : Int) ≤ (T : Int) + Y1
        · obtain ⟨k1, k2⟩ := HE.out () _ (by omega) (HD.out () (.inl (by omega))).2
          have K2 : Hid ((Z : Int) = (Q : Int) * 4294967296 + ((S : Int) - 1)) := by have := HZZ.out (); show _ = _; omega
          have k3 : (S : Int) - 1 < 4294967296 := by omega
          clear k1 k2
          go_wp2
          go_ret2
          exact ⟨⟨_, by rw [K2.out]; rfl⟩, rfl⟩
        · have c2' : decide ((4294967296 : Int) ≤ (T : Int) + Y1) = false := by simp; omega
          go_wp2
          go_round
          case rel => exact ⟨S - 1, T + Y1, by go_num, by go_num, by omega, by omega, fun _ => (HD.out () (.inl (by omega))).2⟩
          case measure => simp [intOf]; omega
      · have c1' : decide ((4294967296 : Int) ≤ S) = false := by simp; omega
        obtain ⟨P, hP⟩ : ∃ P : Nat, S * Y0 = P := ⟨_, rfl⟩
        have wP : IntKind.u64.wrap ((S : Int) * Y0) = P := by
          have b := B1.out ()
          have e1 : (S : Int) * Y0 = ((S * Y0 : Nat) : Int) := by simp
          have e3 : S * Y0 < 18446744073709551616 := by
            have : S * Y0 ≤ 4294967295 * Y0 := Nat.mul_le_mul_right _ (by omega)
            omega
          rw [e1, hP]
          show (P : Int) % 18446744073709551616 = P
          omega
        by_cases c3 : 4294967296 * (T : Int) < P
        · have hS1 : (1 : Int) ≤ S := by have := (HD.out () (.inr (by omega))).1; omega
          by_cases c2 : (4294967296 : Int) ≤ (T : Int) + Y1
          · obtain ⟨k1, k2⟩ := HE.out () _ (by omega) (HD.out () (.inr (by omega))).2
            have K2 : Hid ((Z : Int) = (Q : Int) * 4294967296 + ((S : Int) - 1)) := by have := HZZ.out (); show _ = _; omega
            have k3 : (S : Int) - 1 < 4294967296 := by omega
            clear k1 k2
            go_wp2
            go_ret2
            exact ⟨⟨_, by rw [K2.out]; rfl⟩, rfl⟩
          · have c2' : decide ((4294967296 : Int) ≤ (T : Int) + Y1) = false := by simp; omega
            go_wp2
            go_round
            case rel => exact ⟨S - 1, T + Y1, by go_num, by go_num, by omega, by omega, fun _ => (HD.out () (.inr (by omega))).2⟩
            case measure => simp [intOf]; omega
        · have c3' : decide (4294967296 * (T : Int) < P) = false := by simp; omega
          obtain ⟨k1, k2⟩ := HZ.out () S (by
            have := guess_end (HGG.out ()) (B1.out ()).1 (by omega)
            rw [Nat.add_zero] at this
            rw [HY.out ()]
            exact this)
          have K2 : Hid ((Z : Int) = (Q : Int) * 4294967296 + (S : Int)) := by have := HZZ.out (); show _ = _; omega
          have k3 : (S : Int) < 4294967296 := by omega
          clear k1 k2
          go_wp2
          go_ret2
          exact ⟨⟨_, by rw [K2.out]; rfl⟩, rfl⟩
end Go.Proofs.YtcdbifcidaafnaaGreatDoor
