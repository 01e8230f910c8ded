/-
  Several texts in one: Cur, Draw1.
-/
import Derived.Test.YtcabanghegddhaaGreatDoorRows
import Derived.Test.YtcabanghegddhaaGreatDoorBaseA
import Derived.Deep.QuietTactic
import Derived.BigQuiet
import Derived.OpenShut
namespace Go.Proofs.YtcabanghegddhaaGreatDoor
open Go.RowKit
set_option linter.unusedVariables false

theorem i64_and255 (n : Int) : bits .and .i64 n 255 = n % 256 := by
  have h127 : (BitVec.ofInt 64 255).toNat = 2 ^ 8 - 1 := by decide
  have key : (BitVec.ofInt 64 n &&& BitVec.ofInt 64 255).toNat = (n % ((2 ^ 64 : Nat) : Int)).toNat % 2 ^ 8 := by
    rw [BitVec.toNat_and, BitVec.toNat_ofInt, h127, Nat.and_two_pow_sub_one_eq_mod]
  show IntKind.i64.wrap ((BitVec.ofInt 64 n &&& BitVec.ofInt 64 255).toNat : Nat) = n % 256
  rw [key, IntKind.wrap_i64]
  omega

theorem and255_nat (n : Int) : ∃ x : Nat, x < 256 ∧ bits .and .i64 n 255 = (x : Int) := ⟨(n % 256).toNat, by omega, by rw [i64_and255]; omega⟩

/-- the bytes that came in can be read, and do not lie in block g -/
def CodeIn (w : World) (ac : Option Addr) (len g : Nat) : Prop :=
  len ≤ 1048576 ∧ (0 < len → ∃ b off, ac = some ⟨b, off, none⟩ ∧ b ≠ g ∧ b < w.heap.size ∧ ∀ j, j < len → ∃ z : Nat, z < 256 ∧ w.cell? ⟨b, off + j, none⟩ = some (.int .u8 z))

/-- block g is a cursor over those bytes -/
def Cur (ac : Option Addr) (len cap : Nat) (w : World) (g : Nat) : Prop :=
  CodeIn w ac len g ∧ g < w.heap.size ∧ ∃ (i : Nat) (h : Int), i ≤ len ∧ w.heap[g]? = some (.cells #[.slice ac len cap, .int .i64 i, .int .i64 h] 53 (0, 0))

theorem codeIn_kept {w w' : World} {ac : Option Addr} {len g : Nat} (h : CodeIn w ac len g) (hg : w.grownBy w' (some g)) : CodeIn w' ac len g := by
  refine ⟨h.1, fun hp => ?_⟩
  obtain ⟨b, off, e, hb, hlt, hc⟩ := h.2 hp
  refine ⟨b, off, e, hb, Nat.lt_of_lt_of_le hlt hg.size, fun j hj => ?_⟩
  obtain ⟨z, hz, hcz⟩ := hc j hj
  exact ⟨z, hz, hg.cell hcz (by simpa using hb)⟩

theorem cur_cells {w : World} {g : Nat} {a b c : Value} {t : TypeId} (h : w.heap[g]? = some (.cells #[a, b, c] t (0, 0))) :
    w.cell? ⟨g, 0, none⟩ = some a ∧ w.cell? ⟨g, 1, none⟩ = some b ∧ w.cell? ⟨g, 2, none⟩ = some c ∧ ∀ j, w.frozen? ⟨g, j, none⟩ = false := by
  refine ⟨?_, ?_, ?_, fun j => ?_⟩
  · unfold World.cell?; simp only [h]; rfl
  · unfold World.cell?; simp only [h]; rfl
  · unfold World.cell?; simp only [h]; rfl
  · unfold World.frozen?; simp only [h]; simp

theorem grown_set (w : World) (g j : Nat) (v : Value) : w.grownBy (w.setCell ⟨g, j, none⟩ v) (some g) :=
  ⟨rfl, rfl, rfl, by simp, fun k _ hk => heap_setCell_other w ⟨g, j, none⟩ k v (fun e => hk (by simp [e]))⟩
theorem grown_drewN (w : World) (n : Nat) (row : Option Nat) : w.grownBy (w.drewN n) row := ⟨rfl, rfl, rfl, Nat.le_refl _, fun _ _ _ => rfl⟩

set_option maxHeartbeats 1000000 in
set_option maxRecDepth 100000 in
theorem l01Byte_any (ac : Option Addr) (len cap g : Nat) (w : World) (hC : Cur ac len cap w g) :
    Calls Tryz.prog 38 #[.pointer (some ⟨g, 0, none⟩)] w fun e w' => ∃ x : Nat, x < 256 ∧ e = .returned (.int .i64 x) ∧ Cur ac len cap w' g ∧ w.grownBy w' (some g) := by
  obtain ⟨hcode, hlt, i, h, hi, hg⟩ := hC
  obtain ⟨c0, c1, c2, hf⟩ := cur_cells hg
  have f1 := hf 1
  have f2 := hf 2
  clear hf
  go_enter Tryz.func38, Tryz.ntmps38
  go_wp2
  obtain ⟨h1, hh1⟩ : ∃ h1, h1 = wrap64 (wrap64 (h * 6364136223846793005) + 1442695040888963407) := ⟨_, rfl⟩
  rw [← hh1]
  clear hh1
  obtain ⟨W, hW⟩ : ∃ W, W = w.setCell ⟨g, 2, none⟩ (.int .i64 h1) := ⟨_, rfl⟩
  rw [← hW]
  have hgW : W.heap[g]? = some (.cells #[.slice ac len cap, .int .i64 i, .int .i64 h1] 53 (0, 0)) := by rw [hW, heap_setCell_same _ _ _ _ _ _ hg]; rfl
  have grW : w.grownBy W (some g) := by rw [hW]; exact grown_set _ _ _ _
  have codeW := codeIn_kept hcode grW
  clear hW c0 c1 c2 f1 f2 hg hcode
  obtain ⟨c0, c1, c2, hf⟩ := cur_cells hgW
  have f1 := hf 1
  clear hf
  go_quiet (fail)
  go_wp2
  obtain ⟨x0, hx1, hx0⟩ := and255_nat (bits BinOp.xor IntKind.i64 (h1 / 8589934592) (h1 / 35184372088832))
  rw [hx0]
  clear hx0
  have hl : len ≤ 1048576 := codeW.1
  by_cases hil : i < len
  · obtain ⟨b, off, rfl, hbg, hbl, hcs⟩ := codeW.2 (by omega)
    obtain ⟨z, hz, hcz⟩ := hcs i hil
    have hil' : (i : Int) < (len : Int) := by omega
    have hi0 : (0 : Int) ≤ (i : Int) := by omega
    clear hcs
    go_quiet (fail)
    go_wp2
    go_quiet (fail)
    go_wp2
    obtain ⟨x1, hx3, hx2⟩ := and255_nat ((x0 : Int) + (z : Int))
    go_ret
    refine ⟨x1, hx3, by rw [← hx2]; rfl, ⟨codeIn_kept (codeIn_kept codeW (grown_drewN _ _ _)) (grown_set _ _ _ _), ?_, i + 1, h1, by omega, ?_⟩, (grW.trans (grown_drewN _ _ _)).trans (grown_set _ _ _ _)⟩
    · have := grW.size
      simp [World.drewN]; omega
    · rw [heap_setCell_same _ _ _ _ _ _ (show (W.drewN _).heap[g]? = _ from hgW)]; rfl
  · have d : decide ((i : Int) < (len : Int)) = false := by simp; omega
    go_quiet (fail)
    go_wp2
    go_ret
    exact ⟨x0, hx1, rfl, ⟨codeIn_kept (codeIn_kept codeW (grown_drewN _ _ _)) (grown_drewN _ _ _), by have := grW.size; simp [World.drewN]; omega, i, h1, hi, hgW⟩, (grW.trans (grown_drewN _ _ _)).trans (grown_drewN _ _ _)⟩

set_option maxHeartbeats 1000000 in
set_option maxRecDepth 100000 in
theorem l01Below_any (ac : Option Addr) (len cap g : Nat) (n : Int) (w : World) (hC : Cur ac len cap w g) (hn : n ≤ 4294967296) :
    Calls Tryz.prog 16 #[.pointer (some ⟨g, 0, none⟩), .int .i64 n] w fun e w' => ∃ x : Nat, ((x : Int) < n ∨ (n ≤ 0 ∧ x = 0)) ∧ e = .returned (.int .i64 x) ∧ Cur ac len cap w' g ∧ w.grownBy w' (some g) := by
  by_cases h0 : n ≤ 0
  · go_enter Tryz.func16, Tryz.ntmps16
    go_wp2
    go_ret
    exact ⟨0, .inr ⟨h0, rfl⟩, rfl, hC, ⟨rfl, rfl, rfl, Nat.le_refl _, fun _ _ _ => rfl⟩⟩
  · obtain ⟨m, rfl⟩ : ∃ m : Nat, n = m := ⟨n.toNat, by omega⟩
    have hm0 : 0 < m := by omega
    have hmi : (0 : Int) < (m : Int) := by omega
    have hne : ((m : Int) == 0) = false := by rw [beq_eq_false_iff_ne]; omega
    by_cases h256 : m ≤ 256
    · go_enter Tryz.func16, Tryz.ntmps16
      go_wp2_with fail
      refine (l01Byte_any ac len cap g _ hC).mono ?_
      rintro e w1 ⟨x, hx, rfl, hC1, gr1⟩
      have hlt := Nat.mod_lt x hm0
      go_wp2
      go_ret
      exact ⟨x % m, .inl (by omega), ret_int rfl, hC1, gr1⟩
    · have h257 : 256 < m := by omega
      go_enter Tryz.func16, Tryz.ntmps16
      go_wp2_with fail
      refine (l01Byte_any ac len cap g _ hC).mono ?_
      rintro e w1 ⟨x, hx, rfl, hC1, gr1⟩
      go_wp2_with fail
      refine (l01Byte_any ac len cap g _ hC1).mono ?_
      rintro e w2 ⟨y, hy, rfl, hC2, gr2⟩
      go_wp2_with fail
      refine (l01Byte_any ac len cap g _ hC2).mono ?_
      rintro e w3 ⟨z, hz, rfl, hC3, gr3⟩
      go_wp2_with fail
      refine (l01Byte_any ac len cap g _ hC3).mono ?_
      rintro e w4 ⟨q, hq, rfl, hC4, gr4⟩
      have hlt := Nat.mod_lt (x * 16777216 + y * 65536 + z * 256 + q) hm0
      go_wp2
      go_ret
      exact ⟨(x * 16777216 + y * 65536 + z * 256 + q) % m, .inl (by omega), ret_int (by simp), hC4, ((gr1.trans gr2).trans gr3).trans gr4⟩

theorem l01Below_nat (ac : Option Addr) (len cap g n : Nat) (w : World) (hC : Cur ac len cap w g) (h0 : 0 < n) (hn : n ≤ 4294967296) :
    Calls Tryz.prog 16 #[.pointer (some ⟨g, 0, none⟩), .int .i64 n] w fun e w' => ∃ x : Nat, x < n ∧ e = .returned (.int .i64 x) ∧ Cur ac len cap w' g ∧ w.grownBy w' (some g) := by
  refine (l01Below_any ac len cap g n w hC (by omega)).mono fun e w' ⟨x, hx, h⟩ => ⟨x, by omega, h⟩

set_option maxHeartbeats 400000 in
set_option maxRecDepth 100000 in
theorem l01Once_any (ac : Option Addr) (len cap g n : Nat) (w : World) (hC : Cur ac len cap w g) (h0 : 0 < n) (hn : n ≤ 4294967296) :
    Calls Tryz.prog 20 #[.pointer (some ⟨g, 0, none⟩), .int .i64 n] w fun e w' => ∃ b : Bool, e = .returned (.bool b) ∧ Cur ac len cap w' g ∧ w.grownBy w' (some g) := by
  go_enter Tryz.func20, Tryz.ntmps20
  go_wp2_with fail
  refine (l01Below_nat ac len cap g n _ hC h0 hn).mono ?_
  rintro e w1 ⟨x, hx, rfl, hC1, gr1⟩
  go_wp2
  go_ret
  exact ⟨_, rfl, hC1, gr1⟩

theorem cur_new {w : World} {ac : Option Addr} {len cap : Nat} (hc : CodeIn w ac len w.heap.size) (h : Int) : Cur ac len cap (w.alloc (.cells #[.slice ac len cap, .int .i64 0, .int .i64 h] 53)) w.heap.size :=
  ⟨codeIn_kept hc (World.grownBy_alloc _ _ _), by simp, 0, h, Nat.zero_le _, heap_alloc_new w _⟩

set_option maxHeartbeats 1000000 in
set_option maxRecDepth 100000 in
theorem l01New_any (ac : Option Addr) (len cap : Nat) (w : World) (hc : CodeIn w ac len w.heap.size) :
    Calls Tryz.prog 10 #[.slice ac len cap] w fun e w' => ∃ g, e = .returned (.pointer (some ⟨g, 0, none⟩)) ∧ w.heap.size ≤ g ∧ Cur ac len cap w' g ∧ Below w.heap.size w w' := by
  have hl := hc.1
  go_enter Tryz.func10, Tryz.ntmps10
  go_wp2
  go_loop [3, 4] (fun x y => ∃ (h : Int) (i : Nat), i ≤ len ∧ x = .int .i64 h ∧ y = .int .i64 i) (fun _ y => len - (intOf y).toNat)
  case atStart => exact ⟨_, 0, Nat.zero_le _, rfl, rfl⟩
  case round =>
    obtain ⟨h, i, hi, rfl, rfl⟩ := hrel
    by_cases hil : i < len
    · obtain ⟨b, off, rfl, hbg, hbl, hcs⟩ := hc.2 (by omega)
      obtain ⟨z, hz, hcz⟩ := hcs i hil
      have hil' : (i : Int) < (len : Int) := by omega
      have hi0 : (0 : Int) ≤ (i : Int) := by omega
      clear hcs
      by_cases h4 : i < 4000
      · have h4' : (i : Int) < 4000 := by omega
        go_wp2
        go_round
        case rel => exact ⟨_, i + 1, by omega, rfl, by go_num⟩
        case measure => simp [intOf]; omega
      · have d : decide ((i : Int) < 4000) = false := by simp; omega
        go_wp2
        go_ret
        exact ⟨w.heap.size, rfl, Nat.le_refl _, cur_new hc _, (Below.refl _ _).alloc (Nat.le_refl _) _⟩
    · go_wp2
      go_ret
      exact ⟨w.heap.size, rfl, Nat.le_refl _, cur_new hc _, (Below.refl _ _).alloc (Nat.le_refl _) _⟩

end Go.Proofs.YtcabanghegddhaaGreatDoor

namespace Go.Proofs.YtcabanghegddhaaGreatDoor
open Go.RowKit
set_option linter.unusedVariables false

theorem cur_alloc {ac : Option Addr} {len cap g : Nat} {w : World} (h : Cur ac len cap w g) (o : Obj) : Cur ac len cap (w.alloc o) g := by
  obtain ⟨h1, h2, i, hh, h3, h4⟩ := h
  exact ⟨codeIn_kept h1 (World.grownBy_alloc _ _ _), by simp; omega, i, hh, h3, by rw [Below.heap_alloc w o g h2]; exact h4⟩

theorem gr_below {w w1 w2 : World} {row : Option Nat} (gr : w.grownBy w1 row) (b : Below w.heap.size w1 w2) : w.grownBy w2 row :=
  ⟨b.os.trans gr.os, b.tape.trans gr.tape, b.output.trans gr.output, Nat.le_trans gr.size b.size, fun k hk hr => (b.block k hk).trans (gr.block k hk hr)⟩
theorem cur_below {ac : Option Addr} {len cap g : Nat} {w w1 w2 : World} (h : Cur ac len cap w g) (h1 : Cur ac len cap w1 g) (b : Below w.heap.size w1 w2) : Cur ac len cap w2 g := by
  obtain ⟨⟨hc1, hc2⟩, hlt, _⟩ := h
  obtain ⟨⟨hd1, hd2⟩, hlt1, i, hh, h3, h4⟩ := h1
  refine ⟨⟨hd1, fun hp => ?_⟩, Nat.lt_of_lt_of_le hlt1 b.size, i, hh, h3, by rw [b.block g hlt]; exact h4⟩
  obtain ⟨x, off, e, hx, hxl, _⟩ := hc2 hp
  obtain ⟨y, off', e', hy, hyl, hc⟩ := hd2 hp
  rw [e] at e'
  injection e' with e1
  injection e1 with e2 e3
  subst e2
  subst e3
  exact ⟨x, off, e, hx, Nat.lt_of_lt_of_le hyl b.size, fun j hj => by obtain ⟨z, hz, hcz⟩ := hc j hj; exact ⟨z, hz, (b.cell hxl).trans hcz⟩⟩

def drawnNumbers : List Int := [-1, 0, 127, 128, 16383, 16384, 1000000000, 1000000001, 9223372036854775807, -9223372036854775808]

set_option maxHeartbeats 1000000 in
set_option maxRecDepth 100000 in
theorem l01Text_any (ac : Option Addr) (len cap g n : Nat) (w : World) (hC : Cur ac len cap w g) (hn : n ≤ 5000) :
    Calls Tryz.prog 45 #[.pointer (some ⟨g, 0, none⟩), .int .i64 n] w fun e w' => ∃ s : ByteArray, s.size = n ∧ e = .returned (.string s) ∧ Cur ac len cap w' g ∧ w.grownBy w' (some g) := by
  obtain ⟨i0, hi, hz0, hz1, hz2⟩ := info_parts Tryz.infoByte
  have hg := hC.2.1
  go_enter Tryz.func45, Tryz.ntmps45
  go_wp2
  go_loopw [5, 6] (fun v x wr => ∃ (k : Nat) (xs : List Int), k ≤ n ∧ x = .int .i64 k ∧ xs.length = k ∧ wr.ownsRow w.heap.size 5 1 v k (xs.map (Value.int .u8)) ∧ Cur ac len cap wr g ∧ w.grownBy wr (some g)) (fun _ x _ => n - (intOf x).toNat)
  case atStart => exact ⟨0, [], Nat.zero_le _, rfl, rfl, World.ownsRow_made w #[] 0 (Nat.le_refl _) (Nat.zero_le _) rfl, cur_alloc hC _, World.grownBy_alloc _ _ _⟩
  case round =>
    obtain ⟨k, xs, hk, rfl, hxs, hown, hCr, gr⟩ := hrel
    have hsz := gr.size
    by_cases hlt : k < n
    · go_wp2_with fail
      refine (l01Byte_any ac len cap g wr hCr).mono ?_
      rintro e w1 ⟨x, hx, rfl, hC1, gr1⟩
      have hown1 : w1.ownsRow w.heap.size 5 1 _ k (xs.map (Value.int .u8)) := hown.kept gr1 (by
        cases hv : Value.ownBlock _ with
        | none => exact .inl rfl
        | some q => exact .inr (by have := (hown.lt q hv).1; simp; omega))
      have hsz1 := gr1.size
      go_wp2_with (at_builtin; refine append_one (w0 := w1) rfl _ _ 22 rfl w.heap.size 5 i0 (.int .u8 0) 1 Tryz.underlying22 hi hz0 hz1 hz2 rfl _ _ _ rfl hown1 (.int .u8 (x : Int)) rfl rfl (by omega) (by decide) (Below.refl _ _) (by omega) ?_)
      intro v' w2 hown' hbel'
      have hC2 := cur_below hC hC1 hbel'
      have gr2 := gr_below (gr.trans gr1) hbel'
      have hrow : w2.ownsRow w.heap.size 5 1 v' (k + 1) ((xs ++ [(x : Int)]).map (Value.int .u8)) := by simpa using hown'
      clear hown' hown hown1 gr gr1 hC hCr
      go_wp2
      go_roundw
      case rel => exact ⟨k + 1, xs ++ [(x : Int)], by omega, by go_num, by simp [hxs], hrow, hC2, gr2⟩
      case measure => simp [intOf]; omega
    · obtain rfl : k = n := by omega
      have hcv := conv_own (P := Tryz.prog) xs Tryz.underlying22 Tryz.underlying5 Tryz.underlying9 hown
      go_wp2
      go_ret
      exact ⟨strOfNums xs, by rw [strOfNums_size]; exact hxs, rfl, hCr, gr⟩

theorem own_thawed {w : World} {B : Nat} {e : TypeId} {g n c : Nat} {xs : List Value} (h : w.ownsRow B e 1 (.slice (some ⟨g, 0, none⟩) n c) n xs) (j : Nat) : w.frozen? ⟨g, j, none⟩ = false := by
  rcases h.2 with ⟨h', _⟩ | ⟨g', cap', cur, h', hb, hg, _⟩
  · simp at h'
  · simp only [Value.slice.injEq, Option.some.injEq, Addr.mk.injEq, and_true, true_and] at h'
    obtain ⟨rfl, rfl⟩ := h'
    unfold World.frozen?
    simp only [hg]
    simp

set_option maxHeartbeats 1000000 in
set_option maxRecDepth 100000 in
theorem l01Long_any (n : Nat) (y : Int) (w : World) (hn : n ≤ 1000000) :
    Calls Tryz.prog 21 #[.int .i64 n, .int .u8 y] w fun e w' => ∃ s : ByteArray, s.size = n ∧ e = .returned (.string s) ∧ Below w.heap.size w w' := by
  obtain ⟨i0, hi, hz0, hz1, hz2⟩ := info_parts Tryz.infoByte
  have hmk := fun W : World => run_make (P := Tryz.prog) W 22 5 i0 (.int .u8 0) Tryz.underlying22 hi hz0 .i64 .i64 (n : Int) (n : Int) (by omega) (by omega) (by rw [hz2]; omega) (by omega)
  go_enter Tryz.func21, Tryz.ntmps21
  go_wp2
  clear hmk
  go_loopw [6] (fun x wr => ∃ (k : Nat) (zs : List Int), k ≤ n ∧ x = .int .i64 k ∧ zs.length = n ∧ wr.ownsRow w.heap.size 5 1 (.slice (some ⟨w.heap.size, 0, none⟩) n n) n (zs.map (Value.int .u8)) ∧ Below w.heap.size w wr) (fun x _ => n - (intOf x).toNat)
  case atStart =>
    refine ⟨0, List.replicate n 0, Nat.zero_le _, rfl, by simp, ⟨by simp, .inr ⟨w.heap.size, n, _, rfl, Nat.le_refl _, heap_alloc_new w _, Nat.le_refl _, by unfold maxLen; omega, by simp [size_madeCells], ?_⟩⟩, (Below.refl _ _).alloc (Nat.le_refl _) _⟩
    rw [toList_madeCells_one, Nat.mul_one, List.map_replicate, List.take_of_length_le (by simp)]
  case round =>
    obtain ⟨k, zs, hk, rfl, hzl, hown, hbel⟩ := hrel
    by_cases hlt : k < n
    · have hki : (k : Int) < (n : Int) := by omega
      have hk0 : (0 : Int) ≤ (k : Int) := by omega
      have hc1 : wr.cell? ⟨w.heap.size, k, none⟩ = some (.int .u8 (zs[k]'(by omega))) := by
        have h := hown.cells (g := w.heap.size) rfl k (.int .u8 (zs[k]'(by omega))) (by rw [List.getElem?_map, List.getElem?_eq_getElem (by omega)]; rfl)
        have hp : (⟨w.heap.size, 0, none⟩ : Addr).add k = ⟨w.heap.size, k, none⟩ := by unfold Addr.add; split <;> simp_all
        rw [← hp]; exact h
      have hf1 : wr.frozen? ⟨w.heap.size, k, none⟩ = false := own_thawed hown k
      have st := hown.stored k (.int .u8 y)
      have HS : Hid _ := st
      clear st
      go_wp2
      go_roundw
      case rel => exact ⟨k + 1, zs.set k y, by omega, by go_num, by simpa using hzl, by rw [List.map_set]; exact HS.out.1, hbel.setCell (Nat.le_refl _) _⟩
      case measure => simp [intOf]; omega
    · obtain rfl : k = n := by omega
      have hcv := conv_own (P := Tryz.prog) zs Tryz.underlying22 Tryz.underlying5 Tryz.underlying9 hown
      go_wp2
      go_ret
      exact ⟨strOfNums zs, by rw [strOfNums_size]; exact hzl, rfl, hbel⟩

theorem l01Long_at {x : Int} (n : Nat) (hx : x = n) (y : Int) (w : World) (hn : n ≤ 1000000) :
    Calls Tryz.prog 21 #[.int .i64 x, .int .u8 y] w fun e w' => ∃ s : ByteArray, s.size = n ∧ e = .returned (.string s) ∧ Below w.heap.size w w' := by
  subst hx; exact l01Long_any n y w hn

theorem codeIn_of {w : World} {a : Option Addr} {len cap : Nat} {zs : List Int} (h : (a = none ∧ len = 0 ∧ cap = 0 ∧ zs = []) ∨ ∃ x, a = some x ∧ len ≤ cap ∧ cap ≤ maxLen ∧ zs.length = cap ∧ (∀ i, i < zs.length → w.cell? (x.add i) = some (.int .u8 (zs.getD i 0))) ∧ ∀ n ∈ zs, (Lit.int .u8 n).wf = true) (hl : len ≤ 1048576) : CodeIn w a len w.heap.size := by
  refine ⟨hl, fun hp => ?_⟩
  rcases h with ⟨_, h0, _⟩ | ⟨⟨b, off, spot⟩, rfl, hlc, _, hz, hc, hw⟩
  · omega
  · have h0 := hc 0 (by omega)
    have hs : spot = none := by simpa [Addr.add] using World.cell?_spot h0
    subst hs
    have hp0 : ∀ j, (⟨b, off, none⟩ : Addr).add j = ⟨b, off + j, none⟩ := fun j => by unfold Addr.add; split <;> simp_all
    have hlt : b < w.heap.size := by
      have := World.block_lt_of_cell? w _ h0
      rw [hp0] at this
      exact this
    refine ⟨b, off, rfl, by omega, hlt, fun j hj => ?_⟩
    have hj2 : j < zs.length := by omega
    have hcj := hc j hj2
    rw [hp0, List.getD_eq_getElem?_getD, List.getElem?_eq_getElem hj2] at hcj
    have hwj := hw _ (List.getElem_mem hj2)
    have hb : 0 ≤ zs[j] ∧ zs[j] ≤ 255 := bounds_u8 hwj
    refine ⟨zs[j].toNat, by omega, ?_⟩
    rw [hcj]
    simp only [Option.getD_some]
    congr 2
    omega
theorem codeIn_later {w w' : World} {ac : Option Addr} {len g : Nat} (h : CodeIn w ac len g) (b : Below w.heap.size w w') : CodeIn w' ac len w'.heap.size := by
  refine ⟨h.1, fun hp => ?_⟩
  obtain ⟨x, off, e, _, hlt, hc⟩ := h.2 hp
  have hs := b.size
  exact ⟨x, off, e, by omega, by omega, fun j hj => by obtain ⟨z, hz, hcz⟩ := hc j hj; exact ⟨z, hz, (b.cell hlt).trans hcz⟩⟩

set_option maxHeartbeats 400000 in
set_option maxRecDepth 100000 in
theorem big_any (ac : Option Addr) (len cap : Nat) (w : World) (hl : len ≤ 9223372036854775807) :
    Calls Tryz.prog 4 #[.slice ac len cap] w fun e w' => e = .returned (.bool (decide (1048576 < (len : Int)))) ∧ w = w' := by
  go_enter Tryz.func4, Tryz.ntmps4
  go_wp2
  go_ret
  exact ⟨rfl, rfl⟩

end Go.Proofs.YtcabanghegddhaaGreatDoor
