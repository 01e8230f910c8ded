/-
  The drawing cursor of the specification's draws: what each step leaves.
-/
import Derived.Test.YtlplljgcgohonaaRows
import Derived.Test.YtlplljgcgohonaaBase
import Derived.Deep.QuietTactic
import Derived.BigQuiet
namespace Go.Proofs.Ytlplljgcgohonaa
open Go.RowKit
set_option linter.unusedVariables false

theorem i64_and255 (n : Int) : bits .and .i64 n 255 = n % 256 := by
  have h127 : (BitVec.ofInt 64 255).toNat = 2 ^ 8 - 1 := by decide
  have key : (BitVec.ofInt 64 n &&& BitVec.ofInt 64 255).toNat = (n % ((2 ^ 64 : Nat) : Int)).toNat % 2 ^ 8 := by
    rw [BitVec.toNat_and, BitVec.toNat_ofInt, h127, Nat.and_two_pow_sub_one_eq_mod]
  show IntKind.i64.wrap ((BitVec.ofInt 64 n &&& BitVec.ofInt 64 255).toNat : Nat) = n % 256
  rw [key, IntKind.wrap_i64]
  omega

theorem and255_nat (n : Int) : ∃ x : Nat, x < 256 ∧ bits .and .i64 n 255 = (x : Int) := ⟨(n % 256).toNat, by omega, by rw [i64_and255]; omega⟩

/-- the bytes that came in can be read, and do not lie in block g -/
def CodeIn (w : World) (ac : Option Addr) (len g : Nat) : Prop :=
  len ≤ 1048576 ∧ (0 < len → ∃ b off, ac = some ⟨b, off, none⟩ ∧ b ≠ g ∧ b < w.heap.size ∧ ∀ j, j < len → ∃ z : Nat, z < 256 ∧ w.cell? ⟨b, off + j, none⟩ = some (.int .u8 z))

/-- block g is a cursor over those bytes -/
def Cur (ac : Option Addr) (len cap : Nat) (w : World) (g : Nat) : Prop :=
  CodeIn w ac len g ∧ g < w.heap.size ∧ ∃ (i : Nat) (h : Int), i ≤ len ∧ w.heap[g]? = some (.cells #[.slice ac len cap, .int .i64 i, .int .i64 h] 127 (0, 0))

theorem codeIn_kept {w w' : World} {ac : Option Addr} {len g : Nat} (h : CodeIn w ac len g) (hg : w.grownBy w' (some g)) : CodeIn w' ac len g := by
  refine ⟨h.1, fun hp => ?_⟩
  obtain ⟨b, off, e, hb, hlt, hc⟩ := h.2 hp
  refine ⟨b, off, e, hb, Nat.lt_of_lt_of_le hlt hg.size, fun j hj => ?_⟩
  obtain ⟨z, hz, hcz⟩ := hc j hj
  exact ⟨z, hz, hg.cell hcz (by simpa using hb)⟩

theorem cur_cells {w : World} {g : Nat} {a b c : Value} {t : TypeId} (h : w.heap[g]? = some (.cells #[a, b, c] t (0, 0))) :
    w.cell? ⟨g, 0, none⟩ = some a ∧ w.cell? ⟨g, 1, none⟩ = some b ∧ w.cell? ⟨g, 2, none⟩ = some c ∧ ∀ j, w.frozen? ⟨g, j, none⟩ = false := by
  refine ⟨?_, ?_, ?_, fun j => ?_⟩
  · unfold World.cell?; simp only [h]; rfl
  · unfold World.cell?; simp only [h]; rfl
  · unfold World.cell?; simp only [h]; rfl
  · unfold World.frozen?; simp only [h]; simp

theorem grown_set (w : World) (g j : Nat) (v : Value) : w.grownBy (w.setCell ⟨g, j, none⟩ v) (some g) :=
  ⟨rfl, rfl, rfl, by simp, fun k _ hk => heap_setCell_other w ⟨g, j, none⟩ k v (fun e => hk (by simp [e]))⟩
theorem grown_drewN (w : World) (n : Nat) (row : Option Nat) : w.grownBy (w.drewN n) row := ⟨rfl, rfl, rfl, Nat.le_refl _, fun _ _ _ => rfl⟩

set_option maxHeartbeats 1000000 in
set_option maxRecDepth 100000 in
theorem l01Byte_any (ac : Option Addr) (len cap g : Nat) (w : World) (hC : Cur ac len cap w g) :
    Calls Try.prog 73 #[.pointer (some ⟨g, 0, none⟩)] w fun e w' => ∃ x : Nat, x < 256 ∧ e = .returned (.int .i64 x) ∧ Cur ac len cap w' g ∧ w.grownBy w' (some g) := by
  obtain ⟨hcode, hlt, i, h, hi, hg⟩ := hC
  obtain ⟨c0, c1, c2, hf⟩ := cur_cells hg
  have f1 := hf 1
  have f2 := hf 2
  clear hf
  go_enter Try.func73, Try.ntmps73
  go_wp2
  obtain ⟨h1, hh1⟩ : ∃ h1, h1 = wrap64 (wrap64 (h * 6364136223846793005) + 1442695040888963407) := ⟨_, rfl⟩
  rw [← hh1]
  clear hh1
  obtain ⟨W, hW⟩ : ∃ W, W = w.setCell ⟨g, 2, none⟩ (.int .i64 h1) := ⟨_, rfl⟩
  rw [← hW]
  have hgW : W.heap[g]? = some (.cells #[.slice ac len cap, .int .i64 i, .int .i64 h1] 127 (0, 0)) := by rw [hW, heap_setCell_same _ _ _ _ _ _ hg]; rfl
  have grW : w.grownBy W (some g) := by rw [hW]; exact grown_set _ _ _ _
  have codeW := codeIn_kept hcode grW
  clear hW c0 c1 c2 f1 f2 hg hcode
  obtain ⟨c0, c1, c2, hf⟩ := cur_cells hgW
  have f1 := hf 1
  clear hf
  go_quiet (fail)
  go_wp2
  obtain ⟨x0, hx1, hx0⟩ := and255_nat (bits BinOp.xor IntKind.i64 (h1 / 8589934592) (h1 / 35184372088832))
  rw [hx0]
  clear hx0
  have hl : len ≤ 1048576 := codeW.1
  by_cases hil : i < len
  · obtain ⟨b, off, rfl, hbg, hbl, hcs⟩ := codeW.2 (by omega)
    obtain ⟨z, hz, hcz⟩ := hcs i hil
    have hil' : (i : Int) < (len : Int) := by omega
    have hi0 : (0 : Int) ≤ (i : Int) := by omega
    clear hcs
    go_quiet (fail)
    go_wp2
    go_quiet (fail)
    go_wp2
    obtain ⟨x1, hx3, hx2⟩ := and255_nat ((x0 : Int) + (z : Int))
    go_ret
    refine ⟨x1, hx3, by rw [← hx2]; rfl, ⟨codeIn_kept (codeIn_kept codeW (grown_drewN _ _ _)) (grown_set _ _ _ _), ?_, i + 1, h1, by omega, ?_⟩, (grW.trans (grown_drewN _ _ _)).trans (grown_set _ _ _ _)⟩
    · have := grW.size
      simp [World.drewN]; omega
    · rw [heap_setCell_same _ _ _ _ _ _ (show (W.drewN _).heap[g]? = _ from hgW)]; rfl
  · have d : decide ((i : Int) < (len : Int)) = false := by simp; omega
    go_quiet (fail)
    go_wp2
    go_ret
    exact ⟨x0, hx1, rfl, ⟨codeIn_kept (codeIn_kept codeW (grown_drewN _ _ _)) (grown_drewN _ _ _), by have := grW.size; simp [World.drewN]; omega, i, h1, hi, hgW⟩, (grW.trans (grown_drewN _ _ _)).trans (grown_drewN _ _ _)⟩

set_option maxHeartbeats 1000000 in
set_option maxRecDepth 100000 in
theorem l01Below_any (ac : Option Addr) (len cap g : Nat) (n : Int) (w : World) (hC : Cur ac len cap w g) (hn : n ≤ 4294967296) :
    Calls Try.prog 28 #[.pointer (some ⟨g, 0, none⟩), .int .i64 n] w fun e w' => ∃ x : Nat, ((x : Int) < n ∨ (n ≤ 0 ∧ x = 0)) ∧ e = .returned (.int .i64 x) ∧ Cur ac len cap w' g ∧ w.grownBy w' (some g) := by
  by_cases h0 : n ≤ 0
  · go_enter Try.func28, Try.ntmps28
    go_wp2
    go_ret
    exact ⟨0, .inr ⟨h0, rfl⟩, rfl, hC, ⟨rfl, rfl, rfl, Nat.le_refl _, fun _ _ _ => rfl⟩⟩
  · obtain ⟨m, rfl⟩ : ∃ m : Nat, n = m := ⟨n.toNat, by omega⟩
    have hm0 : 0 < m := by omega
    have hmi : (0 : Int) < (m : Int) := by omega
    have hne : ((m : Int) == 0) = false := by rw [beq_eq_false_iff_ne]; omega
    by_cases h256 : m ≤ 256
    · go_enter Try.func28, Try.ntmps28
      go_wp2_with fail
      refine (l01Byte_any ac len cap g _ hC).mono ?_
      rintro e w1 ⟨x, hx, rfl, hC1, gr1⟩
      have hlt := Nat.mod_lt x hm0
      go_wp2
      go_ret
      exact ⟨x % m, .inl (by omega), ret_int rfl, hC1, gr1⟩
    · have h257 : 256 < m := by omega
      go_enter Try.func28, Try.ntmps28
      go_wp2_with fail
      refine (l01Byte_any ac len cap g _ hC).mono ?_
      rintro e w1 ⟨x, hx, rfl, hC1, gr1⟩
      go_wp2_with fail
      refine (l01Byte_any ac len cap g _ hC1).mono ?_
      rintro e w2 ⟨y, hy, rfl, hC2, gr2⟩
      go_wp2_with fail
      refine (l01Byte_any ac len cap g _ hC2).mono ?_
      rintro e w3 ⟨z, hz, rfl, hC3, gr3⟩
      go_wp2_with fail
      refine (l01Byte_any ac len cap g _ hC3).mono ?_
      rintro e w4 ⟨q, hq, rfl, hC4, gr4⟩
      have hlt := Nat.mod_lt (x * 16777216 + y * 65536 + z * 256 + q) hm0
      go_wp2
      go_ret
      exact ⟨(x * 16777216 + y * 65536 + z * 256 + q) % m, .inl (by omega), ret_int (by simp), hC4, ((gr1.trans gr2).trans gr3).trans gr4⟩

theorem l01Below_nat (ac : Option Addr) (len cap g n : Nat) (w : World) (hC : Cur ac len cap w g) (h0 : 0 < n) (hn : n ≤ 4294967296) :
    Calls Try.prog 28 #[.pointer (some ⟨g, 0, none⟩), .int .i64 n] w fun e w' => ∃ x : Nat, x < n ∧ e = .returned (.int .i64 x) ∧ Cur ac len cap w' g ∧ w.grownBy w' (some g) := by
  refine (l01Below_any ac len cap g n w hC (by omega)).mono fun e w' ⟨x, hx, h⟩ => ⟨x, by omega, h⟩

set_option maxHeartbeats 400000 in
set_option maxRecDepth 100000 in
theorem l01Once_any (ac : Option Addr) (len cap g n : Nat) (w : World) (hC : Cur ac len cap w g) (h0 : 0 < n) (hn : n ≤ 4294967296) :
    Calls Try.prog 30 #[.pointer (some ⟨g, 0, none⟩), .int .i64 n] w fun e w' => ∃ b : Bool, e = .returned (.bool b) ∧ Cur ac len cap w' g ∧ w.grownBy w' (some g) := by
  go_enter Try.func30, Try.ntmps30
  go_wp2_with fail
  refine (l01Below_nat ac len cap g n _ hC h0 hn).mono ?_
  rintro e w1 ⟨x, hx, rfl, hC1, gr1⟩
  go_wp2
  go_ret
  exact ⟨_, rfl, hC1, gr1⟩

theorem cur_new {w : World} {ac : Option Addr} {len cap : Nat} (hc : CodeIn w ac len w.heap.size) (h : Int) : Cur ac len cap (w.alloc (.cells #[.slice ac len cap, .int .i64 0, .int .i64 h] 127)) w.heap.size :=
  ⟨codeIn_kept hc (World.grownBy_alloc _ _ _), by simp, 0, h, Nat.zero_le _, heap_alloc_new w _⟩

set_option maxHeartbeats 1000000 in
set_option maxRecDepth 100000 in
theorem l01New_any (ac : Option Addr) (len cap : Nat) (w : World) (hc : CodeIn w ac len w.heap.size) :
    Calls Try.prog 27 #[.slice ac len cap] w fun e w' => ∃ g, e = .returned (.pointer (some ⟨g, 0, none⟩)) ∧ w.heap.size ≤ g ∧ Cur ac len cap w' g ∧ Below w.heap.size w w' := by
  have hl := hc.1
  go_enter Try.func27, Try.ntmps27
  go_wp2
  go_loop [3, 4] (fun x y => ∃ (h : Int) (i : Nat), i ≤ len ∧ x = .int .i64 h ∧ y = .int .i64 i) (fun _ y => len - (intOf y).toNat)
  case atStart => exact ⟨_, 0, Nat.zero_le _, rfl, rfl⟩
  case round =>
    obtain ⟨h, i, hi, rfl, rfl⟩ := hrel
    by_cases hil : i < len
    · obtain ⟨b, off, rfl, hbg, hbl, hcs⟩ := hc.2 (by omega)
      obtain ⟨z, hz, hcz⟩ := hcs i hil
      have hil' : (i : Int) < (len : Int) := by omega
      have hi0 : (0 : Int) ≤ (i : Int) := by omega
      clear hcs
      by_cases h4 : i < 4000
      · have h4' : (i : Int) < 4000 := by omega
        go_wp2
        go_round
        case rel => exact ⟨_, i + 1, by omega, rfl, by go_num⟩
        case measure => simp [intOf]; omega
      · have d : decide ((i : Int) < 4000) = false := by simp; omega
        go_wp2
        go_ret
        exact ⟨w.heap.size, rfl, Nat.le_refl _, cur_new hc _, (Below.refl _ _).alloc (Nat.le_refl _) _⟩
    · go_wp2
      go_ret
      exact ⟨w.heap.size, rfl, Nat.le_refl _, cur_new hc _, (Below.refl _ _).alloc (Nat.le_refl _) _⟩

end Go.Proofs.Ytlplljgcgohonaa
