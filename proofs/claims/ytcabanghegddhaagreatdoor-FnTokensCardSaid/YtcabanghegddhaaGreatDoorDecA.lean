/-
  Several texts in one: Figure, Step, Dec.
-/
import Derived.Test.YtcabanghegddhaaGreatDoorBaseA
import Derived.Deep.RegionLaw
namespace Go.Proofs.YtcabanghegddhaaGreatDoor
open Go.RowKit
set_option linter.unusedVariables false

set_option maxHeartbeats 400000 in
set_option maxRecDepth 100000 in
theorem l01Figure_any (x : Nat) (w : World) (h : x < 16) :
    Calls Tryz.prog 57 #[.int .i64 x] w fun e w' => e = .returned (.int .u8 (fig x)) ∧ w = w' := by
  by_cases h10 : x < 10
  · have E : Hid (fig x = 48 + x) := if_pos h10
    go_enter Tryz.func57, Tryz.ntmps57
    go_wp2
    go_ret
    exact ⟨by rw [E.out]; rfl, rfl⟩
  · have E : Hid (fig x = 87 + x) := if_neg h10
    go_enter Tryz.func57, Tryz.ntmps57
    go_wp2
    go_ret
    exact ⟨ret_int (by rw [E.out]; omega), rfl⟩

theorem l01Figure_int (x : Int) (w : World) (h0 : 0 ≤ x) (h : x < 16) :
    Calls Tryz.prog 57 #[.int .i64 x] w fun e w' => e = .returned (.int .u8 (fig x.toNat)) ∧ w = w' := by
  obtain ⟨N, rfl⟩ : ∃ N : Nat, x = N := ⟨x.toNat, by omega⟩
  exact l01Figure_any N w (by omega)

end Go.Proofs.YtcabanghegddhaaGreatDoor

namespace Go.Proofs.YtcabanghegddhaaGreatDoor
open Go.RowKit

theorem cells_new (w : World) (ys : List Value) (t : TypeId) : ∀ j u, ys[j]? = some u → (w.alloc (.cells ys.toArray t)).cell? ((⟨w.heap.size, 0, none⟩ : Addr).add j) = some u := by
  intro j u hj
  have hp : (⟨w.heap.size, 0, none⟩ : Addr).add j = ⟨w.heap.size, j, none⟩ := by unfold Addr.add; split <;> simp_all
  rw [hp]
  have h := heap_alloc_new w (.cells ys.toArray t)
  unfold World.cell?
  simp only [h]
  simpa using hj

/-- ys was laid in a block of its own, in the world w; then the tape may have been asked (d) -/
theorem step_append_own {P : Program} {ops : Array Oper} {o : Oper} {a : Act} {w w0 W : World} {K : Act → World → Prop} {Q : Exit → Act → World → Prop} {E : Prop}
    (hg : o.guard = none) (s x : Operand) (t : TypeId) (hop : o.op = Op.call { callee := Callee.builtin Builtin.append, args := #[s, x], argTypes := #[t, t] })
    (base : Nat) (e : TypeId) (i : TypeInfo) (z : Value) (bytes : Nat) (ht : P.underlying t = some (.slice e)) (hi : P.info? e = some i) (hz : i.zero = some z)
    (hsize : i.size = 1) (hby : i.bytes = bytes) (hzs : z.cells.size = 1)
    (v : Value) (n : Nat) (xs : List Value) (hs : a.eval s = v) (hown : w.ownsRow base e 1 v n xs)
    (ys : List Value) (m : Nat) (hm : ys.length = m) (hx : a.eval x = .slice (some ⟨w.heap.size, 0, none⟩) m m) (hy : ∀ y ∈ ys, y.oneCell' = true)
    (hW : W = w.alloc (.cells ys.toArray e) ∨ W = (w.alloc (.cells ys.toArray e)).drew)
    (hn : n + m < 1000000000000) (hb : bytes ≤ 64) (hbel : Below base w0 w) (hbase : base ≤ w.heap.size)
    (h : ∀ v' w', w'.ownsRow base e 1 v' (n + m) (xs ++ ys) → Below base w0 w' → K (a.put o.dst v') w') :
    if Region.wanted o (yielded ops a.tmps) = true then Oper.wp P o a W K Q else E := by
  have hw : Region.wanted o (yielded ops a.tmps) = true := by simp [Region.wanted, hg]
  rw [if_pos hw]
  have hbytes : (n + m) * bytes ≤ 140737488355328 := by
    have : (n + m) * bytes ≤ 1000000000000 * 64 := Nat.mul_le_mul (by omega) hb
    omega
  have hcell : ∀ j u, ys[j]? = some u → W.cell? ((⟨w.heap.size, 0, none⟩ : Addr).add j) = some u := by
    intro j u hj
    rcases hW with rfl | rfl
    · exact cells_new w ys e j u hj
    · exact cells_new w ys e j u hj
  have hownW : W.ownsRow base e 1 v n xs := by
    rcases hW with rfl | rfl
    · exact hown.alloc _
    · exact hown.alloc _
  have hszW : W.heap.size = w.heap.size + 1 := by
    rcases hW with rfl | rfl
    · simp
    · simp
  have hbelW : Below base w0 W := by
    rcases hW with rfl | rfl
    · exact hbel.alloc hbase _
    · exact (hbel.alloc hbase _).drew
  exact wp_append_own W s x t hop base e i z 1 bytes ht hi hz hsize hby hzs (by decide) v n xs hs hownW ⟨w.heap.size, 0, none⟩ m m ys hx (by omega) hcell hy (by unfold maxLen; omega) hbytes (by omega)
    (fun v' w' h1 h2 _ => h v' w' h1 (hbelW.grown h2 (by omega) (fun k hk => (hown.lt k hk).1)))

theorem two_cells (k : IntKind) (a b : Int) : ∀ y ∈ [Value.int k a, Value.int k b], y.oneCell' = true := by
  intro y hy
  simp only [List.mem_cons, List.not_mem_nil, or_false] at hy
  rcases hy with rfl | rfl <;> rfl

end Go.Proofs.YtcabanghegddhaaGreatDoor

namespace Go.Proofs.YtcabanghegddhaaGreatDoor
open Go.RowKit
set_option linter.unusedVariables false

theorem conv_new {P : Program} (w : World) {e src dst : TypeId} (y : Int) (hs : P.underlying src = some (.slice e)) (he : P.underlying e = some (.int .u8)) (hd : P.underlying dst = some .string) :
    (convert src dst (.slice (some ⟨w.heap.size, 0, none⟩) 1 1)).run P (w.alloc (.cells #[.int .u8 y] e)) = .ok (.string (strOfNums [y])) (w.alloc (.cells #[.int .u8 y] e)) := by
  refine run_convert_bytes_arg _ src e hs he w.heap.size 0 1 1 [y] rfl (fun i hi => ?_) dst hd
  obtain rfl : i = 0 := by omega
  exact cells_new w [.int .u8 y] e 0 _ rfl

set_option maxHeartbeats 1000000 in
set_option maxRecDepth 100000 in
theorem specDecimal_pos (u : Nat) (w : World) (h0 : u ≠ 0) (hu : u ≤ 9223372036854775807) :
    Calls Tryz.prog 43 #[.int .i64 u] w fun e w' => e = .returned (.string ⟨(Lib.decDigits u).toArray⟩) ∧ Below w.heap.size w w' := by
  have hne : ((u : Int) == 0) = false := by simp; omega
  go_enter Tryz.func43, Tryz.ntmps43
  go_wp2
  go_loopw [0, 4] (fun x v wr => ∃ (m : Nat) (l : List UInt8), x = .int .i64 m ∧ v = .string ⟨l.toArray⟩ ∧ DecAt u m l ∧ Below w.heap.size w wr) (fun x _ _ => (intOf x).toNat)
  case atStart => exact ⟨u, [], rfl, rfl, decAt_first h0, Below.refl _ _⟩
  case round =>
    obtain ⟨m, l, rfl, rfl, hD, hbel⟩ := hrel
    have hsz := hbel.size
    have hlen := decAt_len hD
    have hmu : m ≤ u := hD.2.1
    have HD : Hid (DecAt u m l) := hD
    clear hD
    by_cases hm : m = 0
    · subst hm
      have E : Hid (l = Lib.decDigits u) := decAt_last HD.out
      go_wp2
      go_ret
      exact ⟨by rw [← E.out]; rfl, hbel⟩
    · have hne2 : ((m : Int) != 0) = true := by simp; omega
      have b1 : (0 : Int) ≤ (m : Int) % 10 := by omega
      have b2 : (m : Int) % 10 < 16 := by omega
      have hcv := fun y => conv_new (P := Tryz.prog) wr y Tryz.underlying22 Tryz.underlying5 Tryz.underlying9
      have hz : (strOfNums [(fig (m % 10) : Int)]).size = 1 := by rw [strOfNums_size]; rfl
      go_wp2_with (go_at_call 57; refine (l01Figure_int _ _ ?_ ?_).mono ?_; with_reducible assumption; with_reducible assumption; rintro e w' ⟨rfl, rfl⟩)
      go_roundw
      case rel =>
        refine ⟨m / 10, UInt8.ofNat (48 + m % 10) :: l, by go_num, ?_, decAt_step hm HD.out, hbel.alloc hsz _⟩
        rw [str_cons, fig_small (by omega)]
      case measure => simp [intOf]; omega

set_option maxHeartbeats 400000 in
set_option maxRecDepth 100000 in
theorem specDecimal_zero (w : World) :
    Calls Tryz.prog 43 #[.int .i64 0] w fun e w' => e = .returned (.string ⟨(Lib.decDigits 0).toArray⟩) ∧ Below w.heap.size w w' := by
  have E : Hid (Lib.decDigits 0 = [48]) := by
    show Lib.decDigits 0 = [48]
    rw [Lib.decDigits, dif_pos (by omega)]; rfl
  go_enter Tryz.func43, Tryz.ntmps43
  go_wp2
  go_ret
  exact ⟨by rw [E.out]; rfl, Below.refl _ _⟩

theorem specDecimal_nat (u : Nat) (w : World) (hu : u ≤ 9223372036854775807) :
    Calls Tryz.prog 43 #[.int .i64 u] w fun e w' => e = .returned (.string ⟨(Lib.decDigits u).toArray⟩) ∧ Below w.heap.size w w' := by
  by_cases h : u = 0
  · subst h; exact specDecimal_zero w
  · exact specDecimal_pos u w h hu

end Go.Proofs.YtcabanghegddhaaGreatDoor
