/-
  Lists of texts that the call itself made: held against each other, marked, looked at again (the laws' own helpers).
-/
import Derived.Test.YtmddkfedmjdagaaRows
import Derived.Test.YtmddkfedmjdagaaDec
import Derived.Deep.QuietTactic
import Derived.BigQuiet
import Derived.Lib.QuietBelow
namespace Go.Proofs.Ytmddkfedmjdagaa
open Go.RowKit Go.Sort
set_option linter.unusedVariables false

theorem own_open {w : World} {B : Nat} {e : TypeId} {v : Value} {n : Nat} {xs : List Value} (h : w.ownsRow B e 1 v n xs) :
    ∃ x c, v = .slice x n c ∧ n ≤ maxLen ∧ xs.length = n ∧ (0 < n → ∃ g, x = some ⟨g, 0, none⟩ ∧ B ≤ g ∧ g < w.heap.size ∧ (∀ j u, xs[j]? = some u → w.cell? ⟨g, j, none⟩ = some u) ∧ ∀ j, w.frozen? ⟨g, j, none⟩ = false) := by
  have hcs := fun g hg => h.cells (g := g) hg
  have hlt := h.lt
  obtain ⟨hlen, ⟨rfl, rfl⟩ | ⟨g, cap, cur, rfl, hb, hg, hnc, hc, hsz, htk⟩⟩ := h
  · exact ⟨none, 0, rfl, Nat.zero_le _, by simpa using hlen, fun h => by omega⟩
  · refine ⟨_, _, rfl, Nat.le_trans hnc hc, by simpa using hlen, fun _ => ⟨g, rfl, hb, (hlt g rfl).2, fun j u hj => ?_, fun j => ?_⟩⟩
    · have hp : (⟨g, 0, none⟩ : Addr).add j = ⟨g, j, none⟩ := by unfold Addr.add; split <;> simp_all
      rw [← hp]; exact hcs g rfl j u hj
    · unfold World.frozen?
      simp only [hg]
      simp

set_option maxHeartbeats 400000 in
set_option maxRecDepth 100000 in
theorem eqStringS_same (B B' : Nat) (a b : Value) (n : Nat) (ls : List ByteArray) (w : World) (ha : w.ownsRow B 9 1 a n (ls.map Value.string)) (hb : w.ownsRow B' 9 1 b n (ls.map Value.string)) :
    Calls Try.prog 6 #[a, b] w fun e w' => e = .returned (.bool true) ∧ Below w.heap.size w w' := by
  obtain ⟨xa, ca, rfl, hm, hl, oa⟩ := own_open ha
  obtain ⟨xb, cb, rfl, _, _, ob⟩ := own_open hb
  clear ha hb
  unfold maxLen at hm
  have hln : ls.length = n := by simpa using hl
  clear hl
  go_enter Try.func6, Try.ntmps6
  go_wp2
  go_loopw [5] (fun i wr => ∃ k : Nat, k ≤ n ∧ i = .int .i64 k ∧ Below w.heap.size w wr) (fun i _ => n - (intOf i).toNat)
  case atStart => exact ⟨0, Nat.zero_le _, rfl, Below.refl _ _⟩
  case round =>
    obtain ⟨k, hk, rfl, hbel⟩ := hrel
    by_cases hlt : k < n
    · obtain ⟨ga, rfl, _, hga, hca, _⟩ := oa (by omega)
      obtain ⟨gb, rfl, _, hgb, hcb, _⟩ := ob (by omega)
      obtain ⟨s, hs⟩ : ∃ s, ls[k]? = some s := ⟨_, List.getElem?_eq_getElem (by omega)⟩
      have h1 : wr.cell? ⟨ga, k, none⟩ = some (.string s) := (hbel.cell hga).trans (hca k _ (by rw [List.getElem?_map, hs]; rfl))
      have h2 : wr.cell? ⟨gb, k, none⟩ = some (.string s) := (hbel.cell hgb).trans (hcb k _ (by rw [List.getElem?_map, hs]; rfl))
      have hki : (k : Int) < (n : Int) := by omega
      have hk0 : (0 : Int) ≤ (k : Int) := by omega
      clear oa ob hca hcb hs
      go_wp2
      go_quiet (fail)
      go_wp2
      go_roundw
      case rel => exact ⟨k + 1, by omega, by go_num, below_drewN hbel _⟩
      case measure => simp [intOf]; omega
    · go_wp2
      go_ret
      exact ⟨rfl, hbel⟩

/-- the mark of a number -/
def markOf (k : Nat) : ByteArray := ⟨(109 :: Lib.decDigits k).toArray⟩

theorem str_byte (a : Nat) (h : a < 256) (l : List UInt8) : strOfNums [(a : Int)] ++ (⟨l.toArray⟩ : ByteArray) = ⟨(UInt8.ofNat a :: l).toArray⟩ := by
  apply ByteArray.ext
  rw [ByteArray.data_append]
  simp [strOfNums]

set_option maxHeartbeats 1000000 in
set_option maxRecDepth 100000 in
theorem markText_any (u : Nat) (w : World) (h0 : 1 ≤ u) (hu : u ≤ 1000000000) :
    Calls Try.prog 9 #[.int .i64 u] w fun e w' => e = .returned (.string (markOf u)) ∧ Below w.heap.size w w' := by
  go_enter Try.func9, Try.ntmps9
  go_wp2
  go_loopw [0, 3] (fun x v wr => ∃ (m : Nat) (l : List UInt8), x = .int .i64 m ∧ v = .string ⟨l.toArray⟩ ∧ DecAt u m l ∧ Below w.heap.size w wr) (fun x _ _ => (intOf x).toNat)
  case atStart => exact ⟨u, [], rfl, rfl, decAt_first (by omega), Below.refl _ _⟩
  case round =>
    obtain ⟨m, l, rfl, rfl, hD, hbel⟩ := hrel
    have hsz := hbel.size
    have hlen := decAt_len hD
    have hmu : m ≤ u := hD.2.1
    have HD : Hid (DecAt u m l) := hD
    clear hD
    by_cases hm : m = 0
    · subst hm
      have E : Hid (l = Lib.decDigits u) := decAt_last HD.out
      go_wp2
      go_ret
      exact ⟨by rw [markOf, ← E.out]; rfl, hbel⟩
    · have hcv := fun y => conv_new (P := Try.prog) wr y Try.underlying28 Try.underlying5 Try.underlying9
      have hz : (strOfNums [48 + (m : Int) % 10]).size = 1 := by rw [strOfNums_size]; rfl
      go_wp2
      go_roundw
      case rel =>
        refine ⟨m / 10, UInt8.ofNat (48 + m % 10) :: l, by go_num, ?_, decAt_step hm HD.out, hbel.alloc hsz _⟩
        have := str_byte (48 + m % 10) (by omega) l
        rw [← this]
        congr 3
      case measure => simp [intOf]; omega

theorem grown_refl (w : World) (row : Option Nat) : w.grownBy w row := ⟨rfl, rfl, rfl, Nat.le_refl _, fun _ _ _ => rfl⟩
theorem grown_below {w w' : World} (h : Below w.heap.size w w') (row : Option Nat) : w.grownBy w' row := ⟨h.os, h.tape, h.output, h.size, fun k hk _ => h.block k hk⟩
theorem own_below {w w' : World} {B : Nat} {e : TypeId} {size : Nat} {v : Value} {n : Nat} {xs : List Value} (h : w.ownsRow B e size v n xs) (hb : Below w.heap.size w w') : w'.ownsRow B e size v n xs :=
  h.kept (grown_below hb none) (by cases h2 : v.ownBlock <;> simp)

/-- the marks of k, k + 1 .. -/
def marksOf (k n : Nat) : List ByteArray := (List.range n).map fun i => markOf (k + i)
theorem marks_ext {k n : Nat} {ys : List ByteArray} (hl : ys.length = n) (h : ∀ j, j < n → ys[j]? = some (markOf (k + j))) : ys = marksOf k n := by
  apply List.ext_getElem?
  intro j
  unfold marksOf
  by_cases hj : j < n
  · rw [h j hj, List.getElem?_map, List.getElem?_range hj]; rfl
  · rw [List.getElem?_eq_none (by omega), List.getElem?_eq_none (by simp; omega)]
theorem marks_at {k n j : Nat} (hj : j < n) : (marksOf k n)[j]? = some (markOf (k + j)) := by
  unfold marksOf
  rw [List.getElem?_map, List.getElem?_range hj]; rfl

theorem markText_at {x : Int} (N : Nat) (hx : x = N) (w : World) (h0 : 1 ≤ N) (hu : N ≤ 1000000000) :
    Calls Try.prog 9 #[.int .i64 x] w fun e w' => e = .returned (.string (markOf N)) ∧ Below w.heap.size w w' := by
  subst hx; exact markText_any N w h0 hu
theorem mark_cell {w w1 : World} {B : Nat} {e : TypeId} {g n c j : Nat} {xs : List Value} (h : w.ownsRow B e 1 (.slice (some ⟨g, 0, none⟩) n c) n xs) (hb : Below w.heap.size w w1) (hj : j < n) :
    (∃ u, w1.cell? ⟨g, j, none⟩ = some u) ∧ w1.frozen? ⟨g, j, none⟩ = false := by
  obtain ⟨x, c', he, _, hl, oa⟩ := own_open (own_below h hb)
  injection he with e1 e2 e3
  obtain ⟨g', hx, _, _, hc, hf⟩ := oa (by omega)
  rw [hx] at e1
  injection e1 with e4
  injection e4 with e5
  subst e5
  exact ⟨⟨_, hc j _ (List.getElem?_eq_getElem (by omega))⟩, hf j⟩

set_option maxHeartbeats 1000000 in
set_option maxRecDepth 100000 in
theorem markStringS_any (B : Nat) (a : Value) (n k : Nat) (ls : List ByteArray) (w : World) (ha : w.ownsRow B 9 1 a n (ls.map Value.string)) (h1 : 1 ≤ k) (h2 : k + n ≤ 1000000000) :
    Calls Try.prog 7 #[a, .int .i64 k] w fun e w' => e = .returned (.int .i64 ((k + n : Nat) : Int)) ∧ w'.ownsRow B 9 1 a n ((marksOf k n).map Value.string) ∧ w.grownBy w' a.ownBlock := by
  obtain ⟨x, c, rfl, hm, hl, oa⟩ := own_open ha
  have hln : ls.length = n := by simpa using hl
  clear hl
  by_cases hn : n = 0
  · subst hn
    have hls : ls = [] := List.eq_nil_of_length_eq_zero hln
    subst hls
    go_enter Try.func7, Try.ntmps7
    go_wp2
    go_loop [1, 5] (fun y i => y = .int .i64 k ∧ i = .int .i64 0) (fun _ _ => 0)
    case atStart => exact ⟨rfl, rfl⟩
    case round =>
      obtain ⟨rfl, rfl⟩ := hrel
      go_wp2
      go_ret
      exact ⟨rfl, ha, grown_refl _ _⟩
  · obtain ⟨g, rfl, hB, _, _, _⟩ := oa (by omega)
    clear oa
    go_enter Try.func7, Try.ntmps7
    go_wp2
    go_loopw [1, 5] (fun y i wr => ∃ (j : Nat) (ys : List ByteArray), j ≤ n ∧ y = .int .i64 ((k + j : Nat) : Int) ∧ i = .int .i64 j ∧ ys.length = n ∧ (∀ q, q < j → ys[q]? = some (markOf (k + q))) ∧ wr.ownsRow B 9 1 (.slice (some ⟨g, 0, none⟩) n c) n (ys.map Value.string) ∧ w.grownBy wr (some g)) (fun _ i _ => n - (intOf i).toNat)
    case atStart => exact ⟨0, ls, Nat.zero_le _, rfl, rfl, hln, fun q hq => by omega, ha, grown_refl _ _⟩
    case round =>
      obtain ⟨j, ys, hj, rfl, rfl, hyl, hys, hown, hgr⟩ := hrel
      have HY : Hid (∀ q, q < j → ys[q]? = some (markOf (k + q))) := hys
      clear hys
      by_cases hlt : j < n
      · have hji : (j : Int) < (n : Int) := by omega
        have hj0 : (0 : Int) ≤ (j : Int) := by omega
        have cM := fun w1 => markText_at (k + j) (x := (k : Int) + (j : Int)) (by omega) w1 (by omega) (by omega)
        go_wp2_with (go_at_call 9; refine (cM _).mono ?_; rintro e w1 ⟨rfl, hb1⟩; obtain ⟨⟨u0, hc1⟩, hf1⟩ := mark_cell hown hb1 hlt)
        have st := (own_below hown hb1).stored j (.string (markOf (k + j)))
        go_roundw
        case rel =>
          refine ⟨j + 1, ys.set j (markOf (k + j)), by omega, by go_num, by go_num, by simpa using hyl, fun q hq => ?_, by rw [List.map_set]; exact st.1, (hgr.trans (grown_below hb1 _)).trans st.2⟩
          by_cases e : q = j
          · subst e; rw [List.getElem?_set_self (by omega)]
          · rw [List.getElem?_set_ne (by omega)]; exact HY.out q (by omega)
        case measure => simp [intOf]; omega
      · obtain rfl : j = n := by omega
        have E : Hid (ys = marksOf k j) := marks_ext hyl HY.out
        go_wp2
        go_ret
        exact ⟨rfl, by rw [← E.out]; exact hown, hgr⟩

set_option maxHeartbeats 1000000 in
set_option maxRecDepth 100000 in
theorem heldStringS_any (B : Nat) (a : Value) (n k : Nat) (w : World) (ha : w.ownsRow B 9 1 a n ((marksOf k n).map Value.string)) (h1 : 1 ≤ k) (h2 : k + n ≤ 1000000000) :
    Calls Try.prog 8 #[a, .int .i64 k] w fun e w' => e = .returned (.int .i64 ((k + n : Nat) : Int)) ∧ Below w.heap.size w w' := by
  obtain ⟨x, c, rfl, hm, hl, oa⟩ := own_open ha
  clear ha hl
  go_enter Try.func8, Try.ntmps8
  go_wp2
  go_loopw [1, 5] (fun y i wr => ∃ j : Nat, j ≤ n ∧ y = .int .i64 ((k + j : Nat) : Int) ∧ i = .int .i64 j ∧ Below w.heap.size w wr) (fun _ i _ => n - (intOf i).toNat)
  case atStart => exact ⟨0, Nat.zero_le _, rfl, rfl, Below.refl _ _⟩
  case round =>
    obtain ⟨j, hj, rfl, rfl, hbel⟩ := hrel
    by_cases hlt : j < n
    · obtain ⟨g, rfl, _, hg, hca, _⟩ := oa (by omega)
      have hc : wr.cell? ⟨g, j, none⟩ = some (.string (markOf (k + j))) := (hbel.cell hg).trans (hca j _ (by rw [List.getElem?_map, marks_at hlt]; rfl))
      clear oa hca
      have hji : (j : Int) < (n : Int) := by omega
      have hj0 : (0 : Int) ≤ (j : Int) := by omega
      have cQ := fun d os => Calls.regrown_of (w := wr) (d := d) (os := os) (markText_at (k + j) (x := (k : Int) + (j : Int)) (by omega) (grow (redrawn wr d) os) (by omega) (by omega))
      have k0 := cell_regrown hc
      go_wp2
      refine wp_region_quiet_below (by kernel_rfl) (by kernel_rfl) ?_
      repeat (first | go_big_quiet_step (exact cQ _ _) | quiet_step (exact cQ _ _))
      refine wpQuiet_nil ?_
      intro _ hw'
      obtain ⟨⟨dq, osq⟩, hw''⟩ := hw'
      subst hw''
      go_wp2
      go_roundw
      case rel => exact ⟨j + 1, by omega, by go_num, by go_num, chain hbel (below_regrown wr dq osq)⟩
      case measure => simp [intOf]; omega
    · obtain rfl : j = n := by omega
      go_wp2
      go_ret
      exact ⟨rfl, hbel⟩

theorem markStringS_one (B : Nat) (a : Value) (n : Nat) (ls : List ByteArray) (w : World) (ha : w.ownsRow B 9 1 a n (ls.map Value.string)) (h2 : n ≤ 1000000) :
    Calls Try.prog 7 #[a, .int .i64 1] w fun e w' => e = .returned (.int .i64 (1 + (n : Int))) ∧ w'.ownsRow B 9 1 a n ((marksOf 1 n).map Value.string) ∧ w.grownBy w' a.ownBlock := by
  have h := markStringS_any B a n 1 ls w ha (by omega) (by omega)
  rw [Int.natCast_add] at h
  exact h
theorem heldStringS_one (B : Nat) (a : Value) (n : Nat) (w : World) (ha : w.ownsRow B 9 1 a n ((marksOf 1 n).map Value.string)) (h2 : n ≤ 1000000) :
    Calls Try.prog 8 #[a, .int .i64 1] w fun e w' => e = .returned (.int .i64 (1 + (n : Int))) ∧ Below w.heap.size w w' := by
  have h := heldStringS_any B a n 1 w ha (by omega) (by omega)
  rw [Int.natCast_add] at h
  exact h
/-- two rows of which one was made behind the other -/
theorem rows_apart {w w1 : World} {B B1 : Nat} {e e1 : TypeId} {v v1 : Value} {n n1 : Nat} {xs xs1 : List Value} (h : w.ownsRow B e 1 v n xs) (h1 : w1.ownsRow B1 e1 1 v1 n1 xs1) (hB : w.heap.size ≤ B1) : v.ownBlock = none ∨ v.ownBlock ≠ v1.ownBlock := by
  cases hv : v.ownBlock with
  | none => exact .inl rfl
  | some k =>
    refine .inr fun e => ?_
    have a := (h.lt k hv).2
    have b := (h1.lt k e.symm).1
    omega
theorem below_mark {B : Nat} {w w1 w2 : World} {B1 : Nat} {e : TypeId} {v : Value} {n : Nat} {xs : List Value} (h : Below B w w1) (hB : B ≤ w1.heap.size) (g : w1.grownBy w2 v.ownBlock) (ho : w1.ownsRow B1 e 1 v n xs) (hB1 : B ≤ B1) : Below B w w2 :=
  h.grown g hB fun k hk => Nat.le_trans hB1 (ho.lt k hk).1

end Go.Proofs.Ytmddkfedmjdagaa
