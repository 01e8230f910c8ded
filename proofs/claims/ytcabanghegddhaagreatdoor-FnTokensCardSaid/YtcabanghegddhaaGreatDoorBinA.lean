/-
  Several texts in one: Bin, BinW, BinS, BinU, BinF.
-/
import Derived.Test.YtcabanghegddhaaGreatDoorGreatA
import Derived.Test.YtcabanghegddhaaGreatDoorFigA
import Derived.Deep.QuietTactic
import Derived.BigQuiet
import Derived.Test.YtcabanghegddhaaGreatDoorBitsA
namespace Go.Proofs.YtcabanghegddhaaGreatDoor
open Go.RowKit
set_option linter.unusedVariables false

theorem Tryz.infoWord : (Tryz.prog.info? 28).map (fun i => (i.zero, i.size, i.bytes)) = some (some (.int .u64 0), 1, 8) := by kernel_rfl

/-- a list of words that a call made -/
def RowW (w : World) (B : Nat) (v : Value) (xs : List Nat) : Prop := w.ownsRow B 28 1 v xs.length (xs.map fun x => Value.int .u64 (x : Nat))

theorem RowW.below {w w' : World} {B : Nat} {v : Value} {xs : List Nat} (h : RowW w B v xs) (hb : Below w.heap.size w w') : RowW w' B v xs := by
  refine ⟨h.1, ?_⟩
  rcases h.2 with hn | ⟨g, cap, cur, rfl, h1, h2, rest⟩
  · exact .inl hn
  · refine .inr ⟨g, cap, cur, rfl, h1, ?_, rest⟩
    rw [hb.block g (Array.getElem?_eq_some_iff.1 h2).1]
    exact h2
theorem RowW.base {w : World} {B B' : Nat} {v : Value} {xs : List Nat} (h : RowW w B v xs) (hb : B' ≤ B) : RowW w B' v xs := by
  refine ⟨h.1, ?_⟩
  rcases h.2 with hn | ⟨g, cap, cur, rfl, h1, rest⟩
  · exact .inl hn
  · exact .inr ⟨g, cap, cur, rfl, by omega, rest⟩
theorem RowW.cells {w : World} {B : Nat} {v : Value} {xs : List Nat} (h : RowW w B v xs) :
    (v = .slice none 0 0 ∧ xs = []) ∨ ∃ g cap, v = .slice (some ⟨g, 0, none⟩) xs.length cap ∧ B ≤ g ∧ g < w.heap.size ∧ ∀ j, j < xs.length → w.cell? ⟨g, j, none⟩ = some (.int .u64 (xs.getD j 0 : Nat)) := by
  have hc := fun g (hg : v.ownBlock = some g) => World.ownsRow.cells h hg
  have hl := World.ownsRow.lt h
  rcases h.2 with ⟨hv, hn⟩ | ⟨g, cap, cur, rfl, h1, h2, h3, h4, h5, h6⟩
  · exact .inl ⟨hv, List.eq_nil_of_length_eq_zero hn⟩
  · refine .inr ⟨g, cap, rfl, h1, (hl g rfl).2, fun j hj => ?_⟩
    have hadd : (⟨g, 0, none⟩ : Addr).add j = ⟨g, j, none⟩ := by unfold Addr.add; split <;> simp_all
    have := hc g rfl j (.int .u64 (xs.getD j 0 : Nat)) (by
      rw [List.getElem?_map, List.getElem?_eq_getElem hj, List.getD_eq_getElem?_getD, List.getElem?_eq_getElem hj]
      rfl)
    rw [hadd] at this
    exact this
theorem RowW.shape {w : World} {B : Nat} {v : Value} {xs : List Nat} (h : RowW w B v xs) : ∃ p c, v = .slice p xs.length c := by
  rcases h.cells with ⟨rfl, rfl⟩ | ⟨g, cap, rfl, _⟩
  · exact ⟨none, 0, rfl⟩
  · exact ⟨_, cap, rfl⟩
theorem RowW.at {w : World} {B : Nat} {p : Option Addr} {c i : Nat} {xs : List Nat} (h : RowW w B (.slice p xs.length c) xs) (hi : i < xs.length) : ∃ ga, p = some ⟨ga, 0, none⟩ ∧ w.cell? ⟨ga, i, none⟩ = some (.int .u64 (xs.getD i 0 : Nat)) := by
  rcases h.cells with ⟨_, h'⟩ | ⟨ga, cap, h', _, _, h''⟩
  · rw [h'] at hi; simp at hi
  · injection h' with h' _ _
    exact ⟨ga, h', h'' i hi⟩

set_option maxHeartbeats 2000000 in
set_option maxRecDepth 100000 in
theorem l07MulAdd_any (v : Value) (ls : List Nat) (b m0 B : Nat) (w : World) (hA : RowW w B v ls) (oa : BinOk ls) (hb : b < 4294967296) (hm : m0 < 4294967296) (la : ls.length ≤ 1048576) :
    Calls Tryz.prog 67 #[v, .int .u64 b, .int .u64 m0] w fun e w' => ∃ (v' : Value) (xs : List Nat), e = .returned v' ∧ RowW w' w.heap.size v' xs ∧ Below w.heap.size w w' ∧ binV xs = binV ls * b + m0 ∧ BinOk xs ∧ xs.length ≤ ls.length + 1 := by
  obtain ⟨i0, hi, hz0, hz1, hz2⟩ := info_parts Tryz.infoWord
  obtain ⟨pa, ca, rfl⟩ := hA.shape
  have HA : Hid (RowW w B (.slice pa ls.length ca) ls ∧ BinOk ls) := ⟨hA, oa⟩
  have hb' : (b : Int) < 4294967296 := by omega
  have hm' : (m0 : Int) < 4294967296 := by omega
  clear hA oa
  go_enter Tryz.func67, Tryz.ntmps67
  go_upto_region 3 with fail
  go_loopw [2, 7, 8] (fun x u y wr => ∃ (i mo : Nat) (xs : List Nat), y = .int .i64 i ∧ x = .int .u64 mo ∧ i ≤ ls.length ∧ (mo : Int) < 4294967296 ∧ wr.ownsRow w.heap.size 28 1 u i (xs.map fun x => Value.int .u64 (x : Nat)) ∧ Below w.heap.size w wr ∧ Hid (MulAddAt ls xs b m0 i mo)) (fun _ _ y _ => ls.length - (intOf y).toNat)
  case atStart => exact ⟨0, m0, [], rfl, rfl, by omega, hm', World.ownsRow_made w #[] 0 (Nat.le_refl _) (Nat.zero_le _) rfl, (Below.refl _ _).alloc (Nat.le_refl _) _, mulAdd_start ls b m0⟩
  case round =>
    obtain ⟨i, mo, xs, rfl, rfl, hil, hmo, hown, hbel, HI⟩ := hrel
    have hsz := hbel.size
    by_cases hlt : i < ls.length
    · obtain ⟨ga, rfl, hca⟩ := (HA.out.1.below hbel).at hlt
      have o2 := binOk_at HA.out.2 i
      have HS : Hid (∀ X, ls.getD i 0 * b + mo = X → MulAddAt ls (xs ++ [X % 4294967296]) b m0 (i + 1) (X / 4294967296)) := fun X h => mulAdd_step HI.out h
      obtain ⟨x, hx⟩ : ∃ x, ls.getD i 0 = x := ⟨_, rfl⟩
      rw [hx] at hca o2 HS
      obtain ⟨p, hp⟩ : ∃ p, x * b = p := ⟨_, rfl⟩
      have hp1 : (x : Int) * b = p := by rw [← hp]; simp
      have hp2 : (p : Int) ≤ 18446744065119617025 := by
        have : x * b ≤ 4294967295 * 4294967295 := Nat.mul_le_mul (by omega) (by omega)
        omega
      rw [hp] at HS
      obtain ⟨X, hX⟩ : ∃ X, p + mo = X := ⟨_, rfl⟩
      have hX1 : (p : Int) + mo = X := by omega
      have hX2 : (X : Int) < 18446744069414584321 := by omega
      have HN : Hid (MulAddAt ls (xs ++ [X % 4294967296]) b m0 (i + 1) (X / 4294967296)) := HS.out X hX
      have hil' : (i : Int) < ls.length := by omega
      clear HS hx hp hX o2 HI
      go_wp2_with (at_builtin; refine append_one (w0 := w) rfl _ _ 82 rfl w.heap.size 28 i0 (.int .u64 0) 8 Tryz.underlying82 hi hz0 hz1 hz2 rfl _ _ _ rfl hown (.int .u64 ((X : Int) % 4294967296)) rfl rfl (by omega) (by decide) hbel hsz ?_)
      intro v' w2 hown' hbel'
      have hrow : w2.ownsRow w.heap.size 28 1 v' (i + 1) ((xs ++ [X % 4294967296]).map fun x => Value.int .u64 (x : Nat)) := by simpa using hown'
      clear hown' hown
      go_wp2
      go_roundw
      case rel => exact ⟨i + 1, X / 4294967296, xs ++ [X % 4294967296], by go_num, by go_num, by omega, by omega, hrow, hbel', HN⟩
      case measure => simp [intOf]; omega
    · have hie : i = ls.length := by omega
      subst hie
      have hE := HI.out.eq
      rw [List.take_length] at hE
      have hxl := HI.out.len
      have hok := HI.out.ok
      by_cases hmz : 0 < mo
      · have HE : Hid (binV (xs ++ [mo]) = binV ls * b + m0 ∧ BinOk (xs ++ [mo]) ∧ (xs ++ [mo]).length = ls.length + 1) := ⟨by rw [binV_snoc, hxl]; exact hE, binOk_snoc hok (by omega), by simp [hxl]⟩
        clear HI hE hok hxl
        go_wp2_with (at_builtin; refine append_one (w0 := w) rfl _ _ 82 rfl w.heap.size 28 i0 (.int .u64 0) 8 Tryz.underlying82 hi hz0 hz1 hz2 rfl _ _ _ rfl hown (.int .u64 (mo : Int)) rfl rfl (by omega) (by decide) hbel hsz ?_)
        intro v' w2 hown' hbel'
        have hrow : w2.ownsRow w.heap.size 28 1 v' (ls.length + 1) ((xs ++ [mo]).map fun x => Value.int .u64 (x : Nat)) := by simpa using hown'
        go_wp2
        go_ret
        refine ⟨_, xs ++ [mo], rfl, ?_, hbel', HE.out.1, HE.out.2.1, by rw [HE.out.2.2]; exact Nat.le_refl _⟩
        show World.ownsRow _ _ _ _ _ (xs ++ [mo]).length _
        rw [HE.out.2.2]
        exact hrow
      · have hm0 : mo = 0 := by omega
        subst hm0
        have HE : Hid (binV xs = binV ls * b + m0 ∧ BinOk xs ∧ xs.length = ls.length) := ⟨by rw [Nat.mul_zero, Nat.add_zero] at hE; exact hE, hok, hxl⟩
        clear HI hE hok hxl
        go_wp2
        go_ret
        refine ⟨_, xs, rfl, ?_, hbel, HE.out.1, HE.out.2.1, by rw [HE.out.2.2]; omega⟩
        show World.ownsRow _ _ _ _ _ xs.length _
        rw [HE.out.2.2]
        exact hown

end Go.Proofs.YtcabanghegddhaaGreatDoor

namespace Go.Proofs.YtcabanghegddhaaGreatDoor
open Go.RowKit
set_option linter.unusedVariables false

set_option maxHeartbeats 1000000 in
set_option maxRecDepth 100000 in
theorem l07Len_any (v : Value) (ls : List Nat) (B : Nat) (w : World) (hA : RowW w B v ls) (la : ls.length ≤ 1048576) :
    Calls Tryz.prog 85 #[v] w fun e w' => (∃ n : Nat, e = .returned (.int .i64 n) ∧ LenOf ls n) ∧ w = w' := by
  obtain ⟨pa, ca, rfl⟩ := hA.shape
  have HA : Hid (RowW w B (.slice pa ls.length ca) ls) := hA
  clear hA
  go_enter Tryz.func85, Tryz.ntmps85
  go_wp2_with fail
  go_loop [3] (fun x => ∃ n : Nat, x = .int .i64 n ∧ n ≤ ls.length ∧ Hid (∀ j, n ≤ j → ls.getD j 0 = 0)) (fun x => (intOf x).toNat)
  case atStart => exact ⟨ls.length, rfl, Nat.le_refl _, fun j hj => getD_out hj⟩
  case round =>
    obtain ⟨n, rfl, hn, HI⟩ := hrel
    by_cases h0 : 0 < n
    · obtain ⟨ga, rfl, hca⟩ := HA.out.at (i := n - 1) (by omega)
      obtain ⟨k, hk⟩ : ∃ k, n = k + 1 := ⟨n - 1, by omega⟩
      subst hk
      rw [Nat.add_sub_cancel] at hca
      have HT : Hid (ls.getD k 0 = ls.getD k 0) := rfl
      obtain ⟨x, hx⟩ : ∃ x, ls.getD k 0 = x := ⟨_, rfl⟩
      rw [hx] at hca
      have HX : Hid (ls.getD k 0 = x) := hx
      clear hx HT
      by_cases hz : x = 0
      · subst hz
        go_wp2
        go_round
        case rel => exact ⟨k, by go_num, by omega, fun j hj => by
          rcases Nat.eq_or_lt_of_le hj with h' | h'
          · rw [← h']; exact HX.out
          · exact HI.out j h'⟩
        case measure => simp [intOf]
      · have dz : ((x : Int) == 0) = false := by rw [beq_eq_false_iff_ne]; omega
        go_wp2
        go_ret
        exact ⟨⟨k + 1, by go_num, ⟨hn, HI.out, .inr (by rw [Nat.add_sub_cancel, HX.out]; exact hz)⟩⟩, rfl⟩
    · have h0' : n = 0 := by omega
      subst h0'
      go_wp2
      go_ret
      exact ⟨⟨0, rfl, ⟨hn, HI.out, .inl rfl⟩⟩, rfl⟩

set_option maxHeartbeats 2000000 in
set_option maxRecDepth 100000 in
theorem l07Less_any (v u : Value) (ls ms : List Nat) (B C : Nat) (w : World) (hA : RowW w B v ls) (hB : RowW w C u ms) (oa : BinOk ls) (ob : BinOk ms) (la : ls.length ≤ 1048576) (lb : ms.length ≤ 1048576) :
    Calls Tryz.prog 82 #[v, u] w fun e w' => e = .returned (.bool (decide (binV ls < binV ms))) ∧ Below w.heap.size w w' := by
  have cA := fun W (h : RowW W B v ls) => l07Len_any v ls B W h la
  have cB := fun W (h : RowW W C u ms) => l07Len_any u ms C W h lb
  have cA := cA w hA
  have cB := cB w hB
  obtain ⟨pa, ca, rfl⟩ := hA.shape
  obtain ⟨pb, cb, rfl⟩ := hB.shape
  have HA : Hid (RowW w B (.slice pa ls.length ca) ls ∧ BinOk ls) := ⟨hA, oa⟩
  have HB : Hid (RowW w C (.slice pb ms.length cb) ms ∧ BinOk ms) := ⟨hB, ob⟩
  obtain ⟨R, hR⟩ : ∃ R, decide (binV ls < binV ms) = R := ⟨_, rfl⟩
  rw [hR]
  have HR : Hid (Unit → decide (binV ls < binV ms) = R) := fun _ => hR
  clear hA hB oa ob hR
  go_enter Tryz.func82, Tryz.ntmps82
  go_wp2_with fail
  refine cA.mono ?_
  rintro e w' ⟨⟨n, rfl, hn⟩, rfl⟩
  have HN : Hid (LenOf ls n) := hn
  have hn1 : (n : Int) ≤ ls.length := by have := hn.le; omega
  clear hn cA
  go_wp2_with fail
  refine cB.mono ?_
  rintro e w' ⟨⟨m, rfl, hm⟩, rfl⟩
  have HM : Hid (LenOf ms m) := hm
  have hm1 : (m : Int) ≤ ms.length := by have := hm.le; omega
  clear hm cB
  by_cases hnm : n = m
  · subst hnm
    go_wp2_with fail
    go_loopw [7] (fun x wr => ∃ k : Nat, x = .int .i64 ((k : Int) - 1) ∧ (k : Int) ≤ n ∧ Below w.heap.size w wr ∧ Hid (SameFrom ls ms k)) (fun x _ => (intOf x + 1).toNat)
    case atStart => exact ⟨n, rfl, by omega, Below.refl _ _, same_high HN.out.zero HM.out.zero⟩
    case round =>
      obtain ⟨k, rfl, hk, hbel, HI⟩ := hrel
      by_cases h0 : k = 0
      · have HZ : Hid (Unit → R = false) := fun _ => by
          subst h0
          rw [← HR.out (), same_all HI.out]
          simp
        subst h0
        clear HI
        go_wp2
        go_ret
        exact ⟨by rw [HZ.out ()]; rfl, hbel⟩
      · obtain ⟨j, hj⟩ : ∃ j, k = j + 1 := ⟨k - 1, by omega⟩
        subst hj
        obtain ⟨ga, rfl, hca⟩ := (HA.out.1.below hbel).at (i := j) (by omega)
        obtain ⟨gb, rfl, hcb⟩ := (HB.out.1.below hbel).at (i := j) (by omega)
        obtain ⟨x, hx⟩ : ∃ x, ls.getD j 0 = x := ⟨_, rfl⟩
        obtain ⟨y, hy⟩ : ∃ y, ms.getD j 0 = y := ⟨_, rfl⟩
        rw [hx] at hca
        rw [hy] at hcb
        have HS : Hid (x = y → SameFrom ls ms j) := fun e => same_down HI.out (by rw [hx, hy]; exact e)
        have HL : Hid (Unit → x ≠ y → R = decide (x < y)) := fun _ hne => by
          rw [← HR.out ()]
          rcases Nat.lt_or_ge x y with h | h
          · rw [decide_eq_true h, decide_eq_true]
            exact less_at HA.out.2 HI.out (by rw [hx, hy]; exact h)
          · rw [decide_eq_false (by omega : ¬x < y), decide_eq_false]
            have := less_at HB.out.2 (fun j hj => (HI.out j hj).symm) (by rw [hx, hy]; omega : ms.getD j 0 < ls.getD j 0)
            omega
        clear hx hy HI
        by_cases hxy : x = y
        · subst hxy
          have HS2 : Hid (SameFrom ls ms j) := HS.out rfl
          clear HS HL
          go_wp2_with fail
          go_quiet (fail)
          go_wp2
          go_roundw
          case rel => exact ⟨j, by go_num, by omega, below_drewN hbel _, HS2⟩
          case measure => simp [intOf]
        · have dxy : ((x : Int) == y) = false := by rw [beq_eq_false_iff_ne]; omega
          have HZ := HL.out () hxy
          subst HZ
          clear HL HS hxy
          go_wp2_with fail
          go_quiet (fail)
          go_wp2_with fail
          go_quiet (fail)
          go_wp2
          go_ret
          exact ⟨by simp, below_drewN (below_drewN hbel _) _⟩
  · have dnm : ((n : Int) == m) = false := by rw [beq_eq_false_iff_ne]; omega
    have HZ : Hid (Unit → R = decide (n < m)) := fun _ => by
      rw [← HR.out ()]
      rcases Nat.lt_or_ge n m with h | h
      · rw [decide_eq_true h, decide_eq_true]
        exact less_len HN.out HM.out HA.out.2 HB.out.2 h
      · rw [decide_eq_false (by omega : ¬n < m), decide_eq_false]
        have := less_len HM.out HN.out HB.out.2 HA.out.2 (by omega)
        omega
    clear hnm
    go_wp2
    go_ret
    exact ⟨by rw [HZ.out ()]; simp, Below.refl _ _⟩

/-- halves of a number, so often that nothing is left -/
structure HalfAt (x k y : Nat) : Prop where
  eq : y = x / 2 ^ k
  lt : k = 0 ∨ 2 ^ (k - 1) ≤ x
theorem half_start (x : Nat) : HalfAt x 0 x := ⟨by simp, .inl rfl⟩
theorem half_more {x k y : Nat} (h : HalfAt x k y) (hy : 0 < y) : HalfAt x (k + 1) (y / 2) := by
  refine ⟨by rw [h.eq, Nat.pow_succ, Nat.div_div_eq_div_mul], .inr ?_⟩
  rw [Nat.add_sub_cancel]
  have h1 := h.eq
  rcases Nat.lt_or_ge x (2 ^ k) with h2 | h2
  · rw [Nat.div_eq_of_lt h2] at h1; omega
  · exact h2
theorem half_end {x k : Nat} (h : HalfAt x k 0) (hx : x ≠ 0) : k ≠ 0 ∧ 2 ^ (k - 1) ≤ x ∧ x < 2 ^ k := by
  have h1 := h.eq
  have h2 : x < 2 ^ k := by
    rcases Nat.lt_or_ge x (2 ^ k) with h2 | h2
    · exact h2
    · have := Nat.div_pos h2 (Nat.two_pow_pos k)
      omega
  have h3 : k ≠ 0 := by
    intro h0
    subst h0
    rw [Nat.pow_zero] at h2
    omega
  rcases h.lt with h4 | h4
  · exact absurd h4 h3
  · exact ⟨h3, h4, h2⟩

set_option maxHeartbeats 1000000 in
set_option maxRecDepth 100000 in
theorem l07Bits_any (v : Value) (ls : List Nat) (B : Nat) (w : World) (hA : RowW w B v ls) (oa : BinOk ls) (la : ls.length ≤ 1048576) :
    Calls Tryz.prog 80 #[v] w fun e w' => e = .returned (.int .i64 (bitsN (binV ls) : Nat)) ∧ w = w' := by
  have cA := l07Len_any v ls B w hA la
  obtain ⟨pa, ca, rfl⟩ := hA.shape
  have HA : Hid (RowW w B (.slice pa ls.length ca) ls ∧ BinOk ls) := ⟨hA, oa⟩
  obtain ⟨R, hR⟩ : ∃ R, bitsN (binV ls) = R := ⟨_, rfl⟩
  rw [hR]
  have HR : Hid (Unit → bitsN (binV ls) = R) := fun _ => hR
  clear hA oa hR
  go_enter Tryz.func80, Tryz.ntmps80
  go_wp2_with fail
  refine cA.mono ?_
  rintro e w' ⟨⟨n, rfl, hn⟩, rfl⟩
  have hn1 : (n : Int) ≤ ls.length := by have := hn.le; omega
  by_cases h0 : n = 0
  · have HZ : Hid (Unit → R = 0) := fun _ => by
      rw [← HR.out (), (hn.nil HA.out.2).mp h0]
      rfl
    subst h0
    clear hn
    go_wp2
    go_ret
    exact ⟨by rw [HZ.out ()]; rfl, rfl⟩
  · obtain ⟨j, hj⟩ : ∃ j, n = j + 1 := ⟨n - 1, by omega⟩
    subst hj
    obtain ⟨ga, rfl, hca⟩ := HA.out.1.at (i := j) (by omega)
    have o1 := binOk_at HA.out.2 j
    obtain ⟨x, hx⟩ : ∃ x, ls.getD j 0 = x := ⟨_, rfl⟩
    rw [hx] at hca o1
    have HX : Hid (x ≠ 0 ∧ ∀ k, (k ≠ 0 ∧ 2 ^ (k - 1) ≤ x ∧ x < 2 ^ k) → R = 32 * j + k) := by
      refine ⟨?_, fun k hk => ?_⟩
      · rcases hn.top with h | h
        · omega
        · rw [Nat.add_sub_cancel, hx] at h; exact h
      · rw [← HR.out ()]
        exact bits_top hn HA.out.2 hx hk.1 hk.2.1 hk.2.2
    have X2 : Hid (Unit → (x : Int) < 4294967296) := fun _ => by omega
    have d0 : (((j : Int) + 1) == 0) = false := by rw [beq_eq_false_iff_ne]; omega
    clear hn hx o1 h0
    go_wp2_with fail
    go_loop [4, 5] (fun u y => ∃ k z : Nat, u = .int .i64 k ∧ y = .int .u64 z ∧ (k : Int) ≤ 32 ∧ (z : Int) < 4294967296 ∧ Hid (HalfAt x k z)) (fun _ y => (intOf y).toNat)
    case atStart => exact ⟨0, x, rfl, rfl, by omega, X2.out (), half_start x⟩
    case round =>
      obtain ⟨k, z, rfl, rfl, hk, hz, HI⟩ := hrel
      by_cases hz0 : 0 < z
      · have HN : Hid (HalfAt x (k + 1) (z / 2)) := half_more HI.out hz0
        have hk2 : (k : Int) + 1 ≤ 32 := by
          rcases HN.out.lt with h | h
          · omega
          · rw [Nat.add_sub_cancel] at h
            rcases Nat.lt_or_ge k 32 with h' | h'
            · omega
            · have : 2 ^ 32 ≤ 2 ^ k := Nat.pow_le_pow_right (by decide) h'
              have := X2.out ()
              omega
        clear HI
        go_wp2
        go_round
        case rel => exact ⟨k + 1, z / 2, by go_num, by go_num, by omega, by omega, HN⟩
        case measure => simp [intOf]; omega
      · have hz1 : z = 0 := by omega
        subst hz1
        have HZ := HX.out.2 k (half_end HI.out HX.out.1)
        subst HZ
        clear HI HX
        go_wp2
        go_ret
        exact ⟨by go_num, rfl⟩

end Go.Proofs.YtcabanghegddhaaGreatDoor

namespace Go.Proofs.YtcabanghegddhaaGreatDoor
open Go.RowKit
set_option linter.unusedVariables false

set_option maxHeartbeats 2000000 in
set_option maxRecDepth 100000 in
theorem l07Sub_any (v u : Value) (ls ms : List Nat) (B C : Nat) (w : World) (hA : RowW w B v ls) (hB : RowW w C u ms) (oa : BinOk ls) (ob : BinOk ms) (la : ls.length ≤ 1048576) (lb : ms.length ≤ 1048576) (hle : binV ms ≤ binV ls) :
    Calls Tryz.prog 83 #[v, u] w fun e w' => ∃ (v' : Value) (xs : List Nat), e = .returned v' ∧ RowW w' w.heap.size v' xs ∧ Below w.heap.size w w' ∧ binV xs = binV ls - binV ms ∧ BinOk xs ∧ xs.length = ls.length := by
  obtain ⟨i0, hi, hz0, hz1, hz2⟩ := info_parts Tryz.infoWord
  obtain ⟨pa, ca, rfl⟩ := hA.shape
  obtain ⟨pb, cb, rfl⟩ := hB.shape
  have HA : Hid (RowW w B (.slice pa ls.length ca) ls ∧ BinOk ls) := ⟨hA, oa⟩
  have HB : Hid (RowW w C (.slice pb ms.length cb) ms ∧ BinOk ms) := ⟨hB, ob⟩
  have HL : Hid (Unit → binV ms ≤ binV ls) := fun _ => hle
  clear hA hB oa ob hle
  go_enter Tryz.func83, Tryz.ntmps83
  go_upto_region 4 with fail
  go_loopw [5, 6, 7] (fun u x y wr => ∃ (i c : Nat) (xs : List Nat), y = .int .i64 i ∧ x = .int .u64 c ∧ i ≤ ls.length ∧ (c : Int) ≤ 1 ∧ wr.ownsRow w.heap.size 28 1 u i (xs.map fun x => Value.int .u64 (x : Nat)) ∧ Below w.heap.size w wr ∧ Hid (BinSubAt ls ms xs i c)) (fun _ _ y _ => ls.length - (intOf y).toNat)
  case atStart => exact ⟨0, 0, [], rfl, rfl, by omega, by omega, World.ownsRow_made w #[] 0 (Nat.le_refl _) (Nat.zero_le _) rfl, (Below.refl _ _).alloc (Nat.le_refl _) _, binSub_start ls ms⟩
  case round =>
    obtain ⟨i, c, xs, rfl, rfl, hil, hc, hown, hbel, HI⟩ := hrel
    have hsz := hbel.size
    by_cases hlt : i < ls.length
    · obtain ⟨ga, rfl, hca⟩ := (HA.out.1.below hbel).at hlt
      have o2 := binOk_at HA.out.2 i
      have o3 := binOk_at HB.out.2 i
      have hil' : (i : Int) < ls.length := by omega
      by_cases hmb : i < ms.length
      · obtain ⟨gb, rfl, hcb⟩ := (HB.out.1.below hbel).at hmb
        have hmb' : (i : Int) < ms.length := by omega
        have HS : Hid (∀ c' z, z < 4294967296 → z + ms.getD i 0 + c = ls.getD i 0 + 4294967296 * c' → BinSubAt ls ms (xs ++ [z]) (i + 1) c') := fun c' z h1 h2 => binSub_step HI.out h1 h2
        obtain ⟨x, hx⟩ : ∃ x, ls.getD i 0 = x := ⟨_, rfl⟩
        obtain ⟨b, hb⟩ : ∃ b, ms.getD i 0 = b := ⟨_, rfl⟩
        rw [hx] at hca o2 HS
        rw [hb] at hcb o3 HS
        obtain ⟨y, hy⟩ : ∃ y, c + b = y := ⟨_, rfl⟩
        have hyv : (c : Int) + b = y := by omega
        have x2 : (x : Int) < 4294967296 := by omega
        have y2 : (y : Int) ≤ 4294967296 := by omega
        have HS : Hid (∀ c' z, z < 4294967296 → z + y = x + 4294967296 * c' → BinSubAt ls ms (xs ++ [z]) (i + 1) c') := fun c' z h1 h2 => HS.out c' z h1 (by omega)
        clear hx hb HI o2 o3 hy
        by_cases hxy : x < y
        · obtain ⟨z, hz⟩ : ∃ z, x + 4294967296 - y = z := ⟨_, rfl⟩
          have hzv : (x : Int) + 4294967296 - y = z := by omega
          have HN : Hid (BinSubAt ls ms (xs ++ [z]) (i + 1) 1) := HS.out 1 z (by omega) (by omega)
          clear HS hz
          go_wp2_with (at_builtin; refine append_one (w0 := w) rfl _ _ 82 rfl w.heap.size 28 i0 (.int .u64 0) 8 Tryz.underlying82 hi hz0 hz1 hz2 rfl _ _ _ rfl hown (.int .u64 (z : Int)) rfl rfl (by omega) (by decide) hbel hsz ?_)
          intro v' w2 hown' hbel'
          have hrow : w2.ownsRow w.heap.size 28 1 v' (i + 1) ((xs ++ [z]).map fun x => Value.int .u64 (x : Nat)) := by simpa using hown'
          clear hown' hown
          go_wp2
          go_roundw
          case rel => exact ⟨i + 1, 1, xs ++ [z], by go_num, rfl, by omega, by omega, hrow, hbel', HN⟩
          case measure => simp [intOf]; omega
        · have dxy : decide ((x : Int) < y) = false := by simp; omega
          obtain ⟨z, hz⟩ : ∃ z, x - y = z := ⟨_, rfl⟩
          have hzv : (x : Int) - y = z := by omega
          have HN : Hid (BinSubAt ls ms (xs ++ [z]) (i + 1) 0) := HS.out 0 z (by omega) (by omega)
          clear HS hz
          go_wp2_with (at_builtin; refine append_one (w0 := w) rfl _ _ 82 rfl w.heap.size 28 i0 (.int .u64 0) 8 Tryz.underlying82 hi hz0 hz1 hz2 rfl _ _ _ rfl hown (.int .u64 (z : Int)) rfl rfl (by omega) (by decide) hbel hsz ?_)
          intro v' w2 hown' hbel'
          have hrow : w2.ownsRow w.heap.size 28 1 v' (i + 1) ((xs ++ [z]).map fun x => Value.int .u64 (x : Nat)) := by simpa using hown'
          clear hown' hown
          go_wp2
          go_roundw
          case rel => exact ⟨i + 1, 0, xs ++ [z], by go_num, rfl, by omega, by omega, hrow, hbel', HN⟩
          case measure => simp [intOf]; omega
      · have hmb' : decide (i < ms.length) = false := by simp; omega
        have HS : Hid (∀ c' z, z < 4294967296 → z + c = ls.getD i 0 + 4294967296 * c' → BinSubAt ls ms (xs ++ [z]) (i + 1) c') := fun c' z h1 h2 => binSub_step HI.out h1 (by rw [getD_out (by omega : ms.length ≤ i)]; omega)
        obtain ⟨x, hx⟩ : ∃ x, ls.getD i 0 = x := ⟨_, rfl⟩
        rw [hx] at hca o2 HS
        have x2 : (x : Int) < 4294967296 := by omega
        clear hx HI o2 o3 hmb
        by_cases hxy : x < c
        · obtain ⟨z, hz⟩ : ∃ z, x + 4294967296 - c = z := ⟨_, rfl⟩
          have hzv : (x : Int) + 4294967296 - c = z := by omega
          have HN : Hid (BinSubAt ls ms (xs ++ [z]) (i + 1) 1) := HS.out 1 z (by omega) (by omega)
          clear HS hz
          go_wp2_with (at_builtin; refine append_one (w0 := w) rfl _ _ 82 rfl w.heap.size 28 i0 (.int .u64 0) 8 Tryz.underlying82 hi hz0 hz1 hz2 rfl _ _ _ rfl hown (.int .u64 (z : Int)) rfl rfl (by omega) (by decide) hbel hsz ?_)
          intro v' w2 hown' hbel'
          have hrow : w2.ownsRow w.heap.size 28 1 v' (i + 1) ((xs ++ [z]).map fun x => Value.int .u64 (x : Nat)) := by simpa using hown'
          clear hown' hown
          go_wp2
          go_roundw
          case rel => exact ⟨i + 1, 1, xs ++ [z], by go_num, rfl, by omega, by omega, hrow, hbel', HN⟩
          case measure => simp [intOf]; omega
        · have dxy : decide ((x : Int) < c) = false := by simp; omega
          obtain ⟨z, hz⟩ : ∃ z, x - c = z := ⟨_, rfl⟩
          have hzv : (x : Int) - c = z := by omega
          have HN : Hid (BinSubAt ls ms (xs ++ [z]) (i + 1) 0) := HS.out 0 z (by omega) (by omega)
          clear HS hz
          go_wp2_with (at_builtin; refine append_one (w0 := w) rfl _ _ 82 rfl w.heap.size 28 i0 (.int .u64 0) 8 Tryz.underlying82 hi hz0 hz1 hz2 rfl _ _ _ rfl hown (.int .u64 (z : Int)) rfl rfl (by omega) (by decide) hbel hsz ?_)
          intro v' w2 hown' hbel'
          have hrow : w2.ownsRow w.heap.size 28 1 v' (i + 1) ((xs ++ [z]).map fun x => Value.int .u64 (x : Nat)) := by simpa using hown'
          clear hown' hown
          go_wp2
          go_roundw
          case rel => exact ⟨i + 1, 0, xs ++ [z], by go_num, rfl, by omega, by omega, hrow, hbel', HN⟩
          case measure => simp [intOf]; omega
    · have hie : i = ls.length := by omega
      subst hie
      have HE : Hid (binV xs = binV ls - binV ms ∧ BinOk xs ∧ xs.length = ls.length) := ⟨binSub_end HI.out HA.out.2 (HL.out ()), HI.out.ok, HI.out.len⟩
      clear HI
      go_wp2
      go_ret
      refine ⟨_, xs, rfl, ?_, hbel, HE.out.1, HE.out.2.1, HE.out.2.2⟩
      show World.ownsRow _ _ _ _ _ xs.length _
      rw [HE.out.2.2]
      exact hown

end Go.Proofs.YtcabanghegddhaaGreatDoor

namespace Go.Proofs.YtcabanghegddhaaGreatDoor
open Go.RowKit
set_option linter.unusedVariables false

theorem binV_shift {ls xs : List Nat} {q r n : Nat} (hx : binV xs = binV ls * 2 ^ r + 0) (hn : n = 32 * q + r) : binV (List.replicate q 0 ++ xs) = binV ls * 2 ^ n := by
  rw [binV_append, binV_zeros, List.length_replicate, hx, hn, Nat.pow_add, Nat.zero_add, Nat.add_zero, Nat.mul_left_comm]
theorem binOk_shift {xs : List Nat} (q : Nat) (h : BinOk xs) : BinOk (List.replicate q 0 ++ xs) := by
  intro x hx
  rcases List.mem_append.mp hx with h1 | h1
  · rw [List.eq_of_mem_replicate h1]; decide
  · exact h x h1

set_option maxHeartbeats 2000000 in
set_option maxRecDepth 100000 in
theorem l07Up_any (v : Value) (ls : List Nat) (n B : Nat) (w : World) (hA : RowW w B v ls) (oa : BinOk ls) (h0 : binV ls ≠ 0) (la : ls.length ≤ 4096) (ln : (n : Int) ≤ 4096) :
    Calls Tryz.prog 81 #[v, .int .i64 n] w fun e w' => ∃ (v' : Value) (xs : List Nat), e = .returned v' ∧ RowW w' w.heap.size v' xs ∧ Below w.heap.size w w' ∧ binV xs = binV ls * 2 ^ n ∧ BinOk xs ∧ xs.length ≤ ls.length + 1 + n / 32 := by
  obtain ⟨i0, hi, hz0, hz1, hz2⟩ := info_parts Tryz.infoWord
  obtain ⟨q, hq⟩ : ∃ q : Nat, (n : Int) / 32 = q := ⟨n / 32, by omega⟩
  obtain ⟨r, hr⟩ : ∃ r : Nat, (n : Int) % 32 = r := ⟨n % 32, by omega⟩
  have hr2 : r ≤ 63 := by omega
  have cP := fun W => l03Pow_any r W hr2
  have hP : 2 ^ r < 4294967296 := by
    have : 2 ^ r ≤ 2 ^ 31 := Nat.pow_le_pow_right (by decide) (by omega)
    omega
  have hmk := fun W : World => run_make (P := Tryz.prog) W 82 28 i0 (.int .u64 0) Tryz.underlying82 hi hz0 .i64 .i64 (q : Int) (q : Int) (by omega) (by omega) (by rw [hz2]; omega) (by omega)
  have HS : Hid (Unit → ∀ xs, binV xs = binV ls * 2 ^ r + 0 → binV (List.replicate q 0 ++ xs) = binV ls * 2 ^ n ∧ xs ≠ []) := fun _ xs hx => by
    refine ⟨binV_shift hx (by omega), fun h => ?_⟩
    subst h
    have : 0 < binV ls * 2 ^ r := Nat.mul_pos (by omega) (Nat.two_pow_pos r)
    simp [binV] at hx
    omega
  have HL : Hid (Unit → q = n / 32) := fun _ => by omega
  have q2 : (q : Int) ≤ 128 := by omega
  obtain ⟨P, hP1⟩ : ∃ P, 2 ^ r = P := ⟨_, rfl⟩
  rw [hP1] at cP hP HS
  have HA : Hid (RowW w B v ls ∧ BinOk ls ∧ P < 4294967296 ∧ ls.length ≤ 4096) := ⟨hA, oa, hP, la⟩
  clear hP1 hP hA oa h0 hr2
  go_enter Tryz.func81, Tryz.ntmps81
  go_wp2_with fail
  refine (cP _).mono ?_
  rintro e w' ⟨rfl, rfl⟩
  go_wp2_with fail
  have hown1 : (w.alloc (.cells (madeCells #[.int .u64 0] q) 28)).ownsRow w.heap.size 28 1 (.slice (some ⟨w.heap.size, 0, none⟩) q q) q ((List.replicate q 0).map fun x => Value.int .u64 (x : Nat)) := by
    refine ⟨by simp, .inr ⟨w.heap.size, q, _, rfl, Nat.le_refl _, heap_alloc_new w _, Nat.le_refl _, by unfold maxLen; omega, by simp [size_madeCells], ?_⟩⟩
    rw [toList_madeCells_one, Nat.mul_one, List.map_replicate, List.take_of_length_le (by simp)]
    rfl
  have hbel1 : Below w.heap.size w (w.alloc (.cells (madeCells #[.int .u64 0] q) 28)) := (Below.refl _ _).alloc (Nat.le_refl _) _
  obtain ⟨w1, hw1⟩ : ∃ w1, w.alloc (.cells (madeCells #[.int .u64 0] q) 28) = w1 := ⟨_, rfl⟩
  simp only [hw1]
  rw [hw1] at hown1 hbel1
  clear hw1 hmk
  refine (l07MulAdd_any v ls P 0 B w1 (HA.out.1.below hbel1) HA.out.2.1 HA.out.2.2.1 (by omega) (by have := HA.out.2.2.2; omega)).mono ?_
  rintro e w2 ⟨v', xs, rfl, hrow, hb2, hval, hok, hlen⟩
  obtain ⟨hv, hne⟩ := HS.out () xs hval
  have hown2 := own_below hown1 hb2
  have hbel2 := chain hbel1 hb2
  have hsz := hbel2.size
  rcases hrow.cells with ⟨_, hx0⟩ | ⟨g, cap, rfl, hg1, hg2, hcells⟩
  · exact absurd hx0 hne
  · have HF : Hid (binV (List.replicate q 0 ++ xs) = binV ls * 2 ^ n ∧ BinOk (List.replicate q 0 ++ xs) ∧ (List.replicate q 0 ++ xs).length = q + xs.length ∧ q + xs.length ≤ ls.length + 1 + n / 32) := ⟨hv, binOk_shift q hok, by simp, by have := HL.out (); omega⟩
    have hxl : xs.length ≤ 5000 := by have := HA.out.2.2.2; omega
    clear hv hne hval hok hlen hrow HS hown1 hb2
    have hnews : ∀ j u, (xs.map fun x => Value.int .u64 (x : Nat))[j]? = some u → w2.cell? ((⟨g, 0, none⟩ : Addr).add j) = some u := by
      intro j u hu
      rw [List.getElem?_map] at hu
      by_cases hj : j < xs.length
      · rw [List.getElem?_eq_getElem hj] at hu
        have hadd : (⟨g, 0, none⟩ : Addr).add j = ⟨g, j, none⟩ := by unfold Addr.add; split <;> simp_all
        rw [hadd, hcells j hj, List.getD_eq_getElem?_getD, List.getElem?_eq_getElem hj]
        simpa using hu
      · rw [List.getElem?_eq_none (by omega)] at hu
        cases hu
    have hone : ∀ u ∈ (xs.map fun x => Value.int .u64 (x : Nat)), u.oneCell' = true := by
      intro u hu
      obtain ⟨x, _, rfl⟩ := List.mem_map.1 hu
      rfl
    go_wp2_with (at_builtin; refine wpList_append_own _ rfl _ _ 82 rfl w.heap.size 28 i0 (.int .u64 0) 1 8 Tryz.underlying82 hi hz0 hz1 hz2 rfl (by decide) _ _ _ rfl hown2 ⟨g, 0, none⟩ xs.length cap (xs.map fun x => Value.int .u64 (x : Nat)) rfl (by simp) hnews hone (by unfold maxLen; omega) (by omega) hsz ?_)
    intro v'' w3 hown3 hgrow _
    have hbel3 : Below w.heap.size w w3 := hbel2.grown hgrow (by omega) (fun k hk => (hown2.lt k hk).1)
    go_wp2
    go_ret
    refine ⟨_, List.replicate q 0 ++ xs, rfl, ?_, hbel3, HF.out.1, HF.out.2.1, by rw [HF.out.2.2.1]; exact HF.out.2.2.2⟩
    show World.ownsRow _ _ _ _ _ (List.replicate q 0 ++ xs).length _
    rw [HF.out.2.2.1, List.map_append, List.map_replicate]
    exact hown3

end Go.Proofs.YtcabanghegddhaaGreatDoor

namespace Go.Proofs.YtcabanghegddhaaGreatDoor
open Go.RowKit
set_option linter.unusedVariables false

/-- noughts alone -/
def zeroB (l : List UInt8) : Bool := l.all fun c => c == 48
theorem zeroB_snoc (l : List UInt8) (c : UInt8) : zeroB (l ++ [c]) = (zeroB l && (c == 48)) := by simp [zeroB]
theorem zeroB_val {l : List UInt8} (h : Figs l) : zeroB l = decide (digV l = 0) := by
  revert h
  refine snocInd (P := fun l => Figs l → zeroB l = decide (digV l = 0)) (fun _ => by rfl) (fun l c ih h => ?_) l
  have hc := h c (by simp)
  rw [zeroB_snoc, ih h.left, digV_snoc, Bool.eq_iff_iff]
  simp only [Bool.and_eq_true, decide_eq_true_eq, beq_iff_eq]
  constructor
  · rintro ⟨h1, h2⟩
    subst h2
    rw [h1]
    rfl
  · intro h1
    refine ⟨by omega, ?_⟩
    have : c.toNat = 48 := by omega
    exact UInt8.toNat_inj.mp (by rw [this]; rfl)

set_option maxHeartbeats 1000000 in
set_option maxRecDepth 100000 in
theorem l07Zero_any (s : ByteArray) (w : World) (ls : s.size ≤ 1048576) :
    Calls Tryz.prog 55 #[.string s] w fun e w' => e = .returned (.bool (zeroB s.data.toList)) ∧ w = w' := by
  obtain ⟨R, hR⟩ : ∃ R, zeroB s.data.toList = R := ⟨_, rfl⟩
  rw [hR]
  have HR : Hid (Unit → zeroB s.data.toList = R) := fun _ => hR
  clear hR
  go_enter Tryz.func55, Tryz.ntmps55
  go_wp2_with fail
  go_loop [3] (fun x => ∃ k : Nat, x = .int .i64 k ∧ k ≤ s.size ∧ Hid (zeroB (s.data.toList.take k) = true)) (fun x => s.size - (intOf x).toNat)
  case atStart => exact ⟨0, rfl, Nat.zero_le _, by rfl⟩
  case round =>
    obtain ⟨k, rfl, hk, HI⟩ := hrel
    by_cases hlt : k < s.size
    · have HT := take_snoc s k hlt
      obtain ⟨c, hc⟩ : ∃ c : Nat, (s[k]).toNat = c := ⟨_, rfl⟩
      by_cases hz : c = 48
      · have HN : Hid (zeroB (s.data.toList.take (k + 1)) = true) := by
          show zeroB _ = true
          rw [HT, zeroB_snoc, HI.out, Bool.true_and, beq_iff_eq]
          exact UInt8.toNat_inj.mp (by rw [hc, hz]; rfl)
        clear HI HT
        subst hz
        go_wp2
        go_round
        case rel => exact ⟨k + 1, by go_num, by omega, HN⟩
        case measure => simp [intOf]; omega
      · have HZ : Hid (Unit → R = false) := fun _ => by
          rw [← HR.out (), ← List.take_append_drop (k + 1) s.data.toList, HT]
          unfold zeroB
          rw [List.all_append, List.all_append]
          have : (s[k] == 48) = false := by
            rw [beq_eq_false_iff_ne]
            intro h
            rw [h] at hc
            exact hz (hc.symm.trans rfl)
          simp [this]
        have dz : ((c : Int) == 48) = false := by rw [beq_eq_false_iff_ne]; omega
        clear HI HT
        go_wp2
        go_ret
        exact ⟨by rw [HZ.out ()]; rfl, rfl⟩
    · have hke : k = s.size := by omega
      subst hke
      have HZ : Hid (Unit → R = true) := fun _ => by
        rw [← HR.out ()]
        have := HI.out
        rw [take_all] at this
        exact this
      clear HI
      go_wp2
      go_ret
      exact ⟨by rw [HZ.out ()]; rfl, rfl⟩

set_option maxHeartbeats 2000000 in
set_option maxRecDepth 100000 in
theorem l07Bin_any (s : ByteArray) (w : World) (hs : Figs s.data.toList) (ls : s.size ≤ 800) :
    Calls Tryz.prog 66 #[.string s] w fun e w' => ∃ (v : Value) (xs : List Nat), e = .returned v ∧ RowW w' w.heap.size v xs ∧ Below w.heap.size w w' ∧ binV xs = digV s.data.toList ∧ BinOk xs ∧ xs.length ≤ s.size := by
  have HF : Hid (Figs s.data.toList) := hs
  clear hs
  go_enter Tryz.func66, Tryz.ntmps66
  go_upto_region 3 with fail
  go_loopw [3, 4] (fun v x wr => ∃ (k : Nat) (xs : List Nat), x = .int .i64 k ∧ k ≤ s.size ∧ RowW wr w.heap.size v xs ∧ Below w.heap.size w wr ∧ Hid (binV xs = digV (s.data.toList.take k) ∧ BinOk xs ∧ xs.length ≤ k)) (fun _ x _ => s.size - (intOf x).toNat)
  case atStart => exact ⟨0, [], rfl, Nat.zero_le _, World.ownsRow_made w #[] 0 (Nat.le_refl _) (Nat.zero_le _) rfl, (Below.refl _ _).alloc (Nat.le_refl _) _, ⟨by rfl, binOk_nil, by simp⟩⟩
  case round =>
    obtain ⟨k, xs, rfl, hk, hrow, hbel, HI⟩ := hrel
    have hsz := hbel.size
    by_cases hlt : k < s.size
    · have HT : Hid _ := take_snoc s k hlt
      obtain ⟨c, hc⟩ : ∃ c : Nat, (s[k]).toNat = c := ⟨_, rfl⟩
      have hc1 : 48 ≤ c ∧ c ≤ 57 := by
        rw [← hc]
        exact HF.out _ (by rw [← List.take_append_drop (k + 1) s.data.toList, take_snoc s k hlt]; simp)
      obtain ⟨d, hd⟩ : ∃ d : Nat, (c : Int) - 48 = d := ⟨c - 48, by omega⟩
      have hc2 : (48 : Int) ≤ c := by omega
      have hc3 : (c : Int) ≤ 57 := by omega
      have cM := l07MulAdd_any _ xs 10 d w.heap.size wr hrow HI.out.2.1 (by decide) (by omega) (by have := HI.out.2.2; omega)
      have HD : Hid (Unit → ∀ ys, binV ys = binV xs * 10 + d → ys.length ≤ xs.length + 1 → binV ys = digV (s.data.toList.take (k + 1)) ∧ ys.length ≤ k + 1) := fun _ ys h1 h2 => by
        have h3 := HI.out.1
        have h4 := HI.out.2.2
        refine ⟨?_, by omega⟩
        rw [HT.out, digV_snoc, hc, h1, h3]
        omega
      clear HI HT hc1
      go_wp2_with fail
      refine cM.mono ?_
      rintro e w2 ⟨v', ys, rfl, hrow2, hb2, h1, h2, h3⟩
      obtain ⟨d1, d2⟩ := HD.out () ys h1 h3
      have HN : Hid (binV ys = digV (s.data.toList.take (k + 1)) ∧ BinOk ys ∧ ys.length ≤ k + 1) := ⟨d1, h2, d2⟩
      have hrow3 := hrow2.base hsz
      have hbel3 := chain hbel hb2
      clear HD h1 h2 h3 d1 d2 cM hrow2 hb2 hrow
      go_wp2
      go_roundw
      case rel => exact ⟨k + 1, ys, by go_num, by omega, hrow3, hbel3, HN⟩
      case measure => simp [intOf]; omega
    · have hke : k = s.size := by omega
      subst hke
      have HN : Hid (binV xs = digV s.data.toList ∧ BinOk xs ∧ xs.length ≤ s.size) := by
        have := HI.out
        rw [take_all] at this
        exact this
      clear HI
      go_wp2
      go_ret
      exact ⟨_, xs, rfl, hrow, hbel, HN.out.1, HN.out.2.1, HN.out.2.2⟩

end Go.Proofs.YtcabanghegddhaaGreatDoor
