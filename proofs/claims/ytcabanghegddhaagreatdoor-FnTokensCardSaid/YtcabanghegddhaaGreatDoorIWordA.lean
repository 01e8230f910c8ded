/-
  Several texts in one: IWordT, IWordF, IWordC.
-/
import Derived.Test.YtcabanghegddhaaGreatDoorNumA
import Derived.Test.YtcabanghegddhaaGreatDoorBinA
import Derived.Test.YtcabanghegddhaaGreatDoorGreatA
import Derived.Test.YtcabanghegddhaaGreatDoorShelf
import Derived.Laws.Externs
import Derived.Lib.AppendZerosOnto
import Derived.Lib.AppendZeros
import Derived.Lib.SliceRun
namespace Go.Proofs.YtcabanghegddhaaGreatDoor
open Go.RowKit
set_option linter.unusedVariables false

theorem add64_run (x y S C : Nat) (hS : (x + y) % 18446744073709551616 = S) (hC : (x + y) / 18446744073709551616 = C) (W : World) :
    (callFunc 122 #[.int .u64 (x : Int), .int .u64 (y : Int), .int .u64 0]).run Tryz.prog W = .ok (.value (.tuple #[.int .u64 (S : Int), .int .u64 (C : Int)])) W := by
  rw [run_callFunc_extern Tryz.func122 (by kernel_rfl) (by kernel_rfl) (by kernel_rfl) (e := add64Entry) (by kernel_rfl), run_add64 x y 0 (by omega) (by omega) (by omega) (by omega)]
  rw [(by omega : ((x : Int) + y + 0) % 18446744073709551616 = S), (by omega : ((x : Int) + y + 0) / 18446744073709551616 = C)]
  rfl

set_option maxHeartbeats 4000000 in
set_option maxRecDepth 100000 in
theorem wtimesWalk (g ca b m0 B : Nat) (xs : List Nat) (w : World) (hA : RowW w B (.slice (some ⟨g, 0, none⟩) xs.length ca) xs) (oa : WordOk xs) (hB : B ≤ w.heap.size) (hb : b < 18446744073709551616) (hm : m0 < 18446744073709551616) (la : xs.length ≤ 1000) :
    Calls Tryz.prog 99 #[.slice (some ⟨g, 0, none⟩) xs.length ca, .int .u64 b, .int .u64 m0] w fun e w' => ∃ (v' : Value) (ys : List Nat), e = .returned v' ∧ RowW w' B v' ys ∧ w.grownBy w' (some g) ∧ wordV ys = wordV xs * b + m0 ∧ WordOk ys ∧ (ys.length = xs.length ∨ (ys.length = xs.length + 1 ∧ 2 ^ (64 * xs.length) ≤ wordV ys)) := by
  obtain ⟨i0, hi, hz0, hz1, hz2⟩ := info_parts Tryz.infoWord
  obtain ⟨L, hL⟩ : ∃ L, xs.length = L := ⟨_, rfl⟩
  rw [hL] at hA la
  rw [hL]
  have HB : Hid (Unit → b < 18446744073709551616 ∧ m0 < 18446744073709551616 ∧ xs.length = L ∧ WordOk xs ∧ L ≤ 1000) := fun _ => ⟨hb, hm, hL, oa, la⟩
  have HM : Hid (Unit → MulW xs b m0 0 xs m0) := fun _ => mulW_start b m0 oa
  have hA' : w.ownsRow B 28 1 (.slice (some ⟨g, 0, none⟩) L ca) L (xs.map fun x => Value.int .u64 (x : Nat)) := by
    have := hA
    unfold RowW at this
    rw [hL] at this
    exact this
  have la' : (L : Int) ≤ 1000 := by omega
  clear hb hm hL oa la hA
  go_enter Tryz.func99, Tryz.ntmps99
  go_upto_region 2 with fail
  go_loopw [2, 15] (fun x y wr => ∃ (i mo : Nat) (zs : List Nat), y = .int .i64 i ∧ x = .int .u64 mo ∧ i ≤ L ∧ wr.ownsRow B 28 1 (.slice (some ⟨g, 0, none⟩) L ca) L (zs.map fun x => Value.int .u64 (x : Nat)) ∧ w.grownBy wr (some g) ∧ Hid (Unit → mo < 18446744073709551616 ∧ MulW xs b m0 i zs mo)) (fun _ y _ => L - (intOf y).toNat)
  case atStart => exact ⟨0, m0, xs, rfl, rfl, by omega, hA', World.grownBy.refl _ _, fun _ => ⟨(HB.out ()).2.1, HM.out ()⟩⟩
  case round =>
    clear hA' HM
    obtain ⟨i, mo, zs, rfl, rfl, hil, hown, hgr, HI⟩ := hrel
    by_cases hlt : i < L
    · obtain ⟨x, hx⟩ : ∃ x, zs.getD i 0 = x := ⟨_, rfl⟩
      have hlen : zs.length = L := by rw [(HI.out ()).2.len, (HB.out ()).2.2.1]
      have ox : x < 18446744073709551616 := by rw [← hx]; exact wordOk_at (HI.out ()).2.ok i
      have hcell : wr.cell? ⟨g, i, none⟩ = some (.int .u64 (x : Int)) := by
        rw [World.ownsRow.cellAt hown i (by omega), List.getElem?_map, List.getElem?_eq_getElem (by omega), ← hx, List.getD_eq_getElem?_getD, List.getElem?_eq_getElem (by omega)]
        rfl
      have hfz := row_free hown i
      have cM := fun W => Tryz.bits_Mul64 x b ox (HB.out ()).1 W
      obtain ⟨U, hU⟩ : ∃ U, x * b / 18446744073709551616 = U := ⟨_, rfl⟩
      obtain ⟨D, hD⟩ : ∃ D, x * b % 18446744073709551616 = D := ⟨_, rfl⟩
      rw [hU, hD] at cM
      obtain ⟨S, hS⟩ : ∃ S, (D + mo) % 18446744073709551616 = S := ⟨_, rfl⟩
      obtain ⟨C, hC⟩ : ∃ C, (D + mo) / 18446744073709551616 = C := ⟨_, rfl⟩
      have hadd := fun W => add64_run D mo S C hS hC W
      have hX : x * b + mo = 18446744073709551616 * (U + C) + S := by
        have h1 := Nat.div_add_mod (x * b) 18446744073709551616
        have h2 := Nat.div_add_mod (D + mo) 18446744073709551616
        omega
      have hS1 : S < 18446744073709551616 := by omega
      have hUC : U + C < 18446744073709551616 := by
        have h1 : x * b ≤ 18446744073709551615 * 18446744073709551615 := Nat.mul_le_mul (by omega) (by have := (HB.out ()).1; omega)
        have h2 := (HI.out ()).1
        omega
      have HN : Hid (Unit → U + C < 18446744073709551616 ∧ MulW xs b m0 (i + 1) (zs.set i S) (U + C)) := fun _ => by
        have h3 := mulW_step (X := x * b + mo) (HI.out ()).2 (by have := (HB.out ()).2.2.1; omega) (by rw [hx])
        rw [hX, (by omega : (18446744073709551616 * (U + C) + S) % 18446744073709551616 = S), (by omega : (18446744073709551616 * (U + C) + S) / 18446744073709551616 = U + C)] at h3
        exact ⟨hUC, h3⟩
      have hwr : IntKind.u64.wrap ((U : Int) + C) = ((U + C : Nat) : Int) := by
        show ((U : Int) + C) % 18446744073709551616 = _
        omega
      obtain ⟨K, hK⟩ : ∃ K, U + C = K := ⟨_, rfl⟩
      rw [hK] at hwr HN
      have st := World.ownsRow.stored hown i (.int .u64 (S : Int))
      have HST : Hid _ := st
      have hil' : (i : Int) < L := by omega
      clear st hx ox hU hD hS hC hX hS1 hUC hK HI hlen
      go_wp2_with fail
      refine (cM _).mono ?_
      rintro e w' ⟨rfl, rfl⟩
      go_wp2
      go_roundw
      case rel =>
        refine ⟨i + 1, K, zs.set i S, by go_num, by simp, by omega, ?_, World.grownBy.trans hgr HST.out.2, HN⟩
        rw [List.map_set]
        exact HST.out.1
      case measure => simp [intOf]; omega
    · have hie : i = L := by omega
      subst hie
      have hlt' : decide ((i : Int) < i) = false := by simp
      have HE : Hid (Unit → wordV zs + 2 ^ (64 * i) * mo = wordV xs * b + m0 ∧ WordOk zs ∧ zs.length = i ∧ mo < 18446744073709551616) := fun _ => by
        have h1 := (HI.out ()).2
        have h2 := (HB.out ()).2.2.1
        rw [← h2] at h1
        have h3 := mulW_end h1
        rw [h2] at h3
        exact ⟨h3, h1.ok, h1.len.trans h2, (HI.out ()).1⟩
      have hzl : zs.length = i := (HE.out ()).2.2.1
      by_cases h0 : mo = 0
      · subst h0
        clear HI
        go_wp2
        go_ret
        refine ⟨_, zs, rfl, ?_, hgr, ?_, (HE.out ()).2.1, .inl hzl⟩
        · unfold RowW
          rw [hzl]
          exact hown
        · have := (HE.out ()).1
          rw [Nat.mul_zero, Nat.add_zero] at this
          exact this
      · have h0' : 0 < mo := by omega
        clear HI
        have hsz := hgr.size
        go_wp2_with (at_builtin; refine wpList_append_own _ rfl _ _ 93 rfl B 28 i0 (.int .u64 0) 1 8 Tryz.underlying93 hi hz0 hz1 hz2 rfl (by decide) _ _ _ rfl (hown.alloc _) ⟨wr.heap.size, 0, none⟩ 1 1 [.int .u64 (mo : Int)] rfl rfl (cell_one_new _ _ _) (by simp [Value.oneCell']) (by unfold maxLen; omega) (by omega) (by simp; omega) ?_)
        intro v' w1 hown' hgrow _
        go_wp2
        go_ret
        refine ⟨v', zs ++ [mo], rfl, ?_, World.grownBy.trans (World.grownBy.trans hgr (World.grownBy_alloc _ _ _)) hgrow, ?_, wordOk_snoc (HE.out ()).2.1 (HE.out ()).2.2.2, .inr ⟨by simp [hzl], ?_⟩⟩
        · unfold RowW
          rw [List.length_append, hzl, List.map_append]
          exact hown'
        · rw [wordV_snoc, hzl]
          exact (HE.out ()).1
        · rw [wordV_snoc, hzl]
          have : 2 ^ (64 * i) * 1 ≤ 2 ^ (64 * i) * mo := Nat.mul_le_mul_left _ h0'
          omega

end Go.Proofs.YtcabanghegddhaaGreatDoor

namespace Go.Proofs.YtcabanghegddhaaGreatDoor
open Go.RowKit
set_option linter.unusedVariables false

theorem five_lt {k : Nat} (h : k ≤ 27) : 5 ^ k < 9223372036854775808 := by
  have : (5 : Nat) ^ k ≤ 5 ^ 27 := Nat.pow_le_pow_right (by decide) h
  have e : (5 : Nat) ^ 27 = 7450580596923828125 := by decide
  omega

set_option maxHeartbeats 1000000 in
set_option maxRecDepth 100000 in
theorem fiveWalk (n : Nat) (w : World) (hn : n ≤ 27) :
    Calls Tryz.prog 100 #[.int .i64 n] w fun e w' => e = .returned (.int .u64 ((5 ^ n : Nat) : Int)) ∧ w = w' := by
  obtain ⟨F, hF⟩ : ∃ F, 5 ^ n = F := ⟨_, rfl⟩
  rw [hF]
  have HF : Hid (Unit → 5 ^ n = F ∧ n ≤ 27) := fun _ => ⟨hF, hn⟩
  have hn' : (n : Int) ≤ 27 := by omega
  clear hF hn
  go_enter Tryz.func100, Tryz.ntmps100
  go_upto_region 3 with fail
  go_loop [3, 5] (fun x y => ∃ i p : Nat, y = .int .i64 i ∧ x = .int .u64 p ∧ (i : Int) ≤ n ∧ Hid (Unit → p = 5 ^ i)) (fun _ y => n - (intOf y).toNat)
  case atStart => exact ⟨0, 1, rfl, rfl, by omega, fun _ => rfl⟩
  case round =>
    obtain ⟨i, p, rfl, rfl, hi, HP⟩ := hrel
    by_cases hlt : (i : Int) < n
    · obtain ⟨q, hq⟩ : ∃ q, p * 5 = q := ⟨_, rfl⟩
      have hw : IntKind.u64.wrap ((p : Int) * 5) = q := by
        have h1 := HP.out ()
        have h2 := five_lt (k := i + 1) (by have := (HF.out ()).2; omega)
        rw [Nat.pow_succ, ← h1] at h2
        show (p : Int) * 5 % 18446744073709551616 = q
        omega
      have HQ : Hid (Unit → q = 5 ^ (i + 1)) := fun _ => by rw [Nat.pow_succ, ← HP.out (), hq]
      clear hq HP
      go_wp2
      go_round
      case rel => exact ⟨i + 1, q, by go_num, by simp, by omega, HQ⟩
      case measure => simp [intOf]; omega
    · have hin : i = n := by omega
      subst hin
      have hlt' : decide ((i : Int) < i) = false := by simp
      have HE : Hid (Unit → p = F) := fun _ => (HP.out ()).trans (HF.out ()).1
      clear HP
      go_wp2
      go_ret
      exact ⟨by rw [HE.out ()]; rfl, rfl⟩

theorem RowW.nonempty {w : World} {B : Nat} {v : Value} {xs : List Nat} (h : RowW w B v xs) (h1 : xs.length ≠ 0) : ∃ g cap, v = .slice (some ⟨g, 0, none⟩) xs.length cap ∧ B ≤ g ∧ g < w.heap.size := by
  rcases h.cells with ⟨_, rfl⟩ | ⟨g, cap, rfl, h2, h3, _⟩
  · simp at h1
  · exact ⟨g, cap, rfl, h2, h3⟩
theorem below_of_grown {B g : Nat} {w0 w w' : World} (h : Below B w0 w) (hg : w.grownBy w' (some g)) (hB : B ≤ w.heap.size) (hle : B ≤ g) : Below B w0 w' :=
  h.grown hg hB (fun k e => by cases e; exact hle)

set_option maxHeartbeats 2000000 in
set_option maxRecDepth 100000 in
theorem timesFivesWalk (v : Value) (xs : List Nat) (cnt : Int) (B : Nat) (w : World) (hA : RowW w B v xs) (oa : WordOk xs) (h1 : 1 ≤ xs.length) (hB : B ≤ w.heap.size) (hc1 : -500 ≤ cnt) (hc2 : cnt ≤ 500) (la : xs.length ≤ 100) :
    Calls Tryz.prog 75 #[v, .int .i64 cnt] w fun e w' => ∃ (v' : Value) (ys : List Nat), e = .returned v' ∧ RowW w' B v' ys ∧ Below B w w' ∧ wordV ys = wordV xs * 5 ^ cnt.toNat ∧ WordOk ys ∧ (2 ^ (64 * (xs.length - 1)) ≤ wordV xs → 2 ^ (64 * (ys.length - 1)) ≤ wordV ys) ∧ 1 ≤ ys.length ∧ ys.length ≤ xs.length + 19 := by
  obtain ⟨g, ca, rfl, hg1, hg2⟩ := hA.nonempty (by omega)
  obtain ⟨L, hL⟩ : ∃ L, xs.length = L := ⟨_, rfl⟩
  rw [hL] at hA h1 la
  rw [hL]
  have HA : Hid (Unit → WordOk xs ∧ xs.length = L) := fun _ => ⟨oa, hL⟩
  obtain ⟨N, hN⟩ : ∃ N, wordV xs = N := ⟨_, rfl⟩
  have HN : Hid (Unit → wordV xs = N) := fun _ => hN
  rw [hN]
  have hsz0 := hB
  clear hL oa hN hg1 hg2
  go_enter Tryz.func75, Tryz.ntmps75
  go_upto_region 1 with fail
  go_loopw [0, 1] (fun x y wr => ∃ (c : Int) (ys : List Nat) (g ca d : Nat), y = .int .i64 c ∧ x = .slice (some ⟨g, 0, none⟩) ys.length ca ∧ RowW wr B (.slice (some ⟨g, 0, none⟩) ys.length ca) ys ∧ Below B w wr ∧ c ≤ 500 ∧ -500 ≤ c ∧ 1 ≤ ys.length ∧ ys.length + (c.toNat + 26) / 27 ≤ L + 19 ∧ Hid (Unit → wordV ys = N * 5 ^ d ∧ d + c.toNat = cnt.toNat ∧ WordOk ys ∧ (2 ^ (64 * (L - 1)) ≤ N → 2 ^ (64 * (ys.length - 1)) ≤ wordV ys))) (fun _ y _ => (intOf y).toNat)
  case atStart =>
    refine ⟨cnt, xs, g, ca, 0, rfl, by rw [(HA.out ()).2], by rw [(HA.out ()).2]; exact hA, Below.refl _ _, hc2, hc1, by rw [(HA.out ()).2]; exact h1, by rw [(HA.out ()).2]; omega, fun _ => ⟨by rw [HN.out ()]; simp, by omega, (HA.out ()).1, fun h => by rw [(HA.out ()).2, HN.out ()]; exact h⟩⟩
  case round =>
    clear hA HA HN
    clear xs g ca
    obtain ⟨c, ys, g, ca, d, rfl, rfl, hown, hbel, hc3, hc4, hy1, hyl, HI⟩ := hrel
    have hsz := hbel.size
    by_cases hpos : 0 < c
    · obtain ⟨k, hk⟩ : ∃ k : Nat, min c 27 = k := ⟨(min c 27).toNat, by omega⟩
      have hk27 : k ≤ 27 := by omega
      have cF := fun W => fiveWalk k W hk27
      obtain ⟨F, hF⟩ : ∃ F, 5 ^ k = F := ⟨_, rfl⟩
      rw [hF] at cF
      rw [← hk] at cF
      obtain ⟨g', ca', hv, hg1, hg2⟩ := hown.nonempty (by omega)
      injection hv with hv _ hca
      injection hv with hv
      injection hv with hv
      subst hv
      subst hca
      have hk0 : 1 ≤ k := by omega
      have hF0 : 1 ≤ F := by rw [← hF]; exact Nat.pos_of_ne_zero (by simp)
      have cT := wtimesWalk g ca F 0 B ys wr hown (HI.out ()).2.2.1 (by omega) (by have := five_lt hk27; omega) (by decide) (by omega)
      have z0 : ((0 : Nat) : Int) = 0 := rfl
      rw [z0] at cT
      have HK : Hid (Unit → 5 ^ k = F ∧ min c 27 = k ∧ 1 ≤ F) := fun _ => ⟨hF, hk, hF0⟩
      have hkc : c - 27 ≤ 0 ∨ (k : Int) = 27 := by omega
      have HC : Hid (Unit → c - 27 ≤ 0 ∨ (k : Int) = 27) := fun _ => hkc
      clear hF hk hk0 hF0 hk27 hkc
      go_wp2_with fail
      with_reducible refine (cF _).mono ?_
      rintro e w' ⟨rfl, rfl⟩
      go_wp2_with fail
      with_reducible refine cT.mono ?_
      rintro e w1 ⟨v', zs, rfl, hrow, hgr, hval, hok, hlen⟩
      clear cT
      obtain ⟨g2, ca2, rfl, _, _⟩ := hrow.nonempty (by omega)
      have hb1 : Below B w w1 := below_of_grown hbel hgr (by omega) hg1
      have HV : Hid (Unit → wordV zs = wordV ys * F + 0 ∧ WordOk zs ∧ (zs.length = ys.length ∨ (zs.length = ys.length + 1 ∧ 2 ^ (64 * ys.length) ≤ wordV zs))) := fun _ => ⟨hval, hok, hlen⟩
      have hl1 : 1 ≤ zs.length := by omega
      have hl2 : zs.length ≤ ys.length + 1 := by omega
      clear hval hok hlen hgr
      go_wp2
      go_roundw
      case rel =>
        refine ⟨c - 27, zs, g2, ca2, d + k, by go_num, rfl, hrow, hb1, by omega, by omega, hl1, by omega, fun _ => ?_⟩
        obtain ⟨i1, i2, i3, i4⟩ := HI.out ()
        obtain ⟨k1, k2, k3⟩ := HK.out ()
        obtain ⟨v1, v2, v3⟩ := HV.out ()
        refine ⟨by rw [v1, Nat.add_zero, i1, Nat.pow_add, k1, Nat.mul_assoc], by omega, v2, fun h => ?_⟩
        rcases v3 with v3 | ⟨v3, v4⟩
        · rw [v3, v1, Nat.add_zero]
          exact Nat.le_trans (i4 h) (Nat.le_mul_of_pos_right _ k3)
        · rw [v3, Nat.add_sub_cancel]; exact v4
      case measure => simp [intOf]; omega
    · have hpos' : decide (0 < c) = false := by simp; omega
      go_wp2
      go_ret
      obtain ⟨i1, i2, i3, i4⟩ := HI.out ()
      refine ⟨_, rfl, ys, hown, hbel, ?_, i3, i4, hy1, by omega⟩
      rw [i1, (by omega : d = cnt.toNat)]

end Go.Proofs.YtcabanghegddhaaGreatDoor

namespace Go.Proofs.YtcabanghegddhaaGreatDoor
open Go.RowKit
set_option linter.unusedVariables false

set_option maxHeartbeats 1000000 in
set_option maxRecDepth 100000 in
theorem growWalk (n : Nat) (w : World) (h0 : 0 < n) (hn : n ≤ 100000) :
    Calls Tryz.prog 101 #[.slice none 0 0, .int .i64 n] w fun e w' => ∃ v : Value, e = .returned v ∧ w'.ownsRow w.heap.size 28 1 v 0 [] ∧ Below w.heap.size w w' := by
  obtain ⟨i0, hi, hz0, hz1, hz2⟩ := info_parts Tryz.infoWord
  obtain ⟨G, hG⟩ : ∃ G, G = grownCap w n 0 28 := ⟨_, rfl⟩
  have hGn : n ≤ G := by rw [hG]; exact grownCap_ge w _ _ _
  have hGm : G ≤ maxLen := by rw [hG]; exact grownCap_le_maxLen w n 0 _ (by unfold maxLen; omega)
  obtain ⟨cs, hcs⟩ : ∃ cs : Array Value, (#[] : Array Value) ++ Builtin.zeroCells (Value.int .u64 0).cells n ++ Builtin.zeroCells (Value.int .u64 0).cells (G - n) = cs := ⟨_, rfl⟩
  have hsz : cs.size = G := by
    rw [← hcs, Array.size_append, Array.size_append, size_zeroCells, size_zeroCells]
    simp [Value.cells]
    omega
  have hrz : ∀ ty, (Builtin.append_ #[93, 3] ty #[.slice none 0 0, .int .i64 (n : Int)]).run Tryz.prog w = .ok (.slice (some ⟨w.heap.size, 0, none⟩) n G) (w.drew.alloc (.cells cs 28)) := fun ty => by
    have h := Lib.run_append_grow_zeros (P := Tryz.prog) w 93 3 ty 28 i0 (.int .u64 0) .i64 .i64 Tryz.underlying93 Tryz.underlying3 hi hz0 none 0 0 [] (run_firstCells_none w.drew i0.size 0 0 0) n h0 (by omega) (by omega) (by omega) (by rw [hz2]; omega) (by
      rw [hz2]
      exact growslice_fits (by omega) (by omega))
    rw [Nat.zero_add, ← hG] at h
    rw [h, ← hcs]
  have HO : Hid ((w.drew.alloc (.cells cs 28)).ownsRow w.heap.size 28 1 (.slice (some ⟨w.heap.size, 0, none⟩) 0 G) 0 []) :=
    ⟨rfl, .inr ⟨w.heap.size, G, cs, rfl, Nat.le_refl _, heap_alloc_new w.drew _, Nat.zero_le _, hGm, by rw [hsz, Nat.mul_one], by simp⟩⟩
  have hn' : (n : Int) ≤ 100000 := by omega
  have hGi : (G : Int) ≤ 9223372036854775807 := by unfold maxLen at hGm; omega
  clear hG hcs hsz hGm
  go_enter Tryz.func101, Tryz.ntmps101
  go_wp2_with (at_builtin; refine Lib.wpList_append_run _ rfl _ _ _ _ rfl _ _ rfl rfl _ _ (hrz _) ?_)
  go_ret
  exact ⟨_, rfl, HO.out, (Below.refl _ _).drew.alloc (Nat.le_refl _) _⟩

theorem row_cells {w : World} {B : Nat} {v : Value} {xs : List Nat} (h : RowW w B v xs) : ∃ ad c, v = .slice ad xs.length c ∧ (xs = [] ∨ ∃ g, ad = some ⟨g, 0, none⟩) ∧ ∀ g, ad = some ⟨g, 0, none⟩ → ∀ j u, (xs.map fun x => Value.int .u64 (x : Nat))[j]? = some u → w.cell? ((⟨g, 0, none⟩ : Addr).add j) = some u := by
  rcases h.cells with ⟨rfl, rfl⟩ | ⟨g, cap, rfl, h1, h2, hc⟩
  · exact ⟨none, 0, rfl, .inl rfl, fun g e => by cases e⟩
  · refine ⟨_, cap, rfl, .inr ⟨g, rfl⟩, fun g' e j u hu => ?_⟩
    cases e
    exact World.ownsRow.cells h rfl j u hu

set_option maxHeartbeats 2000000 in
set_option maxRecDepth 100000 in
theorem concatWalk (q B1 B2 g1 c1 g2 c2 : Nat) (xs ys : List Nat) (w : World) (hq : w.heap[q]? = some (.cells #[.slice (some ⟨g1, 0, none⟩) xs.length c1, .slice (some ⟨g2, 0, none⟩) ys.length c2] 93 (0, 0)))
    (h1 : RowW w B1 (.slice (some ⟨g1, 0, none⟩) xs.length c1) xs) (h2 : RowW w B2 (.slice (some ⟨g2, 0, none⟩) ys.length c2) ys) (l1 : xs.length ≤ 1000) (l2 : ys.length ≤ 1000) (l0 : 0 < ys.length) :
    Calls Tryz.prog 76 #[.slice (some ⟨q, 0, none⟩) 2 2] w fun e w' => ∃ v : Value, e = .returned v ∧ RowW w' w.heap.size v (xs ++ ys) ∧ Below w.heap.size w w' := by
  obtain ⟨i0, hi, hz0, hz1, hz2⟩ := info_parts Tryz.infoWord
  obtain ⟨m1, e1⟩ : ∃ m1, xs.length = m1 := ⟨_, rfl⟩
  obtain ⟨m2, e2⟩ : ∃ m2, ys.length = m2 := ⟨_, rfl⟩
  have HR : Hid (Unit → xs.length = m1 ∧ ys.length = m2 ∧ RowW w B1 (.slice (some ⟨g1, 0, none⟩) xs.length c1) xs ∧ RowW w B2 (.slice (some ⟨g2, 0, none⟩) ys.length c2) ys) := fun _ => ⟨e1, e2, h1, h2⟩
  rw [e1, e2] at hq
  rw [e1] at l1
  rw [e2] at l2 l0
  have l1' : (m1 : Int) ≤ 1000 := by omega
  have l2' : (m2 : Int) ≤ 1000 := by omega
  have ca : w.cell? ⟨q, 0, none⟩ = some (.slice (some ⟨g1, 0, none⟩) m1 c1) := by rw [cell_of_row w q 0 _ _ _ hq]; rfl
  have cb : w.cell? ⟨q, 1, none⟩ = some (.slice (some ⟨g2, 0, none⟩) m2 c2) := by rw [cell_of_row w q 1 _ _ _ hq]; rfl
  have hql : q < w.heap.size := (Array.getElem?_eq_some_iff.1 hq).1
  obtain ⟨n, hn⟩ : ∃ n, m1 + m2 = n := ⟨_, rfl⟩
  have hn1 : (m1 : Int) + m2 = n := by omega
  have cG := growWalk n w (by omega) (by omega)
  have HB : Hid (Unit → m1 + m2 = n) := fun _ => hn
  clear e1 e2 h1 h2 hn
  go_enter Tryz.func76, Tryz.ntmps76
  go_upto_region 3 with fail
  go_loop [3, 11] (fun x y => (x = .int .i64 0 ∧ y = .int .i64 0) ∨ (x = .int .i64 m1 ∧ y = .int .i64 1) ∨ (x = .int .i64 n ∧ y = .int .i64 2)) (fun _ y => 2 - (intOf y).toNat)
  case atStart => exact .inl ⟨rfl, rfl⟩
  case round =>
    rcases hrel with ⟨rfl, rfl⟩ | ⟨rfl, rfl⟩ | ⟨rfl, rfl⟩
    · go_wp2
      go_round
      case rel => exact .inr (.inl ⟨by simp, by simp⟩)
      case measure => simp [intOf]
    · go_wp2
      go_round
      case rel => exact .inr (.inr ⟨by simp, by simp⟩)
      case measure => simp [intOf]
    · go_wp2_with fail
      with_reducible refine cG.mono ?_
      rintro e w1 ⟨v, rfl, hown, hbel⟩
      have hsz := hbel.size
      have ca1 : w1.cell? ⟨q, 0, none⟩ = some (.slice (some ⟨g1, 0, none⟩) m1 c1) := (hbel.cell (p := ⟨q, 0, none⟩) hql).trans ca
      have cb1 : w1.cell? ⟨q, 1, none⟩ = some (.slice (some ⟨g2, 0, none⟩) m2 c2) := (hbel.cell (p := ⟨q, 1, none⟩) hql).trans cb
      clear cG
      go_upto_region 11 with fail
      go_loopw [6, 27] (fun u y wr => (y = .int .i64 0 ∧ wr.ownsRow w.heap.size 28 1 u 0 [] ∧ Below w.heap.size w wr) ∨ (y = .int .i64 1 ∧ wr.ownsRow w.heap.size 28 1 u m1 (xs.map fun x => Value.int .u64 (x : Nat)) ∧ Below w.heap.size w wr) ∨ (y = .int .i64 2 ∧ wr.ownsRow w.heap.size 28 1 u (m1 + m2) (xs.map (fun x => Value.int .u64 (x : Nat)) ++ ys.map (fun x => Value.int .u64 (x : Nat))) ∧ Below w.heap.size w wr)) (fun _ y _ => 2 - (intOf y).toNat)
      case atStart => exact .inl ⟨rfl, hown, hbel⟩
      case round =>
        clear ca1 cb1 hown hbel hsz
        have HO : Hid (∀ (W : World), Below w.heap.size w W → (∀ j u, (xs.map fun x => Value.int .u64 (x : Nat))[j]? = some u → W.cell? ((⟨g1, 0, none⟩ : Addr).add j) = some u) ∧ (∀ j u, (ys.map fun x => Value.int .u64 (x : Nat))[j]? = some u → W.cell? ((⟨g2, 0, none⟩ : Addr).add j) = some u)) := fun W hW =>
          ⟨fun j u hu => World.ownsRow.cells ((HR.out ()).2.2.1.below hW) rfl j u hu, fun j u hu => World.ownsRow.cells ((HR.out ()).2.2.2.below hW) rfl j u hu⟩
        have hx1 : ∀ u ∈ (xs.map fun x => Value.int .u64 (x : Nat)), u.oneCell' = true := fun u hu => by
          obtain ⟨y, _, rfl⟩ := List.mem_map.1 hu; rfl
        have hy1 : ∀ u ∈ (ys.map fun x => Value.int .u64 (x : Nat)), u.oneCell' = true := fun u hu => by
          obtain ⟨y, _, rfl⟩ := List.mem_map.1 hu; rfl
        rcases hrel with ⟨rfl, hown, hbel⟩ | ⟨rfl, hown, hbel⟩ | ⟨rfl, hown, hbel⟩
        · have hsz := hbel.size
          have ca1 : wr.cell? ⟨q, 0, none⟩ = some (.slice (some ⟨g1, 0, none⟩) m1 c1) := (hbel.cell (p := ⟨q, 0, none⟩) hql).trans ca
          have hnews := (HO.out wr hbel).1
          go_wp2_with (at_builtin; refine wpList_append_own _ rfl _ _ 93 rfl w.heap.size 28 i0 (.int .u64 0) 1 8 Tryz.underlying93 hi hz0 hz1 hz2 rfl (by decide) _ _ _ rfl hown ⟨g1, 0, none⟩ m1 c1 (xs.map fun x => Value.int .u64 (x : Nat)) rfl (by simp [(HR.out ()).1]) hnews hx1 (by unfold maxLen; omega) (by omega) hsz ?_)
          intro v' w2 hown' hgrow _
          have hb2 : Below w.heap.size w w2 := hbel.grown hgrow hsz (fun k hk => (hown.lt k hk).1)
          clear hnews hgrow hown HO
          go_wp2
          go_roundw
          case rel => exact .inr (.inl ⟨by simp, hown', hb2⟩)
          case measure => simp [intOf]
        · have hsz := hbel.size
          have cb1 : wr.cell? ⟨q, 1, none⟩ = some (.slice (some ⟨g2, 0, none⟩) m2 c2) := (hbel.cell (p := ⟨q, 1, none⟩) hql).trans cb
          have hnews := (HO.out wr hbel).2
          go_wp2_with (at_builtin; refine wpList_append_own _ rfl _ _ 93 rfl w.heap.size 28 i0 (.int .u64 0) 1 8 Tryz.underlying93 hi hz0 hz1 hz2 rfl (by decide) _ _ _ rfl hown ⟨g2, 0, none⟩ m2 c2 (ys.map fun x => Value.int .u64 (x : Nat)) rfl (by simp [(HR.out ()).2.1]) hnews hy1 (by unfold maxLen; omega) (by omega) hsz ?_)
          intro v' w2 hown' hgrow _
          have hb2 : Below w.heap.size w w2 := hbel.grown hgrow hsz (fun k hk => (hown.lt k hk).1)
          clear hnews hgrow hown HO
          go_wp2
          go_roundw
          case rel => exact .inr (.inr ⟨by simp, hown', hb2⟩)
          case measure => simp [intOf]
        · go_wp2
          go_ret
          refine ⟨_, rfl, ?_, hbel⟩
          unfold RowW
          rw [List.length_append, (HR.out ()).1, (HR.out ()).2.1, List.map_append]
          exact hown

end Go.Proofs.YtcabanghegddhaaGreatDoor
