/-
  The walks of the program's words: times a number and more.
-/
import Derived.Test.YtfbdhafbpcpjlaaWordB
import Derived.Test.YtfbdhafbpcpjlaaBin
import Derived.Test.YtfbdhafbpcpjlaaLimbMul
import Derived.Test.YtfbdhafbpcpjlaaShelf
import Derived.Laws.Externs
namespace Go.Proofs.Ytfbdhafbpcpjlaa
open Go.RowKit
set_option linter.unusedVariables false

theorem add64_run (x y S C : Nat) (hS : (x + y) % 18446744073709551616 = S) (hC : (x + y) / 18446744073709551616 = C) (W : World) :
    (callFunc 61 #[.int .u64 (x : Int), .int .u64 (y : Int), .int .u64 0]).run Try.prog W = .ok (.value (.tuple #[.int .u64 (S : Int), .int .u64 (C : Int)])) W := by
  rw [run_callFunc_extern Try.func61 (by kernel_rfl) (by kernel_rfl) (by kernel_rfl) (e := add64Entry) (by kernel_rfl), run_add64 x y 0 (by omega) (by omega) (by omega) (by omega)]
  rw [(by omega : ((x : Int) + y + 0) % 18446744073709551616 = S), (by omega : ((x : Int) + y + 0) / 18446744073709551616 = C)]
  rfl

set_option maxHeartbeats 4000000 in
set_option maxRecDepth 100000 in
theorem timesWalk (g ca b m0 B : Nat) (xs : List Nat) (w : World) (hA : RowW w B (.slice (some ⟨g, 0, none⟩) xs.length ca) xs) (oa : WordOk xs) (hB : B ≤ w.heap.size) (hb : b < 18446744073709551616) (hm : m0 < 18446744073709551616) (la : xs.length ≤ 1000) :
    Calls Try.prog 46 #[.slice (some ⟨g, 0, none⟩) xs.length ca, .int .u64 b, .int .u64 m0] w fun e w' => ∃ (v' : Value) (ys : List Nat), e = .returned v' ∧ RowW w' B v' ys ∧ w.grownBy w' (some g) ∧ wordV ys = wordV xs * b + m0 ∧ WordOk ys ∧ (ys.length = xs.length ∨ (ys.length = xs.length + 1 ∧ 2 ^ (64 * xs.length) ≤ wordV ys)) := by
  obtain ⟨i0, hi, hz0, hz1, hz2⟩ := info_parts Try.infoWord
  obtain ⟨L, hL⟩ : ∃ L, xs.length = L := ⟨_, rfl⟩
  rw [hL] at hA la
  rw [hL]
  have HB : Hid (Unit → b < 18446744073709551616 ∧ m0 < 18446744073709551616 ∧ xs.length = L ∧ WordOk xs ∧ L ≤ 1000) := fun _ => ⟨hb, hm, hL, oa, la⟩
  have HM : Hid (Unit → MulW xs b m0 0 xs m0) := fun _ => mulW_start b m0 oa
  have hA' : w.ownsRow B 24 1 (.slice (some ⟨g, 0, none⟩) L ca) L (xs.map fun x => Value.int .u64 (x : Nat)) := by
    have := hA
    unfold RowW at this
    rw [hL] at this
    exact this
  have la' : (L : Int) ≤ 1000 := by omega
  clear hb hm hL oa la hA
  go_enter Try.func46, Try.ntmps46
  go_upto_region 2 with fail
  go_loopw [2, 15] (fun x y wr => ∃ (i mo : Nat) (zs : List Nat), y = .int .i64 i ∧ x = .int .u64 mo ∧ i ≤ L ∧ wr.ownsRow B 24 1 (.slice (some ⟨g, 0, none⟩) L ca) L (zs.map fun x => Value.int .u64 (x : Nat)) ∧ w.grownBy wr (some g) ∧ Hid (Unit → mo < 18446744073709551616 ∧ MulW xs b m0 i zs mo)) (fun _ y _ => L - (intOf y).toNat)
  case atStart => exact ⟨0, m0, xs, rfl, rfl, by omega, hA', World.grownBy.refl _ _, fun _ => ⟨(HB.out ()).2.1, HM.out ()⟩⟩
  case round =>
    clear hA' HM
    obtain ⟨i, mo, zs, rfl, rfl, hil, hown, hgr, HI⟩ := hrel
    by_cases hlt : i < L
    · obtain ⟨x, hx⟩ : ∃ x, zs.getD i 0 = x := ⟨_, rfl⟩
      have hlen : zs.length = L := by rw [(HI.out ()).2.len, (HB.out ()).2.2.1]
      have ox : x < 18446744073709551616 := by rw [← hx]; exact wordOk_at (HI.out ()).2.ok i
      have hcell : wr.cell? ⟨g, i, none⟩ = some (.int .u64 (x : Int)) := by
        rw [World.ownsRow.cellAt hown i (by omega), List.getElem?_map, List.getElem?_eq_getElem (by omega), ← hx, List.getD_eq_getElem?_getD, List.getElem?_eq_getElem (by omega)]
        rfl
      have hfz := row_free hown i
      have cM := fun W => Try.bits_Mul64 x b ox (HB.out ()).1 W
      obtain ⟨U, hU⟩ : ∃ U, x * b / 18446744073709551616 = U := ⟨_, rfl⟩
      obtain ⟨D, hD⟩ : ∃ D, x * b % 18446744073709551616 = D := ⟨_, rfl⟩
      rw [hU, hD] at cM
      obtain ⟨S, hS⟩ : ∃ S, (D + mo) % 18446744073709551616 = S := ⟨_, rfl⟩
      obtain ⟨C, hC⟩ : ∃ C, (D + mo) / 18446744073709551616 = C := ⟨_, rfl⟩
      have hadd := fun W => add64_run D mo S C hS hC W
      have hX : x * b + mo = 18446744073709551616 * (U + C) + S := by
        have h1 := Nat.div_add_mod (x * b) 18446744073709551616
        have h2 := Nat.div_add_mod (D + mo) 18446744073709551616
        omega
      have hS1 : S < 18446744073709551616 := by omega
      have hUC : U + C < 18446744073709551616 := by
        have h1 : x * b ≤ 18446744073709551615 * 18446744073709551615 := Nat.mul_le_mul (by omega) (by have := (HB.out ()).1; omega)
        have h2 := (HI.out ()).1
        omega
      have HN : Hid (Unit → U + C < 18446744073709551616 ∧ MulW xs b m0 (i + 1) (zs.set i S) (U + C)) := fun _ => by
        have h3 := mulW_step (X := x * b + mo) (HI.out ()).2 (by have := (HB.out ()).2.2.1; omega) (by rw [hx])
        rw [hX, (by omega : (18446744073709551616 * (U + C) + S) % 18446744073709551616 = S), (by omega : (18446744073709551616 * (U + C) + S) / 18446744073709551616 = U + C)] at h3
        exact ⟨hUC, h3⟩
      have hwr : IntKind.u64.wrap ((U : Int) + C) = ((U + C : Nat) : Int) := by
        show ((U : Int) + C) % 18446744073709551616 = _
        omega
      obtain ⟨K, hK⟩ : ∃ K, U + C = K := ⟨_, rfl⟩
      rw [hK] at hwr HN
      have st := World.ownsRow.stored hown i (.int .u64 (S : Int))
      have HST : Hid _ := st
      have hil' : (i : Int) < L := by omega
      clear st hx ox hU hD hS hC hX hS1 hUC hK HI hlen
      go_wp2_with fail
      refine (cM _).mono ?_
      rintro e w' ⟨rfl, rfl⟩
      go_wp2
      go_roundw
      case rel =>
        refine ⟨i + 1, K, zs.set i S, by go_num, by simp, by omega, ?_, World.grownBy.trans hgr HST.out.2, HN⟩
        rw [List.map_set]
        exact HST.out.1
      case measure => simp [intOf]; omega
    · have hie : i = L := by omega
      subst hie
      have hlt' : decide ((i : Int) < i) = false := by simp
      have HE : Hid (Unit → wordV zs + 2 ^ (64 * i) * mo = wordV xs * b + m0 ∧ WordOk zs ∧ zs.length = i ∧ mo < 18446744073709551616) := fun _ => by
        have h1 := (HI.out ()).2
        have h2 := (HB.out ()).2.2.1
        rw [← h2] at h1
        have h3 := mulW_end h1
        rw [h2] at h3
        exact ⟨h3, h1.ok, h1.len.trans h2, (HI.out ()).1⟩
      have hzl : zs.length = i := (HE.out ()).2.2.1
      by_cases h0 : mo = 0
      · subst h0
        clear HI
        go_wp2
        go_ret
        refine ⟨_, zs, rfl, ?_, hgr, ?_, (HE.out ()).2.1, .inl hzl⟩
        · unfold RowW
          rw [hzl]
          exact hown
        · have := (HE.out ()).1
          rw [Nat.mul_zero, Nat.add_zero] at this
          exact this
      · have h0' : 0 < mo := by omega
        clear HI
        have hsz := hgr.size
        go_wp2_with (at_builtin; refine wpList_append_own _ rfl _ _ 46 rfl B 24 i0 (.int .u64 0) 1 8 Try.underlying46 hi hz0 hz1 hz2 rfl (by decide) _ _ _ rfl (hown.alloc _) ⟨wr.heap.size, 0, none⟩ 1 1 [.int .u64 (mo : Int)] rfl rfl (cell_one_new _ _ _) (by simp [Value.oneCell']) (by unfold maxLen; omega) (by omega) (by simp; omega) ?_)
        intro v' w1 hown' hgrow _
        go_wp2
        go_ret
        refine ⟨v', zs ++ [mo], rfl, ?_, World.grownBy.trans (World.grownBy.trans hgr (World.grownBy_alloc _ _ _)) hgrow, ?_, wordOk_snoc (HE.out ()).2.1 (HE.out ()).2.2.2, .inr ⟨by simp [hzl], ?_⟩⟩
        · unfold RowW
          rw [List.length_append, hzl, List.map_append]
          exact hown'
        · rw [wordV_snoc, hzl]
          exact (HE.out ()).1
        · rw [wordV_snoc, hzl]
          have : 2 ^ (64 * i) * 1 ≤ 2 ^ (64 * i) * mo := Nat.mul_le_mul_left _ h0'
          omega

end Go.Proofs.Ytfbdhafbpcpjlaa
