/-
  The walk of the specification's sum of limbs.
-/
import Derived.Test.YtfocaoliadbhcaaDoorLimb
import Derived.Deep.CutRange
namespace Go.Proofs.YtfocaoliadbhcaaDoor
open Go.RowKit
set_option linter.unusedVariables false

theorem Row.shape {w : World} {B : Nat} {v : Value} {xs : List Nat} (h : Row w B v xs) : ∃ p c, v = .slice p xs.length c := by
  rcases h.cells with ⟨rfl, rfl⟩ | ⟨g, cap, rfl, _⟩
  · exact ⟨none, 0, rfl⟩
  · exact ⟨_, cap, rfl⟩

/-- a sum of limbs up to a place -/
structure AddAt (ls ms xs : List Nat) (i c : Nat) : Prop where
  ok : LimbsOk xs
  len : xs.length = i
  eq : limbV xs + 10 ^ (9 * i) * c = limbV (ls.take i) + limbV (ms.take i)
theorem addAt_start (ls ms : List Nat) : AddAt ls ms [] 0 0 := ⟨limbsOk_nil, rfl, by simp [limbV]⟩
theorem addAt_step {ls ms xs : List Nat} {i c : Nat} (h : AddAt ls ms xs i c) : AddAt ls ms (xs ++ [(ls.getD i 0 + ms.getD i 0 + c) % 1000000000]) (i + 1) ((ls.getD i 0 + ms.getD i 0 + c) / 1000000000) := by
  obtain ⟨h1, h2, h3⟩ := h
  refine ⟨limbsOk_snoc h1 (Nat.mod_lt _ (by decide)), by simp [h2], ?_⟩
  rw [limbV_snoc, limbV_take, limbV_take, h2, nine_pow]
  generalize ls.getD i 0 = x
  generalize ms.getD i 0 = y
  generalize 10 ^ (9 * i) = P at *
  have e := Nat.div_add_mod (x + y + c) 1000000000
  generalize (x + y + c) / 1000000000 = q at *
  generalize (x + y + c) % 1000000000 = r at *
  have e2 : P * (1000000000 * q + r) = P * (x + y + c) := by rw [e]
  rw [Nat.mul_add, Nat.mul_add, Nat.mul_add] at e2
  have e3 : 1000000000 * P * q = P * (1000000000 * q) := by rw [Nat.mul_comm 1000000000, Nat.mul_assoc]
  omega
theorem addAt_end {ls ms xs : List Nat} {i : Nat} (h : AddAt ls ms xs i 0) (ha : ls.length ≤ i) (hb : ms.length ≤ i) : limbV xs = limbV ls + limbV ms := by
  have := h.eq
  rw [List.take_of_length_le ha, List.take_of_length_le hb] at this
  omega

set_option maxHeartbeats 2000000 in
set_option maxRecDepth 100000 in
theorem l06Add_any (va vb : Value) (ls ms : List Nat) (B : Nat) (w : World) (hA : Row w B va ls) (hB : Row w B vb ms) (oa : LimbsOk ls) (ob : LimbsOk ms) (la : ls.length ≤ 1048576) (lb : ms.length ≤ 1048576) :
    Calls Tryd.prog 31 #[va, vb] w fun e w' => ∃ (v : Value) (xs : List Nat), e = .returned v ∧ Row w' w.heap.size v xs ∧ Below w.heap.size w w' ∧ limbV xs = limbV ls + limbV ms ∧ LimbsOk xs ∧ xs.length ≤ max ls.length ms.length + 1 := by
  obtain ⟨i0, hi, hz0, hz1, hz2⟩ := info_parts Tryd.infoInt
  obtain ⟨pa, ca, rfl⟩ := hA.shape
  obtain ⟨pb, cb, rfl⟩ := hB.shape
  have HA : Hid (Row w B (.slice pa ls.length ca) ls ∧ LimbsOk ls) := ⟨hA, oa⟩
  have HB : Hid (Row w B (.slice pb ms.length cb) ms ∧ LimbsOk ms) := ⟨hB, ob⟩
  clear hA hB oa ob
  go_enter Tryd.func31, Tryd.ntmps31
  go_upto_region 4 with fail
  go_loopw [5, 6, 7] (fun v x y wr => ∃ (i c : Nat) (xs : List Nat), y = .int .i64 i ∧ x = .int .i64 c ∧ (i : Int) ≤ max ls.length ms.length + 1 ∧ (c : Int) ≤ 1 ∧ ((i : Int) = max ls.length ms.length + 1 → c = 0) ∧ wr.ownsRow w.heap.size 3 1 v i (xs.map fun x => Value.int .i64 (x : Nat)) ∧ Below w.heap.size w wr ∧ Hid (AddAt ls ms xs i c)) (fun _ _ y _ => max ls.length ms.length + 1 - (intOf y).toNat)
  case atStart => exact ⟨0, 0, [], rfl, rfl, by omega, by omega, by omega, World.ownsRow_made w #[] 0 (Nat.le_refl _) (Nat.zero_le _) rfl, (Below.refl _ _).alloc (Nat.le_refl _) _, addAt_start ls ms⟩
  case round =>
    obtain ⟨i, c, xs, rfl, rfl, hi1, hc1, hic, hown, hbel, HI⟩ := hrel
    have hsz := hbel.size
    go_upto_region 4 with fail
    go_cut [23] from 10 to 41 (fun x wx => ∃ b : Bool, x = .bool b ∧ wx = wr ∧ Hid ((b = true → i < ls.length ∨ i < ms.length ∨ 0 < c) ∧ (b = false → ls.length ≤ i ∧ ms.length ≤ i ∧ c = 0)))
    case first =>
      by_cases h1 : i < ls.length
      · go_wp2
        go_meet
        case rel => exact ⟨true, rfl, rfl, ⟨fun _ => .inl h1, fun h => by simp at h⟩⟩
      · have h1' : decide (i < ls.length) = false := by simp; omega
        by_cases h2 : i < ms.length
        · go_wp2
          go_meet
          case rel => exact ⟨true, rfl, rfl, ⟨fun _ => .inr (.inl h2), fun h => by simp at h⟩⟩
        · have h2' : decide (i < ms.length) = false := by simp; omega
          by_cases h3 : 0 < c
          · go_wp2
            go_meet
            case rel => exact ⟨true, rfl, rfl, ⟨fun _ => .inr (.inr h3), fun h => by simp at h⟩⟩
          · have h3' : c = 0 := by omega
            subst h3'
            go_wp2
            go_meet
            case rel => exact ⟨false, rfl, rfl, ⟨fun h => by simp at h, fun _ => by simp; omega⟩⟩
    case rest =>
      obtain ⟨b, rfl, rfl, HC⟩ := hcut
      cases b
      · obtain ⟨h1, h2, h3⟩ := HC.out.2 rfl
        subst h3
        have hE := addAt_end HI.out h1 h2
        have hok := HI.out.ok
        have hxl := HI.out.len
        have HE : Hid (limbV xs = limbV ls + limbV ms ∧ LimbsOk xs ∧ xs.length = i) := ⟨hE, hok, hxl⟩
        clear hE hok hxl HI HC
        go_wp2
        go_ret
        refine ⟨_, rfl, xs, ?_, hbel, HE.out.1, HE.out.2.1, by have := HE.out.2.2; omega⟩
        show World.ownsRow _ _ _ _ _ xs.length _
        rw [HE.out.2.2]
        exact hown
      · have hcond := HC.out.1 rfl
        have cA := fun W (hW : Below w.heap.size w W) => l06At_any _ ls i B W (HA.out.1.below hW)
        have cB := fun W (hW : Below w.heap.size w W) => l06At_any _ ms i B W (HB.out.1.below hW)
        have xb := limbsOk_at HA.out.2 i
        have yb := limbsOk_at HB.out.2 i
        have HS := addAt_step HI.out
        obtain ⟨x, hx⟩ : ∃ x, ls.getD i 0 = x := ⟨_, rfl⟩
        obtain ⟨y, hy⟩ : ∃ y, ms.getD i 0 = y := ⟨_, rfl⟩
        rw [hx] at cA xb HS
        rw [hy] at cB yb HS
        have HSS : Hid (AddAt ls ms (xs ++ [(x + y + c) % 1000000000]) (i + 1) ((x + y + c) / 1000000000)) := HS
        have xb' : (x : Int) < 1000000000 := by omega
        have yb' : (y : Int) < 1000000000 := by omega
        have hend : ((i : Int) + 1 = max ls.length ms.length + 1 → (x + y + c) / 1000000000 = 0) := by
          intro h
          have x0 : x = 0 := by rw [← hx, List.getD_eq_getElem?_getD, List.getElem?_eq_none (by omega)]; rfl
          have y0 : y = 0 := by rw [← hy, List.getD_eq_getElem?_getD, List.getElem?_eq_none (by omega)]; rfl
          omega
        have HEnd : Hid ((i : Int) + 1 = max ls.length ms.length + 1 → (x + y + c) / 1000000000 = 0) := hend
        have HCC : Hid (i < ls.length ∨ i < ms.length ∨ 0 < c) := hcond
        clear hend hcond
        clear HS hx hy HC
        go_wp2_with fail
        refine (cA _ hbel).mono ?_
        rintro e w' ⟨rfl, rfl⟩
        go_wp2_with fail
        refine (cB _ hbel).mono ?_
        rintro e w' ⟨rfl, rfl⟩
        go_wp2_with (at_builtin; refine append_one (w0 := w) rfl _ _ 42 rfl w.heap.size 3 i0 (.int .i64 0) 8 Tryd.underlying42 hi hz0 hz1 hz2 rfl _ _ _ rfl hown (.int .i64 (((x : Int) + y + c) % 1000000000)) rfl rfl (by omega) (by decide) hbel hsz ?_)
        intro v' w2 hown' hbel'
        have hrow : w2.ownsRow w.heap.size 3 1 v' (i + 1) ((xs ++ [(x + y + c) % 1000000000]).map fun x => Value.int .i64 (x : Nat)) := by simpa using hown'
        clear hown' hown HI
        go_wp2
        go_roundw
        case rel =>
          have hcond := HCC.out
          have hend := HEnd.out
          exact ⟨i + 1, (x + y + c) / 1000000000, xs ++ [(x + y + c) % 1000000000], by go_num, by go_num, by omega, by omega, by omega, hrow, hbel', HSS⟩
        case measure => have hcond := HCC.out; simp [intOf]; omega

end Go.Proofs.YtfocaoliadbhcaaDoor
