/-
  The walk of the specification's GreatSub.
-/
import Derived.Test.YtfocaoliadbhcaaDoorGreatLs
namespace Go.Proofs.YtfocaoliadbhcaaDoor
open Go.RowKit
set_option linter.unusedVariables false

def subS (a b : ByteArray) : ByteArray := if figsOk a.data.toList = true ∧ figsOk b.data.toList = true ∧ digV b.data.toList ≤ digV a.data.toList then txt (Lib.decDigits (digV a.data.toList - digV b.data.toList)) else ⟨#[]⟩
def subB (a b : ByteArray) : Bool := decide (figsOk a.data.toList = true ∧ figsOk b.data.toList = true ∧ digV b.data.toList ≤ digV a.data.toList)

theorem limbV_split (xs : List Nat) (i : Nat) : limbV xs = limbV (xs.take i) + 10 ^ (9 * i) * limbV (xs.drop i) := by
  induction i generalizing xs with
  | zero => simp [limbV]
  | succ i ih =>
    cases xs with
    | nil => simp [limbV]
    | cons a l =>
      rw [List.take_succ_cons, List.drop_succ_cons, limbV, limbV, ih l, nine_pow, Nat.mul_add, Nat.mul_assoc]
      omega

/-- a difference of limbs up to a place -/
structure SubAt (ls ms xs : List Nat) (i c : Nat) : Prop where
  ok : LimbsOk xs
  len : xs.length = i
  eq : limbV (ls.take i) + 10 ^ (9 * i) * c = limbV xs + limbV (ms.take i)
theorem subAt_start (ls ms : List Nat) : SubAt ls ms [] 0 0 := ⟨limbsOk_nil, rfl, by simp [limbV]⟩
theorem subAt_step {ls ms xs : List Nat} {i c c' z : Nat} (h : SubAt ls ms xs i c) (hz : z < 1000000000) (he : z + ms.getD i 0 + c = ls.getD i 0 + 1000000000 * c') : SubAt ls ms (xs ++ [z]) (i + 1) c' := by
  obtain ⟨h1, h2, h3⟩ := h
  refine ⟨limbsOk_snoc h1 hz, by simp [h2], ?_⟩
  rw [limbV_snoc, limbV_take, limbV_take, h2, nine_pow]
  generalize ls.getD i 0 = x at *
  generalize ms.getD i 0 = y at *
  generalize 10 ^ (9 * i) = P at *
  have e2 : P * (z + y + c) = P * (x + 1000000000 * c') := by rw [he]
  rw [Nat.mul_add, Nat.mul_add, Nat.mul_add] at e2
  have e3 : 1000000000 * P * c' = P * (1000000000 * c') := by rw [Nat.mul_comm 1000000000, Nat.mul_assoc]
  omega
theorem subAt_end {ls ms xs : List Nat} {c : Nat} (h : SubAt ls ms xs ls.length c) (hl : LimbsOk ls) (hle : limbV ms ≤ limbV ls) : limbV xs = limbV ls - limbV ms := by
  obtain ⟨h1, h2, h3⟩ := h
  have a1 := limbV_lt hl
  have a2 := limbV_lt h1
  rw [h2] at a2
  have a3 := limbV_split ms ls.length
  rw [List.take_length] at h3
  generalize 10 ^ (9 * ls.length) = P at *
  have a4 : limbV (ms.drop ls.length) = 0 := by
    rcases Nat.eq_zero_or_pos (limbV (ms.drop ls.length)) with h' | h'
    · exact h'
    · have : P * 1 ≤ P * limbV (ms.drop ls.length) := Nat.mul_le_mul_left _ h'
      omega
  rw [a4, Nat.mul_zero, Nat.add_zero] at a3
  rw [← a3] at h3
  have a5 : c = 0 := by
    rcases Nat.eq_zero_or_pos c with h' | h'
    · exact h'
    · have : P * 1 ≤ P * c := Nat.mul_le_mul_left _ h'
      omega
  subst a5
  omega

set_option maxHeartbeats 4000000 in
set_option maxRecDepth 100000 in
theorem specGreatSub_yes (a b : ByteArray) (w : World) (ha : figsOk a.data.toList = true) (hb : figsOk b.data.toList = true) (hle : digV b.data.toList ≤ digV a.data.toList) :
    Calls Tryd.prog 12 #[.string a, .string b] w fun e w' => e = .returned (.tuple #[.string (txt (Lib.decDigits (digV a.data.toList - digV b.data.toList))), .bool true]) ∧ Below w.heap.size w w' := by
  obtain ⟨i0, hi, hz0, hz1, hz2⟩ := info_parts Tryd.infoInt
  have cA := fun W => specFiguresOk_any a W
  have cB := fun W => specFiguresOk_any b W
  have cL := fun W => specGreatLess_any a b W
  have hL : lessG a b = false := by unfold lessG; rw [decide_eq_false (by omega), Bool.and_false]
  rw [hL] at cL
  rw [ha] at cA
  rw [hb] at cB
  have sa := figsOk_size ha
  have sb := figsOk_size hb
  have HFa : Hid (Figs a.data.toList) := figsOk_figs ha
  have HFb : Hid (Figs b.data.toList) := figsOk_figs hb
  have HV : Hid (∃ D, digV a.data.toList - digV b.data.toList = D) := ⟨_, rfl⟩
  obtain ⟨D, hD⟩ := HV.out
  rw [hD]
  have HD : Hid (digV a.data.toList - digV b.data.toList = D ∧ digV b.data.toList ≤ digV a.data.toList) := ⟨hD, hle⟩
  obtain ⟨t, ht⟩ : ∃ t, txt (Lib.decDigits D) = t := ⟨_, rfl⟩
  have HT : Hid (txt (Lib.decDigits D) = t) := ht
  rw [ht]
  clear hD HV hle hL ha hb ht
  go_enter Tryd.func12, Tryd.ntmps12
  go_wp2_with fail
  refine (cA _).mono ?_
  rintro e w' ⟨rfl, rfl⟩
  go_wp2_with fail
  refine (cB _).mono ?_
  rintro e w' ⟨rfl, rfl⟩
  go_wp2_with fail
  refine (cL _).mono ?_
  rintro e w' ⟨rfl, rfl⟩
  go_wp2_with fail
  refine (l06Limbs_any a _ (by omega) HFa.out).mono ?_
  rintro e w1 ⟨v1, ls, rfl, r1, b1, e1, k1, n1⟩
  go_wp2_with fail
  refine (l06Limbs_any b _ (by omega) HFb.out).mono ?_
  rintro e w2 ⟨v2, ms, rfl, r2, b2, e2, k2, n2⟩
  have hr1 : Row w2 w.heap.size v1 ls := r1.below b2
  obtain ⟨p1, c1, rfl⟩ := hr1.shape
  have hbw : Below w.heap.size w w2 := chain b1 b2
  have HA : Hid (Row w2 w.heap.size (.slice p1 ls.length c1) ls ∧ LimbsOk ls ∧ limbV ls = digV a.data.toList) := ⟨hr1, k1, e1⟩
  have HB : Hid (Row w2 w1.heap.size v2 ms ∧ LimbsOk ms ∧ limbV ms = digV b.data.toList) := ⟨r2, k2, e2⟩
  clear r1 r2 hr1 k1 k2 e1 e2 b1 b2 cA cB cL
  go_upto_region 8 with fail
  go_loopw [8, 9, 10] (fun v x y wr => ∃ (i c : Nat) (xs : List Nat), y = .int .i64 i ∧ x = .int .i64 c ∧ i ≤ ls.length ∧ (c : Int) ≤ 1 ∧ wr.ownsRow w2.heap.size 3 1 v i (xs.map fun x => Value.int .i64 (x : Nat)) ∧ Below w2.heap.size w2 wr ∧ Hid (SubAt ls ms xs i c)) (fun _ _ y _ => ls.length - (intOf y).toNat)
  case atStart => exact ⟨0, 0, [], rfl, rfl, by omega, by omega, World.ownsRow_made w2 #[] 0 (Nat.le_refl _) (Nat.zero_le _) rfl, (Below.refl _ _).alloc (Nat.le_refl _) _, subAt_start ls ms⟩
  case round =>
    obtain ⟨i, c, xs, rfl, rfl, hil, hc1, hown, hbel, HI⟩ := hrel
    have hsz := hbel.size
    by_cases hlt : i < ls.length
    · have hca : ∃ ga, p1 = some ⟨ga, 0, none⟩ ∧ wr.cell? ⟨ga, i, none⟩ = some (.int .i64 (ls.getD i 0 : Nat)) := by
        rcases (HA.out.1.below hbel).cells with ⟨h, h'⟩ | ⟨ga, cap, h, _, _, h'⟩
        · rw [h'] at hlt; simp at hlt
        · injection h with h _ _
          exact ⟨ga, h, h' i hlt⟩
      obtain ⟨ga, rfl, hca⟩ := hca
      have qB := fun m : Nat => Calls.quiet_of_same ((l06At_any v2 ms i w1.heap.size (wr.drewN m) (HB.out.1.below (below_drewN hbel m))).mono (by rintro e w' ⟨rfl, rfl⟩; exact ⟨rfl, rfl⟩))
      have o2 := limbsOk_at HA.out.2.1 i
      have o3 := limbsOk_at HB.out.2.1 i
      have HS : Hid (∀ z c', z < 1000000000 → z + ms.getD i 0 + c = ls.getD i 0 + 1000000000 * c' → SubAt ls ms (xs ++ [z]) (i + 1) c') := fun z c' h1 h2 => subAt_step HI.out h1 h2
      obtain ⟨x, hx⟩ : ∃ o, ls.getD i 0 = o := ⟨_, rfl⟩
      obtain ⟨y, hy⟩ : ∃ o, ms.getD i 0 = o := ⟨_, rfl⟩
      rw [hx] at hca o2 HS
      rw [hy] at qB o3 HS
      have o2' : (x : Int) < 1000000000 := by omega
      have o3' : (y : Int) < 1000000000 := by omega
      have hil' : (i : Int) < ls.length := by omega
      have hownD := fun m : Nat => (show (wr.drewN m).ownsRow w2.heap.size 3 1 _ i (xs.map fun x => Value.int .i64 (x : Nat)) from hown)
      clear hx hy HI o2 o3 hown
      go_wp2_with fail
      go_quiet (exact qB _)
      by_cases hneg : (x : Int) - y - c < 0
      · obtain ⟨z, hz⟩ : ∃ z : Nat, (x : Int) - y - c + 1000000000 = z := ⟨((x : Int) - y - c + 1000000000).toNat, by omega⟩
        have HZ : Hid (SubAt ls ms (xs ++ [z]) (i + 1) 1) := HS.out z 1 (by omega) (by omega)
        have hzz : (z : Int) < 1000000000 := by omega
        go_wp2_with (at_builtin; refine append_one (w0 := w2) rfl _ _ 42 rfl w2.heap.size 3 i0 (.int .i64 0) 8 Tryd.underlying42 hi hz0 hz1 hz2 rfl _ _ _ rfl (hownD _) (.int .i64 (z : Int)) rfl rfl (by omega) (by decide) (below_drewN hbel _) hsz ?_)
        intro v' w3 hown' hbel'
        have hrow : w3.ownsRow w2.heap.size 3 1 v' (i + 1) ((xs ++ [z]).map fun x => Value.int .i64 (x : Nat)) := by simpa using hown'
        clear hown'
        go_wp2
        go_roundw
        case rel => exact ⟨i + 1, 1, xs ++ [z], by go_num, rfl, by omega, by omega, hrow, hbel', HZ⟩
        case measure => simp [intOf]; omega
      · obtain ⟨z, hz⟩ : ∃ z : Nat, (x : Int) - y - c = z := ⟨((x : Int) - y - c).toNat, by omega⟩
        have HZ : Hid (SubAt ls ms (xs ++ [z]) (i + 1) 0) := HS.out z 0 (by omega) (by omega)
        have hzz : (z : Int) < 1000000000 := by omega
        have hneg' : decide ((z : Int) < 0) = false := by simp
        have hneg2 : ¬(z : Int) < 0 := by omega
        simp only [hz]
        clear hneg hz
        go_wp2_with (at_builtin; refine append_one (w0 := w2) rfl _ _ 42 rfl w2.heap.size 3 i0 (.int .i64 0) 8 Tryd.underlying42 hi hz0 hz1 hz2 rfl _ _ _ rfl (hownD _) (.int .i64 (z : Int)) rfl rfl (by omega) (by decide) (below_drewN hbel _) hsz ?_)
        intro v' w3 hown' hbel'
        have hrow : w3.ownsRow w2.heap.size 3 1 v' (i + 1) ((xs ++ [z]).map fun x => Value.int .i64 (x : Nat)) := by simpa using hown'
        clear hown'
        go_wp2
        go_roundw
        case rel => exact ⟨i + 1, 0, xs ++ [z], by go_num, rfl, by omega, by omega, hrow, hbel', HZ⟩
        case measure => simp [intOf]; omega
    · have hie : i = ls.length := by omega
      subst hie
      have hE := subAt_end HI.out HA.out.2.1 (by rw [HA.out.2.2, HB.out.2.2]; exact HD.out.2)
      rw [HA.out.2.2, HB.out.2.2, HD.out.1] at hE
      have hxl := HI.out.len
      have hr : ∀ V : Value, wr.ownsRow w2.heap.size 3 1 V ls.length (xs.map fun x => Value.int .i64 (x : Nat)) → Row wr w2.heap.size V xs := fun V h => by
        unfold Row
        rw [hxl]
        exact h
      have cT := fun (V : Value) (W : World) (hW : Row W w2.heap.size V xs) => l06Text_any V xs w2.heap.size W hW HI.out.ok (by omega)
      rw [hE, HT.out] at cT
      clear HI hE
      go_wp2_with fail
      refine (cT _ _ (hr _ hown)).mono ?_
      rintro e w4 ⟨rfl, b4⟩
      go_wp2
      go_ret2
      exact ⟨rfl, chain (chain hbw hbel) b4⟩

set_option maxHeartbeats 1000000 in
set_option maxRecDepth 100000 in
theorem specGreatSub_any (a b : ByteArray) (w : World) :
    Calls Tryd.prog 12 #[.string a, .string b] w fun e w' => e = .returned (.tuple #[.string (subS a b), .bool (subB a b)]) ∧ Below w.heap.size w w' := by
  by_cases hall : figsOk a.data.toList = true ∧ figsOk b.data.toList = true ∧ digV b.data.toList ≤ digV a.data.toList
  · unfold subS subB
    rw [if_pos hall, decide_eq_true hall]
    exact specGreatSub_yes a b w hall.1 hall.2.1 hall.2.2
  · have hS : subS a b = ⟨#[]⟩ := by unfold subS; rw [if_neg hall]
    have hB : subB a b = false := by unfold subB; rw [decide_eq_false hall]
    rw [hS, hB]
    have cA := fun W => specFiguresOk_any a W
    have cB := fun W => specFiguresOk_any b W
    have cL := fun W => specGreatLess_any a b W
    by_cases ha : figsOk a.data.toList = true
    · rw [ha] at cA
      by_cases hb : figsOk b.data.toList = true
      · rw [hb] at cB
        have hL : lessG a b = true := by
          unfold lessG
          rw [ha, hb, decide_eq_true (Nat.lt_of_not_le (fun h => hall ⟨ha, hb, h⟩))]
          rfl
        rw [hL] at cL
        clear hS hB hall ha hb hL
        go_enter Tryd.func12, Tryd.ntmps12
        go_wp2_with fail
        refine (cA _).mono ?_
        rintro e w' ⟨rfl, rfl⟩
        go_wp2_with fail
        refine (cB _).mono ?_
        rintro e w' ⟨rfl, rfl⟩
        go_wp2_with fail
        refine (cL _).mono ?_
        rintro e w' ⟨rfl, rfl⟩
        go_wp2
        go_ret2
        exact ⟨rfl, Below.refl _ _⟩
      · have hb' : figsOk b.data.toList = false := by simpa using hb
        rw [hb'] at cB
        clear hS hB hall ha hb hb'
        go_enter Tryd.func12, Tryd.ntmps12
        go_wp2_with fail
        refine (cA _).mono ?_
        rintro e w' ⟨rfl, rfl⟩
        go_wp2_with fail
        refine (cB _).mono ?_
        rintro e w' ⟨rfl, rfl⟩
        go_wp2
        go_ret2
        exact ⟨rfl, Below.refl _ _⟩
    · have ha' : figsOk a.data.toList = false := by simpa using ha
      rw [ha'] at cA
      clear hS hB hall ha ha'
      go_enter Tryd.func12, Tryd.ntmps12
      go_wp2_with fail
      refine (cA _).mono ?_
      rintro e w' ⟨rfl, rfl⟩
      go_wp2
      go_ret2
      exact ⟨rfl, Below.refl _ _⟩

end Go.Proofs.YtfocaoliadbhcaaDoor
