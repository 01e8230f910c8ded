/-
  The walk of the specification's ShowNumber.
-/
import Derived.Test.YtcdplnejejpjnaaGreatDoorShort7
import Derived.Test.YtcdplnejejpjnaaGreatDoorShortA
import Derived.Test.YtcdplnejejpjnaaGreatDoorDec
import Derived.Deep.DeepCutAuto
import Derived.BigQuiet
namespace Go.Proofs.YtcdplnejejpjnaaGreatDoor
open Go.RowKit
set_option linter.unusedVariables false

/-- a sign -/
def signT (b : Bool) : List UInt8 := if b = true then [45] else []
/-- what is shown of a number -/
def showN (x : Nat) : List UInt8 :=
  if kindN x = 1 then [78, 97, 78]
  else if kindN x = 2 then signT (belowN x) ++ [73, 110, 102, 105, 110, 105, 116, 121]
  else if kindN x = 3 then [48]
  else signT (belowN x) ++ showP (shortS x).data.toList (shortE x)

theorem kind_same (x : Nat) : kindN (x % 9223372036854775808) = kindN x ∧ mantN (x % 9223372036854775808) = mantN x ∧ expN (x % 9223372036854775808) = expN x := by
  have h1 : expBits (x % 9223372036854775808) = expBits x := by unfold expBits; omega
  have h2 : fracBits (x % 9223372036854775808) = fracBits x := by unfold fracBits; omega
  refine ⟨?_, ?_, ?_⟩
  · unfold kindN; rw [h1, h2]
  · unfold mantN kindN; rw [h1, h2]
  · unfold expN kindN; rw [h1, h2]
theorem short_same (x : Nat) : shortS (x % 9223372036854775808) = shortS x ∧ shortE (x % 9223372036854775808) = shortE x := by
  obtain ⟨h1, h2⟩ := exact_same x
  unfold shortS shortE
  rw [(kind_same x).1, h1, h2, Nat.mod_mod]
  exact ⟨rfl, rfl⟩
/-- the fewest figures of any finite number -/
theorem short_any {x : Nat} (kx : kindN x = 4) : ShortOk (shortS x).data.toList (shortE x) (x % 9223372036854775808) := by
  obtain ⟨h1, h2⟩ := short_same x
  rw [← h1, ← h2]
  have hy : x % 9223372036854775808 < 9223372036854775808 := Nat.mod_lt _ (by decide)
  have ky : kindN (x % 9223372036854775808) = 4 := by rw [(kind_same x).1]; exact kx
  generalize x % 9223372036854775808 = y at *
  have hok := short_ok (l := (exactS y).data.toList) ky hy (by unfold exactS; rw [if_pos ky, txt_data])
  have hS : shortS y = txt (shortR (exactS y).data.toList (exactX (mantN y) (expN y)) y 17 1).1 := by
    unfold shortS exactE
    rw [if_pos ky, if_pos ky, Nat.mod_eq_of_lt hy]
  have hE : shortE y = (shortR (exactS y).data.toList (exactX (mantN y) (expN y)) y 17 1).2 := by
    unfold shortE exactE
    rw [if_pos ky, if_pos ky, Nat.mod_eq_of_lt hy]
  rw [hS, hE, txt_data]
  exact hok
theorem short_pos {s : List UInt8} {e : Int} {x : Nat} (h : ShortOk s e x) : 1 ≤ s.length ∧ digV s ≠ 0 := by
  refine ⟨ok_pos h.fig, fun h0 => ?_⟩
  have := h.last
  rw [h0] at this
  exact this rfl

/-- what is shown of a finite number that is not below 0 reads back -/
theorem shows_back {x : Nat} (kx : kindN x = 4) (hx : x < 9223372036854775808) : readV (showN x) = x ∧ readB (showN x) = true ∧ (showN x).length ≤ 80 := by
  have hok := short_any kx
  rw [Nat.mod_eq_of_lt hx] at hok
  have hb : belowN x = false := by rw [belowN_of (by omega)]; exact decide_eq_false (by omega)
  have hs : showN x = showP (shortS x).data.toList (shortE x) := by
    unfold showN
    rw [kx, if_neg (by decide), if_neg (by decide), if_neg (by decide), hb]
    rfl
  rw [hs]
  have := read_show hok.fig (short_pos hok).2 hok.len hok.range.1 hok.range.2
  rw [hok.back] at this
  exact this
/-- the other sign -/
theorem shows_sign {x y : Nat} (kx : kindN x = 4) (hx : x < 9223372036854775808) (hy : y = x + 9223372036854775808) : showN y = 45 :: showN x := by
  have hm : y % 9223372036854775808 = x % 9223372036854775808 := by omega
  have ky : kindN y = 4 := by rw [← (kind_same y).1, hm, (kind_same x).1]; exact kx
  have b1 : belowN x = false := by rw [belowN_of (by omega)]; exact decide_eq_false (by omega)
  have b2 : belowN y = true := by rw [belowN_of (by omega)]; exact decide_eq_true (by omega)
  have s1 : shortS y = shortS x ∧ shortE y = shortE x := by
    rw [← (short_same y).1, ← (short_same y).2, hm, (short_same x).1, (short_same x).2]
    exact ⟨rfl, rfl⟩
  unfold showN
  rw [kx, ky, b1, b2, s1.1, s1.2, if_neg (by decide), if_neg (by decide), if_neg (by decide), if_neg (by decide), if_neg (by decide), if_neg (by decide)]
  rfl

theorem txt_app (a b : List UInt8) : txt a ++ txt b = txt (a ++ b) := by
  apply ByteArray.ext
  simp [txt, ByteArray.data_append]
theorem ext_txt (l : List UInt8) (a b : Nat) : (txt l).extract a b = txt ((l.drop a).take (b - a)) := by
  rw [Lib.extract_eq, txt_data]; rfl

set_option maxHeartbeats 2000000 in
set_option maxRecDepth 100000 in
theorem specShow_fin (x : Nat) (w : World) (hx : x < 18446744073709551616) (kx : kindN x = 4) :
    Calls Tryz.prog 11 #[.int .u64 x] w fun e w' => e = .returned (.string (txt (showN x))) ∧ Below w.heap.size w w' := by
  have hok := short_any kx
  have hpos := short_pos hok
  have hS : showN x = signT (belowN x) ++ showP (shortS x).data.toList (shortE x) := by
    unfold showN
    rw [kx, if_neg (by decide), if_neg (by decide), if_neg (by decide)]
  rw [hS]
  have cS := fun W => specShortest_any x W hx
  have cP := fun W => specParts_any x W hx
  unfold partsV at cP
  rw [kx] at cP
  obtain ⟨S, hSS⟩ : ∃ S, shortS x = S := ⟨_, rfl⟩
  obtain ⟨E, hE⟩ : ∃ S, shortE x = S := ⟨_, rfl⟩
  rw [hSS, hE] at cS hok
  rw [hSS] at hpos
  rw [hSS, hE]
  have hSl := hok.len
  rw [size_list] at hSl hpos
  obtain ⟨e1, e2⟩ := hok.range
  obtain ⟨s1, s2⟩ := hpos
  have HSL : Hid (Unit → S = txt S.data.toList) := fun _ => (txt_self S).symm
  obtain ⟨R, hR⟩ : ∃ R, txt (signT (belowN x) ++ showP S.data.toList E) = R := ⟨_, rfl⟩
  rw [hR]
  obtain ⟨bl, hbl⟩ : ∃ q, belowN x = q := ⟨_, rfl⟩
  obtain ⟨M, hM⟩ : ∃ q, mantN x = q := ⟨_, rfl⟩
  obtain ⟨Q, hQ⟩ : ∃ q, expN x = q := ⟨_, rfl⟩
  rw [hbl, hM, hQ] at cP
  rw [hbl] at hR
  have HR : Hid (Unit → txt (signT bl ++ showP S.data.toList E) = R) := fun _ => hR
  obtain ⟨l, hl⟩ : ∃ l, S.data.toList = l := ⟨_, rfl⟩
  have HL : Hid (Unit → S.data.toList = l ∧ l.length = S.size) := fun _ => ⟨hl, by rw [← hl, size_list]⟩
  clear hok hS hSS hE hbl hM hQ hR hl kx hx
  obtain ⟨n, hn⟩ : ∃ n : Int, E + (S.size : Int) = n := ⟨_, rfl⟩
  have s1' : (1 : Int) ≤ S.size := by omega
  have s3' : (S.size : Int) ≤ 17 := by omega
  have n1 : -400 ≤ n := by omega
  have n2 : n ≤ 420 := by omega
  have HSH : Hid (Unit → showP S.data.toList E = if (S.size : Int) ≤ n ∧ n ≤ 21 then l ++ List.replicate E.toNat 48 else if 0 < n ∧ n ≤ 21 then l.take n.toNat ++ 46 :: l.drop n.toNat else if -6 < n ∧ n ≤ 0 then [48, 46] ++ List.replicate (-n).toNat 48 ++ l else l.take 1 ++ (if 1 < S.size then 46 :: l.drop 1 else []) ++ 101 :: (if n - 1 < 0 then 45 :: Lib.decDigits (1 - n).toNat else 43 :: Lib.decDigits (n - 1).toNat)) := fun _ => by
    unfold showP
    rw [(HL.out ()).1, (HL.out ()).2, hn]
  go_enter Tryz.func11, Tryz.ntmps11
  go_wp2_with fail
  refine (cP _).mono ?_
  rintro e w1 ⟨rfl, b1⟩
  have bb := b1.alloc b1.size (.cells #[.int .i64 4, .bool bl, .int .u64 M, .int .i64 Q] 30)
  have hblk := heap_alloc_new w1 (.cells #[.int .i64 4, .bool bl, .int .u64 M, .int .i64 Q] 30)
  obtain ⟨w2, hw2⟩ : ∃ w2, w1.alloc (.cells #[.int .i64 4, .bool bl, .int .u64 M, .int .i64 Q] 30) = w2 := ⟨_, rfl⟩
  obtain ⟨gp, hgp⟩ : ∃ g, w1.heap.size = g := ⟨_, rfl⟩
  obtain ⟨p0, p1, p2, p3⟩ := cells_four hblk
  rw [hw2] at bb p0 p1 p2 p3
  rw [hgp] at p0 p1 p2 p3
  go_upto_region 2 with fail
  try simp only [hw2, hgp]
  clear b1 cP hblk hw2 hgp
  clear w1
  go_upto_if 13 with fail
  go_cut [4] (fun v wx => ∃ sg : ByteArray, v = .string sg ∧ (sg.size : Int) ≤ 1 ∧ wx = w2 ∧ Hid (Unit → sg = txt (signT bl)))
  case first =>
    cases bl
    · go_wp2
      go_meet
      case rel => exact ⟨⟨#[]⟩, rfl, by decide, rfl, fun _ => rfl⟩
    · go_wp2
      go_meet
      case rel => exact ⟨⟨#[45]⟩, rfl, by decide, rfl, fun _ => rfl⟩
  case rest =>
    obtain ⟨sg, rfl, hsg, rfl, HSG⟩ := hcut
    go_wp2_with fail
    refine (cS _).mono ?_
    rintro e w3 ⟨rfl, b3⟩
    replace bb := chain bb b3
    clear b3 p0 p1 p2 p3 cS
    have HSgS : Hid (Unit → sg = txt (signT bl) ∧ S = txt l) := fun _ => ⟨HSG.out (), by rw [← (HL.out ()).1]; exact HSL.out ()⟩
    by_cases c1 : (S.size : Int) ≤ n ∧ n ≤ 21
    · obtain ⟨c1a, c1b⟩ := c1
      obtain ⟨J, hJ⟩ : ∃ J : Nat, n - (S.size : Int) = J := ⟨(n - S.size).toNat, by omega⟩
      have cL := fun W => l01Long_noughts J W (by omega)
      have HU : Hid (Unit → sg ++ S ++ txt (List.replicate J 48) = R) := fun _ => by
        rw [← HR.out (), HSH.out (), if_pos ⟨c1a, c1b⟩, (HSgS.out ()).1, (HSgS.out ()).2, txt_app, txt_app, List.append_assoc, (by omega : E.toNat = J)]
      have hJs : (txt (List.replicate J 48)).size = J := by rw [txt_size, List.length_replicate]
      obtain ⟨Z, hZ⟩ : ∃ Z, txt (List.replicate J 48) = Z := ⟨_, rfl⟩
      rw [hZ] at cL HU hJs
      have hJ2 : (J : Int) ≤ 21 := by omega
      clear hZ
      go_wp2_with fail
      refine (cL _).mono ?_
      rintro e w4 ⟨rfl, b4⟩
      go_wp2
      go_ret
      exact ⟨by rw [← HU.out ()]; rfl, chain bb b4⟩
    by_cases c2 : 0 < n ∧ n < S.size
    · obtain ⟨m, hm⟩ : ∃ m : Nat, n = m := ⟨n.toNat, by omega⟩
      subst hm
      have dA : decide ((S.size : Int) ≤ (m : Int)) = false := by simp; omega
      have dA2 : decide (S.size ≤ m) = false := by simp; omega
      have dB : (0 : Int) < m := by omega
      have dB0 : 0 < m := by omega
      have dB2 : (m : Int) ≤ 21 := by omega
      have dB3 : (m : Int) ≤ S.size := by omega
      obtain ⟨H1, hH1⟩ : ∃ H, S.extract 0 m = H := ⟨_, rfl⟩
      have hH1s : H1.size = m := by rw [← hH1, ByteArray.size_extract]; omega
      have HH1 : Hid (Unit → H1 = txt (l.take m)) := fun _ => by rw [← hH1, (HSgS.out ()).2, ext_txt]; rfl
      obtain ⟨H2, hH2⟩ : ∃ H, S.extract m S.size = H := ⟨_, rfl⟩
      have hH2s : (H2.size : Int) ≤ 17 := by rw [← hH2, ByteArray.size_extract]; omega
      have HH2 : Hid (Unit → H2 = txt (l.drop m)) := fun _ => by
        rw [← hH2]
        have hsz := (HL.out ()).2
        conv => lhs; rw [(HSgS.out ()).2]
        rw [ext_txt, txt_size, List.take_of_length_le (by rw [List.length_drop]; omega)]
      have HU : Hid (Unit → sg ++ H1 ++ ⟨#[46]⟩ ++ H2 = R) := fun _ => by
        have h46 : (⟨#[46]⟩ : ByteArray) = txt [46] := rfl
        rw [← HR.out (), HSH.out (), if_neg (by omega), if_pos (by omega), Int.toNat_natCast, (HSgS.out ()).1, HH1.out (), HH2.out (), h46, txt_app, txt_app, txt_app, List.append_assoc, List.append_assoc, List.singleton_append]
      go_wp2_with fail
      go_quiet (fail)
      go_wp2
      go_ret
      exact ⟨by rw [← HU.out ()]; rfl, below_drewN bb _⟩
    by_cases c3 : -6 < n ∧ n ≤ 0
    · obtain ⟨J, hJ⟩ : ∃ J : Nat, -n = J := ⟨(-n).toNat, by omega⟩
      have dA : decide ((S.size : Int) ≤ n) = false := by simp; omega
      have dB : decide (0 < n) = false := by simp; omega
      obtain ⟨dC, dC2⟩ := c3
      have cL := fun W => l01Long_noughts J W (by omega)
      have HU : Hid (Unit → sg ++ ⟨#[48, 46]⟩ ++ txt (List.replicate J 48) ++ S = R) := fun _ => by
        have h46 : (⟨#[48, 46]⟩ : ByteArray) = txt [48, 46] := rfl
        rw [← HR.out (), HSH.out (), if_neg (by omega), if_neg (by omega), if_pos ⟨dC, dC2⟩, (HSgS.out ()).1, (HSgS.out ()).2, h46, txt_app, txt_app, txt_app, (by omega : (-n).toNat = J), List.append_assoc, List.append_assoc, List.append_assoc]
      have hJs : (txt (List.replicate J 48)).size = J := by rw [txt_size, List.length_replicate]
      obtain ⟨Z, hZ⟩ : ∃ Z, txt (List.replicate J 48) = Z := ⟨_, rfl⟩
      rw [hZ] at cL HU hJs
      have hJ2 : (J : Int) ≤ 21 := by omega
      clear hZ
      go_wp2_with fail
      refine (cL _).mono ?_
      rintro e w4 ⟨rfl, b4⟩
      go_wp2
      go_ret
      exact ⟨by rw [← HU.out ()]; rfl, chain bb b4⟩
    by_cases c4 : n ≤ -6
    · have dA : decide ((S.size : Int) ≤ n) = false := by simp; omega
      have dB : decide (0 < n) = false := by simp; omega
      have dC : decide (-6 < n) = false := by simp; omega
      obtain ⟨v, hv⟩ : ∃ v : Nat, 1 - n = v := ⟨(1 - n).toNat, by omega⟩
      have dE : n - 1 < 0 := by omega
      have HSH2 : Hid (Unit → R = txt (signT bl ++ (l.take 1 ++ (if 1 < S.size then 46 :: l.drop 1 else []) ++ 101 :: 45 :: Lib.decDigits v))) := fun _ => by
        rw [← HR.out (), HSH.out (), if_neg (by omega), if_neg (by omega), if_neg (by omega), if_pos dE, (by omega : (1 - n).toNat = v)]
      have cD := fun W => specDecimal_nat v W (by omega)
      have hDv : (⟨(Lib.decDigits v).toArray⟩ : ByteArray) = txt (Lib.decDigits v) := rfl
      rw [hDv] at cD
      have hDs : (txt (Lib.decDigits v)).size ≤ 3 := by rw [txt_size]; exact dec_len (by decide) (by omega)
      obtain ⟨D, hD⟩ : ∃ D, txt (Lib.decDigits v) = D := ⟨_, rfl⟩
      rw [hD] at cD hDs
      have HD : Hid (Unit → txt (Lib.decDigits v) = D) := fun _ => hD
      have hDi : (D.size : Int) ≤ 3 := by omega
      clear hD hDv hDs HSH
      obtain ⟨H1, hH1⟩ : ∃ H, S.extract 0 1 = H := ⟨_, rfl⟩
      have hH1s : H1.size = 1 := by rw [← hH1, ByteArray.size_extract]; omega
      have HH1 : Hid (Unit → H1 = txt (l.take 1)) := fun _ => by rw [← hH1, (HSgS.out ()).2, ext_txt]; rfl
      obtain ⟨H2, hH2⟩ : ∃ H, S.extract 1 S.size = H := ⟨_, rfl⟩
      have hH2s : (H2.size : Int) ≤ 17 := by rw [← hH2, ByteArray.size_extract]; omega
      have HH2 : Hid (Unit → H2 = txt (l.drop 1)) := fun _ => by
        rw [← hH2]
        have hsz := (HL.out ()).2
        conv => lhs; rw [(HSgS.out ()).2]
        rw [ext_txt, txt_size, List.take_of_length_le (by rw [List.length_drop]; omega)]
      go_upto_if 87 with fail
      go_cut [9] (fun o wx => ∃ P : ByteArray, o = .string P ∧ (P.size : Int) ≤ 30 ∧ wx = w3 ∧ Hid (Unit → P = txt (signT bl ++ (l.take 1 ++ (if 1 < S.size then 46 :: l.drop 1 else [])))))
      case first =>
        by_cases hk : 1 < S.size
        · have hk' : (1 : Int) < S.size := by omega
          have HP : Hid (Unit → sg ++ H1 ++ ⟨#[46]⟩ ++ H2 = txt (signT bl ++ (l.take 1 ++ (if 1 < S.size then 46 :: l.drop 1 else [])))) := fun _ => by
            have h46 : (⟨#[46]⟩ : ByteArray) = txt [46] := rfl
            rw [(HSgS.out ()).1, HH1.out (), HH2.out (), h46, txt_app, txt_app, txt_app, if_pos hk, List.append_assoc, List.append_assoc, List.singleton_append]
          have hPs : ((sg ++ H1 ++ ⟨#[46]⟩ ++ H2).size : Int) ≤ 30 := by
            rw [ByteArray.size_append, ByteArray.size_append, ByteArray.size_append]
            have : (⟨#[46]⟩ : ByteArray).size = 1 := rfl
            omega
          have HPs : Hid (((sg ++ H1 ++ ⟨#[46]⟩ ++ H2).size : Int) ≤ 30) := hPs
          clear hPs
          go_wp2
          go_meet
          case rel => exact ⟨_, rfl, HPs.out, rfl, HP⟩
        · have hk' : decide ((1 : Int) < S.size) = false := by simp; omega
          have HP : Hid (Unit → sg ++ H1 = txt (signT bl ++ (l.take 1 ++ (if 1 < S.size then 46 :: l.drop 1 else [])))) := fun _ => by
            rw [(HSgS.out ()).1, HH1.out (), txt_app, if_neg hk, List.append_nil]
          have HPs : Hid (((sg ++ H1).size : Int) ≤ 30) := by
            show _ ≤ _
            rw [ByteArray.size_append]
            omega
          go_wp2
          go_meet
          case rel => exact ⟨_, rfl, HPs.out, rfl, HP⟩
      case rest =>
        obtain ⟨P, rfl, hP3, rfl, HP⟩ := hcut
        have HU : Hid (Unit → P ++ ⟨#[101, 45]⟩ ++ D = R) := fun _ => by
          have h2 : (⟨#[101, 45]⟩ : ByteArray) = txt [101, 45] := rfl
          rw [HSH2.out (), HP.out (), ← HD.out (), h2, txt_app, txt_app, List.append_assoc, List.append_assoc, List.append_assoc, List.append_assoc]
          rfl
        go_wp2_with fail
        refine (cD _).mono ?_
        rintro e w4 ⟨rfl, b4⟩
        go_wp2
        go_ret
        exact ⟨by rw [← HU.out ()]; rfl, chain bb b4⟩
    · have dA : (S.size : Int) ≤ n := by omega
      have dA2 : decide (n ≤ 21) = false := by simp; omega
      have dB : 0 < n := by omega
      have dC : -6 < n := by omega
      have dC2 : decide (n ≤ 0) = false := by simp; omega
      obtain ⟨v, hv⟩ : ∃ v : Nat, n - 1 = v := ⟨(n - 1).toNat, by omega⟩
      have dE : decide (n - 1 < 0) = false := by simp; omega
      have dE2 : ¬n - 1 < 0 := by omega
      have HSH2 : Hid (Unit → R = txt (signT bl ++ (l.take 1 ++ (if 1 < S.size then 46 :: l.drop 1 else []) ++ 101 :: 43 :: Lib.decDigits v))) := fun _ => by
        rw [← HR.out (), HSH.out (), if_neg (by omega), if_neg (by omega), if_neg (by omega), if_neg dE2, (by omega : (n - 1).toNat = v)]
      have cD := fun W => specDecimal_nat v W (by omega)
      have hDv : (⟨(Lib.decDigits v).toArray⟩ : ByteArray) = txt (Lib.decDigits v) := rfl
      rw [hDv] at cD
      have hDs : (txt (Lib.decDigits v)).size ≤ 3 := by rw [txt_size]; exact dec_len (by decide) (by omega)
      obtain ⟨D, hD⟩ : ∃ D, txt (Lib.decDigits v) = D := ⟨_, rfl⟩
      rw [hD] at cD hDs
      have HD : Hid (Unit → txt (Lib.decDigits v) = D) := fun _ => hD
      have hDi : (D.size : Int) ≤ 3 := by omega
      clear hD hDv hDs HSH
      obtain ⟨H1, hH1⟩ : ∃ H, S.extract 0 1 = H := ⟨_, rfl⟩
      have hH1s : H1.size = 1 := by rw [← hH1, ByteArray.size_extract]; omega
      have HH1 : Hid (Unit → H1 = txt (l.take 1)) := fun _ => by rw [← hH1, (HSgS.out ()).2, ext_txt]; rfl
      obtain ⟨H2, hH2⟩ : ∃ H, S.extract 1 S.size = H := ⟨_, rfl⟩
      have hH2s : (H2.size : Int) ≤ 17 := by rw [← hH2, ByteArray.size_extract]; omega
      have HH2 : Hid (Unit → H2 = txt (l.drop 1)) := fun _ => by
        rw [← hH2]
        have hsz := (HL.out ()).2
        conv => lhs; rw [(HSgS.out ()).2]
        rw [ext_txt, txt_size, List.take_of_length_le (by rw [List.length_drop]; omega)]
      go_upto_if 87 with fail
      go_cut [9] (fun o wx => ∃ P : ByteArray, o = .string P ∧ (P.size : Int) ≤ 30 ∧ wx = w3 ∧ Hid (Unit → P = txt (signT bl ++ (l.take 1 ++ (if 1 < S.size then 46 :: l.drop 1 else [])))))
      case first =>
        by_cases hk : 1 < S.size
        · have hk' : (1 : Int) < S.size := by omega
          have HP : Hid (Unit → sg ++ H1 ++ ⟨#[46]⟩ ++ H2 = txt (signT bl ++ (l.take 1 ++ (if 1 < S.size then 46 :: l.drop 1 else [])))) := fun _ => by
            have h46 : (⟨#[46]⟩ : ByteArray) = txt [46] := rfl
            rw [(HSgS.out ()).1, HH1.out (), HH2.out (), h46, txt_app, txt_app, txt_app, if_pos hk, List.append_assoc, List.append_assoc, List.singleton_append]
          have hPs : ((sg ++ H1 ++ ⟨#[46]⟩ ++ H2).size : Int) ≤ 30 := by
            rw [ByteArray.size_append, ByteArray.size_append, ByteArray.size_append]
            have : (⟨#[46]⟩ : ByteArray).size = 1 := rfl
            omega
          have HPs : Hid (((sg ++ H1 ++ ⟨#[46]⟩ ++ H2).size : Int) ≤ 30) := hPs
          clear hPs
          go_wp2
          go_meet
          case rel => exact ⟨_, rfl, HPs.out, rfl, HP⟩
        · have hk' : decide ((1 : Int) < S.size) = false := by simp; omega
          have HP : Hid (Unit → sg ++ H1 = txt (signT bl ++ (l.take 1 ++ (if 1 < S.size then 46 :: l.drop 1 else [])))) := fun _ => by
            rw [(HSgS.out ()).1, HH1.out (), txt_app, if_neg hk, List.append_nil]
          have HPs : Hid (((sg ++ H1).size : Int) ≤ 30) := by
            show _ ≤ _
            rw [ByteArray.size_append]
            omega
          go_wp2
          go_meet
          case rel => exact ⟨_, rfl, HPs.out, rfl, HP⟩
      case rest =>
        obtain ⟨P, rfl, hP3, rfl, HP⟩ := hcut
        have HU : Hid (Unit → P ++ ⟨#[101, 43]⟩ ++ D = R) := fun _ => by
          have h2 : (⟨#[101, 43]⟩ : ByteArray) = txt [101, 43] := rfl
          rw [HSH2.out (), HP.out (), ← HD.out (), h2, txt_app, txt_app, List.append_assoc, List.append_assoc, List.append_assoc, List.append_assoc]
          rfl
        go_wp2_with fail
        refine (cD _).mono ?_
        rintro e w4 ⟨rfl, b4⟩
        go_wp2
        go_ret
        exact ⟨by rw [← HU.out ()]; rfl, chain bb b4⟩

set_option maxHeartbeats 1000000 in
set_option maxRecDepth 100000 in
theorem specShowNumber_any (x : Nat) (w : World) (hx : x < 18446744073709551616) :
    Calls Tryz.prog 11 #[.int .u64 x] w fun e w' => e = .returned (.string (txt (showN x))) ∧ Below w.heap.size w w' := by
  by_cases kx : kindN x = 4
  · exact specShow_fin x w hx kx
  · have cP := fun W => specParts_any x W hx
    unfold partsV at cP
    obtain ⟨R, hR⟩ : ∃ R, txt (showN x) = R := ⟨_, rfl⟩
    have HR : Hid (Unit → R = (if kindN x = 1 then ⟨#[78, 97, 78]⟩ else if kindN x = 2 then (if belowN x = true then ⟨#[45, 73, 110, 102, 105, 110, 105, 116, 121]⟩ else ⟨#[73, 110, 102, 105, 110, 105, 116, 121]⟩) else ⟨#[48]⟩)) := fun _ => by
      rw [← hR]
      unfold showN
      rcases kindN_cases x with h | h | h | h
      · rw [h]; rfl
      · rw [h]
        cases belowN x <;> rfl
      · rw [h]; rfl
      · exact absurd h kx
    rw [hR]
    have HB1 : Hid (Unit → kindN x = 1 → belowN x = false) := fun _ h => by unfold belowN; rw [h]; simp
    rcases kindN_cases x with hk | hk | hk | hk
    · rw [hk] at cP
      have hbl := HB1.out () hk
      have hRR := HR.out ()
      rw [hk, if_pos rfl] at hRR
      rw [hbl] at cP
      obtain ⟨M, hM⟩ : ∃ q, mantN x = q := ⟨_, rfl⟩
      obtain ⟨Q, hQ⟩ : ∃ q, expN x = q := ⟨_, rfl⟩
      rw [hM, hQ] at cP
      subst hRR
      clear hM hQ hk kx hx hR hbl HR HB1
      go_enter Tryz.func11, Tryz.ntmps11
      go_wp2_with fail
      refine (cP _).mono ?_
      rintro e w1 ⟨rfl, b1⟩
      have bb := b1.alloc b1.size (.cells #[.int .i64 1, .bool false, .int .u64 M, .int .i64 Q] 30)
      have hblk := heap_alloc_new w1 (.cells #[.int .i64 1, .bool false, .int .u64 M, .int .i64 Q] 30)
      obtain ⟨p0, p1, p2, p3⟩ := cells_four hblk
      go_wp2
      go_ret
      exact ⟨rfl, bb⟩
    · rw [hk] at cP
      have hRR := HR.out ()
      rw [hk, if_neg (by decide), if_pos rfl] at hRR
      obtain ⟨bl, hbl⟩ : ∃ q, belowN x = q := ⟨_, rfl⟩
      obtain ⟨M, hM⟩ : ∃ q, mantN x = q := ⟨_, rfl⟩
      obtain ⟨Q, hQ⟩ : ∃ q, expN x = q := ⟨_, rfl⟩
      rw [hbl, hM, hQ] at cP
      rw [hbl] at hRR
      clear hM hQ hk kx hx hR hbl HR HB1
      cases bl
      · rw [if_neg (by decide)] at hRR
        subst hRR
        go_enter Tryz.func11, Tryz.ntmps11
        go_wp2_with fail
        refine (cP _).mono ?_
        rintro e w1 ⟨rfl, b1⟩
        have bb := b1.alloc b1.size (.cells #[.int .i64 2, .bool false, .int .u64 M, .int .i64 Q] 30)
        have hblk := heap_alloc_new w1 (.cells #[.int .i64 2, .bool false, .int .u64 M, .int .i64 Q] 30)
        obtain ⟨p0, p1, p2, p3⟩ := cells_four hblk
        go_wp2
        go_ret
        exact ⟨rfl, bb⟩
      · rw [if_pos rfl] at hRR
        subst hRR
        go_enter Tryz.func11, Tryz.ntmps11
        go_wp2_with fail
        refine (cP _).mono ?_
        rintro e w1 ⟨rfl, b1⟩
        have bb := b1.alloc b1.size (.cells #[.int .i64 2, .bool true, .int .u64 M, .int .i64 Q] 30)
        have hblk := heap_alloc_new w1 (.cells #[.int .i64 2, .bool true, .int .u64 M, .int .i64 Q] 30)
        obtain ⟨p0, p1, p2, p3⟩ := cells_four hblk
        go_wp2
        go_ret
        exact ⟨rfl, bb⟩
    · rw [hk] at cP
      have hRR := HR.out ()
      rw [hk, if_neg (by decide), if_neg (by decide)] at hRR
      obtain ⟨bl, hbl⟩ : ∃ q, belowN x = q := ⟨_, rfl⟩
      obtain ⟨M, hM⟩ : ∃ q, mantN x = q := ⟨_, rfl⟩
      obtain ⟨Q, hQ⟩ : ∃ q, expN x = q := ⟨_, rfl⟩
      rw [hbl, hM, hQ] at cP
      subst hRR
      clear hM hQ hk kx hx hR hbl HR HB1
      cases bl
      · go_enter Tryz.func11, Tryz.ntmps11
        go_wp2_with fail
        refine (cP _).mono ?_
        rintro e w1 ⟨rfl, b1⟩
        have bb := b1.alloc b1.size (.cells #[.int .i64 3, .bool false, .int .u64 M, .int .i64 Q] 30)
        have hblk := heap_alloc_new w1 (.cells #[.int .i64 3, .bool false, .int .u64 M, .int .i64 Q] 30)
        obtain ⟨p0, p1, p2, p3⟩ := cells_four hblk
        go_wp2
        go_ret
        exact ⟨rfl, bb⟩
      · go_enter Tryz.func11, Tryz.ntmps11
        go_wp2_with fail
        refine (cP _).mono ?_
        rintro e w1 ⟨rfl, b1⟩
        have bb := b1.alloc b1.size (.cells #[.int .i64 3, .bool true, .int .u64 M, .int .i64 Q] 30)
        have hblk := heap_alloc_new w1 (.cells #[.int .i64 3, .bool true, .int .u64 M, .int .i64 Q] 30)
        obtain ⟨p0, p1, p2, p3⟩ := cells_four hblk
        go_wp2
        go_ret
        exact ⟨rfl, bb⟩
    · exact absurd hk kx

end Go.Proofs.YtcdplnejejpjnaaGreatDoor
