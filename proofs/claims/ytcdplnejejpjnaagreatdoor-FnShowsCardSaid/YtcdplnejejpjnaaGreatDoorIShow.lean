/-
  The walk of the program's ShowNumber.
-/
import Derived.Test.YtcdplnejejpjnaaGreatDoorIShort
namespace Go.Proofs.YtcdplnejejpjnaaGreatDoor
open Go.RowKit
set_option linter.unusedVariables false

theorem rep_noughts (n : Nat) : Lib.repeatL [48] n = List.replicate n 48 := by
  induction n with
  | zero => rfl
  | succ n ih =>
    rw [List.replicate_succ, ← ih]
    rfl

set_option maxHeartbeats 400000 in
set_option maxRecDepth 100000 in
theorem iDecimalZ (n : Int) (w : World) (h1 : -100000 ≤ n) (h2 : n ≤ 100000) (htab : Lib.TabIs Tryz.prog w "internal/strconv.uint64pow10" .u64 Lib.pow10Tab) :
    Calls Tryz.prog 64 #[.int .i64 n] w fun e w' => e = .returned (.string (txt (Lib.itoa n))) ∧ Below w.heap.size w w' := by
  have c := Tryz.strconv_Itoa n (by omega) (by omega) w htab
  have e : (⟨(Lib.itoa n).toArray⟩ : ByteArray) = txt (Lib.itoa n) := rfl
  rw [e] at c
  obtain ⟨T, hT⟩ : ∃ T, txt (Lib.itoa n) = T := ⟨_, rfl⟩
  rw [hT] at c ⊢
  clear hT e htab
  go_enter Tryz.func64, Tryz.ntmps64
  go_wp2_with (go_at_call 106; refine c.mono ?_; rintro e w' ⟨rfl, hb⟩)
  go_ret
  exact ⟨rfl, below_grown hb⟩

/-- a number with its sign -/
def signed (n : Int) : List UInt8 := if n < 0 then 45 :: Lib.decDigits (-n).toNat else 43 :: Lib.decDigits n.toNat

set_option maxHeartbeats 400000 in
set_option maxRecDepth 100000 in
theorem signWalk (n : Int) (w : World) (h1 : -1000 ≤ n) (h2 : n ≤ 1000) (htab : Lib.TabIs Tryz.prog w "internal/strconv.uint64pow10" .u64 Lib.pow10Tab) :
    Calls Tryz.prog 37 #[.int .i64 n] w fun e w' => e = .returned (.string (txt (signed n))) ∧ Below w.heap.size w w' := by
  have cD := iDecimalZ n w (by omega) (by omega) htab
  obtain ⟨R, hR⟩ : ∃ R, txt (signed n) = R := ⟨_, rfl⟩
  have HR : Hid (Unit → txt (signed n) = R) := fun _ => hR
  rw [hR]
  clear hR htab
  by_cases hn : n < 0
  · have e : Lib.itoa n = 45 :: Lib.decDigits (-n).toNat := by unfold Lib.itoa; rw [if_pos hn, (by omega : (-n).toNat = n.natAbs)]
    have HE : Hid (Unit → txt (Lib.itoa n) = R) := fun _ => by rw [← HR.out (), e]; unfold signed; rw [if_pos hn]
    obtain ⟨T, hT⟩ : ∃ T, txt (Lib.itoa n) = T := ⟨_, rfl⟩
    rw [hT] at cD HE
    clear hT e
    go_enter Tryz.func37, Tryz.ntmps37
    go_wp2_with fail
    refine cD.mono ?_
    rintro e w1 ⟨rfl, b1⟩
    go_wp2
    go_ret
    exact ⟨by rw [← HE.out ()]; rfl, b1⟩
  · have hn' : decide (n < 0) = false := by simp; omega
    have e : Lib.itoa n = Lib.decDigits n.toNat := by unfold Lib.itoa; rw [if_neg hn]
    have hs : (txt (Lib.itoa n)).size ≤ 4 := by rw [txt_size, e]; exact dec_len (by decide) (by omega)
    have HE : Hid (Unit → ⟨#[43]⟩ ++ txt (Lib.itoa n) = R) := fun _ => by
      have h43 : (⟨#[43]⟩ : ByteArray) = txt [43] := rfl
      rw [← HR.out (), e, h43, txt_app]
      unfold signed
      rw [if_neg hn]
      rfl
    obtain ⟨T, hT⟩ : ∃ T, txt (Lib.itoa n) = T := ⟨_, rfl⟩
    rw [hT] at cD HE hs
    have hs' : (T.size : Int) ≤ 4 := by omega
    clear hT e hs
    go_enter Tryz.func37, Tryz.ntmps37
    go_wp2_with fail
    refine cD.mono ?_
    rintro e w1 ⟨rfl, b1⟩
    go_wp2
    go_ret
    exact ⟨by rw [← HE.out ()]; rfl, b1⟩

set_option maxHeartbeats 2000000 in
set_option maxRecDepth 100000 in
theorem laidWalk (S : ByteArray) (E n : Int) (w : World) (hn : E + (S.size : Int) = n) (s1 : 1 ≤ S.size) (s2 : S.size ≤ 17) (n1 : -400 ≤ n) (n2 : n ≤ 420) (htab : ∀ W, Below w.heap.size w W → Lib.TabIs Tryz.prog W "internal/strconv.uint64pow10" .u64 Lib.pow10Tab) :
    Calls Tryz.prog 17 #[.string S, .int .i64 n] w fun e w' => e = .returned (.string (txt (showP S.data.toList E))) ∧ Below w.heap.size w w' := by
  obtain ⟨R, hR⟩ : ∃ R, txt (showP S.data.toList E) = R := ⟨_, rfl⟩
  have HT : Hid (∀ W, Below w.heap.size w W → Lib.TabIs Tryz.prog W "internal/strconv.uint64pow10" .u64 Lib.pow10Tab) := htab
  rw [hR]
  obtain ⟨l, hl⟩ : ∃ l, S.data.toList = l := ⟨_, rfl⟩
  have HL : Hid (Unit → S.data.toList = l ∧ l.length = S.size ∧ S = txt l) := fun _ => ⟨hl, by rw [← hl, size_list], by rw [← hl]; exact (txt_self S).symm⟩
  have HSH : Hid (Unit → R = txt (if (S.size : Int) ≤ n ∧ n ≤ 21 then l ++ List.replicate E.toNat 48 else if 0 < n ∧ n ≤ 21 then l.take n.toNat ++ 46 :: l.drop n.toNat else if -6 < n ∧ n ≤ 0 then [48, 46] ++ List.replicate (-n).toNat 48 ++ l else l.take 1 ++ (if 1 < S.size then 46 :: l.drop 1 else []) ++ 101 :: (if n - 1 < 0 then 45 :: Lib.decDigits (1 - n).toNat else 43 :: Lib.decDigits (n - 1).toNat))) := fun _ => by
    rw [← hR, hl]
    unfold showP
    rw [← hl, size_list, hn]
  have s1' : (1 : Int) ≤ S.size := by omega
  have s3' : (S.size : Int) ≤ 17 := by omega
  clear hR hl htab
  by_cases c1 : (S.size : Int) ≤ n ∧ n ≤ 21
  · obtain ⟨c1a, c1b⟩ := c1
    obtain ⟨J, hJ⟩ : ∃ J : Nat, n - (S.size : Int) = J := ⟨(n - S.size).toNat, by omega⟩
    have cL := fun W => Tryz.strings_Repeat ⟨#[48]⟩ J W (by omega) (by show 1 * J ≤ _; omega)
    have eL : (⟨(Lib.repeatL (⟨#[48]⟩ : ByteArray).data.toList J).toArray⟩ : ByteArray) = txt (List.replicate J 48) := by rw [← rep_noughts]; rfl
    rw [eL] at cL
    have HU : Hid (Unit → S ++ txt (List.replicate J 48) = R) := fun _ => by
      rw [HSH.out (), if_pos ⟨c1a, c1b⟩, (by omega : E.toNat = J), ← txt_app, ← (HL.out ()).2.2]
    have hJs : (txt (List.replicate J 48)).size = J := by rw [txt_size, List.length_replicate]
    obtain ⟨Z, hZ⟩ : ∃ Z, txt (List.replicate J 48) = Z := ⟨_, rfl⟩
    rw [hZ] at cL HU hJs
    have hJ2 : (J : Int) ≤ 21 := by omega
    clear hZ eL hn
    go_enter Tryz.func17, Tryz.ntmps17
    go_wp2_with fail
    refine (cL _).mono ?_
    rintro e w4 ⟨rfl, b4⟩
    go_wp2
    go_ret
    exact ⟨by rw [← HU.out ()]; rfl, b4⟩
  by_cases c2 : 0 < n ∧ n < S.size
  · obtain ⟨m, hm⟩ : ∃ m : Nat, n = m := ⟨n.toNat, by omega⟩
    subst hm
    have dA : decide ((S.size : Int) ≤ (m : Int)) = false := by simp; omega
    have dA2 : decide (S.size ≤ m) = false := by simp; omega
    have dB : (0 : Int) < m := by omega
    have dB0 : 0 < m := by omega
    have dB2 : (m : Int) ≤ 21 := by omega
    have dB3 : (m : Int) ≤ S.size := by omega
    obtain ⟨H1, hH1⟩ : ∃ H, S.extract 0 m = H := ⟨_, rfl⟩
    have hH1s : H1.size = m := by rw [← hH1, ByteArray.size_extract]; omega
    have HH1 : Hid (Unit → H1 = txt (l.take m)) := fun _ => by rw [← hH1, (HL.out ()).2.2, ext_txt]; rfl
    obtain ⟨H2, hH2⟩ : ∃ H, S.extract m S.size = H := ⟨_, rfl⟩
    have hH2s : (H2.size : Int) ≤ 17 := by rw [← hH2, ByteArray.size_extract]; omega
    have HH2 : Hid (Unit → H2 = txt (l.drop m)) := fun _ => by
      rw [← hH2]
      have hsz := (HL.out ()).2.1
      conv => lhs; rw [(HL.out ()).2.2]
      rw [ext_txt, txt_size, List.take_of_length_le (by rw [List.length_drop]; omega)]
    have HU : Hid (Unit → H1 ++ ⟨#[46]⟩ ++ H2 = R) := fun _ => by
      have h46 : (⟨#[46]⟩ : ByteArray) = txt [46] := rfl
      rw [HSH.out (), if_neg (by omega), if_pos (by omega), Int.toNat_natCast, HH1.out (), HH2.out (), h46, txt_app, txt_app, List.append_assoc, List.singleton_append]
    clear hn
    go_enter Tryz.func17, Tryz.ntmps17
    go_wp2_with fail
    go_big_region
    go_wp2
    go_ret
    exact ⟨by rw [← HU.out ()]; rfl, (Below.refl _ _).drew⟩
  by_cases c3 : -6 < n ∧ n ≤ 0
  · obtain ⟨J, hJ⟩ : ∃ J : Nat, -n = J := ⟨(-n).toNat, by omega⟩
    have dA : decide ((S.size : Int) ≤ n) = false := by simp; omega
    have dB : decide (0 < n) = false := by simp; omega
    obtain ⟨dC, dC2⟩ := c3
    have dC3 : -5 ≤ n := by omega
    have cL := fun W => Tryz.strings_Repeat ⟨#[48]⟩ J W (by omega) (by show 1 * J ≤ _; omega)
    have eL : (⟨(Lib.repeatL (⟨#[48]⟩ : ByteArray).data.toList J).toArray⟩ : ByteArray) = txt (List.replicate J 48) := by rw [← rep_noughts]; rfl
    rw [eL] at cL
    have HU : Hid (Unit → ⟨#[48, 46]⟩ ++ txt (List.replicate J 48) ++ S = R) := fun _ => by
      have h46 : (⟨#[48, 46]⟩ : ByteArray) = txt [48, 46] := rfl
      rw [HSH.out (), if_neg (by omega), if_neg (by omega), if_pos ⟨dC, dC2⟩, h46, txt_app, (by omega : (-n).toNat = J), ← txt_app _ l, ← (HL.out ()).2.2]
    have hJs : (txt (List.replicate J 48)).size = J := by rw [txt_size, List.length_replicate]
    obtain ⟨Z, hZ⟩ : ∃ Z, txt (List.replicate J 48) = Z := ⟨_, rfl⟩
    rw [hZ] at cL HU hJs
    have hJ2 : (J : Int) ≤ 21 := by omega
    clear hZ eL hn
    go_enter Tryz.func17, Tryz.ntmps17
    go_wp2_with fail
    refine (cL _).mono ?_
    rintro e w4 ⟨rfl, b4⟩
    go_wp2
    go_ret
    exact ⟨by rw [← HU.out ()]; rfl, b4⟩
  have hfar : n ≤ -6 ∨ 22 ≤ n := by omega
  have HSH2 : Hid (Unit → R = txt (l.take 1 ++ (if 1 < S.size then 46 :: l.drop 1 else []) ++ 101 :: signed (n - 1))) := fun _ => by
    rw [HSH.out (), if_neg (by omega), if_neg (by omega), if_neg (by omega)]
    unfold signed
    by_cases h : n - 1 < 0
    · rw [if_pos h, if_pos h, (by omega : (-(n - 1)) = 1 - n)]
    · rw [if_neg h, if_neg h]
  obtain ⟨H1, hH1⟩ : ∃ H, S.extract 0 1 = H := ⟨_, rfl⟩
  have hH1s : H1.size = 1 := by rw [← hH1, ByteArray.size_extract]; omega
  have HH1 : Hid (Unit → H1 = txt (l.take 1)) := fun _ => by rw [← hH1, (HL.out ()).2.2, ext_txt]; rfl
  obtain ⟨H2, hH2⟩ : ∃ H, S.extract 1 S.size = H := ⟨_, rfl⟩
  have hH2s : H2.size = S.size - 1 := by rw [← hH2, ByteArray.size_extract]; omega
  have hH2i : (H2.size : Int) ≤ 17 := by omega
  have HH2 : Hid (Unit → H2 = txt (l.drop 1)) := fun _ => by
    rw [← hH2]
    have hsz := (HL.out ()).2.1
    conv => lhs; rw [(HL.out ()).2.2]
    rw [ext_txt, txt_size, List.take_of_length_le (by rw [List.length_drop]; omega)]
  have cG := fun W h => signWalk (n - 1) W (by omega) (by omega) h
  have hsgs : (txt (signed (n - 1))).size ≤ 5 := by
    rw [txt_size]
    unfold signed
    have a1 : (Lib.decDigits (-(n - 1)).toNat).length ≤ 4 := dec_len (by decide) (by omega)
    have a2 : (Lib.decDigits (n - 1).toNat).length ≤ 4 := dec_len (by decide) (by omega)
    split
    · rw [List.length_cons]; omega
    · rw [List.length_cons]; omega
  obtain ⟨D, hD⟩ : ∃ D, txt (signed (n - 1)) = D := ⟨_, rfl⟩
  rw [hD] at cG hsgs
  have HD : Hid (Unit → txt (signed (n - 1)) = D) := fun _ => hD
  have hDi : (D.size : Int) ≤ 5 := by omega
  clear hD hsgs hn
  have h101 : (⟨#[101]⟩ : ByteArray) = txt [101] := rfl
  have h46 : (⟨#[46]⟩ : ByteArray) = txt [46] := rfl
  have HN : Hid ((⟨#[101]⟩ : ByteArray) = txt [101] ∧ (⟨#[46]⟩ : ByteArray) = txt [46]) := ⟨h101, h46⟩
  clear h101 h46
  by_cases hk : 1 < S.size
  · have HU : Hid (Unit → H1 ++ (⟨#[46]⟩ ++ H2) ++ ⟨#[101]⟩ ++ D = R) := fun _ => by
      rw [HSH2.out (), if_pos hk, HH1.out (), HH2.out (), ← HD.out (), HN.out.1, HN.out.2, txt_app, txt_app, txt_app, txt_app, List.append_assoc]
      rfl
    have hE2 : H2.toList.isEmpty = false := by
      rw [ByteArray.toList_eq, List.isEmpty_eq_false_iff]
      intro h
      have := size_list H2
      rw [h] at this
      simp at this
      omega
    have HT2 := HT.out w.drew (Below.refl _ _).drew
    rcases hfar with hf | hf
    · have dA : decide ((S.size : Int) ≤ n) = false := by simp; omega
      have dB : decide (0 < n) = false := by simp; omega
      have dC : decide (-5 ≤ n) = false := by simp; omega
      go_enter Tryz.func17, Tryz.ntmps17
      go_wp2_with fail
      go_big_region
      go_wp2_with fail
      refine (cG _ HT2).mono ?_
      rintro e w4 ⟨rfl, b4⟩
      go_wp2
      go_ret
      exact ⟨by rw [← HU.out ()]; rfl, chain (Below.refl _ _).drew b4⟩
    · have dA : (S.size : Int) ≤ n := by omega
      have dA2 : decide (n ≤ 21) = false := by simp; omega
      have dB : 0 < n := by omega
      have dC : -5 ≤ n := by omega
      have dC2 : decide (n ≤ 0) = false := by simp; omega
      go_enter Tryz.func17, Tryz.ntmps17
      go_wp2_with fail
      go_big_region
      go_wp2_with fail
      refine (cG _ HT2).mono ?_
      rintro e w4 ⟨rfl, b4⟩
      go_wp2
      go_ret
      exact ⟨by rw [← HU.out ()]; rfl, chain (Below.refl _ _).drew b4⟩
  · have HU : Hid (Unit → H1 ++ H2 ++ ⟨#[101]⟩ ++ D = R) := fun _ => by
      have e : l.drop 1 = [] := List.drop_of_length_le (by rw [(HL.out ()).2.1]; omega)
      rw [HSH2.out (), if_neg hk, HH1.out (), HH2.out (), e, ← HD.out (), HN.out.1, txt_app, txt_app, txt_app, List.append_assoc]
      rfl
    have hE2 : H2.toList.isEmpty = true := by
      rw [ByteArray.toList_eq, List.isEmpty_iff]
      exact List.eq_nil_of_length_eq_zero (by rw [size_list]; omega)
    have HT2 := HT.out w.drew (Below.refl _ _).drew
    rcases hfar with hf | hf
    · have dA : decide ((S.size : Int) ≤ n) = false := by simp; omega
      have dB : decide (0 < n) = false := by simp; omega
      have dC : decide (-5 ≤ n) = false := by simp; omega
      go_enter Tryz.func17, Tryz.ntmps17
      go_wp2_with fail
      go_big_region
      go_wp2_with fail
      refine (cG _ HT2).mono ?_
      rintro e w4 ⟨rfl, b4⟩
      go_wp2
      go_ret
      exact ⟨by rw [← HU.out ()]; rfl, chain (Below.refl _ _).drew b4⟩
    · have dA : (S.size : Int) ≤ n := by omega
      have dA2 : decide (n ≤ 21) = false := by simp; omega
      have dB : 0 < n := by omega
      have dC : -5 ≤ n := by omega
      have dC2 : decide (n ≤ 0) = false := by simp; omega
      go_enter Tryz.func17, Tryz.ntmps17
      go_wp2_with fail
      go_big_region
      go_wp2_with fail
      refine (cG _ HT2).mono ?_
      rintro e w4 ⟨rfl, b4⟩
      go_wp2
      go_ret
      exact ⟨by rw [← HU.out ()]; rfl, chain (Below.refl _ _).drew b4⟩

set_option maxHeartbeats 1000000 in
set_option maxRecDepth 100000 in
theorem showFin (x : Nat) (w : World) (hx : x < 18446744073709551616) (kx : kindN x = 4) (htab : ∀ W, Below w.heap.size w W → Lib.TabIs Tryz.prog W "internal/strconv.uint64pow10" .u64 Lib.pow10Tab) :
    Calls Tryz.prog 7 #[.int .u64 x] w fun e w' => e = .returned (.string (txt (showN x))) ∧ Below w.heap.size w w' := by
  have hok := short_any kx
  have hpos := short_pos hok
  have hbl := belowN_of (x := x) (by rw [kx]; decide)
  have hS : showN x = signT (belowN x) ++ showP (shortS x).data.toList (shortE x) := by
    unfold showN
    rw [kx, if_neg (by decide), if_neg (by decide), if_neg (by decide)]
  rw [hS, hbl]
  have cS := iShortest x w hx htab
  have cK := fun W => iKind x W
  have cB := fun W => iBelow x W
  rw [kx] at cK
  obtain ⟨S, hSS⟩ : ∃ S, shortS x = S := ⟨_, rfl⟩
  obtain ⟨E, hE⟩ : ∃ S, shortE x = S := ⟨_, rfl⟩
  rw [hSS, hE] at cS hok
  rw [hSS] at hpos
  rw [hSS, hE]
  have hSl := hok.len
  rw [size_list] at hSl hpos
  obtain ⟨e1, e2⟩ := hok.range
  obtain ⟨s1, s2⟩ := hpos
  obtain ⟨bl, hb⟩ : ∃ q, decide (9223372036854775808 ≤ x) = q := ⟨_, rfl⟩
  rw [hb] at cB
  rw [hb]
  have hPl : (showP S.data.toList E).length ≤ 80 := by
    have h := (read_show hok.fig s2 hok.len e1 e2).2.2
    exact h
  have cL := fun W h => laidWalk S E ((S.size : Int) + E) W (by omega) (by omega) (by omega) (by omega) (by omega) h
  obtain ⟨R, hR⟩ : ∃ R, txt (showP S.data.toList E) = R := ⟨_, rfl⟩
  have hRs : R.size ≤ 80 := by rw [← hR, txt_size]; exact hPl
  rw [hR] at cL
  have HR : Hid (Unit → txt (signT bl ++ showP S.data.toList E) = txt (signT bl) ++ R) := fun _ => by rw [← hR, txt_app]
  have HT : Hid (∀ W, Below w.heap.size w W → Lib.TabIs Tryz.prog W "internal/strconv.uint64pow10" .u64 Lib.pow10Tab) := htab
  obtain ⟨Z, hZ⟩ : ∃ Z, txt (signT bl ++ showP S.data.toList E) = Z := ⟨_, rfl⟩
  rw [hZ] at HR
  rw [hZ]
  have s1' : (S.size : Int) ≤ 17 := by omega
  have hRs' : (R.size : Int) ≤ 80 := by omega
  clear hok hSS hE hSl hR hb hbl hS hPl s2 hZ htab kx hRs hx
  cases bl
  · go_enter Tryz.func7, Tryz.ntmps7
    go_wp2_with fail
    refine (cB _).mono ?_
    rintro e w1 ⟨rfl, rfl⟩
    go_wp2_with fail
    refine (cK _).mono ?_
    rintro e w1 ⟨rfl, rfl⟩
    go_wp2_with fail
    refine cS.mono ?_
    rintro e w1 ⟨rfl, b1⟩
    go_wp2_with fail
    refine (cL _ (fun W h => HT.out W (chain b1 h))).mono ?_
    rintro e w2 ⟨rfl, b2⟩
    go_wp2
    go_ret
    refine ⟨?_, chain b1 b2⟩
    rw [HR.out ()]
    rfl
  · go_enter Tryz.func7, Tryz.ntmps7
    go_wp2_with fail
    refine (cB _).mono ?_
    rintro e w1 ⟨rfl, rfl⟩
    go_wp2_with fail
    refine (cK _).mono ?_
    rintro e w1 ⟨rfl, rfl⟩
    go_wp2_with fail
    refine cS.mono ?_
    rintro e w1 ⟨rfl, b1⟩
    go_wp2_with fail
    refine (cL _ (fun W h => HT.out W (chain b1 h))).mono ?_
    rintro e w2 ⟨rfl, b2⟩
    go_wp2
    go_ret
    refine ⟨?_, chain b1 b2⟩
    rw [HR.out ()]
    rfl

set_option maxHeartbeats 1000000 in
set_option maxRecDepth 100000 in
theorem iShowNumber (x : Nat) (w : World) (hx : x < 18446744073709551616) (htab : ∀ W, Below w.heap.size w W → Lib.TabIs Tryz.prog W "internal/strconv.uint64pow10" .u64 Lib.pow10Tab) :
    Calls Tryz.prog 7 #[.int .u64 x] w fun e w' => e = .returned (.string (txt (showN x))) ∧ Below w.heap.size w w' := by
  by_cases kx : kindN x = 4
  · exact showFin x w hx kx htab
  · have cK := fun W => iKind x W
    have cB := fun W => iBelow x W
    obtain ⟨bl, hb⟩ : ∃ q, decide (9223372036854775808 ≤ x) = q := ⟨_, rfl⟩
    rw [hb] at cB
    clear htab
    rcases kindN_cases x with hk | hk | hk | hk
    · have hS : txt (showN x) = ⟨#[78, 97, 78]⟩ := by unfold showN; rw [if_pos hk]; rfl
      rw [hS]
      rw [hk] at cK
      clear hS hk kx hb hx
      cases bl
      · go_enter Tryz.func7, Tryz.ntmps7
        go_wp2_with fail
        refine (cB _).mono ?_
        rintro e w1 ⟨rfl, rfl⟩
        go_wp2_with fail
        refine (cK _).mono ?_
        rintro e w1 ⟨rfl, rfl⟩
        go_wp2
        go_ret
        exact ⟨rfl, Below.refl _ _⟩
      · go_enter Tryz.func7, Tryz.ntmps7
        go_wp2_with fail
        refine (cB _).mono ?_
        rintro e w1 ⟨rfl, rfl⟩
        go_wp2_with fail
        refine (cK _).mono ?_
        rintro e w1 ⟨rfl, rfl⟩
        go_wp2
        go_ret
        exact ⟨rfl, Below.refl _ _⟩
    · have hbl := belowN_of (x := x) (by rw [hk]; decide)
      have hS : txt (showN x) = (if bl = true then ⟨#[45, 73, 110, 102, 105, 110, 105, 116, 121]⟩ else ⟨#[73, 110, 102, 105, 110, 105, 116, 121]⟩) := by
        unfold showN
        rw [if_neg (by rw [hk]; decide), if_pos hk, hbl, hb]
        cases bl <;> rfl
      rw [hS]
      rw [hk] at cK
      clear hS hk kx hb hx hbl
      cases bl
      · go_enter Tryz.func7, Tryz.ntmps7
        go_wp2_with fail
        refine (cB _).mono ?_
        rintro e w1 ⟨rfl, rfl⟩
        go_wp2_with fail
        refine (cK _).mono ?_
        rintro e w1 ⟨rfl, rfl⟩
        go_wp2
        go_ret
        exact ⟨rfl, Below.refl _ _⟩
      · go_enter Tryz.func7, Tryz.ntmps7
        go_wp2_with fail
        refine (cB _).mono ?_
        rintro e w1 ⟨rfl, rfl⟩
        go_wp2_with fail
        refine (cK _).mono ?_
        rintro e w1 ⟨rfl, rfl⟩
        go_wp2
        go_ret
        exact ⟨rfl, Below.refl _ _⟩
    · have hS : txt (showN x) = ⟨#[48]⟩ := by unfold showN; rw [if_neg (by rw [hk]; decide), if_neg (by rw [hk]; decide), if_pos hk]; rfl
      rw [hS]
      rw [hk] at cK
      clear hS hk kx hb hx
      cases bl
      · go_enter Tryz.func7, Tryz.ntmps7
        go_wp2_with fail
        refine (cB _).mono ?_
        rintro e w1 ⟨rfl, rfl⟩
        go_wp2_with fail
        refine (cK _).mono ?_
        rintro e w1 ⟨rfl, rfl⟩
        go_wp2
        go_ret
        exact ⟨rfl, Below.refl _ _⟩
      · go_enter Tryz.func7, Tryz.ntmps7
        go_wp2_with fail
        refine (cB _).mono ?_
        rintro e w1 ⟨rfl, rfl⟩
        go_wp2_with fail
        refine (cK _).mono ?_
        rintro e w1 ⟨rfl, rfl⟩
        go_wp2
        go_ret
        exact ⟨rfl, Below.refl _ _⟩
    · exact absurd hk kx

end Go.Proofs.YtcdplnejejpjnaaGreatDoor
