/-
  The walk of the specification's Shortest.
-/
import Derived.Test.YtcdplnejejpjnaaGreatDoorShortA
import Derived.Test.YtcdplnejejpjnaaGreatDoorAhead7
namespace Go.Proofs.YtcdplnejejpjnaaGreatDoor
open Go.RowKit
set_option linter.unusedVariables false

def shortS (x : Nat) : ByteArray := if kindN x = 4 then txt (shortR (exactS x).data.toList (exactE x) (x % 9223372036854775808) 17 1).1 else ⟨#[]⟩
def shortE (x : Nat) : Int := if kindN x = 4 then (shortR (exactS x).data.toList (exactE x) (x % 9223372036854775808) 17 1).2 else 0

set_option maxHeartbeats 4000000 in
set_option maxRecDepth 100000 in
theorem specShortest_fin (x : Nat) (w : World) (hx : x < 18446744073709551616) (kx : kindN x = 4) :
    Calls Tryz.prog 25 #[.int .u64 x] w fun e w' => e = .returned (.tuple #[.string (shortS x), .int .i64 (shortE x)]) ∧ Below w.heap.size w w' := by
  have cE := fun W => specExact_any x W hx
  have cP := fun W => l03Pow_63 W
  unfold shortS shortE
  rw [if_pos kx, if_pos kx]
  have hb := exact_bounds (mantN_pos kx) (mantN_lt x) (expN_ge x) (expN_le x)
  have hS : exactS x = txt (Lib.decDigits (exactF (mantN x) (expN x))) := by unfold exactS; rw [if_pos kx]
  have hE : exactE x = exactX (mantN x) (expN x) := by unfold exactE; rw [if_pos kx]
  rw [← hE] at hb
  obtain ⟨t, ht⟩ : ∃ t, exactS x = t := ⟨_, rfl⟩
  obtain ⟨X, hX⟩ : ∃ X, exactE x = X := ⟨_, rfl⟩
  rw [ht, hX] at cE ⊢
  rw [hX] at hb
  obtain ⟨l, hl⟩ : ∃ l, t.data.toList = l := ⟨_, rfl⟩
  have hl2 : l = Lib.decDigits (exactF (mantN x) (expN x)) := by rw [← hl, ← ht, hS, txt_data]
  have hlen : l.length ≤ 800 := by rw [hl2]; exact dec_len (by omega) hb.1
  have hfig : figsOk l = true := by rw [hl2]; exact figs_of_dec (by rw [← hl2]; exact hlen)
  have hts : t.size = l.length := by rw [← hl, size_list]
  have hne : 1 ≤ l.length := by
    have := (digV_dec (exactF (mantN x) (expN x))).2.2
    rw [← hl2] at this
    cases l with
    | nil => exact absurd rfl this
    | cons a r => simp
  obtain ⟨pos, hpos⟩ : ∃ p, x % 9223372036854775808 = p := ⟨_, rfl⟩
  have hpos2 : (x : Int) % 9223372036854775808 = pos := by omega
  rw [hl, hpos]
  obtain ⟨b1, b2, b3, b4⟩ := hb
  have HL : Hid (Unit → t.data.toList = l ∧ figsOk l = true ∧ l.length = t.size) := fun _ => ⟨hl, hfig, hts.symm⟩
  have s1 : (1 : Int) ≤ t.size := by omega
  have s2 : (t.size : Int) ≤ 800 := by omega
  obtain ⟨RS, hRS⟩ : ∃ r, txt (shortR l X pos 17 1).1 = r := ⟨_, rfl⟩
  obtain ⟨RE, hRE⟩ : ∃ r, (shortR l X pos 17 1).2 = r := ⟨_, rfl⟩
  rw [hRS, hRE]
  have HR : Hid (Unit → txt (shortR l X pos 17 1).1 = RS ∧ (shortR l X pos 17 1).2 = RE) := fun _ => ⟨hRS, hRE⟩
  have dne : t.toList.isEmpty = false := by
    rw [ByteArray.toList_eq, hl]
    cases l with
    | nil => simp at hne
    | cons a r => rfl
  clear hRS hRE hpos hne hts hfig hlen hl2 hl hX ht hE hS kx hx b1 b4
  go_enter Tryz.func25, Tryz.ntmps25
  go_wp2_with fail
  refine (cE _).mono ?_
  rintro e w1 ⟨rfl, hb1⟩
  go_wp2_with fail
  refine (cP _).mono ?_
  rintro e w' ⟨rfl, rfl⟩
  clear cE cP dne
  go_wp2_with fail
  simp only [hpos2]
  clear hpos2
  go_loopw [7] (fun x7 wr => ∃ n d : Nat, x7 = .int .i64 n ∧ (n : Int) + d = 18 ∧ (1 : Int) ≤ n ∧ Below w1.heap.size w1 wr ∧ Hid (Unit → shortR l X pos d n = shortR l X pos 17 1)) (fun x7 _ => (18 - intOf x7).toNat)
  case atStart => exact ⟨1, 17, rfl, by omega, by omega, Below.refl _ _, fun _ => rfl⟩
  case round =>
    obtain ⟨n, d, rfl, hnd, hn1, hbl, HI⟩ := hrel
    have hbw := chain hb1 hbl
    have HEnd : Hid (Unit → (d = 0 ∨ ¬n < t.size) → t = RS ∧ X = RE) := fun _ h => by
      obtain ⟨r1, r2⟩ := HR.out ()
      obtain ⟨l1, l2, l3⟩ := HL.out ()
      rw [← HI.out (), short_end (by rw [l3]; exact h)] at r1 r2
      exact ⟨by rw [← r1, ← l1]; exact (txt_self t).symm, r2⟩
    by_cases hn17 : (n : Int) ≤ 17
    · by_cases hlt : n < t.size
      · have hlt' : (n : Int) < t.size := by omega
        have HLow : Hid (Unit → (t.extract 0 n).data.toList = l.take n ∧ (t.extract n t.size).data.toList = l.drop n) := fun _ => by
          obtain ⟨l1, _, _⟩ := HL.out ()
          refine ⟨?_, ?_⟩
          · rw [Lib.extract_eq, l1]; simp
          · rw [Lib.extract_eq, l1, List.take_of_length_le]
            rw [List.length_drop, ← l1, size_list]
            omega
        clear HEnd
        go_upto_region 9 with fail
        obtain ⟨lo, hlo⟩ : ∃ lo, t.extract 0 n = lo := ⟨_, rfl⟩
        simp only [hlo]
        rw [hlo] at HLow
        clear hlo
        obtain ⟨E, hE⟩ : ∃ E : Int, X + (t.size : Int) - n = E := ⟨_, rfl⟩
        have HE : Hid (Unit → shE l X n = E) := fun _ => by
          unfold shE
          rw [(HL.out ()).2.2]
          exact hE
        have e1 : -1100 ≤ E := by omega
        have e2 : E ≤ 1200 := by omega
        obtain ⟨D, hD⟩ : ∃ D, digV (l.take n) = D := ⟨_, rfl⟩
        obtain ⟨hi, hhi⟩ : ∃ hi, txt (Lib.decDigits (D + 1)) = hi := ⟨_, rfl⟩
        have HD : Hid (Unit → digV (l.take n) = D ∧ txt (Lib.decDigits (D + 1)) = hi ∧ figsOk (l.take n) = true ∧ D ≠ 0 ∧ D < 10 ^ n) := fun _ => by
          obtain ⟨l1, l2, l3⟩ := HL.out ()
          have hft := figsOk_take l2 (by omega : 1 ≤ n)
          refine ⟨hD, hhi, hft, ?_, ?_⟩
          · rw [← hD]; exact take_pos l2 (by omega) (by omega)
          · rw [← hD]
            have := digV_lt (figsOk_figs hft)
            rw [List.length_take, Nat.min_eq_left (by omega)] at this
            exact this
        have cG : ∀ W, Calls Tryz.prog 50 #[.string lo, .string ⟨#[49]⟩] W fun e w' => e = .returned (.tuple #[.string hi, .bool (opB (· + ·) lo ⟨#[49]⟩)]) ∧ Below W.heap.size W w' := fun W => by
          obtain ⟨d1, d2, d3, d4, d5⟩ := HD.out ()
          have h := specGreatAdd_any lo ⟨#[49]⟩ W
          have ho : opS (· + ·) lo ⟨#[49]⟩ = hi := by
            unfold opS
            rw [(HLow.out ()).1, if_pos ⟨d3, by decide⟩, d1]
            show greatS (D + 1) = hi
            unfold greatS
            rw [if_pos, d2]
            exact Nat.le_trans (dec_len (k := n + 1) (by omega) (Nat.lt_of_le_of_lt (Nat.succ_le_of_lt d5) (Nat.pow_lt_pow_right (by decide) (Nat.lt_succ_self n)))) (by omega)
          rw [ho] at h
          exact h
        obtain ⟨ob, hob⟩ : ∃ b, opB (· + ·) lo ⟨#[49]⟩ = b := ⟨_, rfl⟩
        rw [hob] at cG
        clear hob hD hhi
        go_wp2_with fail
        refine (cG _).mono ?_
        rintro e w2 ⟨rfl, hb2⟩
        have hbw2 := chain hbw hb2
        have hbl2 := chain hbl hb2
        clear cG hb2
        go_upto_region 12 with fail
        have hre1 : (t.extract n t.size).size = t.size - n := by rw [ByteArray.size_extract]; omega
        obtain ⟨re, hre⟩ : ∃ re, t.extract n t.size = re := ⟨_, rfl⟩
        simp only [hre]
        rw [hre] at HLow hre1
        clear hre
        obtain ⟨k, hk⟩ : ∃ k : Nat, (re.size : Int) - 1 = k := ⟨t.size - n - 1, by omega⟩
        have hk2 : (k : Int) ≤ 800 := by omega
        have HK : Hid (Unit → k = l.length - n - 1 ∧ re.size = k + 1) := fun _ => by
          rw [(HL.out ()).2.2]
          exact ⟨by omega, by omega⟩
        have cN := fun W => l01Long_noughts k W (by omega)
        obtain ⟨z, hz⟩ : ∃ z, txt (List.replicate k 48) = z := ⟨_, rfl⟩
        rw [hz] at cN
        have hzs : z.size = k := by rw [← hz, txt_size, List.length_replicate]
        have hzs2 : z.size ≤ 800 := by omega
        have HZ : Hid (Unit → (⟨#[53]⟩ ++ z : ByteArray).data.toList = 53 :: List.replicate k 48) := fun _ => by
          rw [← hz]
          show (⟨#[53]⟩ ++ txt (List.replicate k 48) : ByteArray).data.toList = _
          rw [ByteArray.data_append, Array.toList_append, txt_data]
          rfl
        clear hz hzs
        have cLo := fun W => specNearest_any lo E W (by
          have := (HLow.out ()).1
          rw [← size_list, this, List.length_take]
          omega) (by omega) (by omega)
        have cHi := fun W => specNearest_any hi E W (by
          obtain ⟨d1, d2, d3, d4, d5⟩ := HD.out ()
          rw [← d2, txt_size]
          exact Nat.le_trans (dec_len (k := n + 1) (by omega) (Nat.lt_of_le_of_lt (Nat.succ_le_of_lt d5) (Nat.pow_lt_pow_right (by decide) (Nat.lt_succ_self n)))) (by omega)) (by omega) (by omega)
        obtain ⟨a, ha⟩ : ∃ a, nearN lo.data.toList E = a := ⟨_, rfl⟩
        obtain ⟨b, hb⟩ : ∃ a, nearN hi.data.toList E = a := ⟨_, rfl⟩
        rw [ha] at cLo
        rw [hb] at cHi
        have HAB : Hid (Unit → shL l X pos n = decide (a = pos) ∧ shH l X pos n = decide (b = pos)) := fun _ => by
          unfold shL shH
          rw [HE.out (), ← (HLow.out ()).1, ha]
          refine ⟨rfl, ?_⟩
          rw [(HLow.out ()).1, (HD.out ()).1, ← hb, ← (HD.out ()).2.1, txt_data]
        clear ha hb hre1 hE
        go_wp2_with fail
        refine (cN _).mono ?_
        rintro e w3 ⟨rfl, hb3⟩
        go_upto_region 13 with fail
        have hbw3 := chain hbw2 hb3
        have hbl3 := chain hbl2 hb3
        obtain ⟨hf, hhf⟩ : ∃ hf, (⟨#[53]⟩ ++ z : ByteArray) = hf := ⟨_, rfl⟩
        simp only [hhf]
        rw [hhf] at HZ
        obtain ⟨d', hd'⟩ : ∃ d', d = d' + 1 := ⟨d - 1, by omega⟩
        subst hd'
        have HC : Hid (Unit → a ≠ pos → b ≠ pos → shortR l X pos d' (n + 1) = shortR l X pos 17 1) := fun _ h1 h2 => by
          obtain ⟨q1, q2⟩ := HAB.out ()
          rw [← HI.out (), short_more (by rw [(HL.out ()).2.2]; exact hlt) (by rw [q1]; exact decide_eq_false h1) (by rw [q2]; exact decide_eq_false h2)]
        have HP : Hid (Unit → (a = pos ∨ b = pos) → RS = txt (Lib.decDigits (stripN (shPick l X pos n)).1) ∧ RE = E + ((stripN (shPick l X pos n)).2 : Nat)) := fun _ h => by
          obtain ⟨q1, q2⟩ := HAB.out ()
          obtain ⟨r1, r2⟩ := HR.out ()
          rw [← HI.out (), short_hit (by rw [(HL.out ()).2.2]; exact hlt) (by rw [q1, q2]; simpa using h)] at r1 r2
          exact ⟨r1.symm, by rw [← r2, HE.out ()]⟩
        have HU : Hid (Unit → shUp l X pos n = (!decide (a = pos) || (decide (b = pos) && (decide (digV hf.data.toList < digV re.data.toList) || (decide (digV re.data.toList = digV hf.data.toList) && !decide (D % 2 = 0)))))) := fun _ => by
          obtain ⟨q1, q2⟩ := HAB.out ()
          unfold shUp
          rw [q1, q2, HZ.out (), (half_val k).1, (HLow.out ()).2, (HD.out ()).1, ← (HK.out ()).1]
        have cAL : shUp l X pos n = false → (a = pos ∨ b = pos) → ∀ W, Calls Tryz.prog 52 #[.string lo, .int .i64 E] W fun e w' => e = .returned (.tuple #[.string RS, .int .i64 RE]) ∧ W = w' := fun hu h W => by
          obtain ⟨p1, p2⟩ := HP.out () h
          have hpk : shPick l X pos n = D := by unfold shPick; rw [hu, (HD.out ()).1]; simp
          rw [hpk] at p1 p2
          rw [p1, p2]
          obtain ⟨d1, d2, d3, d4, d5⟩ := HD.out ()
          have hlo : lo = txt (Lib.decDigits D) := by
            rw [← d1, figsOk_dec d3, ← (HLow.out ()).1]
            exact (txt_self lo).symm
          rw [hlo]
          refine l07Ahead_any D E W d4 ?_ (by omega) (by omega)
          exact Nat.le_trans (dec_len (k := n) (by omega) d5) (by omega)
        have cAH : shUp l X pos n = true → (a = pos ∨ b = pos) → ∀ W, Calls Tryz.prog 52 #[.string hi, .int .i64 E] W fun e w' => e = .returned (.tuple #[.string RS, .int .i64 RE]) ∧ W = w' := fun hu h W => by
          obtain ⟨p1, p2⟩ := HP.out () h
          have hpk : shPick l X pos n = D + 1 := by unfold shPick; rw [hu, (HD.out ()).1]; simp
          rw [hpk] at p1 p2
          rw [p1, p2]
          obtain ⟨d1, d2, d3, d4, d5⟩ := HD.out ()
          rw [← d2]
          refine l07Ahead_any (D + 1) E W (by omega) ?_ (by omega) (by omega)
          exact Nat.le_trans (dec_len (k := n + 1) (by omega) (Nat.lt_of_le_of_lt (Nat.succ_le_of_lt d5) (Nat.pow_lt_pow_right (by decide) (Nat.lt_succ_self n)))) (by omega)
        have HAL : Hid (Unit → shUp l X pos n = false → (a = pos ∨ b = pos) → ∀ W, Calls Tryz.prog 52 #[.string lo, .int .i64 E] W fun e w' => e = .returned (.tuple #[.string RS, .int .i64 RE]) ∧ W = w') := fun _ => cAL
        have HAH : Hid (Unit → shUp l X pos n = true → (a = pos ∨ b = pos) → ∀ W, Calls Tryz.prog 52 #[.string hi, .int .i64 E] W fun e w' => e = .returned (.tuple #[.string RS, .int .i64 RE]) ∧ W = w') := fun _ => cAH
        have hls : lo.size = n := by
          have := (HLow.out ()).1
          rw [← size_list, this, List.length_take, (HL.out ()).2.2]
          omega
        clear cAL cAH HP HI hhf cN hb3 hbl2 hbw2
        go_wp2_with fail
        refine (cLo _).mono ?_
        rintro e w4 ⟨rfl, hb4⟩
        go_wp2_with fail
        refine (cHi _).mono ?_
        rintro e w5 ⟨rfl, hb5⟩
        have hbw5 := chain (chain hbw3 hb4) hb5
        have hbl5 := chain (chain hbl3 hb4) hb5
        clear cLo cHi hb4 hb5 hbw3 hbl3
        by_cases ha : a = pos
        · have da : ((a : Int) == pos) = true := by rw [beq_iff_eq]; omega
          by_cases hb : b = pos
          · have db : ((b : Int) == pos) = true := by rw [beq_iff_eq]; omega
            obtain ⟨A, hA⟩ : ∃ A, digV re.data.toList = A := ⟨_, rfl⟩
            obtain ⟨B, hB⟩ : ∃ A, digV hf.data.toList = A := ⟨_, rfl⟩
            have hfr : Figs re.data.toList := by
              rw [(HLow.out ()).2]
              have h := figsOk_figs (HL.out ()).2.1
              exact fun c hc => h c (List.mem_of_mem_drop hc)
            have hfh : Figs hf.data.toList := by rw [HZ.out ()]; exact (half_val k).2
            have hln : re.data.toList.length = hf.data.toList.length := by
              rw [size_list, HZ.out (), (HK.out ()).2]
              simp
            have hbl : Op.bytesLess re.toList hf.toList = decide (A < B) := by
              rw [ByteArray.toList_eq, ByteArray.toList_eq, less_bytes _ _ hfr hfh hln, hA, hB]
            have heq : re.toList = hf.toList ↔ A = B := by
              rw [ByteArray.toList_eq, ByteArray.toList_eq, ← hA, ← hB]
              exact ⟨fun h => by rw [h], fun h => figs_inj hfr hfh hln h⟩
            rw [hA, hB] at HU
            clear hfr hfh hln hA hB
            rcases Nat.lt_trichotomy A B with hAB | hAB | hAB
            · have q1 : Op.bytesLess re.toList hf.toList = true := by rw [hbl]; exact decide_eq_true hAB
              have q2 : ¬re.toList = hf.toList := by rw [heq]; omega
              have q3 : (re.toList == hf.toList) = false := by rw [beq_eq_false_iff_ne]; exact q2
              have cX := HAL.out () (by rw [HU.out (), decide_eq_true ha, decide_eq_true hb, decide_eq_false (by omega : ¬B < A), decide_eq_false (by omega : ¬A = B)]; rfl) (.inl ha)
              clear ha hb HAL HAH HU HC hbl heq hAB
              go_wp2_with fail
              refine (cX _).mono ?_
              rintro e w6 ⟨rfl, rfl⟩
              go_wp2
              go_ret2
              exact ⟨rfl, hbw5⟩
            · have q1 : Op.bytesLess re.toList hf.toList = false := by rw [hbl]; exact decide_eq_false (by omega)
              have q2 : re.toList = hf.toList := heq.mpr hAB
              have q3 : (re.toList == hf.toList) = true := by rw [beq_iff_eq]; exact q2
              obtain ⟨j, hj⟩ : ∃ j : Nat, n = j + 1 := ⟨n - 1, by omega⟩
              have hjs : j < lo.size := by omega
              obtain ⟨c, hc⟩ : ∃ c : Nat, (lo[j]).toNat = c := ⟨_, rfl⟩
              have hcd : 48 ≤ c ∧ c ≤ 57 ∧ (c - 48) % 2 = D % 2 := by
                have h1 := take_snoc lo j hjs
                obtain ⟨d1, d2, d3, d4, d5⟩ := HD.out ()
                have h2 : lo.data.toList.take (j + 1) = l.take n := by
                  have h := take_all lo
                  rw [hls] at h
                  rw [← hj, h]
                  exact (HLow.out ()).1
                rw [h2] at h1
                have hfg := figsOk_figs d3
                have h3 : 48 ≤ (lo[j]).toNat ∧ (lo[j]).toNat ≤ 57 := hfg _ (by rw [h1]; simp)
                rw [h1, digV_snoc, hc] at d1
                rw [hc] at h3
                exact ⟨h3.1, h3.2, by omega⟩
              have hj1 : (n : Int) - 1 = j := by omega
              have c1 : (48 : Int) ≤ c := by omega
              have c2 : (c : Int) ≤ 57 := by omega
              by_cases hev : D % 2 = 0
              · have dv : (((c : Int) - 48) % 2 == 0) = true := by rw [beq_iff_eq]; omega
                have cX := HAL.out () (by rw [HU.out (), decide_eq_true ha, decide_eq_true hb, decide_eq_false (by omega : ¬B < A), decide_eq_true hAB, decide_eq_true hev]; rfl) (.inl ha)
                clear ha hb HAL HAH HU HC hbl heq hAB hev hcd hj
                go_wp2_with fail
                refine (cX _).mono ?_
                rintro e w6 ⟨rfl, rfl⟩
                go_wp2
                go_ret2
                exact ⟨rfl, hbw5⟩
              · have dv : (((c : Int) - 48) % 2 == 0) = false := by rw [beq_eq_false_iff_ne]; omega
                have cX := HAH.out () (by rw [HU.out (), decide_eq_true ha, decide_eq_true hb, decide_eq_false (by omega : ¬B < A), decide_eq_true hAB, decide_eq_false hev]; rfl) (.inl ha)
                clear ha hb HAL HAH HU HC hbl heq hAB hev hcd hj
                go_wp2_with fail
                refine (cX _).mono ?_
                rintro e w6 ⟨rfl, rfl⟩
                go_wp2
                go_ret2
                exact ⟨rfl, hbw5⟩
            · have q1 : Op.bytesLess re.toList hf.toList = false := by rw [hbl]; exact decide_eq_false (by omega)
              have q2 : ¬re.toList = hf.toList := by rw [heq]; omega
              have q3 : (re.toList == hf.toList) = false := by rw [beq_eq_false_iff_ne]; exact q2
              have cX := HAH.out () (by rw [HU.out (), decide_eq_true ha, decide_eq_true hb, decide_eq_true hAB]; rfl) (.inl ha)
              clear ha hb HAL HAH HU HC hbl heq hAB
              go_wp2_with fail
              refine (cX _).mono ?_
              rintro e w6 ⟨rfl, rfl⟩
              go_wp2
              go_ret2
              exact ⟨rfl, hbw5⟩
          · have db : ((b : Int) == pos) = false := by rw [beq_eq_false_iff_ne]; omega
            have cX := HAL.out () (by rw [HU.out (), decide_eq_true ha, decide_eq_false hb]; rfl) (.inl ha)
            clear ha hb HAL HAH HU HC
            go_wp2_with fail
            refine (cX _).mono ?_
            rintro e w6 ⟨rfl, rfl⟩
            go_wp2
            go_ret2
            exact ⟨rfl, hbw5⟩
        · have da : ((a : Int) == pos) = false := by rw [beq_eq_false_iff_ne]; omega
          by_cases hb : b = pos
          · have cX := HAH.out () (by rw [HU.out (), decide_eq_false ha]; rfl) (.inr hb)
            have db : ((b : Int) == pos) = true := by rw [beq_iff_eq]; omega
            clear ha hb HAL HAH HU HC
            go_wp2_with fail
            refine (cX _).mono ?_
            rintro e w6 ⟨rfl, rfl⟩
            go_wp2
            go_ret2
            exact ⟨rfl, hbw5⟩
          · have db : ((b : Int) == pos) = false := by rw [beq_eq_false_iff_ne]; omega
            have HN := HC.out () ha hb
            have HN2 : Hid (Unit → shortR l X pos d' (n + 1) = shortR l X pos 17 1) := fun _ => HN
            clear ha hb HAL HAH HU HC HN
            go_wp2
            go_roundw
            case rel => exact ⟨n + 1, d', by go_num, by omega, by omega, hbl5, HN2⟩
            case measure => simp [intOf]; omega
      · have hlt' : decide (n < t.size) = false := by simp; omega
        obtain ⟨z1, z2⟩ := HEnd.out () (.inr hlt)
        subst z1 z2
        clear HEnd HI HR
        go_wp2
        go_ret2
        exact ⟨rfl, hbw⟩
    · have hn17' : decide ((n : Int) ≤ 17) = false := by simp; omega
      obtain ⟨z1, z2⟩ := HEnd.out () (.inl (by omega))
      subst z1 z2
      clear HEnd HI HR
      go_wp2
      go_ret2
      exact ⟨rfl, hbw⟩

set_option maxHeartbeats 400000 in
set_option maxRecDepth 100000 in
theorem specShortest_any (x : Nat) (w : World) (hx : x < 18446744073709551616) :
    Calls Tryz.prog 25 #[.int .u64 x] w fun e w' => e = .returned (.tuple #[.string (shortS x), .int .i64 (shortE x)]) ∧ Below w.heap.size w w' := by
  by_cases kx : kindN x = 4
  · exact specShortest_fin x w hx kx
  · have cE := fun W => specExact_any x W hx
    have hS : exactS x = ⟨#[]⟩ := by unfold exactS; rw [if_neg kx]
    unfold shortS shortE
    rw [if_neg kx, if_neg kx]
    rw [hS] at cE
    obtain ⟨X, hX⟩ : ∃ X, exactE x = X := ⟨_, rfl⟩
    rw [hX] at cE
    clear hS hX kx hx
    go_enter Tryz.func25, Tryz.ntmps25
    go_wp2_with fail
    refine (cE _).mono ?_
    rintro e w1 ⟨rfl, hb1⟩
    go_wp2
    go_ret2
    exact ⟨rfl, hb1⟩

end Go.Proofs.YtcdplnejejpjnaaGreatDoor
