/-
  The walk of the law of tokens: what is scanned stands in order, each where its text is; written with blanks it is scanned as the same.
-/
import Derived.Test.YtcabanghegddhaaGreatDoorITokY
import Derived.Test.YtcabanghegddhaaGreatDoorScan8
import Derived.Test.YtcabanghegddhaaGreatDoorGenE
import Derived.BigQuiet
import Derived.Deep.QuietTactic
namespace Go.Proofs.YtcabanghegddhaaGreatDoor
open Go.RowKit
set_option linter.unusedVariables false

theorem in_order {s : List UInt8} : ∀ {R : List (Tok × Nat)} {e i : Nat} (h : InOrder s e (R.drop i)) (hi : i < R.length), e ≤ R[i].2 ∧ R[i].2 + (fullT R[i].1).length ≤ s.length ∧ (s.drop R[i].2).take (fullT R[i].1).length = fullT R[i].1 ∧ InOrder s (R[i].2 + (fullT R[i].1).length) (R.drop (i + 1)) := by
  intro R e i h hi
  rw [List.drop_eq_getElem_cons hi] at h
  obtain ⟨h1, h2, h3, h4⟩ := h
  exact ⟨h1, h2, h3, h4⟩
theorem wide_snoc : ∀ (R : List (Tok × Nat)) (x : Tok × Nat), wideL (R ++ [x]) = wideL R ++ 32 :: fullT x.1
  | [], x => by simp [wideL]
  | t :: R, x => by rw [List.cons_append, wideL, wide_snoc R x, wideL]; simp
theorem wide_take {R : List (Tok × Nat)} {i : Nat} (hi : i < R.length) : wideL (R.take (i + 1)) = wideL (R.take i) ++ 32 :: fullT R[i].1 := by
  rw [List.take_succ_eq_append_getElem hi, wide_snoc]
theorem row_at {w : World} {B : Nat} {v : Value} {R : List (Tok × Nat)} (h : w.ownsRow B 30 4 v R.length (flatT R)) {i : Nat} (hi : i < R.length) :
    ∃ g c, v = .slice (some ⟨g, 0, none⟩) R.length c ∧ R.length ≤ c ∧ c ≤ maxLen ∧ g < w.heap.size ∧ w.cell? ⟨g, i * 4, none⟩ = some (.int .i64 R[i].1.kind) ∧ w.cell? ⟨g, i * 4 + 1, none⟩ = some (.string (txt R[i].1.text)) ∧ w.cell? ⟨g, i * 4 + 2, none⟩ = some (.int .u64 (R[i].1.num : Int)) ∧ w.cell? ⟨g, i * 4 + 3, none⟩ = some (.int .i64 (R[i].2 : Int)) := by
  have hlt := h.lt
  obtain ⟨hl, ⟨_, h0⟩ | ⟨g, c, cur, rfl, hb, hg, hnc, hcm, hsz, htk⟩⟩ := h
  · omega
  · have hc : ∀ k, k < 4 → w.cell? ⟨g, i * 4 + k, none⟩ = (tokC R[i])[k]? := fun k hk => by
      rw [← flat_at R i hi k hk, ← htk, cell_of_row _ _ _ _ _ _ hg, List.getElem?_take_of_lt (by omega)]
      simp
    exact ⟨g, c, rfl, hnc, hcm, (hlt g rfl).2, hc 0 (by omega), hc 1 (by omega), hc 2 (by omega), hc 3 (by omega)⟩
theorem full_txt {t : Tok} {T : ByteArray} (hT : T = txt t.text) (h3 : t.kind = 3) : ((⟨#[34]⟩ : ByteArray) ++ T ++ ⟨#[34]⟩) = txt (fullT t) := by
  subst hT
  unfold fullT
  rw [if_pos h3]
  have e : (⟨#[34]⟩ : ByteArray) = txt [34] := rfl
  rw [e, txt_append, txt_append]
  rfl
theorem full_plain {t : Tok} (h3 : ¬t.kind = 3) : txt t.text = txt (fullT t) := by
  unfold fullT
  rw [if_neg h3]

set_option maxHeartbeats 4000000 in
set_option maxRecDepth 100000 in
theorem tokens_law (a0 : Option Addr) (len0 cap0 : Nat) (w : World) (hl9 : len0 ≤ 9223372036854775807) (hcode : ¬1048576 < len0 → CodeIn w a0 len0 w.heap.size) (hmk : MarksOk w) (hseek : SeekOk w) :
    Calls Tryz.prog 3 #[.slice a0 len0 cap0] w fun e w' => e = .returned (.bool true) ∧ Below w.heap.size w w' := by
  by_cases hbig : 1048576 < len0
  · have hbig' : (1048576 : Int) < len0 := by omega
    go_enter Tryz.func3, Tryz.ntmps3
    go_wp2_with fail
    refine (big_any a0 len0 cap0 _ hl9).mono ?_
    rintro e w1 ⟨rfl, rfl⟩
    go_wp2
    go_ret
    exact ⟨rfl, Below.refl _ _⟩
  · have hbig' : decide (1048576 < (len0 : Int)) = false := decide_eq_false (by omega)
    have hcd := hcode hbig
    have HM : Hid (MarksOk w ∧ SeekOk w) := ⟨hmk, hseek⟩
    clear hcode hmk hseek
    have cBg := big_any a0 len0 cap0 w hl9
    rw [hbig'] at cBg
    go_enter Tryz.func3, Tryz.ntmps3
    go_wp2_with fail
    refine cBg.mono ?_
    rintro e w1 ⟨rfl, rfl⟩
    go_wp2_with fail
    refine (drawSource_any a0 len0 cap0 _ hcd).mono ?_
    rintro e wA ⟨s, hs, rfl, bA⟩
    clear cBg hcd hbig hbig' hl9
    have cI := fun (S : ByteArray) (W : World) (hb : Below w.heap.size w W) => iScan S W (marks_kept HM.out.1 hb) (seek_kept HM.out.2 hb)
    have cI1 := cI s wA bA
    have cS1 := fun W => specScan_any s W
    have hsame := scanL_same s.data.toList
    have hfl := scan_fault (s := s.data.toList)
    have HLAW : Hid (∀ R, scanL tokI s.data.toList = (R, -1) → InOrder s.data.toList 0 R ∧ R.length ≤ 200 ∧ s.data.toList.length ≤ 600 ∧ ((wideL R).length ≤ 600 → ∃ ys, scanL tokI (wideL R) = (ys, -1) ∧ ys.map Prod.fst = R.map Prod.fst)) := fun R h => scan_law h
    obtain ⟨R, z, hY⟩ : ∃ R z, scanL tokI s.data.toList = (R, z) := ⟨_, _, rfl⟩
    obtain ⟨R2, z2, hY2⟩ : ∃ R z, scanL tokN s.data.toList = (R, z) := ⟨_, _, rfl⟩
    simp only [hY] at cI1 hsame hfl
    simp only [hY2] at cS1 hsame
    subst hsame
    rw [hY] at HLAW
    clear hY hY2
    go_wp2_with fail
    refine cI1.mono ?_
    rintro e wB ⟨v, rfl, own, bB⟩
    clear cI1
    go_wp2_with fail
    refine (cS1 _).mono ?_
    rintro e wC ⟨v2, rfl, _, bC⟩
    have ownC := own_under own bC
    have bABC := chain (chain bA bB) bC
    have sA := bA.size
    clear cS1 own bA bB bC
    rcases hfl with rfl | ⟨hz0, hR0⟩
    · obtain ⟨hord, h200, h600, hwide⟩ := HLAW.out R rfl
      have HW : Hid ((wideL R).length ≤ 600 → ∃ ys, scanL tokI (wideL R) = (ys, -1) ∧ ys.map Prod.fst = R.map Prod.fst) := hwide
      have hs6 : s.size ≤ 600 := by rw [← size_list]; exact h600
      have HO : Hid (InOrder s.data.toList 0 (R.drop 0)) := hord
      clear hwide hord h600 HLAW
      obtain ⟨n, hn⟩ : ∃ n, R.length = n := ⟨_, rfl⟩
      have HN : Hid (R.length = n) := hn
      obtain ⟨B, hB⟩ : ∃ B, wA.heap.size = B := ⟨_, rfl⟩
      rw [hB] at ownC sA
      have HOW : Hid (wC.ownsRow B 30 4 v R.length (flatT R)) := ownC
      rw [hn] at ownC h200
      obtain ⟨xa, xc, rfl⟩ := own_len ownC
      clear ownC hn hB
      clear wA
      go_upto_region 13 with fail
      go_loopw [8, 9, 10] (fun x8 x9 x10 wr => ∃ (i e : Nat) (Wd : ByteArray), x10 = .int .i64 i ∧ x8 = .int .i64 e ∧ x9 = .string Wd ∧ (i : Int) ≤ n ∧ (e : Int) ≤ s.size ∧ Wd.size ≤ 700 * i ∧ Hid (InOrder s.data.toList e (R.drop i) ∧ Wd = txt (wideL (R.take i)) ∧ wr.ownsRow B 30 4 (.slice xa n xc) R.length (flatT R)) ∧ Below w.heap.size w wr) (fun _ _ x10 _ => n - (intOf x10).toNat)
      case atStart => exact ⟨0, 0, _, rfl, rfl, rfl, by omega, by omega, Nat.le_refl 0, ⟨HO.out, rfl, HOW.out⟩, bABC⟩
      case round =>
        clear bABC HOW HO
        obtain ⟨i, e, Wd, rfl, rfl, rfl, hi, he, hwz, HX, bel⟩ := hrel
        by_cases hlt : i < n
        · have hlt' : (i : Int) < n := by omega
          obtain ⟨hX1, hX2, hX3⟩ := HX.out
          have hiR : i < R.length := by rw [HN.out]; exact hlt
          obtain ⟨q1, q2, q3, q4⟩ := in_order hX1 hiR
          obtain ⟨gr, gc, hv, hc1, hc2, hgl, k0, k1, k2, k3⟩ := row_at hX3 hiR
          have hw2 := wide_take hiR
          have hp3 : R[i].1.kind = 3 → ((⟨#[34]⟩ : ByteArray) ++ txt R[i].1.text ++ ⟨#[34]⟩) = txt (fullT R[i].1) := full_txt rfl
          have hpn : ¬R[i].1.kind = 3 → txt R[i].1.text = txt (fullT R[i].1) := full_plain
          obtain ⟨K, hK⟩ : ∃ K, R[i].1.kind = K := ⟨_, rfl⟩
          obtain ⟨T, hT⟩ : ∃ T, txt R[i].1.text = T := ⟨_, rfl⟩
          obtain ⟨M, hM⟩ : ∃ M, R[i].1.num = M := ⟨_, rfl⟩
          obtain ⟨p, hp⟩ : ∃ p, R[i].2 = p := ⟨_, rfl⟩
          obtain ⟨F, hF⟩ : ∃ F, txt (fullT R[i].1) = F := ⟨_, rfl⟩
          have hFs : (fullT R[i].1).length = F.size := by rw [← hF, ← size_list, txt_data]
          rw [hp] at q1 q2 q3 q4 k3
          rw [hFs] at q2 q3 q4
          rw [hK] at k0 hp3 hpn
          rw [hT] at k1 hp3 hpn
          rw [hM] at k2
          rw [hF] at hp3 hpn
          rw [size_list] at q2
          rw [HN.out] at hv hc1
          injection hv with hv1 hv2 hv3
          obtain ⟨q, hq⟩ : ∃ q, p + F.size = q := ⟨_, rfl⟩
          have hext : s.extract p q = F := by rw [← hq, extract_txt, sl_drop, q3, hF]
          have hWn : Wd ++ ⟨#[32]⟩ ++ F = txt (wideL (R.take (i + 1))) := by
            rw [hw2, hX2, ← hF]
            have e1 : (⟨#[32]⟩ : ByteArray) = txt [32] := rfl
            rw [e1, txt_append, txt_append]
            simp
          have HNX : Hid (InOrder s.data.toList q (R.drop (i + 1)) ∧ Wd ++ ⟨#[32]⟩ ++ F = txt (wideL (R.take (i + 1)))) := ⟨by rw [← hq]; exact q4, hWn⟩
          have HOWN : Hid (wr.ownsRow B 30 4 (.slice xa n xc) R.length (flatT R)) := hX3
          have HFT : Hid (fullT R[i].1 = F.data.toList) := by show _ = _; rw [← hF, txt_data]
          clear hX1 hX2 hX3 q3 q4 hw2 hF hFs hK hT hM hWn HX
          subst hv1
          subst hv3
          have hq' : (p : Int) + F.size = q := by omega
          have hqs : (q : Int) ≤ s.size := by omega
          have hep : decide ((p : Int) < e) = false := decide_eq_false (by omega)
          have hpq : (p : Int) ≤ q := by omega
          have hsq : decide ((s.size : Int) < q) = false := decide_eq_false (by omega)
          have hF6 : F.size ≤ 600 := by omega
          have c30 : Tryz.prog.cellsOf 30 = 4 := by kernel_rfl
          have hi0 : (0 : Int) ≤ i := by omega
          obtain ⟨W1, hW1⟩ : ∃ W, wr.alloc (.cells #[.int .i64 K, .string T, .int .u64 (M : Int), .int .i64 (p : Int)] 30) = W := ⟨_, rfl⟩
          have hblk : W1.heap[wr.heap.size]? = some (.cells #[.int .i64 K, .string T, .int .u64 (M : Int), .int .i64 (p : Int)] 30) := by rw [← hW1]; exact heap_alloc_new wr _
          obtain ⟨m0, m1, m2, m3⟩ := cells_four hblk
          have HW1 : Hid (Below w.heap.size w W1 ∧ W1.ownsRow B 30 4 (.slice (some ⟨gr, 0, none⟩) n xc) R.length (flatT R)) := ⟨by rw [← hW1]; exact bel.alloc bel.size _, by rw [← hW1]; exact HOWN.out.alloc _⟩
          clear hblk HOWN bel
          by_cases h3 : K = 3
          · have h3' := hp3 h3
            subst h3
            have hT6 : T.size ≤ 600 := by
              have := congrArg ByteArray.size h3'
              simp only [ByteArray.size_append] at this
              omega
            clear hp3 hpn
            go_wp2
            go_roundw
            case rel => exact ⟨i + 1, q, _, by go_num, rfl, rfl, by omega, by omega, by simp only [ByteArray.size_append]; (try simp only [show ∀ a : Array UInt8, (⟨a⟩ : ByteArray).size = a.size from fun _ => rfl]); first | omega | (simp; omega), ⟨HNX.out.1, HNX.out.2, HW1.out.2⟩, HW1.out.1⟩
            case measure => simp [intOf]; omega
          · have h3' := hpn h3
            have h3b : (K == 3) = false := by rw [beq_eq_false_iff_ne]; exact h3
            subst h3'
            clear hp3 hpn
            go_wp2
            go_roundw
            case rel => exact ⟨i + 1, q, _, by go_num, rfl, rfl, by omega, by omega, by simp only [ByteArray.size_append]; (try simp only [show ∀ a : Array UInt8, (⟨a⟩ : ByteArray).size = a.size from fun _ => rfl]); first | omega | (simp; omega), ⟨HNX.out.1, HNX.out.2, HW1.out.2⟩, HW1.out.1⟩
            case measure => simp [intOf]; omega
        · have hlt' : decide ((i : Int) < n) = false := decide_eq_false (by omega)
          obtain ⟨_, hX2, hX3⟩ := HX.out
          have hin : i = n := by omega
          subst hin
          have hWl : Wd.data.toList = wideL R := by
            rw [hX2, txt_data, List.take_of_length_le (by rw [HN.out]; exact Nat.le_refl _)]
          by_cases hw6 : 600 < Wd.size
          · have hw6' : (600 : Int) < Wd.size := by omega
            clear HX hX2 hX3 hWl HW
            go_wp2_with fail
            refine (implWords_any _).mono ?_
            rintro e w9 ⟨rfl, rfl⟩
            have HB9 : Hid (Below w.heap.size w (wr.alloc wordsO)) := bel.alloc bel.size _
            clear bel
            go_wp2
            go_ret
            exact ⟨rfl, HB9.out⟩
          · have hw6' : decide ((600 : Int) < Wd.size) = false := decide_eq_false (by omega)
            obtain ⟨ys, hys, hmap⟩ := HW.out (by rw [← hWl, size_list]; omega)
            have cI2 := cI Wd wr bel
            rw [hWl, hys] at cI2
            have hyl : ys.length = R.length := by have := congrArg List.length hmap; simpa using this
            rw [hyl] at cI2
            have HMAP : Hid (ys.map Prod.fst = R.map Prod.fst ∧ ys.length = R.length) := ⟨hmap, hyl⟩
            have HRow : Hid (wr.ownsRow B 30 4 (.slice xa i xc) R.length (flatT R)) := hX3
            rw [HN.out] at cI2
            clear HX hX2 hX3 hWl HW hmap hyl hys cI
            go_wp2_with fail
            refine cI2.mono ?_
            rintro e w9 ⟨v9, rfl, own9, b9⟩
            clear cI2
            obtain ⟨ya, yc, rfl⟩ := own_len own9
            have HR2 : Hid (w9.ownsRow B 30 4 (.slice xa i xc) R.length (flatT R) ∧ w9.ownsRow wr.heap.size 30 4 (.slice ya i yc) ys.length (flatT ys)) := ⟨own_under HRow.out b9, by rw [HMAP.out.2, HN.out]; exact own9⟩
            have bel9 := chain bel b9
            clear HRow own9 bel b9
            go_upto_region 29 with fail
            go_loopw [15] (fun x wr2 => ∃ k : Nat, x = .int .i64 k ∧ (k : Int) ≤ i ∧ wr2.heap = w9.heap ∧ Below w.heap.size w wr2) (fun x _ => i - (intOf x).toNat)
            case atStart => exact ⟨0, rfl, by omega, rfl, bel9⟩
            case round =>
              clear bel9
              obtain ⟨k, rfl, hk, hheap, bel2⟩ := hrel
              by_cases hlt2 : k < i
              · have hlt2' : (k : Int) < i := by omega
                have hkR : k < R.length := by rw [HN.out]; exact hlt2
                have hkY : k < ys.length := by rw [HMAP.out.2]; exact hkR
                obtain ⟨g1, c1, hv1, _, _, _, a0, a1, a2, _⟩ := row_at HR2.out.1 hkR
                obtain ⟨g2, c2, hv2, _, _, _, b0, b1, b2, _⟩ := row_at HR2.out.2 hkY
                have heq : ys[k].1 = R[k].1 := by
                  have h1 : (ys.map Prod.fst)[k]? = some ys[k].1 := by rw [List.getElem?_map, List.getElem?_eq_getElem hkY]; rfl
                  have h2 : (R.map Prod.fst)[k]? = some R[k].1 := by rw [List.getElem?_map, List.getElem?_eq_getElem hkR]; rfl
                  rw [HMAP.out.1, h2] at h1
                  exact (Option.some.inj h1).symm
                rw [heq] at b0 b1 b2
                have cellH : ∀ p, wr.cell? p = w9.cell? p := fun p => by unfold World.cell?; rw [hheap]
                rw [← cellH] at a0 a1 a2 b0 b1 b2
                obtain ⟨K, hK⟩ : ∃ K, R[k].1.kind = K := ⟨_, rfl⟩
                obtain ⟨T, hT⟩ : ∃ T, txt R[k].1.text = T := ⟨_, rfl⟩
                obtain ⟨M, hM⟩ : ∃ M, R[k].1.num = M := ⟨_, rfl⟩
                rw [hK] at a0 b0
                rw [hT] at a1 b1
                rw [hM] at a2 b2
                injection hv1 with hva _ hvb
                injection hv2 with hvc _ hvd
                subst hva
                subst hvc
                have c30 : Tryz.prog.cellsOf 30 = 4 := by kernel_rfl
                have hk0 : (0 : Int) ≤ k := by omega
                have HC : Hid (∀ m, (wr.drewN m).heap = w9.heap ∧ Below w.heap.size w (wr.drewN m)) := fun m => ⟨hheap, below_drewN bel2 m⟩
                clear hK hT hM heq cellH hvb hvd hheap bel2
                go_wp2
                go_quiet (fail)
                go_wp2
                go_roundw
                case rel => exact ⟨k + 1, by go_num, by omega, (HC.out _).1, (HC.out _).2⟩
                case measure => simp [intOf]; omega
              · have hlt2' : decide ((k : Int) < i) = false := decide_eq_false (by omega)
                go_wp2
                go_ret
                exact ⟨rfl, bel2⟩
    · obtain ⟨z', rfl⟩ : ∃ q : Nat, z = q := ⟨z.toNat, by omega⟩
      subst hR0
      obtain ⟨xa, xc, rfl⟩ := own_len ownC
      clear HLAW
      go_wp2
      go_ret
      exact ⟨rfl, bABC⟩

end Go.Proofs.YtcabanghegddhaaGreatDoor
