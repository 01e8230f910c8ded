/-
  The exact figures of a drawn finite number, times a power of 2 or of 10, are those of its parts, with no nought at their end; the empty text and 0 of all others; the table that the library's writer reads is listed and tied to the program's text; no other condition.
-/
import Derived.Test.YtfocaoliadbhcaaDoorRows
import Derived.WalkKit
import Derived.ProofKit
import Derived.OpenShut
import Derived.ShutString
import Derived.ChangeOld
import Derived.Below
import Derived.LaidMore
import Derived.Lay
import Derived.LaidLaws
import Derived.Stop.Joined
import Derived.SevenTiedAt
import Derived.Test.YtfocaoliadbhcaaDoorTie
import Derived.Test.YtfocaoliadbhcaaDoorCards
import Derived.Test.YtfocaoliadbhcaaDoorIExact
import Derived.Test.YtfocaoliadbhcaaDoorExactL
import Derived.Test.YtfocaoliadbhcaaDoorDec
import Derived.Test.YtfocaoliadbhcaaDoorDraw3
import Derived.Test.YtfocaoliadbhcaaDoorLaws3
import Derived.ChangeOld
import Derived.Below
namespace Go.Proofs.YtfocaoliadbhcaaDoor
open Go.ChangeShapes Go.WideShapes Go.ChangeAt Go.RowKit
open Go.ChangeMaps (open_string shut_string)
set_option linter.unusedVariables false

theorem fnExact_own : ownKnob Tryd.prog.godebug = none := by kernel_rfl
theorem fnExact_laidOut : laidOutB Tryd.prog = true := by kernel_rfl

/-- WHAT THE WALK IS TOLD OF A SLICE OF INTEGERS THAT CAME IN: it is nil; or it leads to a row of 'cap' cells, the numbers 'zs' (the first 'len' are its elements, the rest its spare room), each fitting its kind. -/
def IsRow (k : IntKind) (w : World) (a : Option Addr) (len cap : Nat) (zs : List Int) : Prop :=
  (a = none ∧ len = 0 ∧ cap = 0 ∧ zs = []) ∨
  ∃ x, a = some x ∧ len ≤ cap ∧ cap ≤ maxLen ∧ zs.length = cap ∧ (∀ i, i < zs.length → w.cell? (x.add i) = some (.int k (zs.getD i 0))) ∧ ∀ n ∈ zs, (Lit.int k n).wf = true

theorem fnExact_tab {W : World} (h : laidMetH Tryd.prog Rows.fnExactRow.laid W) : Lib.TabIs Tryd.prog W "internal/strconv.uint64pow10" .u64 Lib.pow10Tab := by
  rw [MakeChecks.laidMetH_plain _ _ _ (by kernel_rfl)] at h
  obtain ⟨ps, hv, _⟩ := h
  exact tabIs_at (g := 0) (by kernel_rfl) (by kernel_rfl) Tryd.underlying103 Tryd.underlying27 (by kernel_rfl) (by kernel_rfl) hv (by
    right; right; left)
theorem fnExact_tabs {w : World} (h : laidMetH Tryd.prog Rows.fnExactRow.laid w) : ∀ W : World, Below w.heap.size w W → Lib.TabIs Tryd.prog W "internal/strconv.uint64pow10" .u64 Lib.pow10Tab := by
  have ht := fnExact_tab h
  have hc := ht.cell (g := 0) (by kernel_rfl) 0 (by decide)
  exact fun W hb => tabIs_later (g := 0) hb (by kernel_rfl) (World.block_lt_of_cell? w _ hc) ht
set_option maxHeartbeats 4000000 in
set_option maxRecDepth 100000 in
theorem fnExact_walk (a0 : Option Addr) (len0 cap0 : Nat) (z0 : List Int) (w : World) (w0 : IsRow .u8 w a0 len0 cap0 z0) (htab : ∀ W : World, Below w.heap.size w W → Lib.TabIs Tryd.prog W "internal/strconv.uint64pow10" .u64 Lib.pow10Tab) :
    Calls Tryd.prog 8 #[.slice a0 len0 cap0] w fun e w' => e = .returned (.bool true) ∧ Below w.heap.size w w' := by
  have hl9 : len0 ≤ 9223372036854775807 := by
    rcases w0 with ⟨_, h, _⟩ | ⟨_, _, h1, h2, _⟩
    · omega
    · unfold maxLen at h2; omega
  have HT : Hid (∀ W : World, Below w.heap.size w W → Lib.TabIs Tryd.prog W "internal/strconv.uint64pow10" .u64 Lib.pow10Tab) := htab
  clear htab
  by_cases hbig : 1048576 < len0
  · clear w0
    go_enter Tryd.func8, Tryd.ntmps8
    go_wp2_with fail
    refine (big_any a0 len0 cap0 _ hl9).mono ?_
    rintro e w1 ⟨rfl, rfl⟩
    go_wp2
    go_ret
    exact ⟨rfl, Below.refl _ _⟩
  · have hcode : CodeIn w a0 len0 w.heap.size := codeIn_of w0 (by omega)
    clear w0
    go_enter Tryd.func8, Tryd.ntmps8
    go_wp2_with fail
    refine (big_any a0 len0 cap0 _ hl9).mono ?_
    rintro e w1 ⟨rfl, rfl⟩
    go_wp2_with fail
    refine (drawNumbers_any a0 len0 cap0 _ hcode).mono ?_
    rintro e w1 ⟨x, y, z, hx, hy, hz, rfl, b1⟩
    clear hz hcode hl9 hbig
    obtain ⟨y2, hy2⟩ : ∃ q, x % 9223372036854775808 = q := ⟨_, rfl⟩
    have hy3 : (x : Int) % 9223372036854775808 = y2 := by omega
    have iX := fun W (hb : Below w.heap.size w W) => iExact x W hx (fun W' h' => HT.out W' (chain hb h'))
    have iY := fun W (hb : Below w.heap.size w W) => iExact y2 W (by omega) (fun W' h' => HT.out W' (chain hb h'))
    obtain ⟨s1, s2⟩ := exact_same x
    rw [hy2] at s1 s2
    rw [s1, s2] at iY
    have cP := fun W => specParts_any x W hx
    unfold partsV at cP
    have HB : Hid (mantN x < 9007199254740992 ∧ -1074 ≤ expN x ∧ expN x ≤ 971 ∧ (kindN x = 4 → mantN x ≠ 0)) := ⟨mantN_lt x, expN_ge x, expN_le x, mantN_pos⟩
    have HS : Hid (exactS x = (if kindN x = 4 then txt (Lib.decDigits (exactF (mantN x) (expN x))) else ⟨#[]⟩) ∧ exactE x = (if kindN x = 4 then exactX (mantN x) (expN x) else 0)) := ⟨rfl, rfl⟩
    obtain ⟨S, hS⟩ : ∃ q, exactS x = q := ⟨_, rfl⟩
    obtain ⟨X, hX⟩ : ∃ q, exactE x = q := ⟨_, rfl⟩
    rw [hS, hX] at iX iY HS
    clear hS hX s1 s2 hy2 hx hy
    obtain ⟨K, hK⟩ : ∃ q, kindN x = q := ⟨_, rfl⟩
    obtain ⟨B, hB⟩ : ∃ q, belowN x = q := ⟨_, rfl⟩
    obtain ⟨M, hM⟩ : ∃ q, mantN x = q := ⟨_, rfl⟩
    obtain ⟨Q, hQ⟩ : ∃ q, expN x = q := ⟨_, rfl⟩
    rw [hK, hB, hM, hQ] at cP
    rw [hK, hM, hQ] at HS HB
    clear hK hB hM hQ
    go_wp2_with fail
    refine (iX _ b1).mono ?_
    rintro en w2 ⟨rfl, b2⟩
    go_wp2_with fail
    refine (cP _).mono ?_
    rintro en w3 ⟨rfl, b3⟩
    have b13 := chain (chain b1 b2) b3
    have bb := b13.alloc b13.size (.cells #[.int .i64 K, .bool B, .int .u64 M, .int .i64 Q] 36)
    have hblk := heap_alloc_new w3 (.cells #[.int .i64 K, .bool B, .int .u64 M, .int .i64 Q] 36)
    clear b1 b2 b3 b13
    by_cases hK : K = 4
    · subst hK
      have hS := HS.out
      rw [if_pos rfl, if_pos rfl] at hS
      have hM0 := HB.out.2.2.2 rfl
      obtain ⟨F, hF⟩ : ∃ F, exactF M Q = F := ⟨_, rfl⟩
      obtain ⟨f1, f2, f3, f4⟩ := exact_bounds hM0 HB.out.1 HB.out.2.1 HB.out.2.2.1
      rw [hF] at f1 f4 hS
      rw [← hS.2] at f2 f3
      obtain ⟨l, l1, _, _⟩ := dec_last (M := F)
      obtain ⟨k, hk⟩ : ∃ k, l.length = k := ⟨_, rfl⟩
      have hsz : S.size = k + 1 := by rw [hS.1, txt_size, l1, List.length_append, hk]; rfl
      have hks : k < S.size := by omega
      have hc : (S[k]).toNat ≠ 48 := by
        rw [txt_get (by rw [hS.1, l1]) hk.symm hks, UInt8.toNat_ofNat']
        clear f1; omega
      have hc' : (((S[k]).toNat : Int) == 48) = false := by rw [beq_eq_false_iff_ne]; omega
      have hlen := dec_len (n := F) (k := 800) (by decide) f1
      have hok : figsOk S.data.toList = true := by rw [hS.1, txt_data]; exact figs_of_dec hlen
      have hsz8 : S.size ≤ 800 := figsOk_size hok
      have cF := fun W => specFiguresOk_any S W
      rw [hok] at cF
      have hk1 : (S.size : Int) - 1 = k := by omega
      have hkb : (k : Int) ≤ 800 := by omega
      have hz0 : ((S.size : Int) == 0) = false := by rw [beq_eq_false_iff_ne]; omega
      have hz1 : S.size ≠ 0 := by omega
      have HF : Hid (F < 10 ^ 800 ∧ S = txt (Lib.decDigits F) ∧ exactX M Q = X ∧ exactF M Q = F ∧ M ≠ 0 ∧ M < 9007199254740992) := ⟨f1, hS.1, hS.2.symm, hF, hM0, HB.out.1⟩
      have q1 := HB.out.2.1
      have q2 := HB.out.2.2.1
      have M1 : (M : Int) < 9007199254740992 := by have := HB.out.1; omega
      clear f1 f4 hS hF hM0 HS HB l1 hsz hk hc hlen hok
      go_wp2_with fail
      refine (iY _ bb).mono ?_
      rintro en w4 ⟨rfl, b4⟩
      replace hblk := kept_block b4 hblk
      replace bb := chain bb b4
      clear b4
      go_wp2_with fail
      refine (cF _).mono ?_
      rintro en w5 ⟨rfl, rfl⟩
      obtain ⟨k0, k1, k2, k3⟩ := cells_four hblk
      by_cases hQ1 : Q < -60
      · clear HF
        go_wp2
        go_ret
        exact ⟨rfl, bb⟩
      · have dQ1 : decide (Q < -60) = false := by simp; omega
        by_cases hQ2 : 60 < Q
        · clear HF
          go_wp2
          go_ret
          exact ⟨rfl, bb⟩
        · have dQ2 : decide (60 < Q) = false := by simp; omega
          have dX : decide (1000 < X) = false := by simp; omega
          have cD := fun W => specDecimal_nat M W (by omega)
          have hD : (⟨(Lib.decDigits M).toArray⟩ : ByteArray) = txt (Lib.decDigits M) := rfl
          rw [hD] at cD
          clear hD
          have HM : Hid (M < 10 ^ 16 ∧ M ≠ 0 ∧ S = txt (Lib.decDigits F) ∧ exactX M Q = X ∧ exactF M Q = F) := by
            refine ⟨?_, HF.out.2.2.2.2.1, HF.out.2.1, HF.out.2.2.1, HF.out.2.2.2.1⟩
            have := HF.out.2.2.2.2.2
            omega
          clear HF
          obtain ⟨D0, hD0⟩ : ∃ q, txt (Lib.decDigits M) = q := ⟨_, rfl⟩
          have HD0 : Hid (txt (Lib.decDigits M) = D0) := hD0
          rw [hD0] at cD
          clear hD0
          have HQ : Hid (-60 ≤ Q ∧ Q ≤ 60) := by
            show -60 ≤ Q ∧ Q ≤ 60
            omega
          clear hQ1 hQ2
          go_wp2_with fail
          refine (cD _).mono ?_
          rintro en w6 ⟨rfl, b6⟩
          replace hblk := kept_block b6 hblk
          replace bb := chain bb b6
          clear b6
          clear dQ1 dQ2 dX cD k0 k1 k2 k3
          obtain ⟨hQ1, hQ2⟩ := HQ.out
          clear HQ
          by_cases hQ0 : 0 ≤ Q
          · obtain ⟨j, hj⟩ : ∃ j : Nat, Q = j := ⟨Q.toNat, by omega⟩
            obtain ⟨v, v1, v2, _⟩ := exact_up (m := M) (k := j) HM.out.2.1
            rw [← hj, HM.out.2.2.2.1] at v1
            rw [← hj, HM.out.2.2.2.2] at v2
            obtain ⟨t1, t2, t3, t4⟩ := texts_up HM.out.2.1 HM.out.1 (by omega) (by omega) v2
            rw [← v1] at t1
            rw [← hj] at t3
            have dX0 : decide (X < 0) = false := by simp; omega
            have c1 := fun W => specGreatPower_any 10 X W (by omega) (by omega) (by omega) (by omega)
            have c2 := fun W => specGreatMul_any S (txt (Lib.decDigits (10 ^ v))) W
            have c3 := fun W => specGreatPower_any 2 Q W (by omega) (by omega) (by omega) (by omega)
            have c4 := fun W => specGreatMul_any D0 (txt (Lib.decDigits (2 ^ j))) W
            rw [HM.out.2.2.1.symm] at t2
            rw [HD0.out] at t4
            rw [t1] at c1
            rw [t2] at c2
            rw [t3] at c3
            rw [t4] at c4
            obtain ⟨P, hP⟩ : ∃ q, txt (Lib.decDigits (10 ^ v)) = q := ⟨_, rfl⟩
            obtain ⟨R, hR⟩ : ∃ q, txt (Lib.decDigits (2 ^ j)) = q := ⟨_, rfl⟩
            obtain ⟨T, hT⟩ : ∃ q, txt (Lib.decDigits (M * 2 ^ j)) = q := ⟨_, rfl⟩
            rw [hP] at c1 c2
            rw [hR] at c3 c4
            rw [hT] at c2 c4
            obtain ⟨o1, ho1⟩ : ∃ q, powB 10 X = q := ⟨_, rfl⟩
            obtain ⟨o2, ho2⟩ : ∃ q, opB (· * ·) S P = q := ⟨_, rfl⟩
            obtain ⟨o3, ho3⟩ : ∃ q, powB 2 Q = q := ⟨_, rfl⟩
            obtain ⟨o4, ho4⟩ : ∃ q, opB (· * ·) D0 R = q := ⟨_, rfl⟩
            rw [ho1] at c1
            rw [ho2] at c2
            rw [ho3] at c3
            rw [ho4] at c4
            clear ho1 ho2 ho3 ho4 hP hR hT t1 t2 t3 t4 v2 HM HD0 hj v1
            go_wp2_with fail
            refine (c1 _).mono ?_
            rintro en w7 ⟨rfl, b7⟩
            replace hblk := kept_block b7 hblk
            replace bb := chain bb b7
            clear b7
            go_wp2_with fail
            refine (c2 _).mono ?_
            rintro en w8 ⟨rfl, b8⟩
            replace hblk := kept_block b8 hblk
            replace bb := chain bb b8
            clear b8
            obtain ⟨d0, d1, d2, d3⟩ := cells_four hblk
            go_wp2_with fail
            refine (c3 _).mono ?_
            rintro en w9 ⟨rfl, b9⟩
            replace hblk := kept_block b9 hblk
            replace bb := chain bb b9
            clear b9
            go_wp2_with fail
            refine (c4 _).mono ?_
            rintro en w10 ⟨rfl, b10⟩
            replace hblk := kept_block b10 hblk
            replace bb := chain bb b10
            clear b10
            go_wp2
            go_ret
            exact ⟨by simp, bb⟩
          · obtain ⟨j, hj⟩ : ∃ j : Nat, Q = -(j : Int) := ⟨(-Q).toNat, by omega⟩
            have hj2 : -Q = j := by omega
            have hQ0' : decide (0 ≤ Q) = false := by simp; omega
            obtain ⟨z0, v1, v2, _⟩ := exact_down (m := M) (k := j) HM.out.2.1 (by omega)
            rw [← hj, HM.out.2.2.2.1] at v1
            rw [← hj, HM.out.2.2.2.2] at v2
            by_cases hneg : X < 0
            · obtain ⟨v, hv⟩ : ∃ v : Nat, -X = v := ⟨(-X).toNat, by omega⟩
              obtain ⟨t1, t2, t3, t4⟩ := texts_low HM.out.2.1 HM.out.1 (by omega) (by omega) (down_low (Y := v) v2 (by omega))
              have c1 := fun W => specGreatPower_any 10 v W (by omega) (by omega) (by omega) (by omega)
              have c2 := fun W => specGreatMul_any D0 (txt (Lib.decDigits (10 ^ v))) W
              have c3 := fun W => specGreatPower_any 2 j W (by omega) (by omega) (by omega) (by omega)
              have c4 := fun W => specGreatMul_any S (txt (Lib.decDigits (2 ^ j))) W
              rw [HM.out.2.2.1.symm] at t4
              rw [HD0.out] at t2
              rw [t1] at c1
              rw [t2] at c2
              rw [t3] at c3
              rw [t4] at c4
              obtain ⟨P, hP⟩ : ∃ q, txt (Lib.decDigits (10 ^ v)) = q := ⟨_, rfl⟩
              obtain ⟨R, hR⟩ : ∃ q, txt (Lib.decDigits (2 ^ j)) = q := ⟨_, rfl⟩
              obtain ⟨T, hT⟩ : ∃ q, txt (Lib.decDigits (M * 10 ^ v)) = q := ⟨_, rfl⟩
              rw [hP] at c1 c2
              rw [hR] at c3 c4
              rw [hT] at c2 c4
              obtain ⟨o1, ho1⟩ : ∃ q, powB 10 v = q := ⟨_, rfl⟩
              obtain ⟨o2, ho2⟩ : ∃ q, opB (· * ·) D0 P = q := ⟨_, rfl⟩
              obtain ⟨o3, ho3⟩ : ∃ q, powB 2 j = q := ⟨_, rfl⟩
              obtain ⟨o4, ho4⟩ : ∃ q, opB (· * ·) S R = q := ⟨_, rfl⟩
              rw [ho1] at c1
              rw [ho2] at c2
              rw [ho3] at c3
              rw [ho4] at c4
              clear ho1 ho2 ho3 ho4 hP hR hT t1 t2 t3 t4 v1 v2 HM HD0 hQ0 hj
              go_wp2_with fail
              refine (c1 _).mono ?_
              rintro en w7 ⟨rfl, b7⟩
              replace hblk := kept_block b7 hblk
              replace bb := chain bb b7
              clear b7
              go_wp2_with fail
              refine (c2 _).mono ?_
              rintro en w8 ⟨rfl, b8⟩
              replace hblk := kept_block b8 hblk
              replace bb := chain bb b8
              clear b8
              obtain ⟨d0, d1, d2, d3⟩ := cells_four hblk
              go_wp2_with fail
              refine (c3 _).mono ?_
              rintro en w9 ⟨rfl, b9⟩
              replace hblk := kept_block b9 hblk
              replace bb := chain bb b9
              clear b9
              go_wp2_with fail
              refine (c4 _).mono ?_
              rintro en w10 ⟨rfl, b10⟩
              replace hblk := kept_block b10 hblk
              replace bb := chain bb b10
              clear b10
              go_wp2
              go_ret
              exact ⟨by simp, bb⟩
            · obtain ⟨v, hv⟩ : ∃ v : Nat, X = v := ⟨X.toNat, by omega⟩
              have dX0 : decide (X < 0) = false := by simp; omega
              obtain ⟨t1, t2, t3, t4⟩ := texts_high HM.out.2.1 HM.out.1 (by omega) (by omega) (down_high (X := v) v2 (by omega))
              rw [← hv] at t1
              have c1 := fun W => specGreatPower_any 10 X W (by omega) (by omega) (by omega) (by omega)
              have c2 := fun W => specGreatMul_any S (txt (Lib.decDigits (10 ^ v))) W
              have c3 := fun W => specGreatPower_any 2 j W (by omega) (by omega) (by omega) (by omega)
              have c4 := fun W => specGreatMul_any (txt (Lib.decDigits (F * 10 ^ v))) (txt (Lib.decDigits (2 ^ j))) W
              rw [HM.out.2.2.1.symm] at t2
              rw [HD0.out] at t4
              rw [t1] at c1
              rw [t2] at c2
              rw [t3] at c3
              rw [t4] at c4
              obtain ⟨P, hP⟩ : ∃ q, txt (Lib.decDigits (10 ^ v)) = q := ⟨_, rfl⟩
              obtain ⟨R, hR⟩ : ∃ q, txt (Lib.decDigits (2 ^ j)) = q := ⟨_, rfl⟩
              obtain ⟨T, hT⟩ : ∃ q, txt (Lib.decDigits (F * 10 ^ v)) = q := ⟨_, rfl⟩
              rw [hP] at c1 c2
              rw [hR] at c3 c4
              rw [hT] at c2 c4
              obtain ⟨o1, ho1⟩ : ∃ q, powB 10 X = q := ⟨_, rfl⟩
              obtain ⟨o2, ho2⟩ : ∃ q, opB (· * ·) S P = q := ⟨_, rfl⟩
              obtain ⟨o3, ho3⟩ : ∃ q, powB 2 j = q := ⟨_, rfl⟩
              obtain ⟨o4, ho4⟩ : ∃ q, opB (· * ·) T R = q := ⟨_, rfl⟩
              rw [ho1] at c1
              rw [ho2] at c2
              rw [ho3] at c3
              rw [ho4] at c4
              clear ho1 ho2 ho3 ho4 hP hR hT t1 t2 t3 t4 v1 v2 HM HD0 hQ0 hneg hv hj
              go_wp2_with fail
              refine (c1 _).mono ?_
              rintro en w7 ⟨rfl, b7⟩
              replace hblk := kept_block b7 hblk
              replace bb := chain bb b7
              clear b7
              go_wp2_with fail
              refine (c2 _).mono ?_
              rintro en w8 ⟨rfl, b8⟩
              replace hblk := kept_block b8 hblk
              replace bb := chain bb b8
              clear b8
              obtain ⟨d0, d1, d2, d3⟩ := cells_four hblk
              go_wp2_with fail
              refine (c3 _).mono ?_
              rintro en w9 ⟨rfl, b9⟩
              replace hblk := kept_block b9 hblk
              replace bb := chain bb b9
              clear b9
              go_wp2_with fail
              refine (c4 _).mono ?_
              rintro en w10 ⟨rfl, b10⟩
              replace hblk := kept_block b10 hblk
              replace bb := chain bb b10
              clear b10
              go_wp2
              go_ret
              exact ⟨by simp, bb⟩
    · have hS := HS.out
      rw [if_neg hK, if_neg hK] at hS
      have hK' : ((K : Int) != 4) = true := by simp; omega
      obtain ⟨hS1, hS2⟩ := hS
      subst hS1 hS2
      clear HS HB hK
      go_wp2
      go_ret
      exact ⟨rfl, bb⟩

set_option maxRecDepth 100000 in
theorem fnExact_lifted (os : Os) (started : os.Started) (H : Type) (enc : TypeId × Value → H) :
    ReturnsInHanded {} Tryd.checked os 8 .any (fun w args => (Rows.fnExactSpec.pre enc Tryd.prog Tryd.f8 [] false w args ∧ laidMetH Tryd.prog Rows.fnExactRow.laid w) ∧ sizedMet enc Tryd.prog Tryd.f8 (OpenSpec.ofChange Rows.fnExactSpec) false w args)
      (Rows.fnExactSpec.post enc Tryd.prog Tryd.f8 false true false false) := by
  refine returnsInHanded_of_change_and (C := Tryd.checked) (X := fun w _ => laidMetH Tryd.prog Rows.fnExactRow.laid w) (fun _ _ _ hh h => h.of_heap hh) fnExact_own started (by kernel_rfl) Tryd.func8
    (ChangeSpec.witness_shaped (enc := enc) (C := Tryd.checked) (os := os) (X := fun w _ => laidMetH Tryd.prog Rows.fnExactRow.laid w) false (World.laidAll Tryd.prog os Rows.fnExactRow.laid) #[.slice none 0 0] 8 (World.laidAll_os _ _ _) (World.shaped_of_ZipB (by kernel_rfl) (by kernel_rfl)) (by kernel_rfl) (by kernel_rfl) (by kernel_rfl) (by rw [MakeChecks.laidMetH_plain _ _ _ (by kernel_rfl)]; exact laidMet_laidAll _ (by kernel_rfl) (by kernel_rfl))) ?_
  intro W base args ds gs before hval0 hW _ _ hL _
  have hval : ∀ (j : Nat) t v, Tryd.f8.params[j]? = some t → args[j]? = some v → Value.okWide Tryd.prog W .any base t v := hval0
  have hW' := hW
  obtain ⟨p, q, hA0, hV, rfl, hfz, hnd⟩ := hW
  have hA : DataW.TrodAll enc Tryd.prog W 0 (fun _ => true) true Tryd.f8.params.toList args.toList ds p := hA0
  rw [Tryd.params8] at hA hval
  obtain ⟨v0, vs0, d0, ds0, p0, q0, hargs, rfl, rfl, h0, r0⟩ := trodAll_cons hA
  obtain ⟨rfl, rfl, rfl⟩ := trodAll_nil r0
  obtain rfl : args = #[v0] := by cases args; simp_all
  obtain ⟨rfl, rfl⟩ := trodVars_none hV
  obtain ⟨a0, len0, cap0, rfl⟩ := okWide_slice Tryd.underlying31 (hval 0 31 v0 rfl rfl)
  have k0 := h0
  have lt0 : ∀ x ∈ p0, x.block < W.heap.size := by obtain ⟨m, hm⟩ := k0; exact DataW.trod_lt m _ _ _ hm
  obtain ⟨z0, w0⟩ : ∃ zs, IsRow .u8 W a0 len0 cap0 zs := by
    obtain ⟨fuel, hf⟩ := h0
    rcases open_ints Tryd.underlying31 Tryd.underlying5 (by kernel_rfl) hf with ⟨hcs, _⟩ | ⟨x, l, c, zs, hcs, _, hl, hm, hz, _, hcell, hwz⟩
    · simp [Value.cells] at hcs
      obtain ⟨rfl, rfl, rfl⟩ := hcs
      exact ⟨[], .inl ⟨rfl, rfl, rfl, rfl⟩⟩
    · simp [Value.cells] at hcs
      obtain ⟨rfl, rfl, rfl⟩ := hcs
      exact ⟨zs, .inr ⟨_, rfl, hl, hm, by simpa using hz, hcell, hwz⟩⟩
  clear hA0 hval0
  refine (fnExact_walk a0 len0 cap0 z0 W w0 (fnExact_tabs hL)).mono fun e W' ⟨he, bel⟩ => ?_
  subst he
  exact ⟨_, rfl, _, _, _, [], _, [], hW', trodAll_mk1 (shut_bool Tryd.underlying4 _), (trodAll_cons_mk (Below.trod fnExact_laidOut (by kernel_rfl) (of_decide_eq_true (by kernel_rfl)) k0 bel lt0) trodAll_mk0), rfl, bel.frame _, fun h => by cases h⟩

theorem fnExact_over : Rows.fnExactRow.holds Tryd.pinned (OpenSpec.ofChange Rows.fnExactSpec) :=
  OpenClaim.holds_of_wide 8 Tryd.f8 rfl rfl rfl rfl rfl rfl rfl ⟨rfl, rfl, rfl, rfl, rfl⟩ rfl rfl rfl rfl rfl (by kernel_rfl) Tryd.func8 (by kernel_rfl)
    (of_decide_eq_true (by kernel_rfl)) (by unfold Func.isWrapper; first | (rw [if_pos (by decide +kernel)]; kernel_rfl) | (rw [if_neg (by decide +kernel)]; exact ⟨rfl, rfl⟩))
    (fun os started H enc _ => fnExact_lifted os started H enc)

theorem fnExact_row : Rows.FnExactSaid := fnExact_over

theorem fnExact_holds : Rows.FnExactCardSaid :=
  Claim7.holds_tied_plain_at .later [] [.data, .data, .data, .data, .pinned] true (true, "696f2ef48a28e818fe72a2f3d257e9f5dbcaaa6747c06d9066cde0d6c4e9b92b") false
    fnExact_row (fun _ h => by cases h) (by kernel_rfl) (fun _ h => by cases h) fnExact_row_tie rfl ⟨rfl, rfl⟩ (by kernel_rfl) rfl
    (fun f fn hf hfn => by
      obtain rfl : f = 8 := Option.some.inj ((show Tryd.prog.funcNamed "loop.example/g00115/laws.FnExact" = some 8 by kernel_rfl).symm.trans hf) |>.symm
      obtain rfl : fn = Tryd.f8 := (Option.some.inj (Tryd.func8.symm.trans hfn)).symm
      exact ⟨by kernel_rfl, fun j t ht => by
        rw [Tryd.params8] at ht
        have hm : t ∈ [31] := by simpa using Array.mem_of_getElem? ht
        have hall : ([31].all fun u => !Tryd.prog.wantsStandIn u) = true := by kernel_rfl
        exact (show Tryd.prog.wantsStandIn t = false by simpa using List.all_eq_true.1 hall t hm)⟩)
    (by kernel_rfl)
#print axioms fnExact_holds
end Go.Proofs.YtfocaoliadbhcaaDoor
