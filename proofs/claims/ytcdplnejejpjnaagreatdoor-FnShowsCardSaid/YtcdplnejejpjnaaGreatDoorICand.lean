/-
  The walk of the program's candidates.
-/
import Derived.Test.YtcdplnejejpjnaaGreatDoorCandB
import Derived.Test.YtcdplnejejpjnaaGreatDoorRangeC
import Derived.Test.YtcdplnejejpjnaaGreatDoorIGreatO
import Derived.Test.YtcdplnejejpjnaaGreatDoorShort7
namespace Go.Proofs.YtcdplnejejpjnaaGreatDoor
open Go.RowKit Go.Shelf
attribute [local go_sem] Oper.semAt_some
set_option linter.unusedVariables false

theorem extract_take (t : ByteArray) (n : Nat) : t.extract 0 n = txt (t.data.toList.take n) := by
  have h : (t.extract 0 n).data.toList = t.data.toList.take n := by rw [Lib.extract_eq]; simp
  rw [← h]
  exact (txt_self _).symm

theorem less_down : (2 : Nat) ^ 53 * 5 ^ 1074 < 10 ^ 790 := by decide +kernel
theorem exact_less {m : Nat} {e : Int} (h0 : m ≠ 0) (hm : m < 9007199254740992) (h1 : -1074 ≤ e) (h2 : e ≤ 971) : exactF m e < 10 ^ 790 := by
  have a : m ≤ 2 ^ 53 := by omega
  have hN : exactN m e < 10 ^ 790 := by
    unfold exactN
    split
    · exact pow_up (n := 400) (m := 790) (up_bound hm (by omega)) (by decide)
    · exact Nat.lt_of_le_of_lt (Nat.mul_le_mul a (Nat.pow_le_pow_right (n := 5) (by decide) (by omega))) less_down
  have hs := (strip_val (exactN_pos (m := m) (e := e) h0)).1
  refine Nat.lt_of_le_of_lt ?_ hN
  show (stripN (exactN m e)).1 ≤ exactN m e
  conv => rhs; rw [← hs]
  exact Nat.le_mul_of_pos_right _ (Nat.pow_pos (by decide))

/-- the exact figures of a number -/
theorem exact_list {x : Nat} (kx : kindN x = 4) : figsOk (exactS x).data.toList = true ∧ digV (exactS x).data.toList % 10 ≠ 0 ∧ 1 ≤ (exactS x).size ∧ (exactS x).size ≤ 790 ∧ -1074 ≤ exactE x ∧ exactE x ≤ 400 := by
  have hb := exact_bounds (mantN_pos kx) (mantN_lt x) (expN_ge x) (expN_le x)
  have hl := dec_len (k := 790) (by decide) (exact_less (mantN_pos kx) (mantN_lt x) (expN_ge x) (expN_le x))
  have hS : exactS x = txt (Lib.decDigits (exactF (mantN x) (expN x))) := by unfold exactS; rw [if_pos kx]
  have hE : exactE x = exactX (mantN x) (expN x) := by unfold exactE; rw [if_pos kx]
  rw [hS, hE, txt_data, txt_size, (digV_dec _).1]
  exact ⟨figs_of_dec (by omega), hb.2.2.2, List.length_pos_iff.2 (digV_dec _).2.2, hl, hb.2.2.1, hb.2.1⟩

set_option maxHeartbeats 2000000 in
set_option maxRecDepth 100000 in
theorem candWalk (x l : Nat) (J Jx : List (ByteArray × Int) → World → Prop) (W : World) (hx : x < 18446744073709551616) (kx : kindN x = 4) (htab : ∀ W', Below W.heap.size W W' → Lib.TabIs Tryz.prog W' "internal/strconv.uint64pow10" .u64 Lib.pow10Tab)
    (hst : ∀ pre W W', J pre W → Below W.heap.size W W' → J pre W')
    (hY : ∀ pre c W1, J pre W1 → (pre.length < 2 * (exactS x).size ∧ c = (txt (candC (exactS x).data.toList pre.length), shE (exactS x).data.toList (exactE x) (pre.length / 2 + 1))) → YieldAt Fence.wide (4 - 1 - 1) Tryz.prog l #[.string c.1, .int .i64 c.2] W1 fun e W' => (e = .returned (.bool true) ∧ J (pre ++ [c]) W') ∨ (e = .returned (.bool false) ∧ Jx (pre ++ [c]) W'))
    (h0 : J [] W) :
    CallsIn Fence.wide (4 - 1) Tryz.prog 34 (#[.int .u64 x] ++ #[.func (.yield l) #[] #[]] ++ #[]) W fun e W' => (∃ v, e = .returned v) ∧ ((∃ xs, xs.length = 2 * (exactS x).size ∧ J xs W') ∨ (∃ xs, True ∧ Jx xs W')) := by
  have cE := iExact x W hx htab
  obtain ⟨f1, f2, f3, f4, f5, f6⟩ := exact_list kx
  obtain ⟨t, ht⟩ : ∃ t, exactS x = t := ⟨_, rfl⟩
  obtain ⟨X, hX⟩ : ∃ X, exactE x = X := ⟨_, rfl⟩
  rw [ht, hX] at cE hY
  rw [ht] at f1 f2 f3 f4
  rw [hX] at f5 f6
  rw [ht]
  obtain ⟨ls, hls⟩ : ∃ ls, t.data.toList = ls := ⟨_, rfl⟩
  have HY : Hid (∀ (n : Nat) (pre : List (ByteArray × Int)) (s1 : ByteArray) (e1 : Int) (W1 : World), J pre W1 → pre.length = n → n < 2 * t.size → s1 = txt (candC ls n) → e1 = shE ls X (n / 2 + 1) → YieldAt Fence.wide 2 Tryz.prog l #[.string s1, .int .i64 e1] W1 fun e W' => (e = .returned (.bool true) ∧ ∃ pre' : List (ByteArray × Int), pre'.length = n + 1 ∧ J pre' W') ∨ (e = .returned (.bool false) ∧ ∃ pre', Jx pre' W')) := fun n pre s1 e1 W1 hj hn hlt hs he => by
    have h := hY pre (s1, e1) W1 hj ⟨by omega, by rw [hls, hn, hs, he]⟩
    refine YieldAt.mono h ?_
    rintro e W' (⟨rfl, hj'⟩ | ⟨rfl, hj'⟩)
    · exact .inl ⟨rfl, _, by simp [hn], hj'⟩
    · exact .inr ⟨rfl, _, hj'⟩
  have HL : Hid (Unit → t.data.toList = ls ∧ figsOk ls = true ∧ digV ls % 10 ≠ 0 ∧ ls.length = t.size) := fun _ => ⟨hls, by rw [← hls]; exact f1, by rw [← hls]; exact f2, by rw [← hls]; exact size_list t⟩
  have f4' : (t.size : Int) ≤ 790 := by omega
  clear hY ht hX hls f1 f2 htab
  refine callsIn_of_wp Tryz.func34 rfl trivial ?_ rfl
  simp only [Tryz.ntmps34, List.size_toArray, List.length_cons, List.length_nil, Nat.reduceAdd, Nat.reduceSub, Array.replicate_succ, Array.replicate_zero, List.push_toArray, List.append_toArray, List.nil_append, List.cons_append]
  gi_wp2_with fail
  refine ⟨trivial, ?_⟩
  with_reducible refine (callsIn_wide.2 cE).mono ?_
  rintro e w1 ⟨rfl, hb1⟩
  have h1 := hst _ _ _ h0 hb1
  clear cE h0 hb1
  gi_wp2
  gi_loopw [6] (fun x6 wr => ∃ (n : Nat) (pre : List (ByteArray × Int)), x6 = .int .i64 (n + 1 : Nat) ∧ (n : Int) ≤ t.size ∧ pre.length = 2 * n ∧ J pre wr) (fun x6 _ => (t.size + 1 - intOf x6).toNat)
  case atStart => exact ⟨0, [], rfl, by omega, rfl, h1⟩
  case round =>
    clear h1
    obtain ⟨n, pre, rfl, hn, hpl, hJ⟩ := hrel
    by_cases hlt : n + 1 ≤ t.size
    · have hlt' : (n : Int) + 1 ≤ t.size := by omega
      gi_wp2_with fail
      gi_big_region
      have HLow : Hid (Unit → (t.extract 0 (n + 1)).data.toList = ls.take (n + 1) ∧ (t.extract (n + 1) t.size).data.toList = ls.drop (n + 1)) := fun _ => by
        obtain ⟨l1, _, _⟩ := HL.out ()
        refine ⟨?_, ?_⟩
        · rw [Lib.extract_eq, l1]; simp
        · rw [Lib.extract_eq, l1, List.take_of_length_le]
          rw [List.length_drop, ← l1, size_list]
          omega
      have hre1 : (t.extract (n + 1) t.size).size = t.size - (n + 1) := by rw [ByteArray.size_extract]; omega
      have hlo1 : (t.extract 0 (n + 1)).size = n + 1 := by rw [ByteArray.size_extract]; omega
      obtain ⟨lo, hlo⟩ : ∃ lo, t.extract 0 (n + 1) = lo := ⟨_, rfl⟩
      obtain ⟨re, hre⟩ : ∃ re, t.extract (n + 1) t.size = re := ⟨_, rfl⟩
      simp only [hlo, hre]
      rw [hlo, hre] at HLow
      rw [hlo] at hlo1
      rw [hre] at hre1
      have HRE : Hid (Unit → re.size = t.size - (n + 1)) := fun _ => hre1
      have hre2 : (re.size : Int) ≤ 790 := by omega
      clear hlo hre hre1
      obtain ⟨D, hD⟩ : ∃ D, digV (ls.take (n + 1)) = D := ⟨_, rfl⟩
      obtain ⟨hi, hhi⟩ : ∃ hi, txt (Lib.decDigits (D + 1)) = hi := ⟨_, rfl⟩
      have HD : Hid (Unit → digV (ls.take (n + 1)) = D ∧ txt (Lib.decDigits (D + 1)) = hi ∧ figsOk (ls.take (n + 1)) = true ∧ D < 10 ^ (n + 1) ∧ txt (ls.take (n + 1)) = lo) := fun _ => by
        obtain ⟨l1, l2, l3, l4⟩ := HL.out ()
        have hft := figsOk_take l2 (by omega : 1 ≤ n + 1)
        refine ⟨hD, hhi, hft, ?_, ?_⟩
        · rw [← hD]
          have := digV_lt (figsOk_figs hft)
          rw [List.length_take, Nat.min_eq_left (by omega)] at this
          exact this
        · rw [← (HLow.out ()).1]; exact txt_self lo
      have cG : ∀ W, Calls Tryz.prog 57 #[.string lo, .string ⟨#[49]⟩] W fun e w' => e = .returned (.tuple #[.string hi, .bool (opB (· + ·) lo ⟨#[49]⟩)]) ∧ Below W.heap.size W w' := fun W => by
        obtain ⟨d1, d2, d3, d5, _⟩ := HD.out ()
        have h := iGreatAdd lo ⟨#[49]⟩ W (by omega) (by decide)
        have ho : opS (· + ·) lo ⟨#[49]⟩ = hi := by
          unfold opS
          rw [(HLow.out ()).1, if_pos ⟨d3, by decide⟩, d1]
          show greatS (D + 1) = hi
          unfold greatS
          rw [if_pos, d2]
          exact Nat.le_trans (dec_len (k := n + 2) (by omega) (Nat.lt_of_le_of_lt (Nat.succ_le_of_lt d5) (Nat.pow_lt_pow_right (by decide) (by omega)))) (by omega)
        rw [ho] at h
        exact h
      obtain ⟨ob, hob⟩ : ∃ b, opB (· + ·) lo ⟨#[49]⟩ = b := ⟨_, rfl⟩
      rw [hob] at cG
      clear hob hD hhi
      have hJ1 : J pre wr.drew := hst _ _ _ hJ (Below.refl _ _).drew
      clear hJ
      gi_wp2_with fail
      refine ⟨trivial, ?_⟩
      with_reducible refine (callsIn_wide.2 (cG _)).mono ?_
      rintro e w2 ⟨rfl, hb2⟩
      have hJ2 := hst _ _ _ hJ1 hb2
      clear cG hb2 hJ1
      have hns : n < lo.size := by omega
      obtain ⟨c, hc⟩ : ∃ c : Nat, (lo[n]).toNat = c := ⟨_, rfl⟩
      have HC : Hid (Unit → c % 2 = D % 2 ∧ c < 256) := fun _ => by
        obtain ⟨d1, d2, d3, d4, d5⟩ := HD.out ()
        have h1 := take_snoc lo n hns
        have h2 : lo.data.toList.take (n + 1) = ls.take (n + 1) := by
          have h := take_all lo
          rw [hlo1] at h
          rw [h]
          exact (HLow.out ()).1
        rw [h2] at h1
        have h3 : 48 ≤ (lo[n]).toNat ∧ (lo[n]).toNat ≤ 57 := figsOk_figs d3 _ (by rw [h1]; simp)
        rw [h1, digV_snoc, hc] at d1
        rw [hc] at h3
        omega
      obtain ⟨E, hE⟩ : ∃ E : Int, X + (re.size : Int) = E := ⟨_, rfl⟩
      have hE2 : shE ls X (2 * n / 2 + 1) = E := by
        unfold shE
        rw [(HL.out ()).2.2.2, (by omega : 2 * n / 2 = n)]
        have := HRE.out ()
        omega
      have hE3 : shE ls X ((2 * n + 1) / 2 + 1) = E := by
        rw [← hE2, (by omega : 2 * n / 2 = n), (by omega : (2 * n + 1) / 2 = n)]
      have HU : Hid (Unit → upB ls (n + 1) = ((!Op.bytesLess re.toList [53] && !decide (re.toList = [53])) || (decide (re.toList = [53]) && !decide (D % 2 = 0)))) := fun _ => by
        obtain ⟨l1, l2, l3, l4⟩ := HL.out ()
        have h := upB_told (l := ls) (r := re.toList) (n := n + 1) (by rw [ByteArray.toList_eq]; exact (HLow.out ()).2) (figsOk_figs l2) l3
        rw [(HD.out ()).1] at h
        exact h
      have HN : Hid (Unit → ∀ u, upB ls (n + 1) = u → (u = false → txt (candC ls (2 * n)) = lo ∧ txt (candC ls (2 * n + 1)) = hi) ∧ (u = true → txt (candC ls (2 * n)) = hi ∧ txt (candC ls (2 * n + 1)) = lo)) := fun _ u hu => by
        obtain ⟨d1, d2, d3, d4, d5⟩ := HD.out ()
        have a1 : candC ls (2 * n) = nearC ls (n + 1) := by unfold candC; rw [if_pos (by omega), (by omega : 2 * n / 2 = n)]
        have a2 : candC ls (2 * n + 1) = farC ls (n + 1) := by unfold candC; rw [if_neg (by omega), (by omega : (2 * n + 1) / 2 = n)]
        rw [a1, a2]
        unfold nearC farC
        rw [hu, d1]
        constructor
        · rintro rfl; exact ⟨d5, d2⟩
        · rintro rfl; exact ⟨d2, d5⟩
      have hc8 : (c : Int) < 256 := by have := (HC.out ()).2; omega
      by_cases q2 : re.toList = [53]
      · have q1 : Op.bytesLess re.toList [53] = false := by rw [q2]; rfl
        by_cases hev : c % 2 = 1
        · have hev' : ((c : Int) % 2 == 1) = true := by rw [beq_iff_eq]; omega
          obtain ⟨k1, k2⟩ := (HN.out () true (by rw [HU.out (), decide_eq_true q2, decide_eq_false (by have := (HC.out ()).1; omega : ¬D % 2 = 0)]; simp)).2 rfl
          obtain ⟨fn, tmps, assign, body, hy, hR⟩ := HY.out (2 * n) pre hi E w2 hJ2 hpl (by omega) k1.symm hE2.symm
          gi_wp2_with fail
          refine hR.mono ?_
          clear hy hR
          rintro e W3 (⟨rfl, pre', hl', hj'⟩ | ⟨rfl, pre', hj'⟩)
          · obtain ⟨fn, tmps, assign, body, hy, hR⟩ := HY.out (2 * n + 1) pre' lo E W3 hj' hl' (by omega) k2.symm hE3.symm
            gi_wp2_with fail
            refine hR.mono ?_
            clear hy hR
            rintro e W4 (⟨rfl, pre2, hl2, hj2⟩ | ⟨rfl, pre2, hj2⟩)
            · gi_wp2
              go_roundw
              case rel => exact ⟨n + 1, pre2, by go_num, by omega, by omega, hj2⟩
              case measure => simp [intOf]; omega
            · gi_wp2
              refine bodyPost_ret (results_none rfl _ _ _) rfl ?_
              exact ⟨⟨_, rfl⟩, .inr ⟨pre2, trivial, hj2⟩⟩
          · gi_wp2
            refine ⟨fun _ h => (by cases h), ?_⟩
            gi_wp2
            refine bodyPost_ret (results_none rfl _ _ _) rfl ?_
            exact ⟨⟨_, rfl⟩, .inr ⟨pre', trivial, hj'⟩⟩
        · have hev' : ((c : Int) % 2 == 1) = false := by rw [beq_eq_false_iff_ne]; omega
          obtain ⟨k1, k2⟩ := (HN.out () false (by rw [HU.out (), decide_eq_true q2, q1, decide_eq_true (by have := (HC.out ()).1; omega : D % 2 = 0)]; rfl)).1 rfl
          obtain ⟨fn, tmps, assign, body, hy, hR⟩ := HY.out (2 * n) pre lo E w2 hJ2 hpl (by omega) k1.symm hE2.symm
          gi_wp2_with fail
          refine hR.mono ?_
          clear hy hR
          rintro e W3 (⟨rfl, pre', hl', hj'⟩ | ⟨rfl, pre', hj'⟩)
          · obtain ⟨fn, tmps, assign, body, hy, hR⟩ := HY.out (2 * n + 1) pre' hi E W3 hj' hl' (by omega) k2.symm hE3.symm
            gi_wp2_with fail
            refine hR.mono ?_
            clear hy hR
            rintro e W4 (⟨rfl, pre2, hl2, hj2⟩ | ⟨rfl, pre2, hj2⟩)
            · gi_wp2
              go_roundw
              case rel => exact ⟨n + 1, pre2, by go_num, by omega, by omega, hj2⟩
              case measure => simp [intOf]; omega
            · gi_wp2
              refine bodyPost_ret (results_none rfl _ _ _) rfl ?_
              exact ⟨⟨_, rfl⟩, .inr ⟨pre2, trivial, hj2⟩⟩
          · gi_wp2
            refine ⟨fun _ h => (by cases h), ?_⟩
            gi_wp2
            refine bodyPost_ret (results_none rfl _ _ _) rfl ?_
            exact ⟨⟨_, rfl⟩, .inr ⟨pre', trivial, hj'⟩⟩
      · by_cases q1 : Op.bytesLess re.toList [53] = true
        · obtain ⟨k1, k2⟩ := (HN.out () false (by rw [HU.out (), decide_eq_false q2, q1]; rfl)).1 rfl
          obtain ⟨fn, tmps, assign, body, hy, hR⟩ := HY.out (2 * n) pre lo E w2 hJ2 hpl (by omega) k1.symm hE2.symm
          gi_wp2_with fail
          refine hR.mono ?_
          clear hy hR
          rintro e W3 (⟨rfl, pre', hl', hj'⟩ | ⟨rfl, pre', hj'⟩)
          · obtain ⟨fn, tmps, assign, body, hy, hR⟩ := HY.out (2 * n + 1) pre' hi E W3 hj' hl' (by omega) k2.symm hE3.symm
            gi_wp2_with fail
            refine hR.mono ?_
            clear hy hR
            rintro e W4 (⟨rfl, pre2, hl2, hj2⟩ | ⟨rfl, pre2, hj2⟩)
            · gi_wp2
              go_roundw
              case rel => exact ⟨n + 1, pre2, by go_num, by omega, by omega, hj2⟩
              case measure => simp [intOf]; omega
            · gi_wp2
              refine bodyPost_ret (results_none rfl _ _ _) rfl ?_
              exact ⟨⟨_, rfl⟩, .inr ⟨pre2, trivial, hj2⟩⟩
          · gi_wp2
            refine ⟨fun _ h => (by cases h), ?_⟩
            gi_wp2
            refine bodyPost_ret (results_none rfl _ _ _) rfl ?_
            exact ⟨⟨_, rfl⟩, .inr ⟨pre', trivial, hj'⟩⟩
        · have q1' : Op.bytesLess re.toList [53] = false := by simpa using q1
          obtain ⟨k1, k2⟩ := (HN.out () true (by rw [HU.out (), decide_eq_false q2, q1']; rfl)).2 rfl
          obtain ⟨fn, tmps, assign, body, hy, hR⟩ := HY.out (2 * n) pre hi E w2 hJ2 hpl (by omega) k1.symm hE2.symm
          gi_wp2_with fail
          refine hR.mono ?_
          clear hy hR
          rintro e W3 (⟨rfl, pre', hl', hj'⟩ | ⟨rfl, pre', hj'⟩)
          · obtain ⟨fn, tmps, assign, body, hy, hR⟩ := HY.out (2 * n + 1) pre' lo E W3 hj' hl' (by omega) k2.symm hE3.symm
            gi_wp2_with fail
            refine hR.mono ?_
            clear hy hR
            rintro e W4 (⟨rfl, pre2, hl2, hj2⟩ | ⟨rfl, pre2, hj2⟩)
            · gi_wp2
              go_roundw
              case rel => exact ⟨n + 1, pre2, by go_num, by omega, by omega, hj2⟩
              case measure => simp [intOf]; omega
            · gi_wp2
              refine bodyPost_ret (results_none rfl _ _ _) rfl ?_
              exact ⟨⟨_, rfl⟩, .inr ⟨pre2, trivial, hj2⟩⟩
          · gi_wp2
            refine ⟨fun _ h => (by cases h), ?_⟩
            gi_wp2
            refine bodyPost_ret (results_none rfl _ _ _) rfl ?_
            exact ⟨⟨_, rfl⟩, .inr ⟨pre', trivial, hj'⟩⟩
    · have hlt' : decide ((n : Int) + 1 ≤ t.size) = false := by simp; omega
      gi_wp2
      go_end0
      exact ⟨⟨_, rfl⟩, .inl ⟨pre, by omega, hJ⟩⟩

end Go.Proofs.YtcdplnejejpjnaaGreatDoor
