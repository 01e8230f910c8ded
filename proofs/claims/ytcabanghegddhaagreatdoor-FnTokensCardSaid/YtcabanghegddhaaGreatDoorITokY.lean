/-
  Several texts in one: ITokA, ITokK, ITokS, Scan8C, IScan.
-/
import Derived.Test.YtcabanghegddhaaGreatDoorITokX
import Derived.Test.YtcabanghegddhaaGreatDoorReadA
import Derived.Test.YtcabanghegddhaaGreatDoorBaseA
namespace Go.Proofs.YtcabanghegddhaaGreatDoor
open Go.RowKit
set_option linter.unusedVariables false

/-- the token at the head as the program hands it back: none, of no bytes, where there is a fault -/
def headI (l : List UInt8) : Tok × Nat := if (tokI l).2 < 0 then (⟨0, [], 0⟩, 0) else ((tokI l).1, (tokI l).2.toNat)
theorem head_bad {l : List UInt8} (h : (tokI l).2 < 0) : headI l = (⟨0, [], 0⟩, 0) := by
  unfold headI; rw [if_pos h]
theorem head_good {l : List UInt8} {t : Tok} {k : Nat} (h : tokI l = (t, (k : Int))) : headI l = (t, k) := by
  unfold headI
  rw [h]
  simp only
  rw [if_neg (by omega), Int.toNat_natCast]
theorem zero_tok : tokV ⟨0, [], 0⟩ 0 = .agg #[.int .i64 0, .string ⟨#[]⟩, .int .u64 0, .int .i64 0] := rfl
theorem tok_val (k : Int) (T : ByteArray) (n : Nat) : tokV ⟨k, T.data.toList, n⟩ 0 = .agg #[.int .i64 k, .string T, .int .u64 (n : Int), .int .i64 0] := by
  unfold tokV
  rw [txt_self]
  rfl
theorem extract_take (s : ByteArray) (k : Nat) : (s.extract 0 k).data.toList = s.data.toList.take k := by
  rw [extract_txt, txt_data, sl]
  simp
theorem extract_drop (s : ByteArray) (k : Nat) : (s.extract k s.size).data.toList = s.data.toList.drop k := by
  rw [extract_txt, txt_data, sl]
  exact List.take_of_length_le (by rw [List.length_drop, size_list]; exact Nat.le_refl _)

set_option maxHeartbeats 1000000 in
set_option maxRecDepth 100000 in
theorem nameAhead_any (s : ByteArray) (b : Nat) (w : World) (hs : s.size ≤ 1048576) (hk : Kinds w b) (hl : isLet (s.data.toList.getD 0 0) = true) :
    Calls Tryz.prog 24 #[.string s, .map (some b)] w fun e w' => e = .returned (.tuple #[tokV (headI s.data.toList).1 0, .int .i64 ((headI s.data.toList).2 : Nat)]) ∧ Below w.heap.size w w' := by
  obtain ⟨n, hn⟩ : ∃ n, nameN s.data.toList = n := ⟨_, rfl⟩
  have hw : (s.data.toList.takeWhile isNam).length = n := by
    rw [← hn]
    cases hc : s.data.toList with
    | nil => rw [hc] at hl; exact absurd hl (by decide)
    | cons c r =>
      rw [hc] at hl
      have hl' : isLet c = true := hl
      rw [name_cons hl', List.takeWhile_cons, if_pos (show isNam c = true by unfold isNam; rw [hl']; rfl)]
      rfl
  have hnl := name_le s.data.toList
  rw [hn, size_list] at hnl
  have hnl' : (n : Int) ≤ s.size := by omega
  have cA := fun W => sizeAhead_name s W hs
  rw [hw] at cA
  obtain ⟨T, hT⟩ : ∃ T, s.extract 0 n = T := ⟨_, rfl⟩
  have hTl : T.data.toList = s.data.toList.take n := by rw [← hT]; exact extract_take s n
  have hTs : T.size ≤ 1048576 := by rw [← size_list, hTl, List.length_take, size_list]; omega
  have hR : tokI s.data.toList = ((⟨if T.data.toList ∈ wordsL then 5 else 1, T.data.toList, 0⟩ : Tok), (if 12 < n then -1 else (n : Int) : Int)) := by
    unfold tokI
    rw [if_pos hl, hn, hTl]
  have look := fun (W : World) (h : Kinds W b) => kinds_look h T hTs
  clear hTl hw hl hn
  obtain ⟨g0, hg0⟩ : ∃ g, w.heap.size = g := ⟨_, rfl⟩
  obtain ⟨W1, hW1⟩ : ∃ W, w.alloc (.cells #[.int .i64 0, .string ⟨#[]⟩, .int .u64 0, .int .i64 0] 30) = W := ⟨_, rfl⟩
  have bd : Below w.heap.size w W1 := by rw [← hW1]; exact (Below.refl _ _).alloc (Nat.le_refl _) _
  have hD0 : W1.heap[g0]? = some (.cells #[.int .i64 0, .string ⟨#[]⟩, .int .u64 0, .int .i64 0] 30) := by
    have h := heap_alloc_new w (.cells #[.int .i64 0, .string ⟨#[]⟩, .int .u64 0, .int .i64 0] 30)
    rw [hg0, hW1] at h
    exact h
  have hgw0 : w.heap.size ≤ g0 := by omega
  have kd : Kinds W1 b := by rw [← hW1]; exact hk.kept ((Below.refl _ _).alloc (Nat.le_refl _) _)
  clear hk
  by_cases h12 : 12 < n
  · have h12' : (12 : Int) < n := by omega
    have hq := head_bad (l := s.data.toList) (by rw [hR]; simp only; rw [if_pos h12]; decide)
    rw [hq]
    show Calls _ _ _ _ (fun e w' => e = .returned (.tuple #[tokV ⟨0, [], 0⟩ 0, .int .i64 0]) ∧ _)
    rw [zero_tok]
    clear hq hR look
    go_enter Tryz.func24, Tryz.ntmps24
    go_wp2_with fail
    try simp only [hW1, hg0]
    refine (cA _).mono ?_
    rintro e W2 ⟨rfl, b2⟩
    replace bd := chain bd b2
    replace hD0 := kept_block b2 hD0
    clear b2 hW1 cA kd
    obtain ⟨m0, m1, m2, m3⟩ := cells_four hD0
    have f00 := frozen_of_row _ g0 0 _ _ hD0
    have f01 := frozen_of_row _ g0 1 _ _ hD0
    have f02 := frozen_of_row _ g0 2 _ _ hD0
    have f03 := frozen_of_row _ g0 3 _ _ hD0
    obtain ⟨W5, hW5⟩ : ∃ W, (((W2.setCell ⟨g0, 0, none⟩ (.int .i64 0)).setCell ⟨g0, 1, none⟩ (.string ⟨#[]⟩)).setCell ⟨g0, 2, none⟩ (.int .u64 0)).setCell ⟨g0, 3, none⟩ (.int .i64 0) = W := ⟨_, rfl⟩
    have b5 : Below w.heap.size w W5 := by
      rw [← hW5]
      exact (((bd.setCell (p := ⟨g0, 0, none⟩) hgw0 _).setCell (p := ⟨g0, 1, none⟩) hgw0 _).setCell (p := ⟨g0, 2, none⟩) hgw0 _).setCell (p := ⟨g0, 3, none⟩) hgw0 _
    have hF := four_put (a' := .int .i64 0) (b' := .string ⟨#[]⟩) (c' := .int .u64 0) (d' := .int .i64 0) hD0
    rw [hW5] at hF
    obtain ⟨v0, v1, v2, v3⟩ := cells_four hF
    clear hF bd hD0
    go_wp2
    try simp only [hW5]
    try simp only [Exit.inBlock, Exit.then]
    refine bodyPost_ret (by simp [results, Tryz.results24, go_sem, v0, v1, v2, v3]; try rfl) rfl ?_
    exact ⟨rfl, b5⟩
  · have h12' : decide ((12 : Int) < n) = false := by simp; omega
    have hq := head_good (l := s.data.toList) (k := n) (t := ⟨if T.data.toList ∈ wordsL then 5 else 1, T.data.toList, 0⟩) (by rw [hR, if_neg h12])
    rw [hq]
    show Calls _ _ _ _ (fun e w' => e = .returned (.tuple #[tokV ⟨if T.data.toList ∈ wordsL then 5 else 1, T.data.toList, 0⟩ 0, .int .i64 (n : Int)]) ∧ _)
    rw [tok_val]
    clear hq hR
    by_cases hm : T.data.toList ∈ wordsL
    · rw [if_pos hm]
      have look2 : ∀ W, Kinds W b → (Instr.lookup 37 (.map (some b)) (.string T) true).run Tryz.prog W = .ok (.tuple #[.int .i64 5, .bool true]) W := fun W h => by
        have h2 := look W h
        rw [if_pos hm, decide_eq_true hm] at h2
        exact h2
      clear look hm
      go_enter Tryz.func24, Tryz.ntmps24
      go_wp2_with fail
      try simp only [hW1, hg0]
      refine (cA _).mono ?_
      rintro e W2 ⟨rfl, b2⟩
      replace bd := chain bd b2
      replace hD0 := kept_block b2 hD0
      have lk := look2 _ (kd.kept b2)
      clear b2 hW1 cA kd look2
      obtain ⟨m0, m1, m2, m3⟩ := cells_four hD0
      have f00 := frozen_of_row _ g0 0 _ _ hD0
      have f01 := frozen_of_row _ g0 1 _ _ hD0
      have f02 := frozen_of_row _ g0 2 _ _ hD0
      have f03 := frozen_of_row _ g0 3 _ _ hD0
      obtain ⟨W5, hW5⟩ : ∃ W, (((W2.setCell ⟨g0, 0, none⟩ (.int .i64 5)).setCell ⟨g0, 1, none⟩ (.string T)).setCell ⟨g0, 2, none⟩ (.int .u64 0)).setCell ⟨g0, 3, none⟩ (.int .i64 0) = W := ⟨_, rfl⟩
      have b5 : Below w.heap.size w W5 := by
        rw [← hW5]
        exact (((bd.setCell (p := ⟨g0, 0, none⟩) hgw0 _).setCell (p := ⟨g0, 1, none⟩) hgw0 _).setCell (p := ⟨g0, 2, none⟩) hgw0 _).setCell (p := ⟨g0, 3, none⟩) hgw0 _
      have hF := four_put (a' := .int .i64 5) (b' := .string T) (c' := .int .u64 0) (d' := .int .i64 0) hD0
      rw [hW5] at hF
      obtain ⟨v0, v1, v2, v3⟩ := cells_four hF
      clear hF bd hD0
      go_wp2
      try simp only [hW5]
      try simp only [Exit.inBlock, Exit.then]
      refine bodyPost_ret (by simp [results, Tryz.results24, go_sem, v0, v1, v2, v3]; try rfl) rfl ?_
      exact ⟨rfl, b5⟩
    · rw [if_neg hm]
      have look2 : ∀ W, Kinds W b → (Instr.lookup 37 (.map (some b)) (.string T) true).run Tryz.prog W = .ok (.tuple #[.int .i64 0, .bool false]) W := fun W h => by
        have h2 := look W h
        rw [if_neg hm, decide_eq_false hm] at h2
        exact h2
      clear look hm
      go_enter Tryz.func24, Tryz.ntmps24
      go_wp2_with fail
      try simp only [hW1, hg0]
      refine (cA _).mono ?_
      rintro e W2 ⟨rfl, b2⟩
      replace bd := chain bd b2
      replace hD0 := kept_block b2 hD0
      have lk := look2 _ (kd.kept b2)
      clear b2 hW1 cA kd look2
      obtain ⟨m0, m1, m2, m3⟩ := cells_four hD0
      have f00 := frozen_of_row _ g0 0 _ _ hD0
      have f01 := frozen_of_row _ g0 1 _ _ hD0
      have f02 := frozen_of_row _ g0 2 _ _ hD0
      have f03 := frozen_of_row _ g0 3 _ _ hD0
      obtain ⟨W5, hW5⟩ : ∃ W, (((W2.setCell ⟨g0, 0, none⟩ (.int .i64 1)).setCell ⟨g0, 1, none⟩ (.string T)).setCell ⟨g0, 2, none⟩ (.int .u64 0)).setCell ⟨g0, 3, none⟩ (.int .i64 0) = W := ⟨_, rfl⟩
      have b5 : Below w.heap.size w W5 := by
        rw [← hW5]
        exact (((bd.setCell (p := ⟨g0, 0, none⟩) hgw0 _).setCell (p := ⟨g0, 1, none⟩) hgw0 _).setCell (p := ⟨g0, 2, none⟩) hgw0 _).setCell (p := ⟨g0, 3, none⟩) hgw0 _
      have hF := four_put (a' := .int .i64 1) (b' := .string T) (c' := .int .u64 0) (d' := .int .i64 0) hD0
      rw [hW5] at hF
      obtain ⟨v0, v1, v2, v3⟩ := cells_four hF
      clear hF bd hD0
      go_wp2
      try simp only [hW5]
      try simp only [Exit.inBlock, Exit.then]
      refine bodyPost_ret (by simp [results, Tryz.results24, go_sem, v0, v1, v2, v3]; try rfl) rfl ?_
      exact ⟨rfl, b5⟩

set_option maxHeartbeats 1000000 in
set_option maxRecDepth 100000 in
theorem numberAhead_any (s : ByteArray) (w : World) (hs : s.size ≤ 1048576) (hm : SeekOk w) (h0 : isLet (s.data.toList.getD 0 0) = false) (hl : isFig (s.data.toList.getD 0 0) = true) :
    Calls Tryz.prog 26 #[.string s] w fun e w' => e = .returned (.tuple #[tokV (headI s.data.toList).1 0, .int .i64 ((headI s.data.toList).2 : Nat)]) ∧ Below w.heap.size w w' := by
  obtain ⟨_, _, _, _, _, _, hnl⟩ := numb_leads s.data.toList
  have cA := fun W => numberSize_any s W hs
  obtain ⟨n, hn⟩ : ∃ n, numbN s.data.toList = n := ⟨_, rfl⟩
  rw [hn] at cA
  rw [hn, size_list] at hnl
  have hnl' : (n : Int) ≤ s.size := by omega
  obtain ⟨T, hT⟩ : ∃ T, s.extract 0 n = T := ⟨_, rfl⟩
  have hTl : T.data.toList = s.data.toList.take n := by rw [← hT]; exact extract_take s n
  have hTs : T.size ≤ 1048576 := by rw [← size_list, hTl, List.length_take, size_list]; omega
  have hR : tokI s.data.toList = ((⟨2, T.data.toList, readI T.data.toList⟩ : Tok), (if okI T.data.toList = true then (n : Int) else -1 : Int)) := by
    unfold tokI
    rw [if_neg (by rw [h0]; decide), if_pos hl, hn, hTl]
  have cN := fun W h => iReadNumber T W hTs h
  obtain ⟨v, hv⟩ : ∃ v, readI T.data.toList = v := ⟨_, rfl⟩
  obtain ⟨ok, hok⟩ : ∃ v, okI T.data.toList = v := ⟨_, rfl⟩
  rw [hv, hok] at hR
  rw [hv, hok] at cN
  clear hTl hl h0 hn hv hok
  obtain ⟨g0, hg0⟩ : ∃ g, w.heap.size = g := ⟨_, rfl⟩
  obtain ⟨W1, hW1⟩ : ∃ W, w.alloc (.cells #[.int .i64 0, .string ⟨#[]⟩, .int .u64 0, .int .i64 0] 30) = W := ⟨_, rfl⟩
  have bd : Below w.heap.size w W1 := by rw [← hW1]; exact (Below.refl _ _).alloc (Nat.le_refl _) _
  have hD0 : W1.heap[g0]? = some (.cells #[.int .i64 0, .string ⟨#[]⟩, .int .u64 0, .int .i64 0] 30) := by
    have h := heap_alloc_new w (.cells #[.int .i64 0, .string ⟨#[]⟩, .int .u64 0, .int .i64 0] 30)
    rw [hg0, hW1] at h
    exact h
  have hgw0 : w.heap.size ≤ g0 := by omega
  have kd : SeekOk W1 := by rw [← hW1]; exact seek_kept hm ((Below.refl _ _).alloc (Nat.le_refl _) _)
  clear hm
  cases ok
  · have hq := head_bad (l := s.data.toList) (by rw [hR]; simp)
    rw [hq]
    show Calls _ _ _ _ (fun e w' => e = .returned (.tuple #[tokV ⟨0, [], 0⟩ 0, .int .i64 0]) ∧ _)
    rw [zero_tok]
    clear hq hR
    go_enter Tryz.func26, Tryz.ntmps26
    go_wp2_with fail
    try simp only [hW1, hg0]
    refine (cA _).mono ?_
    rintro e W2 ⟨rfl, b2⟩
    replace bd := chain bd b2
    replace hD0 := kept_block b2 hD0
    replace kd := seek_kept kd b2
    clear b2 hW1 cA
    go_wp2_with fail
    try simp only [hT]
    refine (cN _ kd).mono ?_
    rintro e W3 ⟨rfl, b3⟩
    replace bd := chain bd b3
    replace hD0 := kept_block b3 hD0
    clear b3 cN kd
    obtain ⟨m0, m1, m2, m3⟩ := cells_four hD0
    have f00 := frozen_of_row _ g0 0 _ _ hD0
    have f01 := frozen_of_row _ g0 1 _ _ hD0
    have f02 := frozen_of_row _ g0 2 _ _ hD0
    have f03 := frozen_of_row _ g0 3 _ _ hD0
    obtain ⟨W5, hW5⟩ : ∃ W, (((W3.setCell ⟨g0, 0, none⟩ (.int .i64 0)).setCell ⟨g0, 1, none⟩ (.string ⟨#[]⟩)).setCell ⟨g0, 2, none⟩ (.int .u64 0)).setCell ⟨g0, 3, none⟩ (.int .i64 0) = W := ⟨_, rfl⟩
    have b5 : Below w.heap.size w W5 := by
      rw [← hW5]
      exact (((bd.setCell (p := ⟨g0, 0, none⟩) hgw0 _).setCell (p := ⟨g0, 1, none⟩) hgw0 _).setCell (p := ⟨g0, 2, none⟩) hgw0 _).setCell (p := ⟨g0, 3, none⟩) hgw0 _
    have hF := four_put (a' := .int .i64 0) (b' := .string ⟨#[]⟩) (c' := .int .u64 0) (d' := .int .i64 0) hD0
    rw [hW5] at hF
    obtain ⟨v0, v1, v2, v3⟩ := cells_four hF
    clear hF bd hD0
    go_wp2
    try simp only [hW5]
    try simp only [Exit.inBlock, Exit.then]
    refine bodyPost_ret (by simp [results, Tryz.results26, go_sem, v0, v1, v2, v3]; try rfl) rfl ?_
    exact ⟨rfl, b5⟩
  · have hq := head_good (l := s.data.toList) (k := n) (t := ⟨2, T.data.toList, v⟩) (by rw [hR]; simp)
    rw [hq]
    show Calls _ _ _ _ (fun e w' => e = .returned (.tuple #[tokV ⟨2, T.data.toList, v⟩ 0, .int .i64 (n : Int)]) ∧ _)
    rw [tok_val]
    clear hq hR
    go_enter Tryz.func26, Tryz.ntmps26
    go_wp2_with fail
    try simp only [hW1, hg0]
    refine (cA _).mono ?_
    rintro e W2 ⟨rfl, b2⟩
    replace bd := chain bd b2
    replace hD0 := kept_block b2 hD0
    replace kd := seek_kept kd b2
    clear b2 hW1 cA
    go_wp2_with fail
    try simp only [hT]
    refine (cN _ kd).mono ?_
    rintro e W3 ⟨rfl, b3⟩
    replace bd := chain bd b3
    replace hD0 := kept_block b3 hD0
    clear b3 cN kd
    obtain ⟨m0, m1, m2, m3⟩ := cells_four hD0
    have f00 := frozen_of_row _ g0 0 _ _ hD0
    have f01 := frozen_of_row _ g0 1 _ _ hD0
    have f02 := frozen_of_row _ g0 2 _ _ hD0
    have f03 := frozen_of_row _ g0 3 _ _ hD0
    obtain ⟨W5, hW5⟩ : ∃ W, (((W3.setCell ⟨g0, 0, none⟩ (.int .i64 2)).setCell ⟨g0, 1, none⟩ (.string T)).setCell ⟨g0, 2, none⟩ (.int .u64 (v : Int))).setCell ⟨g0, 3, none⟩ (.int .i64 0) = W := ⟨_, rfl⟩
    have b5 : Below w.heap.size w W5 := by
      rw [← hW5]
      exact (((bd.setCell (p := ⟨g0, 0, none⟩) hgw0 _).setCell (p := ⟨g0, 1, none⟩) hgw0 _).setCell (p := ⟨g0, 2, none⟩) hgw0 _).setCell (p := ⟨g0, 3, none⟩) hgw0 _
    have hF := four_put (a' := .int .i64 2) (b' := .string T) (c' := .int .u64 (v : Int)) (d' := .int .i64 0) hD0
    rw [hW5] at hF
    obtain ⟨v0, v1, v2, v3⟩ := cells_four hF
    clear hF bd hD0
    go_wp2
    try simp only [hW5]
    try simp only [Exit.inBlock, Exit.then]
    refine bodyPost_ret (by simp [results, Tryz.results26, go_sem, v0, v1, v2, v3]; try rfl) rfl ?_
    exact ⟨rfl, b5⟩

theorem quote_run : ∀ r : List UInt8, quoteN r = if (r.drop (r.takeWhile isTxt).length).head? = some 34 then some (r.takeWhile isTxt).length else none
  | [] => rfl
  | c :: r => by
    rw [quoteN, List.takeWhile_cons]
    by_cases ht : isTxt c = true
    · have h := ht
      unfold isTxt textR at h
      simp only [Bool.and_eq_true, Bool.not_eq_true', decide_eq_true_eq, decide_eq_false_iff_not] at h
      rw [if_pos ht, if_neg (by omega), if_neg (by omega), quote_run r, List.length_cons, List.drop_succ_cons]
      split <;> rfl
    · rw [if_neg ht, List.length_nil, List.drop_zero]
      by_cases h34 : c.toNat = 34
      · have hc : c = 34 := UInt8.toNat_inj.1 h34
        rw [if_pos h34, hc]
        rfl
      · have hb : c.toNat < 32 ∨ 126 < c.toNat := by
          rcases Classical.em (c.toNat < 32 ∨ 126 < c.toNat) with h | h
          · exact h
          · exfalso
            apply ht
            unfold isTxt textR
            rw [decide_eq_true (by omega : 32 ≤ c.toNat), decide_eq_true (by omega : c.toNat ≤ 126), decide_eq_false h34]
            rfl
        rw [if_neg h34, if_pos hb, if_neg]
        intro h
        injection h with h
        exact h34 (by rw [h]; rfl)
theorem prefix_head {l : List UInt8} {c : UInt8} : Lib.hasPrefix l [c] = decide (l.head? = some c) := by
  unfold Lib.hasPrefix
  cases l with
  | nil => rfl
  | cons d r =>
    have e : List.isPrefixOf [c] (d :: r) = (c == d) := by simp [List.isPrefixOf]
    rw [e]
    by_cases h : c = d
    · subst h; simp
    · have h2 : ¬ (d :: r).head? = some c := fun x => h (by injection x with x; exact x.symm)
      rw [decide_eq_false h2]
      simp [h]

set_option maxHeartbeats 1000000 in
set_option maxRecDepth 100000 in
theorem textAhead_any (s : ByteArray) (w : World) (hs : s.size ≤ 1048576) (h0 : isLet (s.data.toList.getD 0 0) = false) (h1 : isFig (s.data.toList.getD 0 0) = false) (hl : (s.data.toList.getD 0 0).toNat = 34) :
    Calls Tryz.prog 27 #[.string s] w fun e w' => e = .returned (.tuple #[tokV (headI s.data.toList).1 0, .int .i64 ((headI s.data.toList).2 : Nat)]) ∧ Below w.heap.size w w' := by
  have hs1 : 1 ≤ s.size := by
    rw [← size_list]
    cases hc : s.data.toList with
    | nil => rw [hc] at hl; exact absurd hl (by decide)
    | cons c r => simp
  obtain ⟨I, hI⟩ : ∃ T, s.extract 1 s.size = T := ⟨_, rfl⟩
  have hIl : I.data.toList = s.data.toList.drop 1 := by rw [← hI]; exact extract_drop s 1
  have hIs : I.size ≤ 1048576 := by rw [← size_list, hIl, List.length_drop, size_list]; omega
  have cA := fun W => sizeAhead_text I W hIs
  have hqr := quote_run I.data.toList
  have hnl : (I.data.toList.takeWhile isTxt).length ≤ I.size := by
    rw [← size_list]
    exact (List.takeWhile_sublist isTxt (l := I.data.toList)).length_le
  obtain ⟨n, hn⟩ : ∃ n, (I.data.toList.takeWhile isTxt).length = n := ⟨_, rfl⟩
  rw [hn] at cA hqr hnl
  have hnl' : (n : Int) ≤ I.size := by omega
  have hs1' : (1 : Int) ≤ s.size := by omega
  obtain ⟨Q, hQ⟩ : ∃ T, I.extract n I.size = T := ⟨_, rfl⟩
  have hQl : Q.data.toList = I.data.toList.drop n := by rw [← hQ]; exact extract_drop I n
  have cP := fun W => Tryz.strings_HasPrefix Q ⟨#[34]⟩ W
  have e34 : (⟨#[34]⟩ : ByteArray).data.toList = [34] := rfl
  rw [e34, prefix_head, hQl] at cP
  obtain ⟨q, hq⟩ : ∃ q, decide ((I.data.toList.drop n).head? = some 34) = q := ⟨_, rfl⟩
  rw [hq] at cP
  obtain ⟨T, hT⟩ : ∃ T, I.extract 0 n = T := ⟨_, rfl⟩
  have hTl : T.data.toList = I.data.toList.take n := by rw [← hT]; exact extract_take I n
  have hR : tokI s.data.toList = ((⟨3, if 0 < textZ I.data.toList then I.data.toList.take (textZ I.data.toList - 2).toNat else [], 0⟩ : Tok), textZ I.data.toList) := by
    unfold tokI
    rw [if_neg (by rw [h0]; decide), if_neg (by rw [h1]; decide), if_pos hl, hIl]
  clear h0 h1 hl hIl hn hQl e34
  obtain ⟨g0, hg0⟩ : ∃ g, w.heap.size = g := ⟨_, rfl⟩
  obtain ⟨W1, hW1⟩ : ∃ W, w.alloc (.cells #[.int .i64 0, .string ⟨#[]⟩, .int .u64 0, .int .i64 0] 30) = W := ⟨_, rfl⟩
  have bd : Below w.heap.size w W1 := by rw [← hW1]; exact (Below.refl _ _).alloc (Nat.le_refl _) _
  have hD0 : W1.heap[g0]? = some (.cells #[.int .i64 0, .string ⟨#[]⟩, .int .u64 0, .int .i64 0] 30) := by
    have h := heap_alloc_new w (.cells #[.int .i64 0, .string ⟨#[]⟩, .int .u64 0, .int .i64 0] 30)
    rw [hg0, hW1] at h
    exact h
  have hgw0 : w.heap.size ≤ g0 := by omega
  cases q
  · have hz : textZ I.data.toList = -1 := by
      unfold textZ
      rw [hqr, if_neg (of_decide_eq_false hq)]
    have hb := head_bad (l := s.data.toList) (by rw [hR, hz]; show (-1 : Int) < 0; decide)
    rw [hb]
    show Calls _ _ _ _ (fun e w' => e = .returned (.tuple #[tokV ⟨0, [], 0⟩ 0, .int .i64 0]) ∧ _)
    rw [zero_tok]
    clear hb hR hz hqr hq hTl
    go_enter Tryz.func27, Tryz.ntmps27
    go_wp2_with fail
    try simp only [hW1, hg0, hI]
    refine (cA _).mono ?_
    rintro e W2 ⟨rfl, b2⟩
    replace bd := chain bd b2
    replace hD0 := kept_block b2 hD0
    clear b2 hW1 cA
    go_wp2_with fail
    try simp only [hQ]
    refine (cP _).mono ?_
    rintro e W3 ⟨rfl, rfl⟩
    clear cP
    obtain ⟨m0, m1, m2, m3⟩ := cells_four hD0
    have f00 := frozen_of_row _ g0 0 _ _ hD0
    have f01 := frozen_of_row _ g0 1 _ _ hD0
    have f02 := frozen_of_row _ g0 2 _ _ hD0
    have f03 := frozen_of_row _ g0 3 _ _ hD0
    obtain ⟨W5, hW5⟩ : ∃ W, (((W3.setCell ⟨g0, 0, none⟩ (.int .i64 0)).setCell ⟨g0, 1, none⟩ (.string ⟨#[]⟩)).setCell ⟨g0, 2, none⟩ (.int .u64 0)).setCell ⟨g0, 3, none⟩ (.int .i64 0) = W := ⟨_, rfl⟩
    have b5 : Below w.heap.size w W5 := by
      rw [← hW5]
      exact (((bd.setCell (p := ⟨g0, 0, none⟩) hgw0 _).setCell (p := ⟨g0, 1, none⟩) hgw0 _).setCell (p := ⟨g0, 2, none⟩) hgw0 _).setCell (p := ⟨g0, 3, none⟩) hgw0 _
    have hF := four_put (a' := .int .i64 0) (b' := .string ⟨#[]⟩) (c' := .int .u64 0) (d' := .int .i64 0) hD0
    rw [hW5] at hF
    obtain ⟨v0, v1, v2, v3⟩ := cells_four hF
    clear hF bd hD0
    go_wp2
    try simp only [hW5]
    try simp only [Exit.inBlock, Exit.then]
    refine bodyPost_ret (by simp [results, Tryz.results27, go_sem, v0, v1, v2, v3]; try rfl) rfl ?_
    exact ⟨rfl, b5⟩
  · have hz : textZ I.data.toList = (n : Int) + 2 := by
      unfold textZ
      rw [hqr, if_pos (of_decide_eq_true hq)]
    have hb := head_good (l := s.data.toList) (k := n + 2) (t := ⟨3, T.data.toList, 0⟩) (by
      rw [hR, hz, if_pos (by omega), (by omega : ((n : Int) + 2 - 2).toNat = n), hTl]
      rfl)
    rw [hb]
    show Calls _ _ _ _ (fun e w' => e = .returned (.tuple #[tokV ⟨3, T.data.toList, 0⟩ 0, .int .i64 ((n : Int) + 2)]) ∧ _)
    rw [tok_val]
    clear hb hR hz hqr hq hTl
    go_enter Tryz.func27, Tryz.ntmps27
    go_wp2_with fail
    try simp only [hW1, hg0, hI]
    refine (cA _).mono ?_
    rintro e W2 ⟨rfl, b2⟩
    replace bd := chain bd b2
    replace hD0 := kept_block b2 hD0
    clear b2 hW1 cA
    go_wp2_with fail
    try simp only [hQ]
    refine (cP _).mono ?_
    rintro e W3 ⟨rfl, rfl⟩
    clear cP
    obtain ⟨m0, m1, m2, m3⟩ := cells_four hD0
    have f00 := frozen_of_row _ g0 0 _ _ hD0
    have f01 := frozen_of_row _ g0 1 _ _ hD0
    have f02 := frozen_of_row _ g0 2 _ _ hD0
    have f03 := frozen_of_row _ g0 3 _ _ hD0
    obtain ⟨W5, hW5⟩ : ∃ W, (((W3.setCell ⟨g0, 0, none⟩ (.int .i64 3)).setCell ⟨g0, 1, none⟩ (.string T)).setCell ⟨g0, 2, none⟩ (.int .u64 0)).setCell ⟨g0, 3, none⟩ (.int .i64 0) = W := ⟨_, rfl⟩
    have b5 : Below w.heap.size w W5 := by
      rw [← hW5]
      exact (((bd.setCell (p := ⟨g0, 0, none⟩) hgw0 _).setCell (p := ⟨g0, 1, none⟩) hgw0 _).setCell (p := ⟨g0, 2, none⟩) hgw0 _).setCell (p := ⟨g0, 3, none⟩) hgw0 _
    have hF := four_put (a' := .int .i64 3) (b' := .string T) (c' := .int .u64 0) (d' := .int .i64 0) hD0
    rw [hW5] at hF
    obtain ⟨v0, v1, v2, v3⟩ := cells_four hF
    clear hF bd hD0
    go_wp2
    try simp only [hW5]
    try simp only [Exit.inBlock, Exit.then]
    refine bodyPost_ret (by simp [results, Tryz.results27, go_sem, v0, v1, v2, v3]; try rfl) rfl ?_
    exact ⟨rfl, b5⟩

end Go.Proofs.YtcabanghegddhaaGreatDoor

namespace Go.Proofs.YtcabanghegddhaaGreatDoor
open Go.RowKit
set_option linter.unusedVariables false

/-- the program's table of marks -/
def marksL : List (List UInt8) := twoMarks ++ oneMarks.map fun c => [c]
def mk8 (i : Nat) : List UInt8 := marksL.getD i []
def marksV : Array Value := #[.string ⟨#[61, 61]⟩, .string ⟨#[33, 61]⟩, .string ⟨#[60, 61]⟩, .string ⟨#[62, 61]⟩, .string ⟨#[38, 38]⟩, .string ⟨#[124, 124]⟩, .string ⟨#[43]⟩, .string ⟨#[45]⟩, .string ⟨#[42]⟩, .string ⟨#[47]⟩, .string ⟨#[37]⟩, .string ⟨#[60]⟩, .string ⟨#[62]⟩, .string ⟨#[61]⟩, .string ⟨#[33]⟩, .string ⟨#[40]⟩, .string ⟨#[41]⟩, .string ⟨#[123]⟩, .string ⟨#[125]⟩, .string ⟨#[44]⟩, .string ⟨#[59]⟩]
theorem prefix_iff {l p : List UInt8} : Lib.hasPrefix l p = true ↔ p.length ≤ l.length ∧ l.take p.length = p := by
  unfold Lib.hasPrefix
  rw [List.isPrefixOf_iff_prefix, List.prefix_iff_eq_take]
  constructor
  · intro h
    refine ⟨?_, h.symm⟩
    have := congrArg List.length h
    rw [List.length_take] at this
    omega
  · rintro ⟨_, h⟩
    exact h.symm
theorem two_len : ∀ p ∈ twoMarks, p.length = 2 := by decide
theorem mark_low : ∀ j < 6, mk8 j ∈ twoMarks := by decide
theorem mark_low' : ∀ p ∈ twoMarks, ∃ j, j < 6 ∧ mk8 j = p := by decide
theorem mark_high : ∀ j < 15, ∃ c ∈ oneMarks, mk8 (6 + j) = [c] := by decide
theorem mark_high' : ∀ c ∈ oneMarks, ∃ j, j < 15 ∧ mk8 (6 + j) = [c] := by decide
/-- no mark of two signs stands at the head -/
theorem no_two {l : List UInt8} (h : ∀ j < 6, Lib.hasPrefix l (mk8 j) = false) : ¬(2 ≤ l.length ∧ l.take 2 ∈ twoMarks) := by
  rintro ⟨h1, h2⟩
  obtain ⟨j, hj, e⟩ := mark_low' _ h2
  have h3 := h j hj
  rw [e] at h3
  have h4 : Lib.hasPrefix l (l.take 2) = true := prefix_iff.2 ⟨by rw [List.length_take]; omega, by rw [List.length_take, Nat.min_eq_left h1]⟩
  rw [h4] at h3
  cases h3
theorem mark_hit {l : List UInt8} {i : Nat} (hi : i < 21) (h : Lib.hasPrefix l (mk8 i) = true) (hn : ∀ j < i, Lib.hasPrefix l (mk8 j) = false) :
    markZ l = ((mk8 i).length : Int) ∧ l.take (mk8 i).length = mk8 i ∧ 0 < (mk8 i).length := by
  obtain ⟨h1, h2⟩ := prefix_iff.1 h
  rcases Nat.lt_or_ge i 6 with h6 | h6
  · have hm := mark_low i h6
    have hl := two_len _ hm
    refine ⟨?_, h2, by omega⟩
    unfold markZ
    rw [hl] at h1 h2
    rw [if_pos ⟨h1, by rw [h2]; exact hm⟩, hl]
    rfl
  · obtain ⟨k, rfl⟩ : ∃ k, i = 6 + k := ⟨i - 6, by omega⟩
    obtain ⟨d, hd, e⟩ := mark_high k (by omega)
    rw [e] at h1 h2 ⊢
    refine ⟨?_, h2, by simp⟩
    unfold markZ
    rw [if_neg (no_two fun j hj => hn j (by omega))]
    cases l with
    | nil => simp at h1
    | cons c r =>
      have hc : c = d := by
        simp at h2
        exact h2
      rw [if_pos (show (c :: r).getD 0 0 ∈ oneMarks by rw [show (c :: r).getD 0 0 = c from rfl, hc]; exact hd)]
      rfl
theorem mark_miss {l : List UInt8} (hn : ∀ j < 21, Lib.hasPrefix l (mk8 j) = false) : markZ l = -1 := by
  unfold markZ
  rw [if_neg (no_two fun j hj => hn j (by omega)), if_neg]
  intro hm
  cases l with
  | nil => revert hm; decide
  | cons c r =>
    have hm' : c ∈ oneMarks := hm
    obtain ⟨k, hk, e⟩ := mark_high' c hm'
    have h := hn (6 + k) (by omega)
    rw [e] at h
    have h4 : Lib.hasPrefix (c :: r) [c] = true := prefix_iff.2 ⟨by simp, by simp⟩
    rw [h4] at h
    cases h

/-- the table lies where the program keeps it -/
def MarksOk (w : World) : Prop := ∀ j v, marksV.toList[j]? = some v → w.cell? ⟨0, j, none⟩ = some v
theorem marks_kept {w w' : World} (h : MarksOk w) (hb : Below w.heap.size w w') : MarksOk w' := fun j v hv => by
  have h1 := h j v hv
  rw [hb.cell (World.block_lt_of_cell? w _ h1)]
  exact h1
set_option maxRecDepth 100000 in
theorem marks_index (i : Nat) (h : i < 21) (w : World) : (Instr.index 71 (.agg marksV) (.int .i64 (i : Int))).run Tryz.prog w = .ok (.string (txt (mk8 i))) w := by
  rcases (by omega : i = 0 ∨ i = 1 ∨ i = 2 ∨ i = 3 ∨ i = 4 ∨ i = 5 ∨ i = 6 ∨ i = 7 ∨ i = 8 ∨ i = 9 ∨ i = 10 ∨ i = 11 ∨ i = 12 ∨ i = 13 ∨ i = 14 ∨ i = 15 ∨ i = 16 ∨ i = 17 ∨ i = 18 ∨ i = 19 ∨ i = 20) with rfl | rfl | rfl | rfl | rfl | rfl | rfl | rfl | rfl | rfl | rfl | rfl | rfl | rfl | rfl | rfl | rfl | rfl | rfl | rfl | rfl <;> kernel_rfl
theorem marks_load {w : World} (h : MarksOk w) : (loadVar 71 ⟨0, 0, none⟩).run Tryz.prog w = .ok (.agg marksV) w := by
  have hl : (loadCells ⟨0, 0, none⟩ marksV.toList.length).run Tryz.prog w = .ok marksV.toList.toArray w :=
    run_loadCells_list (P := Tryz.prog) w ⟨0, 0, none⟩ marksV.toList (fun j v hv => by
      have hadd : (⟨0, 0, none⟩ : Addr).add j = ⟨0, j, none⟩ := by unfold Addr.add; split <;> simp_all
      rw [hadd]
      exact h j v hv)
  have hagg : (isAgg 71).run Tryz.prog w = .ok true w := by
    unfold isAgg
    rw [Sem.run_bind, run_underlying Tryz.underlying71 w]
    rfl
  have hz : (Tryz.prog.info? 71).map (·.size) = some 21 := by kernel_rfl
  cases hq : Tryz.prog.info? 71 with
  | none => simp [hq] at hz
  | some i =>
    have hs : i.size = 21 := by simpa [hq] using hz
    have hl' : (loadCells ⟨0, 0, none⟩ 21).run Tryz.prog w = .ok marksV w := hl
    simp [loadVar, Sem.run_bind, hagg, sizeOf, typeInfo, hq, hs, hl']

theorem wpList_load_by {P : Program} {ops : Array Oper} {rest : List Oper} {o : Oper} {a : Act} {w : World} {Q : Exit → Act → World → Prop} (hgd : o.guard = none) (ty : TypeId) (x : Operand) (ho : o.op = .load ty x)
    (g : Nat) (hx : a.eval x = .pointer (some ⟨g, 0, none⟩)) (v : Value) (hl : (loadVar ty ⟨g, 0, none⟩).run P w = .ok v w) (h : wpList P ops Q rest (a.put o.dst v) w) : wpList P ops Q (o :: rest) a w :=
  wpList_plain hgd fun _ hK => by
    unfold Oper.wp execOp
    simp only [ho, hx, Instr.loadAt, Instr.sureAddr, Sem.run_bind, Sem.run_pure, Result.andThen_ok, hl]
    exact hK _ _ h

set_option maxHeartbeats 1000000 in
set_option maxRecDepth 100000 in
theorem markAhead_any (s : ByteArray) (w : World) (hs : s.size ≤ 1048576) (hk : MarksOk w) (h0 : isLet (s.data.toList.getD 0 0) = false) (h1 : isFig (s.data.toList.getD 0 0) = false) (h34 : ¬(s.data.toList.getD 0 0).toNat = 34) :
    Calls Tryz.prog 28 #[.string s] w fun e w' => e = .returned (.tuple #[tokV (headI s.data.toList).1 0, .int .i64 ((headI s.data.toList).2 : Nat)]) ∧ Below w.heap.size w w' := by
  have hR : tokI s.data.toList = ((⟨4, if 0 < markZ s.data.toList then s.data.toList.take (markZ s.data.toList).toNat else [], 0⟩ : Tok), markZ s.data.toList) := by
    unfold tokI
    rw [if_neg (by rw [h0]; decide), if_neg (by rw [h1]; decide), if_neg h34]
  have HG : Hid (Unit → ∀ i, i < 21 → Lib.hasPrefix s.data.toList (mk8 i) = true → (∀ j < i, Lib.hasPrefix s.data.toList (mk8 j) = false) → headI s.data.toList = (⟨4, mk8 i, 0⟩, (mk8 i).length)) := fun _ i hi h hn => by
    obtain ⟨k1, k2, k3⟩ := mark_hit hi h hn
    refine head_good ?_
    rw [hR, k1, if_pos (by omega), Int.toNat_natCast, k2]
  have HB : Hid (Unit → (∀ j < 21, Lib.hasPrefix s.data.toList (mk8 j) = false) → headI s.data.toList = (⟨0, [], 0⟩, 0)) := fun _ hn => by
    refine head_bad ?_
    rw [hR, mark_miss hn]
    show (-1 : Int) < 0
    decide
  clear hR h0 h1 h34
  obtain ⟨Y, hY⟩ : ∃ Y, headI s.data.toList = Y := ⟨_, rfl⟩
  rw [hY] at HG HB ⊢
  clear hY
  obtain ⟨g0, hg0⟩ : ∃ g, w.heap.size = g := ⟨_, rfl⟩
  obtain ⟨W1, hW1⟩ : ∃ W, w.alloc (.cells #[.int .i64 0, .string ⟨#[]⟩, .int .u64 0, .int .i64 0] 30) = W := ⟨_, rfl⟩
  have bd : Below w.heap.size w W1 := by rw [← hW1]; exact (Below.refl _ _).alloc (Nat.le_refl _) _
  have hD0 : W1.heap[g0]? = some (.cells #[.int .i64 0, .string ⟨#[]⟩, .int .u64 0, .int .i64 0] 30) := by
    have h := heap_alloc_new w (.cells #[.int .i64 0, .string ⟨#[]⟩, .int .u64 0, .int .i64 0] 30)
    rw [hg0, hW1] at h
    exact h
  have hgw0 : w.heap.size ≤ g0 := by omega
  have kd : MarksOk (w.alloc (.cells #[.int .i64 0, .string ⟨#[]⟩, .int .u64 0, .int .i64 0] 30)) := marks_kept hk ((Below.refl _ _).alloc (Nat.le_refl _) _)
  have hld := marks_load kd
  clear hk kd
  obtain ⟨M, hM⟩ : ∃ M, Value.agg marksV = M := ⟨_, rfl⟩
  rw [hM] at hld
  have hix : ∀ i : Nat, i < 21 → ∀ W : World, (Instr.index 71 M (.int .i64 (i : Int))).run Tryz.prog W = .ok (.string (txt (mk8 i))) W := fun i h W => by rw [← hM]; exact marks_index i h W
  clear hM
  have hld1 : (loadVar 71 ⟨0, 0, none⟩).run Tryz.prog W1 = .ok M W1 := by rw [← hW1]; exact hld
  go_enter Tryz.func28, Tryz.ntmps28
  go_upto_region 2 with (first | refine wpList_load_by rfl _ _ rfl _ rfl M hld1 ?_ | refine wpList_load_by rfl _ _ rfl _ rfl M hld ?_)
  try simp only [hW1, hg0]
  clear hld hld1
  go_loop [7] (fun x => ∃ i : Nat, x = .int .i64 i ∧ (i : Int) ≤ 21 ∧ Hid (Unit → ∀ j < i, Lib.hasPrefix s.data.toList (mk8 j) = false)) (fun x => 21 - (intOf x).toNat)
  case atStart => exact ⟨0, rfl, by omega, fun _ j hj => by omega⟩
  case round =>
    obtain ⟨i, rfl, hi, HI⟩ := hrel
    by_cases hlt : i < 21
    · have hlt' : (i : Int) < 21 := by omega
      have hxi := hix i hlt
      have hlen : (mk8 i).length ≤ 2 := by
        have : ∀ j < 21, (mk8 j).length ≤ 2 := by decide
        exact this i hlt
      obtain ⟨T, hT⟩ : ∃ T, txt (mk8 i) = T := ⟨_, rfl⟩
      rw [hT] at hxi
      have hTl : T.data.toList = mk8 i := by rw [← hT, txt_data]
      have hTs : T.size = (mk8 i).length := by rw [← size_list, hTl]
      have cP := fun W => Tryz.strings_HasPrefix s T W
      rw [hTl] at cP
      have HT : Hid (Unit → ∀ n : Nat, tokV ⟨4, mk8 i, 0⟩ 0 = .agg #[.int .i64 4, .string T, .int .u64 0, .int .i64 0]) := fun _ _ => by
        rw [← hTl]
        exact tok_val 4 T 0
      clear hT hTl hix
      obtain ⟨q, hq⟩ : ∃ q, Lib.hasPrefix s.data.toList (mk8 i) = q := ⟨_, rfl⟩
      rw [hq] at cP
      cases q
      · have HN : Hid (Unit → ∀ j < i + 1, Lib.hasPrefix s.data.toList (mk8 j) = false) := fun _ j hj => by
          rcases (by omega : j < i ∨ j = i) with h | h
          · exact HI.out () j h
          · rw [h]; exact hq
        clear hq
        go_wp2_with fail
        refine (cP _).mono ?_
        rintro e w' ⟨rfl, rfl⟩
        go_wp2
        go_round
        case rel => exact ⟨i + 1, by go_num, by omega, HN⟩
        case measure => simp [intOf]; omega
      · have hy := HG.out () i hlt hq (HI.out ())
        subst hy
        have HF : Hid (Ending.returned (.tuple #[.agg #[.int .i64 4, .string T, .int .u64 0, .int .i64 0], .int .i64 (T.size : Int)]) = Ending.returned (.tuple #[tokV ⟨4, mk8 i, 0⟩ 0, .int .i64 ((mk8 i).length : Int)])) := by
          show _ = _
          rw [HT.out () 0, hTs]
        clear HT hTs hq HG HB HI hlen
        go_wp2_with fail
        refine (cP _).mono ?_
        rintro e W3 ⟨rfl, rfl⟩
        clear cP
        obtain ⟨m0, m1, m2, m3⟩ := cells_four hD0
        have f00 := frozen_of_row _ g0 0 _ _ hD0
        have f01 := frozen_of_row _ g0 1 _ _ hD0
        have f02 := frozen_of_row _ g0 2 _ _ hD0
        have f03 := frozen_of_row _ g0 3 _ _ hD0
        obtain ⟨W5, hW5⟩ : ∃ W, (((W3.setCell ⟨g0, 0, none⟩ (.int .i64 4)).setCell ⟨g0, 1, none⟩ (.string T)).setCell ⟨g0, 2, none⟩ (.int .u64 0)).setCell ⟨g0, 3, none⟩ (.int .i64 0) = W := ⟨_, rfl⟩
        have b5 : Below w.heap.size w W5 := by
          rw [← hW5]
          exact (((bd.setCell (p := ⟨g0, 0, none⟩) hgw0 _).setCell (p := ⟨g0, 1, none⟩) hgw0 _).setCell (p := ⟨g0, 2, none⟩) hgw0 _).setCell (p := ⟨g0, 3, none⟩) hgw0 _
        have hF := four_put (a' := .int .i64 4) (b' := .string T) (c' := .int .u64 0) (d' := .int .i64 0) hD0
        rw [hW5] at hF
        obtain ⟨v0, v1, v2, v3⟩ := cells_four hF
        clear hF bd hD0
        go_wp2
        try simp only [hW5]
        try simp only [Exit.inBlock, Exit.then]
        refine bodyPost_ret (by simp [results, Tryz.results28, go_sem, v0, v1, v2, v3]; try rfl) rfl ?_
        exact ⟨HF.out, by rw [← hg0]; exact b5⟩
    · have hie : i = 21 := by omega
      subst hie
      have hy := HB.out () (HI.out ())
      subst hy
      clear HG HB HI hix
      obtain ⟨m0, m1, m2, m3⟩ := cells_four hD0
      have f00 := frozen_of_row _ g0 0 _ _ hD0
      have f01 := frozen_of_row _ g0 1 _ _ hD0
      have f02 := frozen_of_row _ g0 2 _ _ hD0
      have f03 := frozen_of_row _ g0 3 _ _ hD0
      obtain ⟨W5, hW5⟩ : ∃ W, (((W1.setCell ⟨g0, 0, none⟩ (.int .i64 0)).setCell ⟨g0, 1, none⟩ (.string ⟨#[]⟩)).setCell ⟨g0, 2, none⟩ (.int .u64 0)).setCell ⟨g0, 3, none⟩ (.int .i64 0) = W := ⟨_, rfl⟩
      have b5 : Below w.heap.size w W5 := by
        rw [← hW5]
        exact (((bd.setCell (p := ⟨g0, 0, none⟩) hgw0 _).setCell (p := ⟨g0, 1, none⟩) hgw0 _).setCell (p := ⟨g0, 2, none⟩) hgw0 _).setCell (p := ⟨g0, 3, none⟩) hgw0 _
      have hF := four_put (a' := .int .i64 0) (b' := .string ⟨#[]⟩) (c' := .int .u64 0) (d' := .int .i64 0) hD0
      rw [hW5] at hF
      obtain ⟨v0, v1, v2, v3⟩ := cells_four hF
      clear hF bd hD0
      go_wp2
      try simp only [hW5]
      try simp only [Exit.inBlock, Exit.then]
      refine bodyPost_ret (by simp [results, Tryz.results28, go_sem, v0, v1, v2, v3]; try rfl) rfl ?_
      exact ⟨rfl, by rw [← hg0]; exact b5⟩

end Go.Proofs.YtcabanghegddhaaGreatDoor

namespace Go.Proofs.YtcabanghegddhaaGreatDoor
open Go.RowKit
set_option linter.unusedVariables false

set_option maxHeartbeats 1000000 in
set_option maxRecDepth 100000 in
theorem tokenAhead_any (s : ByteArray) (r b : Nat) (w : World) (hs : s.size ≤ 1048576) (hk : Kinds w b) (hm : MarksOk w) (hx : SeekOk w)
    (h1 : letR r = isLet (s.data.toList.getD 0 0)) (h2 : figR r = isFig (s.data.toList.getD 0 0)) (h3 : decide (r = 34) = decide ((s.data.toList.getD 0 0).toNat = 34)) :
    Calls Tryz.prog 14 #[.string s, .int .i32 (r : Int), .map (some b)] w fun e w' => e = .returned (.tuple #[tokV (headI s.data.toList).1 0, .int .i64 ((headI s.data.toList).2 : Nat)]) ∧ Below w.heap.size w w' := by
  have cL := fun W => beginsName_any r W
  have cF := fun W => isFigure_any r W
  rw [h1] at cL
  rw [h2] at cF
  have cName := fun (W : World) (h : Kinds W b) (hl : isLet (s.data.toList.getD 0 0) = true) => nameAhead_any s b W hs h hl
  have cNum := fun (W : World) (h : SeekOk W) (h0 : isLet (s.data.toList.getD 0 0) = false) (hl : isFig (s.data.toList.getD 0 0) = true) => numberAhead_any s W hs h h0 hl
  have cTxt := fun (W : World) (h0 : isLet (s.data.toList.getD 0 0) = false) (h1 : isFig (s.data.toList.getD 0 0) = false) (hl : (s.data.toList.getD 0 0).toNat = 34) => textAhead_any s W hs h0 h1 hl
  have cMrk := fun (W : World) (h : MarksOk W) (h0 : isLet (s.data.toList.getD 0 0) = false) (h1 : isFig (s.data.toList.getD 0 0) = false) (hl : ¬(s.data.toList.getD 0 0).toNat = 34) => markAhead_any s W hs h h0 h1 hl
  obtain ⟨c, hc⟩ : ∃ c, s.data.toList.getD 0 0 = c := ⟨_, rfl⟩
  simp only [hc] at cName cNum cTxt cMrk
  rw [hc] at cL cF h3
  obtain ⟨H, hH⟩ : ∃ H, headI s.data.toList = H := ⟨_, rfl⟩
  simp only [hH] at cName cNum cTxt cMrk
  rw [hH]
  obtain ⟨t, k⟩ := H
  simp only at cName cNum cTxt cMrk ⊢
  clear hH hc h1 h2
  unfold tokV at cName cNum cTxt cMrk ⊢
  simp only [show ((0 : Nat) : Int) = 0 from rfl] at cName cNum cTxt cMrk ⊢
  obtain ⟨g0, hg0⟩ : ∃ g, w.heap.size = g := ⟨_, rfl⟩
  obtain ⟨W1, hW1⟩ : ∃ W, w.alloc (.cells #[.int .i64 0, .string ⟨#[]⟩, .int .u64 0, .int .i64 0] 30) = W := ⟨_, rfl⟩
  have bd : Below w.heap.size w W1 := by rw [← hW1]; exact (Below.refl _ _).alloc (Nat.le_refl _) _
  have hD0 : W1.heap[g0]? = some (.cells #[.int .i64 0, .string ⟨#[]⟩, .int .u64 0, .int .i64 0] 30) := by
    have h := heap_alloc_new w (.cells #[.int .i64 0, .string ⟨#[]⟩, .int .u64 0, .int .i64 0] 30)
    rw [hg0, hW1] at h
    exact h
  have hgw0 : w.heap.size ≤ g0 := by omega
  have kk : Kinds W1 b := by rw [← hW1]; exact hk.kept ((Below.refl _ _).alloc (Nat.le_refl _) _)
  have km : MarksOk W1 := by rw [← hW1]; exact marks_kept hm ((Below.refl _ _).alloc (Nat.le_refl _) _)
  have kx : SeekOk W1 := by rw [← hW1]; exact seek_kept hx ((Below.refl _ _).alloc (Nat.le_refl _) _)
  clear hk hm hx
  go_enter Tryz.func14, Tryz.ntmps14
  go_wp2_with fail
  try simp only [hW1, hg0]
  refine (cL _).mono ?_
  rintro e W2 ⟨rfl, rfl⟩
  clear hW1 cL
  obtain ⟨x, hx⟩ : ∃ x, isLet c = x := ⟨_, rfl⟩
  rw [hx] at cName cNum cTxt cMrk ⊢
  cases x
  · go_wp2_with fail
    refine (cF _).mono ?_
    rintro e W2 ⟨rfl, rfl⟩
    clear cF
    obtain ⟨y, hy⟩ : ∃ x, isFig c = x := ⟨_, rfl⟩
    rw [hy] at cNum cTxt cMrk ⊢
    cases y
    · by_cases h34 : r = 34
      · subst h34
        have hc34 : c.toNat = 34 := of_decide_eq_true (h3.symm.trans rfl)
        have cT := fun W => cTxt W (by simp) (by simp) hc34
        clear cTxt cMrk cNum cName
        go_wp2_with fail
        refine (cT _).mono ?_
        rintro e W3 ⟨rfl, b3⟩
        replace bd := chain bd b3
        replace hD0 := kept_block b3 hD0
        clear b3
        obtain ⟨m0, m1, m2, m3⟩ := cells_four hD0
        have f00 := frozen_of_row _ g0 0 _ _ hD0
        have f01 := frozen_of_row _ g0 1 _ _ hD0
        have f02 := frozen_of_row _ g0 2 _ _ hD0
        have f03 := frozen_of_row _ g0 3 _ _ hD0
        obtain ⟨W5, hW5⟩ : ∃ W, (((W3.setCell ⟨g0, 0, none⟩ (.int .i64 t.kind)).setCell ⟨g0, 1, none⟩ (.string (txt t.text))).setCell ⟨g0, 2, none⟩ (.int .u64 (t.num : Int))).setCell ⟨g0, 3, none⟩ (.int .i64 0) = W := ⟨_, rfl⟩
        have b5 : Below w.heap.size w W5 := by
          rw [← hW5]
          exact (((bd.setCell (p := ⟨g0, 0, none⟩) hgw0 _).setCell (p := ⟨g0, 1, none⟩) hgw0 _).setCell (p := ⟨g0, 2, none⟩) hgw0 _).setCell (p := ⟨g0, 3, none⟩) hgw0 _
        have hF := four_put (a' := .int .i64 t.kind) (b' := .string (txt t.text)) (c' := .int .u64 (t.num : Int)) (d' := .int .i64 0) hD0
        rw [hW5] at hF
        obtain ⟨v0, v1, v2, v3⟩ := cells_four hF
        clear hF bd hD0
        go_wp2
        try simp only [hW5]
        try simp only [Exit.inBlock, Exit.then]
        refine bodyPost_ret (by simp [results, Tryz.results14, go_sem, v0, v1, v2, v3]; try rfl) rfl ?_
        exact ⟨rfl, by first | exact b5 | (rw [← hg0]; exact b5)⟩
      · have hc34 : ¬c.toNat = 34 := of_decide_eq_false (h3.symm.trans (decide_eq_false h34))
        have h34' : ((r : Int) == 34) = false := by rw [beq_eq_false_iff_ne]; omega
        have cT := cMrk _ km (by simp) (by simp) hc34
        clear cTxt cMrk cNum cName
        go_wp2_with fail
        refine (cT).mono ?_
        rintro e W3 ⟨rfl, b3⟩
        replace bd := chain bd b3
        replace hD0 := kept_block b3 hD0
        clear b3
        obtain ⟨m0, m1, m2, m3⟩ := cells_four hD0
        have f00 := frozen_of_row _ g0 0 _ _ hD0
        have f01 := frozen_of_row _ g0 1 _ _ hD0
        have f02 := frozen_of_row _ g0 2 _ _ hD0
        have f03 := frozen_of_row _ g0 3 _ _ hD0
        obtain ⟨W5, hW5⟩ : ∃ W, (((W3.setCell ⟨g0, 0, none⟩ (.int .i64 t.kind)).setCell ⟨g0, 1, none⟩ (.string (txt t.text))).setCell ⟨g0, 2, none⟩ (.int .u64 (t.num : Int))).setCell ⟨g0, 3, none⟩ (.int .i64 0) = W := ⟨_, rfl⟩
        have b5 : Below w.heap.size w W5 := by
          rw [← hW5]
          exact (((bd.setCell (p := ⟨g0, 0, none⟩) hgw0 _).setCell (p := ⟨g0, 1, none⟩) hgw0 _).setCell (p := ⟨g0, 2, none⟩) hgw0 _).setCell (p := ⟨g0, 3, none⟩) hgw0 _
        have hF := four_put (a' := .int .i64 t.kind) (b' := .string (txt t.text)) (c' := .int .u64 (t.num : Int)) (d' := .int .i64 0) hD0
        rw [hW5] at hF
        obtain ⟨v0, v1, v2, v3⟩ := cells_four hF
        clear hF bd hD0
        go_wp2
        try simp only [hW5]
        try simp only [Exit.inBlock, Exit.then]
        refine bodyPost_ret (by simp [results, Tryz.results14, go_sem, v0, v1, v2, v3]; try rfl) rfl ?_
        exact ⟨rfl, by first | exact b5 | (rw [← hg0]; exact b5)⟩
    · have cT := cNum _ kx (by simp) (by simp)
      clear cTxt cMrk cNum cName
      go_wp2_with fail
      refine (cT).mono ?_
      rintro e W3 ⟨rfl, b3⟩
      replace bd := chain bd b3
      replace hD0 := kept_block b3 hD0
      clear b3
      obtain ⟨m0, m1, m2, m3⟩ := cells_four hD0
      have f00 := frozen_of_row _ g0 0 _ _ hD0
      have f01 := frozen_of_row _ g0 1 _ _ hD0
      have f02 := frozen_of_row _ g0 2 _ _ hD0
      have f03 := frozen_of_row _ g0 3 _ _ hD0
      obtain ⟨W5, hW5⟩ : ∃ W, (((W3.setCell ⟨g0, 0, none⟩ (.int .i64 t.kind)).setCell ⟨g0, 1, none⟩ (.string (txt t.text))).setCell ⟨g0, 2, none⟩ (.int .u64 (t.num : Int))).setCell ⟨g0, 3, none⟩ (.int .i64 0) = W := ⟨_, rfl⟩
      have b5 : Below w.heap.size w W5 := by
        rw [← hW5]
        exact (((bd.setCell (p := ⟨g0, 0, none⟩) hgw0 _).setCell (p := ⟨g0, 1, none⟩) hgw0 _).setCell (p := ⟨g0, 2, none⟩) hgw0 _).setCell (p := ⟨g0, 3, none⟩) hgw0 _
      have hF := four_put (a' := .int .i64 t.kind) (b' := .string (txt t.text)) (c' := .int .u64 (t.num : Int)) (d' := .int .i64 0) hD0
      rw [hW5] at hF
      obtain ⟨v0, v1, v2, v3⟩ := cells_four hF
      clear hF bd hD0
      go_wp2
      try simp only [hW5]
      try simp only [Exit.inBlock, Exit.then]
      refine bodyPost_ret (by simp [results, Tryz.results14, go_sem, v0, v1, v2, v3]; try rfl) rfl ?_
      exact ⟨rfl, by first | exact b5 | (rw [← hg0]; exact b5)⟩
  · have cT := cName _ kk (by simp)
    clear cTxt cMrk cNum cName
    go_wp2_with fail
    refine (cT).mono ?_
    rintro e W3 ⟨rfl, b3⟩
    replace bd := chain bd b3
    replace hD0 := kept_block b3 hD0
    clear b3
    obtain ⟨m0, m1, m2, m3⟩ := cells_four hD0
    have f00 := frozen_of_row _ g0 0 _ _ hD0
    have f01 := frozen_of_row _ g0 1 _ _ hD0
    have f02 := frozen_of_row _ g0 2 _ _ hD0
    have f03 := frozen_of_row _ g0 3 _ _ hD0
    obtain ⟨W5, hW5⟩ : ∃ W, (((W3.setCell ⟨g0, 0, none⟩ (.int .i64 t.kind)).setCell ⟨g0, 1, none⟩ (.string (txt t.text))).setCell ⟨g0, 2, none⟩ (.int .u64 (t.num : Int))).setCell ⟨g0, 3, none⟩ (.int .i64 0) = W := ⟨_, rfl⟩
    have b5 : Below w.heap.size w W5 := by
      rw [← hW5]
      exact (((bd.setCell (p := ⟨g0, 0, none⟩) hgw0 _).setCell (p := ⟨g0, 1, none⟩) hgw0 _).setCell (p := ⟨g0, 2, none⟩) hgw0 _).setCell (p := ⟨g0, 3, none⟩) hgw0 _
    have hF := four_put (a' := .int .i64 t.kind) (b' := .string (txt t.text)) (c' := .int .u64 (t.num : Int)) (d' := .int .i64 0) hD0
    rw [hW5] at hF
    obtain ⟨v0, v1, v2, v3⟩ := cells_four hF
    clear hF bd hD0
    go_wp2
    try simp only [hW5]
    try simp only [Exit.inBlock, Exit.then]
    refine bodyPost_ret (by simp [results, Tryz.results14, go_sem, v0, v1, v2, v3]; try rfl) rfl ?_
    exact ⟨rfl, by first | exact b5 | (rw [← hg0]; exact b5)⟩

end Go.Proofs.YtcabanghegddhaaGreatDoor

namespace Go.Proofs.YtcabanghegddhaaGreatDoor

theorem figs_low {l : List UInt8} (h : Figs l) : ∀ d ∈ l, d.toNat < 128 := fun d hd => by
  have := h d hd
  omega
theorem tok_ascii {c : UInt8} {r : List UInt8} (h : 0 ≤ (tokI (c :: r)).2) : ∀ d ∈ (c :: r).take (tokI (c :: r)).2.toNat, d.toNat < 128 := by
  have head : (c :: r).getD 0 0 = c := rfl
  by_cases hl : isLet c = true
  · have e : (tokI (c :: r)).2 = (if 12 < nameN (c :: r) then -1 else (nameN (c :: r) : Int) : Int) := by
      unfold tokI
      rw [head, if_pos hl]
    rw [e] at h ⊢
    by_cases h12 : 12 < nameN (c :: r)
    · rw [if_pos h12] at h; omega
    · rw [if_neg h12, Int.toNat_natCast, name_cons hl, List.take_succ_cons, take_while]
      have low : ∀ d : UInt8, isLet d = true ∨ isFig d = true → d.toNat < 128 := fun d hd => by
        unfold isLet isFig at hd
        simp only [Bool.or_eq_true, Bool.and_eq_true, decide_eq_true_eq] at hd
        omega
      intro d hd
      rcases List.mem_cons.1 hd with rfl | hd
      · exact low _ (.inl hl)
      · have := mem_while (p := fun c => isLet c || isFig c) r d hd
        simp only [Bool.or_eq_true] at this
        exact low d this
  · by_cases hf : isFig c = true
    · have e : (tokI (c :: r)).2 = (if okI ((c :: r).take (numbN (c :: r))) = true then (numbN (c :: r) : Int) else -1 : Int) := by
        unfold tokI
        rw [head, if_neg hl, if_pos hf]
      rw [e] at h ⊢
      by_cases hok : okI ((c :: r).take (numbN (c :: r))) = true
      · rw [if_pos hok, Int.toNat_natCast]
        obtain ⟨S, E, v, hl2, hn, hP⟩ := numb_split (fig_not_run (r := r) hf)
        rw [hn, hl2, List.take_left]
        intro d hd
        rcases List.mem_append.1 hd with hd | hd
        · obtain ⟨a, fa, _, rfl | ⟨b, fb, _, rfl⟩⟩ := hP.side
          · exact figs_low fa d hd
          · rcases List.mem_append.1 hd with hd | hd
            · exact figs_low fa d hd
            · rcases List.mem_cons.1 hd with rfl | hd
              · decide
              · exact figs_low fb d hd
        · rcases hP.tail with rfl | ⟨sg, x, hs, fx, _, rfl⟩
          · cases hd
          · rcases List.mem_cons.1 hd with rfl | hd
            · decide
            · rcases List.mem_append.1 hd with hd | hd
              · rcases hs with rfl | rfl | rfl
                · cases hd
                · rw [List.mem_singleton] at hd; subst hd; decide
                · rw [List.mem_singleton] at hd; subst hd; decide
              · exact figs_low fx d hd
      · rw [if_neg hok] at h; omega
    · by_cases hq : c.toNat = 34
      · have e : (tokI (c :: r)).2 = textZ r := by
          unfold tokI
          rw [head, if_neg hl, if_neg hf, if_pos hq]
          rfl
        rw [e] at h ⊢
        cases hqq : quoteN r with
        | none =>
          have : textZ r = -1 := by unfold textZ; rw [hqq]
          rw [this] at h; omega
        | some i =>
          have hz : textZ r = (i : Int) + 2 := by unfold textZ; rw [hqq]
          obtain ⟨_, k2, _⟩ := quote_some hqq
          have h2 : ((i : Int) + 2).toNat = i + 1 + 1 := by omega
          rw [hz, h2, List.take_succ_cons, k2]
          have hi : i = (r.takeWhile isTxt).length := by
            have := quote_run r
            rw [hqq] at this
            split at this
            · exact Option.some.inj this
            · cases this
          rw [hi, take_while]
          intro d hd
          rcases List.mem_cons.1 hd with rfl | hd
          · omega
          · rcases List.mem_append.1 hd with hd | hd
            · have := mem_while r d hd
              unfold isTxt textR at this
              simp only [Bool.and_eq_true, decide_eq_true_eq] at this
              omega
            · rw [List.mem_singleton] at hd; subst hd; decide
      · have e : (tokI (c :: r)).2 = markZ (c :: r) := by
          unfold tokI
          rw [head, if_neg hl, if_neg hf, if_neg hq]
        rw [e] at h ⊢
        unfold markZ at h ⊢
        by_cases h2 : 2 ≤ (c :: r).length ∧ (c :: r).take 2 ∈ twoMarks
        · rw [if_pos h2]
          have low : ∀ p ∈ twoMarks, ∀ d ∈ p, d.toNat < 128 := by decide
          exact low _ h2.2
        · rw [if_neg h2] at h ⊢
          by_cases h1 : (c :: r).getD 0 0 ∈ oneMarks
          · rw [if_pos h1]
            have low : ∀ p ∈ oneMarks, p.toNat < 128 := by decide
            intro d hd
            have hd' : d ∈ [c] := hd
            rw [List.mem_singleton] at hd'
            subst hd'
            exact low _ h1
          · rw [if_neg h1] at h; omega

/-- the cells of tokens in a row -/
def tokC (x : Tok × Nat) : List Value := [.int .i64 x.1.kind, .string (txt x.1.text), .int .u64 (x.1.num : Int), .int .i64 (x.2 : Int)]
def flatT : List (Tok × Nat) → List Value
  | [] => []
  | x :: l => tokC x ++ flatT l
theorem flat_snoc : ∀ (l : List (Tok × Nat)) (x : Tok × Nat), flatT (l ++ [x]) = flatT l ++ tokC x
  | [], x => by simp [flatT]
  | y :: l, x => by rw [List.cons_append, flatT, flat_snoc l x, flatT, List.append_assoc]
theorem flat_len : ∀ l : List (Tok × Nat), (flatT l).length = l.length * 4
  | [] => rfl
  | x :: l => by rw [flatT, List.length_append, flat_len l, List.length_cons]; show 4 + _ = _; omega
theorem flat_at : ∀ (l : List (Tok × Nat)) (i : Nat) (h : i < l.length) (k : Nat), k < 4 → (flatT l)[i * 4 + k]? = (tokC l[i])[k]?
  | x :: l, 0, _, k, hk => by
    rw [flatT, List.getElem?_append_left (by show 0 * 4 + k < 4; omega)]
    simp
  | x :: l, i + 1, h, k, hk => by
    have e : (i + 1) * 4 + k = 4 + (i * 4 + k) := by omega
    rw [flatT, e, List.getElem?_append_right (by show 4 ≤ _; omega)]
    have e2 : 4 + (i * 4 + k) - (tokC x).length = i * 4 + k := by show 4 + (i * 4 + k) - 4 = _; omega
    rw [e2]
    exact flat_at l i (by simpa using h) k hk

end Go.Proofs.YtcabanghegddhaaGreatDoor

namespace Go.Proofs.YtcabanghegddhaaGreatDoor
open Go.RowKit
set_option linter.unusedVariables false

/-- where the program stands: what lies ahead is not yet scanned, what it still passes over is below 128 -/
structure ScanAt (s : ByteArray) (pos e : Nat) (acc : List (Tok × Nat)) (Y : List (Tok × Nat) × Int) : Prop where
  low : ∀ i, pos ≤ i → i < e → ∀ h : i < s.size, (s[i]).toNat < 128
  rest : ∃ n, s.size - max pos e ≤ n ∧ scanN tokI n (s.data.toList.drop (max pos e)) (max pos e) acc = Y
theorem ScanAt.start {s : ByteArray} (h : s.size ≤ 600) : ScanAt s 0 0 [] (scanL tokI s.data.toList) := by
  refine ⟨fun i _ h => by omega, s.size, Nat.sub_le _ _, ?_⟩
  unfold scanL
  rw [if_neg (by rw [size_list]; omega), size_list]
  rfl
theorem ScanAt.inside {s : ByteArray} {pos e : Nat} {acc : List (Tok × Nat)} {Y : List (Tok × Nat) × Int} (h : ScanAt s pos e acc Y) (h1 : pos < e) (h2 : pos < s.size) : (s[pos]).toNat < 128 ∧ ScanAt s (pos + 1) e acc Y := by
  refine ⟨h.low pos (Nat.le_refl _) h1 h2, fun i hi => h.low i (by omega), ?_⟩
  have e1 : max pos e = max (pos + 1) e := by omega
  rw [← e1]
  exact h.rest
theorem ScanAt.ahead {s : ByteArray} {pos e : Nat} {acc : List (Tok × Nat)} {Y : List (Tok × Nat) × Int} (h : ScanAt s pos e acc Y) (h1 : e ≤ pos) (h2 : pos < s.size) : ∃ n, s.size - pos ≤ n + 1 ∧ scanN tokI (n + 1) (s[pos] :: s.data.toList.drop (pos + 1)) pos acc = Y := by
  obtain ⟨n, hn, hy⟩ := h.rest
  rw [Nat.max_eq_left h1] at hn hy
  obtain ⟨m, rfl⟩ : ∃ m, n = m + 1 := ⟨n - 1, by omega⟩
  rw [drop_cons s pos h2] at hy
  exact ⟨m, hn, hy⟩
theorem ScanAt.blank {s : ByteArray} {pos e : Nat} {acc : List (Tok × Nat)} {Y : List (Tok × Nat) × Int} (h : ScanAt s pos e acc Y) (h1 : e ≤ pos) (h2 : pos < s.size) (hb : isBlk s[pos] = true) : ScanAt s (pos + 1) e acc Y := by
  obtain ⟨n, hn, hy⟩ := h.ahead h1 h2
  refine ⟨fun i hi hj => by omega, n, by omega, ?_⟩
  rw [scanN, if_pos hb] at hy
  rw [Nat.max_eq_left (by omega)]
  exact hy
theorem ScanAt.fault {s : ByteArray} {pos e : Nat} {acc : List (Tok × Nat)} {Y : List (Tok × Nat) × Int} (h : ScanAt s pos e acc Y) (h1 : e ≤ pos) (h2 : pos < s.size) (hb : isBlk s[pos] = false) (hf : (tokI (s.data.toList.drop pos)).2 < 0 ∨ acc.length = 200) : Y = ([], (pos : Int)) := by
  obtain ⟨n, hn, hy⟩ := h.ahead h1 h2
  rw [drop_cons s pos h2] at hf
  rw [scanN, if_neg (by rw [hb]; decide), if_pos hf] at hy
  exact hy.symm
theorem ScanAt.token {s : ByteArray} {pos e k : Nat} {t : Tok} {acc : List (Tok × Nat)} {Y : List (Tok × Nat) × Int} (h : ScanAt s pos e acc Y) (h1 : e ≤ pos) (h2 : pos < s.size) (hb : isBlk s[pos] = false) (ht : tokI (s.data.toList.drop pos) = (t, (k : Int))) (hl : acc.length ≠ 200) :
    (s[pos]).toNat < 128 ∧ pos + k ≤ s.size ∧ 1 ≤ k ∧ ScanAt s (pos + 1) (pos + k) (acc ++ [(t, pos)]) Y := by
  obtain ⟨n, hn, hy⟩ := h.ahead h1 h2
  rw [drop_cons s pos h2] at ht
  obtain ⟨_, k1, k2⟩ := tok_stable (c := s[pos]) (r := s.data.toList.drop (pos + 1)) (by rw [ht]; simp)
  have low := tok_ascii (c := s[pos]) (r := s.data.toList.drop (pos + 1)) (by rw [ht]; simp)
  rw [ht, Int.toNat_natCast, ← drop_cons s pos h2] at low k1
  rw [ht, Int.toNat_natCast] at k2
  rw [List.length_drop, size_list] at k1
  have lowAt : ∀ i, pos ≤ i → i < pos + k → ∀ h : i < s.size, (s[i]).toNat < 128 := fun i hi hj hh => by
    refine low _ ?_
    have e1 := drop_at s pos (i - pos) (by omega)
    have e2 : pos + (i - pos) = i := by omega
    simp only [e2] at e1
    refine List.mem_of_getElem? (i := i - pos) ?_
    rw [List.getElem?_take_of_lt (by omega), e1]
  refine ⟨lowAt pos (Nat.le_refl _) (by omega) h2, by omega, k2, fun i hi hj => lowAt i (by omega) hj, n, by omega, ?_⟩
  rw [scanN, if_neg (by rw [hb]; decide), if_neg (by rw [ht]; simp; exact hl), ht, Int.toNat_natCast, ← drop_cons s pos h2, List.drop_drop] at hy
  rw [Nat.max_eq_right (by omega)]
  exact hy
theorem ScanAt.done {s : ByteArray} {pos e : Nat} {acc : List (Tok × Nat)} {Y : List (Tok × Nat) × Int} (h : ScanAt s pos e acc Y) (h1 : ¬pos < s.size) : Y = (acc, -1) := by
  obtain ⟨n, _, hy⟩ := h.rest
  rw [List.drop_eq_nil_of_le (by rw [size_list]; omega)] at hy
  rw [← hy]
  cases n <;> rfl
theorem head_back {l : List UInt8} {t : Tok} {k : Nat} {c : UInt8} {r : List UInt8} (hl : l = c :: r) (h : headI l = (t, k)) : (k = 0 → (tokI l).2 < 0) ∧ (k ≠ 0 → tokI l = (t, (k : Int))) := by
  unfold headI at h
  by_cases hn : (tokI l).2 < 0
  · rw [if_pos hn] at h
    obtain ⟨rfl, rfl⟩ := Prod.mk.inj h
    exact ⟨fun _ => hn, fun h => absurd rfl h⟩
  · rw [if_neg hn] at h
    obtain ⟨h1, h2⟩ := Prod.mk.inj h
    subst hl
    obtain ⟨_, _, k2⟩ := tok_stable (c := c) (r := r) (by omega)
    refine ⟨fun h => by omega, fun _ => ?_⟩
    rw [← h1, ← h2]
    apply Prod.ext
    · rfl
    · simp; omega

theorem ownsRow_iterAt {w : World} {base : Nat} {e : TypeId} {size : Nat} {v : Value} {n : Nat} {xs : List Value} (h : w.ownsRow base e size v n xs) {k : Nat} (hk : k < base) (s : ByteArray) (p : Nat) : (w.iterAt k s p).ownsRow base e size v n xs := by
  obtain ⟨h1, h2⟩ := h
  refine ⟨h1, ?_⟩
  rcases h2 with h2 | ⟨g, cap, cur, a, b, c, d⟩
  · exact .inl h2
  · exact .inr ⟨g, cap, cur, a, b, by rw [Lib.iterAt_other _ _ _ _ _ (by omega)]; exact c, d⟩
theorem own_under {w w' : World} {B : Nat} {e : TypeId} {size : Nat} {v : Value} {n : Nat} {xs : List Value} (h : w.ownsRow B e size v n xs) (hb : Below w.heap.size w w') : w'.ownsRow B e size v n xs :=
  h.kept (row := none) ⟨hb.os, hb.tape, hb.output, hb.size, fun k hk _ => hb.block k hk⟩ (by cases h2 : v.ownBlock <;> simp)
theorem own_low8 {w : World} {B B' : Nat} {e : TypeId} {size : Nat} {v : Value} {n : Nat} {xs : List Value} (h : w.ownsRow B e size v n xs) (hB : B' ≤ B) : w.ownsRow B' e size v n xs := by
  obtain ⟨h1, h2⟩ := h
  refine ⟨h1, ?_⟩
  rcases h2 with h2 | ⟨g, cap, cur, a, b, c, d⟩
  · exact .inl h2
  · exact .inr ⟨g, cap, cur, a, by omega, c, d⟩
theorem own_len {w : World} {B : Nat} {e : TypeId} {size : Nat} {v : Value} {n : Nat} {xs : List Value} (h : w.ownsRow B e size v n xs) : ∃ x c, v = .slice x n c := by
  obtain ⟨_, ⟨rfl, rfl⟩ | ⟨g, cap, cur, rfl, _⟩⟩ := h
  · exact ⟨none, 0, rfl⟩
  · exact ⟨_, _, rfl⟩
theorem cell_four_new (w : World) (a b c d : Value) (t : TypeId) : ∀ j u, [a, b, c, d][j]? = some u → (w.alloc (.cells #[a, b, c, d] t)).cell? ((⟨w.heap.size, 0, none⟩ : Addr).add j) = some u := by
  intro j u hj
  match j, hj with
  | 0, hj => simp at hj; subst hj; simp [Addr.add]
  | 1, hj => simp at hj; subst hj; simp [Addr.add]
  | 2, hj => simp at hj; subst hj; simp [Addr.add]
  | 3, hj => simp at hj; subst hj; simp [Addr.add]
  | j + 4, hj => simp at hj

set_option maxHeartbeats 400000 in
set_option maxRecDepth 100000 in
theorem strClone_any (s : ByteArray) (w : World) (hs : s.size ≤ 1048576) :
    Calls Tryz.prog 11 #[.string s] w fun e w' => e = .returned (.string s) ∧ Below w.heap.size w w' := by
  have c := fun W => Tryz.stringslite_Clone s W (by omega)
  go_enter Tryz.func11, Tryz.ntmps11
  go_wp2_with fail
  refine (c _).mono ?_
  rintro e w' ⟨rfl, b⟩
  go_wp2
  go_ret
  exact ⟨rfl, b⟩

theorem tokInfo : (Tryz.prog.info? 30).map (fun i => (i.zero, i.size, i.bytes)) = some (some (.agg #[.int .i64 0, .string ⟨#[]⟩, .int .u64 0, .int .i64 0]), 4, 40) := by kernel_rfl

set_option maxHeartbeats 4000000 in
set_option maxRecDepth 100000 in
theorem iScan (s : ByteArray) (w : World) (hm : MarksOk w) (hx : SeekOk w) :
    Calls Tryz.prog 6 #[.string s] w fun e w' => ∃ v, e = .returned (.tuple #[v, .int .i64 (scanL tokI s.data.toList).2]) ∧ w'.ownsRow w.heap.size 30 4 v (scanL tokI s.data.toList).1.length (flatT (scanL tokI s.data.toList).1) ∧ Below w.heap.size w w' := by
  by_cases h6 : 600 < s.size
  · have h6' : (600 : Int) < s.size := by omega
    have e : scanL tokI s.data.toList = ([], 600) := by unfold scanL; rw [if_pos (by rw [size_list]; exact h6)]
    rw [e]
    go_enter Tryz.func6, Tryz.ntmps6
    go_wp2
    go_returns
    exact ⟨_, rfl, World.ownsRow_nil _ _ _ _, Below.refl _ _⟩
  · have h6' : decide ((600 : Int) < s.size) = false := by simp; omega
    have hs : s.size ≤ 1048576 := by omega
    have st := ScanAt.start (s := s) (by omega)
    obtain ⟨Y, hY⟩ : ∃ Y, scanL tokI s.data.toList = Y := ⟨_, rfl⟩
    rw [hY] at st ⊢
    clear hY
    obtain ⟨i0, hi, hz0, hz1, hz2⟩ := info_parts tokInfo
    have cC := fun W => strClone_any s W hs
    obtain ⟨H, hH⟩ : ∃ H, w.heap.size = H := ⟨_, rfl⟩
    rw [hH]
    have HST : Hid (ScanAt s 0 0 [] Y) := st
    have gm : 0 < H := by rw [← hH]; exact World.block_lt_of_cell? w _ (hm 0 _ rfl)
    have gx : 1 < H := by
      obtain ⟨m, h⟩ := hx
      rw [← hH]; exact World.block_lt_of_cell? w _ h
    clear st
    go_enter Tryz.func6, Tryz.ntmps6
    go_wp2_with fail
    refine (cC _).mono ?_
    rintro e wA ⟨rfl, bA⟩
    rw [hH] at bA
    have sA := bA.size
    go_wp2_with fail
    refine (wordKinds_any _).mono ?_
    rintro e wB ⟨rfl, kB, bB⟩
    obtain ⟨b, hb⟩ : ∃ b, wA.heap.size = b := ⟨_, rfl⟩
    rw [hb] at kB bB
    have sB := kB.lt
    have bAB : Below H w wB := bA.trans (bB.mono (by omega))
    have hmB : MarksOk wB := marks_kept hm (by rw [hH]; exact bAB)
    have hxB : SeekOk wB := seek_kept hx (by rw [hH]; exact bAB)
    obtain ⟨K, hK⟩ : ∃ K, wB.heap.size = K := ⟨_, rfl⟩
    obtain ⟨W0, hW0⟩ : ∃ W, wB.iter s 0 = W := ⟨_, rfl⟩
    have b0 : Below K wB W0 := by rw [← hW0, ← hK]; exact (Below.refl _ _).alloc (Nat.le_refl _) _
    have i0t : W0.heap[K]? = some (.stringIter s 0) := by rw [← hW0, ← hK]; exact World.iter_heap wB s 0
    have kk0 : Kinds W0 b := by rw [← hW0]; exact kB.kept ((Below.refl _ _).alloc (Nat.le_refl _) _)
    have km0 : MarksOk W0 := by rw [← hW0]; exact marks_kept hmB ((Below.refl _ _).alloc (Nat.le_refl _) _)
    have kx0 : SeekOk W0 := by rw [← hW0]; exact seek_kept hxB ((Below.refl _ _).alloc (Nat.le_refl _) _)
    have bw0 : Below H w W0 := bAB.trans (b0.mono (by omega))
    go_upto_region 8 with fail
    try simp only [hW0, hK, hb]
    clear hmB hxB bA bB kB cC hm hx bAB b0 hW0
    go_loopw [5, 6] (fun v x wr => ∃ (pos en : Nat) (acc : List (Tok × Nat)), x = .int .i64 en ∧ wr.heap[K]? = some (.stringIter s pos) ∧ wr.ownsRow (K + 1) 30 4 v acc.length (flatT acc) ∧ Kinds wr b ∧ MarksOk wr ∧ SeekOk wr ∧ Below H w wr ∧ pos ≤ s.size ∧ acc.length ≤ 200 ∧ acc.length ≤ pos ∧ en ≤ s.size ∧ Hid (ScanAt s pos en acc Y)) (fun _ _ wr => s.size - wr.iterPos K)
    case atStart => exact ⟨0, 0, [], rfl, i0t, World.ownsRow_nil _ _ _ _, kk0, km0, kx0, bw0, Nat.zero_le _, by simp, by simp, Nat.zero_le _, HST⟩
    case round =>
      obtain ⟨pos, en, acc, rfl, hit, hown, kk, km, kx, hbw, hle, h200, hap, hen, HS⟩ := hrel
      have hp0 := iterPos_of hit
      by_cases hp : pos < s.size
      · have hnx : ∀ ty, (Instr.next (.pointer (some ⟨K, 0, none⟩)) true ty).run Tryz.prog wr = _ := fun ty => Lib.run_next_any_at wr K s pos ty hit hp
        obtain ⟨kb1, kb2, kb3⟩ := kind_rune kind_blank hp
        obtain ⟨kl1, _, _⟩ := kind_rune kind_let hp
        obtain ⟨kf1, _, _⟩ := kind_rune kind_fig hp
        have low : (s[pos]).toNat < 128 → (Utf8.decode s pos).2 = 1 := fun h => by rw [decode_ascii s pos hp h]
        have k34 : decide ((Utf8.decode s pos).1 = 34) = decide ((s[pos]).toNat = 34) := by
          by_cases ha : (s[pos]).toNat < 128
          · rw [decode_ascii s pos hp ha]
          · obtain ⟨h1, _⟩ := decode_high s pos hp (by omega)
            rw [decide_eq_false (by omega), decide_eq_false (by omega)]
        obtain ⟨r, hr⟩ : ∃ r, (Utf8.decode s pos).1 = r := ⟨_, rfl⟩
        obtain ⟨d, hd⟩ : ∃ d, (Utf8.decode s pos).2 = d := ⟨_, rfl⟩
        rw [hr, hd] at hnx
        rw [hr] at kb1 kl1 kf1 k34
        rw [hd] at kb2 kb3 low
        have hit2 := Lib.iterAt_heap wr K s pos (pos + d) hit
        have hbw2 := Lib.below_iterAt hbw (k := K) (by omega) s (pos + d)
        have hown2 := ownsRow_iterAt hown (k := K) (by omega) s (pos + d)
        have bK : K < wr.heap.size := lt_of_block hit
        have kk2 : Kinds (wr.iterAt K s (pos + d)) b := kk.heap (Lib.iterAt_other _ _ _ _ _ (by omega))
        have cellI : ∀ g j, g ≠ K → (wr.iterAt K s (pos + d)).cell? ⟨g, j, none⟩ = wr.cell? ⟨g, j, none⟩ := fun g j hg => by
          unfold World.cell?
          rw [Lib.iterAt_other _ _ _ _ _ hg]
        have km2 : MarksOk (wr.iterAt K s (pos + d)) := fun j v hv => by rw [cellI _ _ (by omega)]; exact km j v hv
        have kx2 : SeekOk (wr.iterAt K s (pos + d)) := by
          obtain ⟨m, hm⟩ := kx
          exact ⟨m, by rw [cellI _ _ (by omega)]; exact hm⟩
        obtain ⟨W1, hW1⟩ : ∃ W1, wr.iterAt K s (pos + d) = W1 := ⟨_, rfl⟩
        rw [hW1] at hnx hit2 hbw2 hown2 kk2 km2 kx2
        clear hW1 hr hd cellI hit hown hbw kk km kx
        by_cases hin : pos < en
        · have hin' : (pos : Int) < en := by omega
          obtain ⟨ha, hS2⟩ := HS.out.inside hin hp
          have hd1 := low ha
          subst hd1
          have HS2 : Hid (ScanAt s (pos + 1) en acc Y) := hS2
          clear hS2 HS ha kb1 kb2 kl1 kf1 k34 low
          go_wp2
          go_roundw
          case rel => exact ⟨pos + 1, en, acc, rfl, hit2, hown2, kk2, km2, kx2, hbw2, by omega, h200, by omega, hen, HS2⟩
          case measure => rw [iterPos_of hit2, hp0]; omega
        · have hin' : decide ((pos : Int) < en) = false := by simp; omega
          have cB := fun W => isBlank_any r W
          rw [kb1] at cB
          obtain ⟨bl, hbl⟩ : ∃ x, isBlk s[pos] = x := ⟨_, rfl⟩
          rw [hbl] at cB kb2
          cases bl
          · obtain ⟨T, hT⟩ : ∃ T, s.extract pos s.size = T := ⟨_, rfl⟩
            have hTl : T.data.toList = s.data.toList.drop pos := by rw [← hT]; exact extract_drop s pos
            have hTs : T.size ≤ 1048576 := by rw [← size_list, hTl, List.length_drop, size_list]; omega
            have hTh : T.data.toList.getD 0 0 = s[pos] := by rw [hTl]; exact mark_head hp
            have cT := fun W (h1 : Kinds W b) (h2 : MarksOk W) (h3 : SeekOk W) => tokenAhead_any T r b W hTs h1 h2 h3 (by rw [hTh]; exact kl1) (by rw [hTh]; exact kf1) (by rw [hTh]; exact k34)
            obtain ⟨t, k, hk⟩ : ∃ t k, headI T.data.toList = (t, k) := ⟨_, _, rfl⟩
            simp only [hk] at cT
            have hback := head_back (l := T.data.toList) (by rw [hTl]; exact drop_cons s pos hp) hk
            rw [hTl] at hback
            have hps : (pos : Int) ≤ s.size := by omega
            unfold tokV at cT
            simp only [show ((0 : Nat) : Int) = 0 from rfl] at cT
            clear hTl hTs hTh hk kl1 kf1 k34 kb1 kb2
            by_cases hk0 : k = 0
            · subst hk0
              have hy := HS.out.fault (by omega) hp hbl (.inl (hback.1 rfl))
              subst hy
              clear hback HS hbl low HST
              go_wp2_with fail
              refine (cB _).mono ?_
              rintro e w' ⟨rfl, rfl⟩
              go_wp2_with fail
              try simp only [hT]
              refine (cT _ kk2 km2 kx2).mono ?_
              rintro e W2 ⟨rfl, b2⟩
              have bb := hbw2.trans (b2.mono (by have := hbw2.size; omega))
              clear b2 cT cB kk2 km2 kx2
              go_wp2
              go_returns
              exact ⟨_, rfl, World.ownsRow_nil _ _ _ _, bb.alloc (by have := bb.size; omega) _⟩
            · have hk0' : ((k : Int) == 0) = false := by rw [beq_eq_false_iff_ne]; omega
              have htok := hback.2 hk0
              clear hback
              by_cases hacc : acc.length = 200
              · have hy := HS.out.fault (by omega) hp hbl (.inr hacc)
                subst hy
                have hacc' : (acc.length : Int) = 200 := by omega
                clear htok HS hbl low HST
                obtain ⟨xa, xc, rfl⟩ := own_len hown2
                simp only [hacc]
                go_wp2_with fail
                refine (cB _).mono ?_
                rintro e w' ⟨rfl, rfl⟩
                go_wp2_with fail
                try simp only [hT]
                refine (cT _ kk2 km2 kx2).mono ?_
                rintro e W2 ⟨rfl, b2⟩
                have bb := hbw2.trans (b2.mono (by have := hbw2.size; omega))
                clear b2 cT cB kk2 km2 kx2
                go_wp2
                go_returns
                exact ⟨_, rfl, World.ownsRow_nil _ _ _ _, bb.alloc (by have := bb.size; omega) _⟩
              · have hacc' : ((acc.length : Int) == 200) = false := by rw [beq_eq_false_iff_ne]; omega
                obtain ⟨ha, hks, hk1, hS2⟩ := HS.out.token (by omega) hp hbl htok hacc
                have hd1 := low ha
                subst hd1
                have HS2 : Hid (ScanAt s (pos + 1) (pos + k) (acc ++ [(t, pos)]) Y) := hS2
                clear htok hS2 HS hbl low ha HST
                obtain ⟨xa, xc, rfl⟩ := own_len hown2
                go_wp2_with fail
                refine (cB _).mono ?_
                rintro e w' ⟨rfl, rfl⟩
                go_wp2_with fail
                try simp only [hT]
                refine (cT _ kk2 km2 kx2).mono ?_
                rintro e W2 ⟨rfl, b2⟩
                have s2 := b2.size
                have bb := hbw2.trans (b2.mono (by have := hbw2.size; omega))
                have hit3 := kept_block b2 hit2
                have hown3 := own_under hown2 b2
                have kk3 := kk2.kept b2
                have km3 := marks_kept km2 b2
                have kx3 := seek_kept kx2 b2
                clear b2 cT cB kk2 km2 kx2 hown2 hit2 hbw2
                obtain ⟨W3, hW3⟩ : ∃ W, W2.alloc (.cells #[.int .i64 t.kind, .string (txt t.text), .int .u64 (t.num : Int), .int .i64 (pos : Int)] 30) = W := ⟨_, rfl⟩
                have hB : W3.heap[W2.heap.size]? = some (.cells #[.int .i64 t.kind, .string (txt t.text), .int .u64 (t.num : Int), .int .i64 (pos : Int)] 30) := by rw [← hW3]; exact heap_alloc_new W2 _
                have b3 : Below W2.heap.size W2 W3 := by rw [← hW3]; exact (Below.refl _ _).alloc (Nat.le_refl _) _
                have s3 := b3.size
                have bb3 := bb.trans (b3.mono (by have := bb.size; omega))
                have hit4 := kept_block b3 hit3
                have hown4 := own_under hown3 b3
                have kk4 := kk3.kept b3
                have km4 := marks_kept km3 b3
                have kx4 := seek_kept kx3 b3
                go_upto_region 15 with fail
                try simp only [hW3]
                clear hW3 b3 hit3 hown3 kk3 km3 kx3 bb
                obtain ⟨G, hG⟩ : ∃ G, W2.heap.size = G := ⟨_, rfl⟩
                simp only [hG]
                rw [hG] at hB
                obtain ⟨m0, m1, m2, m3⟩ := cells_four hB
                have hKs : K < W3.heap.size := lt_of_block hit4
                clear hB
                go_wp2_with (first
                  | (at_builtin; refine wpList_append_own _ rfl _ _ 25 rfl (K + 1) 30 i0 (.agg #[.int .i64 0, .string ⟨#[]⟩, .int .u64 0, .int .i64 0]) 4 40 Tryz.underlying25 hi hz0 hz1 hz2 rfl (by decide) _ _ _ rfl (hown4.alloc _) ⟨W3.heap.size, 0, none⟩ 1 1 [.int .i64 t.kind, .string (txt t.text), .int .u64 (t.num : Int), .int .i64 (pos : Int)] rfl rfl (cell_four_new _ _ _ _ _ _) (fun x hx => by simp at hx; rcases hx with rfl | rfl | rfl | rfl <;> rfl) (by unfold maxLen; omega) (by omega) (by simp; omega) ?_; intro v' w5 hown5 hgr5 hnil5
                     have hit5 : w5.heap[K]? = some (.stringIter s (pos + 1)) := by
                       rw [hgr5.block K (by simp; omega) (fun h => by have := (hown4.lt _ h.symm).1; omega), Below.heap_alloc _ _ _ hKs]; exact hit4
                     have blk5 : ∀ g, g < K → w5.heap[g]? = W3.heap[g]? := fun g hg => by
                       rw [hgr5.block g (by simp; omega) (fun h => by have := (hown4.lt _ h.symm).1; omega), Below.heap_alloc _ _ _ (by omega)]
                     have bb5 : Below H w w5 := Below.grown (bb3.alloc (by have := bb3.size; omega) _) hgr5 (by simp; have := bb3.size; omega) (fun j hj => by have := (hown4.lt _ hj).1; omega)
                     have X : Aside (w5.ownsRow (K + 1) 30 4 v' (acc.length + 1) (flatT acc ++ [.int .i64 t.kind, .string (txt t.text), .int .u64 (t.num : Int), .int .i64 (pos : Int)]) ∧ w5.heap[K]? = some (.stringIter s (pos + 1)) ∧ (∀ g, g < K → w5.heap[g]? = W3.heap[g]?) ∧ Below H w w5) := ⟨hown5, hit5, blk5, bb5⟩
                     clear hown5 hit5 blk5 bb5 hgr5 hnil5))
                go_roundw
                case rel =>
                  obtain ⟨hown5, hit5, blk5, bb5⟩ := X.out
                  have cell5 : ∀ g j, g < K → w5.cell? ⟨g, j, none⟩ = W3.cell? ⟨g, j, none⟩ := fun g j hg => by
                    unfold World.cell?
                    rw [blk5 g hg]
                  refine ⟨pos + 1, pos + k, acc ++ [(t, pos)], by go_num, hit5, ?_, kk4.heap (blk5 b (by omega)), fun j v hv => by rw [cell5 _ _ (by omega)]; exact km4 j v hv, ?_, bb5, by omega, by simp; omega, by simp; omega, hks, HS2⟩
                  · rw [flat_snoc, List.length_append]
                    exact hown5
                  · obtain ⟨m, hm⟩ := kx4
                    exact ⟨m, by rw [cell5 _ _ (by omega)]; exact hm⟩
                case measure => rw [iterPos_of X.out.2.1, hp0]; omega
          · have hd1 := kb2 rfl
            subst hd1
            have HS2 : Hid (ScanAt s (pos + 1) en acc Y) := HS.out.blank (by omega) hp hbl
            clear HS hbl kb1 kb2 kl1 kf1 k34 low
            go_wp2_with fail
            refine (cB _).mono ?_
            rintro e w' ⟨rfl, rfl⟩
            go_wp2
            go_roundw
            case rel => exact ⟨pos + 1, en, acc, rfl, hit2, hown2, kk2, km2, kx2, hbw2, by omega, h200, by omega, hen, HS2⟩
            case measure => rw [iterPos_of hit2, hp0]; omega
      · have hnx : ∀ ty, (Instr.next (.pointer (some ⟨K, 0, none⟩)) true ty).run Tryz.prog wr = _ := fun ty => Lib.run_next_end_at wr K s pos ty hit hp
        have hy := HS.out.done hp
        subst hy
        clear kk km kx HS HST
        go_wp2
        go_returns
        exact ⟨_, rfl, own_low8 hown (by omega), hbw⟩

end Go.Proofs.YtcabanghegddhaaGreatDoor
