/-
  The walk of the specification's Scan.
-/
import Derived.Test.YtcabanghegddhaaGreatDoorTokC
import Derived.Test.YtcabanghegddhaaGreatDoorITokY
namespace Go.Proofs.YtcabanghegddhaaGreatDoor
open Go.RowKit
set_option linter.unusedVariables false

theorem tokN_len {c : UInt8} {r : List UInt8} (h : 0 ≤ (tokN (c :: r)).2) : (tokN (c :: r)).2.toNat ≤ (c :: r).length ∧ 1 ≤ (tokN (c :: r)).2.toNat := by
  obtain ⟨_, h1, h2⟩ := tok_stable (c := c) (r := r) (by rw [tok_same]; exact h)
  rw [tok_same] at h1 h2
  exact ⟨h1, h2⟩
/-- where the specification stands -/
def ScanN (s : ByteArray) (a : Nat) (acc : List (Tok × Nat)) (Y : List (Tok × Nat) × Int) : Prop := ∃ n, s.size - a ≤ n ∧ scanN tokN n (s.data.toList.drop a) a acc = Y
theorem ScanN.ahead {s : ByteArray} {a : Nat} {acc : List (Tok × Nat)} {Y : List (Tok × Nat) × Int} (h : ScanN s a acc Y) (h2 : a < s.size) : ∃ n, s.size - a ≤ n + 1 ∧ scanN tokN (n + 1) (s[a] :: s.data.toList.drop (a + 1)) a acc = Y := by
  obtain ⟨n, hn, hy⟩ := h
  obtain ⟨m, rfl⟩ : ∃ m, n = m + 1 := ⟨n - 1, by omega⟩
  rw [drop_cons s a h2] at hy
  exact ⟨m, hn, hy⟩
theorem ScanN.blank {s : ByteArray} {a : Nat} {acc : List (Tok × Nat)} {Y : List (Tok × Nat) × Int} (h : ScanN s a acc Y) (h2 : a < s.size) (hb : isBlk s[a] = true) : ScanN s (a + 1) acc Y := by
  obtain ⟨n, hn, hy⟩ := h.ahead h2
  rw [scanN, if_pos hb] at hy
  exact ⟨n, by omega, hy⟩
theorem ScanN.fault {s : ByteArray} {a : Nat} {acc : List (Tok × Nat)} {Y : List (Tok × Nat) × Int} (h : ScanN s a acc Y) (h2 : a < s.size) (hb : isBlk s[a] = false) (hf : (tokN (s.data.toList.drop a)).2 < 0 ∨ acc.length = 200) : Y = ([], (a : Int)) := by
  obtain ⟨n, hn, hy⟩ := h.ahead h2
  rw [drop_cons s a h2] at hf
  rw [scanN, if_neg (by rw [hb]; decide), if_pos hf] at hy
  exact hy.symm
theorem ScanN.token {s : ByteArray} {a k : Nat} {t : Tok} {acc : List (Tok × Nat)} {Y : List (Tok × Nat) × Int} (h : ScanN s a acc Y) (h2 : a < s.size) (hb : isBlk s[a] = false) (ht : tokN (s.data.toList.drop a) = (t, (k : Int))) (hl : acc.length ≠ 200) :
    a + k ≤ s.size ∧ 1 ≤ k ∧ ScanN s (a + k) (acc ++ [(t, a)]) Y := by
  obtain ⟨n, hn, hy⟩ := h.ahead h2
  rw [drop_cons s a h2] at ht
  obtain ⟨k1, k2⟩ := tokN_len (c := s[a]) (r := s.data.toList.drop (a + 1)) (by rw [ht]; simp)
  rw [ht, Int.toNat_natCast] at k1 k2
  rw [← drop_cons s a h2, List.length_drop, size_list] at k1
  refine ⟨by omega, k2, n, by omega, ?_⟩
  rw [scanN, if_neg (by rw [hb]; decide), if_neg (by rw [ht]; simp; exact hl), ht, Int.toNat_natCast, ← drop_cons s a h2, List.drop_drop] at hy
  exact hy
theorem ScanN.done {s : ByteArray} {a : Nat} {acc : List (Tok × Nat)} {Y : List (Tok × Nat) × Int} (h : ScanN s a acc Y) (h1 : ¬a < s.size) : Y = (acc, -1) := by
  obtain ⟨n, _, hy⟩ := h
  rw [List.drop_eq_nil_of_le (by rw [size_list]; omega)] at hy
  rw [← hy]
  cases n <;> rfl
theorem own_none (w : World) (B : Nat) (h : B ≤ w.heap.size) : (w.alloc (.cells #[] 30)).ownsRow B 30 4 (.slice (some ⟨w.heap.size, 0, none⟩) 0 0) 0 [] :=
  ⟨rfl, .inr ⟨w.heap.size, 0, #[], rfl, h, heap_alloc_new w _, Nat.le_refl _, Nat.zero_le _, rfl, rfl⟩⟩

set_option maxHeartbeats 4000000 in
set_option maxRecDepth 100000 in
theorem specScan_any (s : ByteArray) (w : World) :
    Calls Tryz.prog 7 #[.string s] w fun e w' => ∃ v, e = .returned (.tuple #[v, .int .i64 (scanL tokN s.data.toList).2]) ∧ w'.ownsRow w.heap.size 30 4 v (scanL tokN s.data.toList).1.length (flatT (scanL tokN s.data.toList).1) ∧ Below w.heap.size w w' := by
  have o0 := own_none w w.heap.size (Nat.le_refl _)
  have b0 : Below w.heap.size w (w.alloc (.cells #[] 30)) := (Below.refl _ _).alloc (Nat.le_refl _) _
  by_cases h6 : 600 < s.size
  · have h6' : (600 : Int) < s.size := by omega
    have e : scanL tokN s.data.toList = ([], 600) := by unfold scanL; rw [if_pos (by rw [size_list]; exact h6)]
    rw [e]
    have HO : Hid ((w.alloc (.cells #[] 30)).ownsRow w.heap.size 30 4 (.slice (some ⟨w.heap.size, 0, none⟩) 0 0) 0 [] ∧ Below w.heap.size w (w.alloc (.cells #[] 30))) := ⟨o0, b0⟩
    clear o0 b0
    go_enter Tryz.func7, Tryz.ntmps7
    go_wp2
    go_returns
    exact ⟨_, rfl, HO.out.1, HO.out.2⟩
  · have h6' : decide ((600 : Int) < s.size) = false := by simp; omega
    have hs : s.size ≤ 1048576 := by omega
    have HST : Hid (ScanN s 0 [] (scanL tokN s.data.toList)) := by
      refine ⟨s.size, Nat.sub_le _ _, ?_⟩
      unfold scanL
      rw [if_neg (by rw [size_list]; omega), size_list]
      rfl
    obtain ⟨Y, hY⟩ : ∃ Y, scanL tokN s.data.toList = Y := ⟨_, rfl⟩
    rw [hY] at HST ⊢
    clear hY
    obtain ⟨i0, hi, hz0, hz1, hz2⟩ := info_parts tokInfo
    obtain ⟨H, hH⟩ : ∃ H, w.heap.size = H := ⟨_, rfl⟩
    rw [hH] at o0 b0 ⊢
    obtain ⟨W0, hW0⟩ : ∃ W, w.alloc (.cells #[] 30) = W := ⟨_, rfl⟩
    rw [hW0] at o0 b0
    go_enter Tryz.func7, Tryz.ntmps7
    go_upto_region 5 with fail
    try simp only [hW0, hH]
    clear hW0
    go_loopw [4, 5] (fun v x wr => ∃ (a : Nat) (acc : List (Tok × Nat)), x = .int .i64 a ∧ wr.ownsRow H 30 4 v acc.length (flatT acc) ∧ Below H w wr ∧ H ≤ wr.heap.size ∧ a ≤ s.size ∧ acc.length ≤ 200 ∧ Hid (ScanN s a acc Y)) (fun _ x _ => s.size - (intOf x).toNat)
    case atStart => exact ⟨0, [], rfl, o0, b0, by have := b0.size; omega, Nat.zero_le _, by simp, HST⟩
    case round =>
      obtain ⟨a, acc, rfl, hown, hbw, hHs, hle, h200, HS⟩ := hrel
      by_cases hp : a < s.size
      · have hp' : (a : Int) < s.size := by omega
        by_cases hbl : isBlk s[a] = true
        · have HS2 : Hid (ScanN s (a + 1) acc Y) := HS.out.blank hp hbl
          clear HS HST
          unfold isBlk at hbl
          simp only [Bool.or_eq_true, decide_eq_true_eq] at hbl
          by_cases h32 : (s[a]).toNat = 32
          · have h32' : ((s[a]).toNat : Int) = 32 := by omega
            clear hbl h32
            go_wp2
            go_roundw
            case rel => exact ⟨a + 1, acc, by go_num, hown, hbw, hHs, by omega, h200, HS2⟩
            case measure => simp [intOf]; omega
          · have h32' : (((s[a]).toNat : Int) == 32) = false := by rw [beq_eq_false_iff_ne]; omega
            by_cases h10 : (s[a]).toNat = 10
            · have h10' : ((s[a]).toNat : Int) = 10 := by omega
              clear hbl h32 h32' h10
              go_wp2
              go_roundw
              case rel => exact ⟨a + 1, acc, by go_num, hown, hbw, hHs, by omega, h200, HS2⟩
              case measure => simp [intOf]; omega
            · have h9' : ((s[a]).toNat : Int) = 9 := by omega
              clear hbl h32 h32' h10
              go_wp2
              go_roundw
              case rel => exact ⟨a + 1, acc, by go_num, hown, hbw, hHs, by omega, h200, HS2⟩
              case measure => simp [intOf]; omega
        · have hb0 : isBlk s[a] = false := by simpa using hbl
          have h32' : (((s[a]).toNat : Int) == 32) = false := by
            rw [beq_eq_false_iff_ne]; intro h; apply hbl; unfold isBlk; rw [decide_eq_true (by omega : (s[a]).toNat = 32)]; rfl
          have h10' : (((s[a]).toNat : Int) == 10) = false := by
            rw [beq_eq_false_iff_ne]; intro h; apply hbl; unfold isBlk; rw [decide_eq_true (by omega : (s[a]).toNat = 10)]; simp
          have h9' : (((s[a]).toNat : Int) == 9) = false := by
            rw [beq_eq_false_iff_ne]; intro h; apply hbl; unfold isBlk; rw [decide_eq_true (by omega : (s[a]).toNat = 9)]; simp
          have cT := fun W => l08Token_any s a W hp hs
          obtain ⟨t, Z, hk⟩ : ∃ t Z, tokN (s.data.toList.drop a) = (t, Z) := ⟨_, _, rfl⟩
          simp only [hk] at cT
          unfold tokV at cT
          by_cases hZ : Z < 0
          · have hy := HS.out.fault hp hb0 (.inl (by rw [hk]; exact hZ))
            subst hy
            clear hk HS HST hb0 hbl
            go_wp2_with fail
            refine (cT _).mono ?_
            rintro e W2 ⟨rfl, b2⟩
            have bb := hbw.trans (b2.mono hHs)
            have s2 := b2.size
            obtain ⟨W3, hW3⟩ : ∃ W, W2.alloc (.cells #[.int .i64 t.kind, .string (txt t.text), .int .u64 (t.num : Int), .int .i64 (a : Int)] 30) = W := ⟨_, rfl⟩
            have b3 : Below H w W3 := by rw [← hW3]; exact bb.alloc (by omega) _
            have s3 : H ≤ W3.heap.size := by rw [← hW3]; simp; omega
            have HO : Hid ((W3.alloc (.cells #[] 30)).ownsRow H 30 4 (.slice (some ⟨W3.heap.size, 0, none⟩) 0 0) 0 [] ∧ Below H w (W3.alloc (.cells #[] 30))) := ⟨own_none W3 H s3, b3.alloc s3 _⟩
            clear b2 cT bb b3
            go_wp2
            try simp only [hW3]
            go_returns
            exact ⟨_, rfl, HO.out.1, HO.out.2⟩
          · obtain ⟨k, rfl⟩ : ∃ k : Nat, Z = k := ⟨Z.toNat, by omega⟩
            have hZ' : decide ((k : Int) < 0) = false := by simp
            obtain ⟨xa, xc, rfl⟩ := own_len hown
            by_cases hacc : acc.length = 200
            · have hy := HS.out.fault hp hb0 (.inr hacc)
              subst hy
              clear hk HS HST hb0 hbl
              simp only [hacc]
              go_wp2_with fail
              refine (cT _).mono ?_
              rintro e W2 ⟨rfl, b2⟩
              have bb := hbw.trans (b2.mono hHs)
              have s2 := b2.size
              obtain ⟨W3, hW3⟩ : ∃ W, W2.alloc (.cells #[.int .i64 t.kind, .string (txt t.text), .int .u64 (t.num : Int), .int .i64 (a : Int)] 30) = W := ⟨_, rfl⟩
              have b3 : Below H w W3 := by rw [← hW3]; exact bb.alloc (by omega) _
              have s3 : H ≤ W3.heap.size := by rw [← hW3]; simp; omega
              have HO : Hid ((W3.alloc (.cells #[] 30)).ownsRow H 30 4 (.slice (some ⟨W3.heap.size, 0, none⟩) 0 0) 0 [] ∧ Below H w (W3.alloc (.cells #[] 30))) := ⟨own_none W3 H s3, b3.alloc s3 _⟩
              clear b2 cT bb b3
              go_wp2
              try simp only [hW3]
              go_returns
              exact ⟨_, rfl, HO.out.1, HO.out.2⟩
            · have hacc' : ((acc.length : Int) == 200) = false := by rw [beq_eq_false_iff_ne]; omega
              obtain ⟨hks, hk1, hS2⟩ := HS.out.token hp hb0 hk hacc
              have HS2 : Hid (ScanN s (a + k) (acc ++ [(t, a)]) Y) := hS2
              clear hk hS2 HS HST hb0 hbl
              go_wp2_with fail
              refine (cT _).mono ?_
              rintro e W2 ⟨rfl, b2⟩
              have s2 := b2.size
              have bb := hbw.trans (b2.mono hHs)
              have hown3 := own_under hown b2
              obtain ⟨W3, hW3⟩ : ∃ W, W2.alloc (.cells #[.int .i64 t.kind, .string (txt t.text), .int .u64 (t.num : Int), .int .i64 (a : Int)] 30) = W := ⟨_, rfl⟩
              have hB : W3.heap[W2.heap.size]? = some (.cells #[.int .i64 t.kind, .string (txt t.text), .int .u64 (t.num : Int), .int .i64 (a : Int)] 30) := by rw [← hW3]; exact heap_alloc_new W2 _
              have bb3 : Below H w W3 := by rw [← hW3]; exact bb.alloc (by omega) _
              have s3 : H ≤ W3.heap.size := by rw [← hW3]; simp; omega
              have hown4 : W3.ownsRow H 30 4 (.slice xa acc.length xc) acc.length (flatT acc) := by rw [← hW3]; exact hown3.alloc _
              go_upto_region 11 with fail
              try simp only [hW3]
              clear hW3 hown3 bb b2 hown hbw cT
              obtain ⟨G, hG⟩ : ∃ G, W2.heap.size = G := ⟨_, rfl⟩
              simp only [hG]
              rw [hG] at hB
              obtain ⟨m0, m1, m2, m3⟩ := cells_four hB
              clear hB
              go_wp2_with (first
                | (at_builtin; refine wpList_append_own _ rfl _ _ 25 rfl H 30 i0 (.agg #[.int .i64 0, .string ⟨#[]⟩, .int .u64 0, .int .i64 0]) 4 40 Tryz.underlying25 hi hz0 hz1 hz2 rfl (by decide) _ _ _ rfl (hown4.alloc _) ⟨W3.heap.size, 0, none⟩ 1 1 [.int .i64 t.kind, .string (txt t.text), .int .u64 (t.num : Int), .int .i64 (a : Int)] rfl rfl (cell_four_new _ _ _ _ _ _) (fun x hx => by simp at hx; rcases hx with rfl | rfl | rfl | rfl <;> rfl) (by unfold maxLen; omega) (by omega) (by simp; omega) ?_; intro v' w5 hown5 hgr5 hnil5
                   have sz5 := hgr5.size
                   have bb5 : Below H w w5 := Below.grown (bb3.alloc s3 _) hgr5 (by simp; omega) (fun j hj => (hown4.lt _ hj).1)
                   have X : Aside (w5.ownsRow H 30 4 v' (acc.length + 1) (flatT acc ++ [.int .i64 t.kind, .string (txt t.text), .int .u64 (t.num : Int), .int .i64 (a : Int)]) ∧ Below H w w5 ∧ H ≤ w5.heap.size) := ⟨hown5, bb5, by simp at sz5; omega⟩
                   clear hown5 bb5 hgr5 hnil5 sz5))
              go_roundw
              case rel =>
                obtain ⟨hown5, bb5, s5⟩ := X.out
                refine ⟨a + k, acc ++ [(t, a)], by go_num, ?_, bb5, s5, hks, by simp; omega, HS2⟩
                rw [flat_snoc, List.length_append]
                exact hown5
              case measure => simp [intOf]; omega
      · have hp' : decide ((a : Int) < s.size) = false := by simp; omega
        have hy := HS.out.done hp
        subst hy
        clear HS HST
        go_wp2
        go_returns
        exact ⟨_, rfl, hown, hbw⟩

end Go.Proofs.YtcabanghegddhaaGreatDoor
