/-
  The program's own capText, constText.
-/
import Derived.Test.YtgaphgejpnepfaaITxt15C
namespace Go.Proofs.Ytgaphgejpnepfaa
open Go.RowKit Go.Sort
set_option linter.unusedVariables false

set_option maxHeartbeats 1000000 in
set_option maxRecDepth 100000 in
theorem iCapText_true (x : Nat) (w : World) (hx : x ≤ 1000000000) :
    Calls Try.prog 112 #[.agg #[.bool true, .int .i64 (x : Int)]] w fun e w' => e = .returned (.string (strOfNums [1] ++ strOfNums (varB x))) ∧ Below w.heap.size w w' := by
  have cB := fun W => iByteText 1 W (by omega) (by omega)
  have nr := fun W : World => numRow_new W [x] #[.int .i64 (x : Int)] rfl
  have nrd := fun W : World => (show NumRow (W.alloc (.cells #[.int .i64 (x : Int)] 3)).drew W.heap.size [x] from nr W)
  have cV := varTexts1 x hx
  have s2 : (strOfNums (varB x)).size ≤ 10 := by
    rw [strOfNums_size]
    have := varN_few hx
    omega
  have s1 : (strOfNums [1]).size = 1 := by rw [strOfNums_size]; rfl
  obtain ⟨T, eT⟩ : ∃ T, strOfNums (varB x) = T := ⟨_, rfl⟩
  obtain ⟨U, eU⟩ : ∃ U, strOfNums [1] = U := ⟨_, rfl⟩
  simp only [eT] at cV s2 ⊢
  simp only [eU] at cB s1 ⊢
  clear eT eU hx
  have b0 : Below w.heap.size w (w.alloc (.cells #[.bool true, .int .i64 (x : Int)] 81)) := (Below.refl _ _).alloc (Nat.le_refl _) _
  have HK0 : ∀ W, Below (w.alloc (.cells #[.bool true, .int .i64 (x : Int)] 81)).heap.size (w.alloc (.cells #[.bool true, .int .i64 (x : Int)] 81)) W → W.cell? ⟨w.heap.size, 0, none⟩ = some (.bool true) ∧ W.cell? ⟨w.heap.size, 1, none⟩ = some (.int .i64 (x : Int)) := fun W hW => ⟨new_cell hW 0 _ rfl, new_cell hW 1 _ rfl⟩
  obtain ⟨X, hX⟩ : ∃ X, w.heap.size = X := ⟨_, rfl⟩
  obtain ⟨W0, hW0⟩ : ∃ W, (w.alloc (.cells #[.bool true, .int .i64 (x : Int)] 81)) = W := ⟨_, rfl⟩
  simp only [hW0] at b0
  have b1 : ∀ V, Below W0.heap.size W0 V → Below X w V := fun V h => by rw [← hX]; exact chain b0 h
  have b2 : ∀ V, Below W0.heap.size W0 V → Below w.heap.size w V := fun V h => chain b0 h
  simp only [hW0, hX] at HK0
  have x0 := (HK0 W0 (Below.refl _ _)).1
  have HK : Hid (∀ W, Below W0.heap.size W0 W → W.cell? ⟨X, 1, none⟩ = some (.int .i64 (x : Int))) := fun W h => (HK0 W h).2
  clear HK0 b0
  have bN : ∀ (W : World) cs t, Below W.heap.size W (W.alloc (.cells cs t)) := fun W cs t => (Below.refl _ _).alloc (Nat.le_refl _) _
  have hA : ∀ {W V}, Below W0.heap.size W0 W → Below W.heap.size W V → Hid (Below W0.heap.size W0 V) := fun h k => chain h k
  have hR : ∀ {W V b}, NumRow W b [x] → Below W.heap.size W V → Hid (NumRow V b [x]) := fun h k => h.below k
  go_enter Try.func112, Try.ntmps112
  go_upto_region 1 with fail
  try simp only [hW0, hX]
  clear hW0 hX
  go_upto_region 2 with fail
  go_region_held_law (fun W => W.cell? ⟨X, 1, none⟩ = some (.int .i64 (x : Int)))
    (exact HK.out _ (by first | with_reducible exact Below.refl _ _ | with_reducible exact (Below.refl _ _).drew | with_reducible exact HB2.out | with_reducible exact RowKit.Below.drew HB2.out | with_reducible exact HB1.out | with_reducible exact RowKit.Below.drew HB1.out | with_reducible exact bN _ _ _ | with_reducible exact RowKit.Below.drew (bN _ _ _) | with_reducible exact chain HB1.out (bN _ _ _) | with_reducible exact chain HB1.out (RowKit.Below.drew (bN _ _ _))))
    (first
      | (go_at_call 108; (with_reducible refine (cB _).mono ?_); rintro e w1 ⟨rfl, hb1⟩; have HB1 := hA (by first | with_reducible exact Below.refl _ _ | with_reducible exact (Below.refl _ _).drew | with_reducible exact bN _ _ _ | with_reducible exact RowKit.Below.drew (bN _ _ _)) hb1; (first | have HR := hR (nr W0) hb1 | have HR := hR (nrd W0) hb1 | skip))
      | (go_at_call 106; (with_reducible refine (cV _ _ _ (by first | with_reducible exact HR.out | with_reducible exact nr _ | with_reducible exact nrd _)).mono ?_); rintro e w2 ⟨rfl, hb2⟩; have HB2 := hA (by first | with_reducible exact HB1.out | with_reducible exact RowKit.Below.drew HB1.out | with_reducible exact chain HB1.out (bN _ _ _) | with_reducible exact chain HB1.out (RowKit.Below.drew (bN _ _ _))) hb2))
  all_goals
    go_wp2
    go_ret
    exact ⟨rfl, by first | exact b1 _ HB2.out | exact b1 _ (RowKit.Below.drew HB2.out) | exact b2 _ HB2.out | exact b2 _ (RowKit.Below.drew HB2.out)⟩

set_option maxHeartbeats 1000000 in
set_option maxRecDepth 100000 in
theorem iCapText_false (x : Nat) (w : World) (hx : x ≤ 1000000000) :
    Calls Try.prog 112 #[.agg #[.bool false, .int .i64 (x : Int)]] w fun e w' => e = .returned (.string (strOfNums [0] ++ strOfNums (varB x))) ∧ Below w.heap.size w w' := by
  have cB := fun W => iByteText 0 W (by omega) (by omega)
  have nr := fun W : World => numRow_new W [x] #[.int .i64 (x : Int)] rfl
  have nrd := fun W : World => (show NumRow (W.alloc (.cells #[.int .i64 (x : Int)] 3)).drew W.heap.size [x] from nr W)
  have cV := varTexts1 x hx
  have s2 : (strOfNums (varB x)).size ≤ 10 := by
    rw [strOfNums_size]
    have := varN_few hx
    omega
  have s1 : (strOfNums [0]).size = 1 := by rw [strOfNums_size]; rfl
  obtain ⟨T, eT⟩ : ∃ T, strOfNums (varB x) = T := ⟨_, rfl⟩
  obtain ⟨U, eU⟩ : ∃ U, strOfNums [0] = U := ⟨_, rfl⟩
  simp only [eT] at cV s2 ⊢
  simp only [eU] at cB s1 ⊢
  clear eT eU hx
  have b0 : Below w.heap.size w (w.alloc (.cells #[.bool false, .int .i64 (x : Int)] 81)) := (Below.refl _ _).alloc (Nat.le_refl _) _
  have HK0 : ∀ W, Below (w.alloc (.cells #[.bool false, .int .i64 (x : Int)] 81)).heap.size (w.alloc (.cells #[.bool false, .int .i64 (x : Int)] 81)) W → W.cell? ⟨w.heap.size, 0, none⟩ = some (.bool false) ∧ W.cell? ⟨w.heap.size, 1, none⟩ = some (.int .i64 (x : Int)) := fun W hW => ⟨new_cell hW 0 _ rfl, new_cell hW 1 _ rfl⟩
  obtain ⟨X, hX⟩ : ∃ X, w.heap.size = X := ⟨_, rfl⟩
  obtain ⟨W0, hW0⟩ : ∃ W, (w.alloc (.cells #[.bool false, .int .i64 (x : Int)] 81)) = W := ⟨_, rfl⟩
  simp only [hW0] at b0
  have b1 : ∀ V, Below W0.heap.size W0 V → Below X w V := fun V h => by rw [← hX]; exact chain b0 h
  have b2 : ∀ V, Below W0.heap.size W0 V → Below w.heap.size w V := fun V h => chain b0 h
  simp only [hW0, hX] at HK0
  have x0 := (HK0 W0 (Below.refl _ _)).1
  have HK : Hid (∀ W, Below W0.heap.size W0 W → W.cell? ⟨X, 1, none⟩ = some (.int .i64 (x : Int))) := fun W h => (HK0 W h).2
  clear HK0 b0
  have bN : ∀ (W : World) cs t, Below W.heap.size W (W.alloc (.cells cs t)) := fun W cs t => (Below.refl _ _).alloc (Nat.le_refl _) _
  have hA : ∀ {W V}, Below W0.heap.size W0 W → Below W.heap.size W V → Hid (Below W0.heap.size W0 V) := fun h k => chain h k
  have hR : ∀ {W V b}, NumRow W b [x] → Below W.heap.size W V → Hid (NumRow V b [x]) := fun h k => h.below k
  go_enter Try.func112, Try.ntmps112
  go_upto_region 1 with fail
  try simp only [hW0, hX]
  clear hW0 hX
  go_upto_region 3 with fail
  go_region_held_law (fun W => W.cell? ⟨X, 1, none⟩ = some (.int .i64 (x : Int)))
    (exact HK.out _ (by first | with_reducible exact Below.refl _ _ | with_reducible exact (Below.refl _ _).drew | with_reducible exact HB2.out | with_reducible exact RowKit.Below.drew HB2.out | with_reducible exact HB1.out | with_reducible exact RowKit.Below.drew HB1.out | with_reducible exact bN _ _ _ | with_reducible exact RowKit.Below.drew (bN _ _ _) | with_reducible exact chain HB1.out (bN _ _ _) | with_reducible exact chain HB1.out (RowKit.Below.drew (bN _ _ _))))
    (first
      | (go_at_call 108; (with_reducible refine (cB _).mono ?_); rintro e w1 ⟨rfl, hb1⟩; have HB1 := hA (by first | with_reducible exact Below.refl _ _ | with_reducible exact (Below.refl _ _).drew | with_reducible exact bN _ _ _ | with_reducible exact RowKit.Below.drew (bN _ _ _)) hb1; (first | have HR := hR (nr W0) hb1 | have HR := hR (nrd W0) hb1 | skip))
      | (go_at_call 106; (with_reducible refine (cV _ _ _ (by first | with_reducible exact HR.out | with_reducible exact nr _ | with_reducible exact nrd _)).mono ?_); rintro e w2 ⟨rfl, hb2⟩; have HB2 := hA (by first | with_reducible exact HB1.out | with_reducible exact RowKit.Below.drew HB1.out | with_reducible exact chain HB1.out (bN _ _ _) | with_reducible exact chain HB1.out (RowKit.Below.drew (bN _ _ _))) hb2))
  all_goals
    go_wp2
    go_ret
    exact ⟨rfl, by first | exact b1 _ HB2.out | exact b1 _ (RowKit.Below.drew HB2.out) | exact b2 _ HB2.out | exact b2 _ (RowKit.Below.drew HB2.out)⟩

theorem iCapText (p : PCap) (w : World) (hp : capOk p = true) :
    Calls Try.prog 112 #[.agg #[.bool p.reg, .int .i64 p.index]] w fun e w' => e = .returned (.string (strOfNums (capT p))) ∧ Below w.heap.size w w' := by
  have hle := capOk_le hp
  obtain ⟨x, ex, tx⟩ := nat_of hle.1
  unfold capT
  rw [tx, ex]
  cases p.reg with
  | true =>
    have h := iCapText_true x w (by omega)
    rw [← strNums_append] at h
    exact h
  | false =>
    have h := iCapText_false x w (by omega)
    rw [← strNums_append] at h
    exact h

theorem str_nums (s : ByteArray) : strOfNums (numsOf s) = s := by
  unfold strOfNums numsOf
  apply ByteArray.ext
  rw [List.map_map]
  have e : ((fun (n : Int) => UInt8.ofNat n.toNat) ∘ fun (b : UInt8) => (b.toNat : Int)) = id := by
    funext b
    simp
  rw [e]
  simp


set_option maxHeartbeats 1000000 in
set_option maxRecDepth 100000 in
theorem iConstText_num (x : Nat) (s : ByteArray) (w : World) (hx : x < 18446744073709551616) :
    Calls Try.prog 50 #[.agg #[.int .i64 1, .int .u64 (x : Int), .string s]] w fun e w' => e = .returned (.string (strOfNums [1] ++ strOfNums (eightK 8 x))) ∧ Below w.heap.size w w' := by
  have cB := fun W => iByteText 1 W (by omega) (by omega)
  have s1 : (strOfNums [1]).size = 1 := by rw [strOfNums_size]; rfl
  have cN := fun W => iNumText x W hx
  have s2 : (strOfNums (eightK 8 x)).size = 8 := by rw [strOfNums_size, eightK_len]
  obtain ⟨T, eT⟩ : ∃ T, strOfNums (eightK 8 x) = T := ⟨_, rfl⟩
  simp only [eT] at cN s2 ⊢
  clear eT hx
  obtain ⟨U, eU⟩ : ∃ U, strOfNums [1] = U := ⟨_, rfl⟩
  simp only [eU] at cB s1 ⊢
  clear eU
  have b0 : Below w.heap.size w (w.alloc (.cells #[.int .i64 1, .int .u64 (x : Int), .string s] 71)) := (Below.refl _ _).alloc (Nat.le_refl _) _
  go_enter Try.func50, Try.ntmps50
  go_wp2_with (go_at_call 108; (with_reducible refine (cB _).mono ?_); rintro e w1 ⟨rfl, hb1⟩; have k0 := new_cell hb1 0 _ rfl; have k1 := new_cell hb1 1 _ rfl; have k2 := new_cell hb1 2 _ rfl; have hY := chain b0 hb1; clear b0 hb1)
  go_wp2_with (go_at_call 109; (with_reducible refine (cN _).mono ?_); rintro e w2 ⟨rfl, hb2⟩)
  go_ret
  exact ⟨rfl, chain hY hb2⟩

set_option maxHeartbeats 1000000 in
set_option maxRecDepth 100000 in
theorem iConstText_text (x : Nat) (s : ByteArray) (w : World) (hs : s.size ≤ 40) :
    Calls Try.prog 50 #[.agg #[.int .i64 2, .int .u64 (x : Int), .string s]] w fun e w' => e = .returned (.string (strOfNums [2] ++ (strOfNums (varB s.size) ++ s))) ∧ Below w.heap.size w w' := by
  have cB := fun W => iByteText 2 W (by omega) (by omega)
  have s1 : (strOfNums [2]).size = 1 := by rw [strOfNums_size]; rfl
  have cN := fun W => implShortText_in s W (by omega)
  have s2 : (strOfNums (varB s.size) ++ s).size ≤ 45 := by
    rw [ByteArray.size_append, strOfNums_size]
    have := varN_few (x := s.size) (by omega)
    omega
  obtain ⟨T, eT⟩ : ∃ T, strOfNums (varB s.size) ++ s = T := ⟨_, rfl⟩
  simp only [eT] at cN s2 ⊢
  clear eT hs
  obtain ⟨U, eU⟩ : ∃ U, strOfNums [2] = U := ⟨_, rfl⟩
  simp only [eU] at cB s1 ⊢
  clear eU
  have b0 : Below w.heap.size w (w.alloc (.cells #[.int .i64 2, .int .u64 (x : Int), .string s] 71)) := (Below.refl _ _).alloc (Nat.le_refl _) _
  go_enter Try.func50, Try.ntmps50
  go_wp2_with (go_at_call 108; (with_reducible refine (cB _).mono ?_); rintro e w1 ⟨rfl, hb1⟩; have k0 := new_cell hb1 0 _ rfl; have k1 := new_cell hb1 1 _ rfl; have k2 := new_cell hb1 2 _ rfl; have hY := chain b0 hb1; clear b0 hb1)
  go_wp2_with (go_at_call 110; (with_reducible refine (cN _).mono ?_); rintro e w2 ⟨rfl, hb2⟩)
  go_ret
  exact ⟨rfl, chain hY hb2⟩

set_option maxHeartbeats 1000000 in
set_option maxRecDepth 100000 in
theorem iConstText_other (k : Int) (x : Nat) (s : ByteArray) (w : World) (h1 : 3 ≤ k) (h2 : k ≤ 5) :
    Calls Try.prog 50 #[.agg #[.int .i64 k, .int .u64 (x : Int), .string s]] w fun e w' => e = .returned (.string (strOfNums [k])) ∧ Below w.heap.size w w' := by
  have cB := fun W => iByteText k W (by omega) (by omega)
  have s1 : (strOfNums [k]).size = 1 := by rw [strOfNums_size]; rfl
  have k1 : (k == 1) = false := by simp; omega
  have k2 : (k == 2) = false := by simp; omega
  have k1' : ¬ k = 1 := by omega
  have k2' : ¬ k = 2 := by omega
  obtain ⟨U, eU⟩ : ∃ U, strOfNums [k] = U := ⟨_, rfl⟩
  simp only [eU] at cB s1 ⊢
  clear eU
  have b0 : Below w.heap.size w (w.alloc (.cells #[.int .i64 k, .int .u64 (x : Int), .string s] 71)) := (Below.refl _ _).alloc (Nat.le_refl _) _
  go_enter Try.func50, Try.ntmps50
  go_wp2_with (go_at_call 108; (with_reducible refine (cB _).mono ?_); rintro e w1 ⟨rfl, hb1⟩; have k0 := new_cell hb1 0 _ rfl; have k1 := new_cell hb1 1 _ rfl; have k2 := new_cell hb1 2 _ rfl; have hY := chain b0 hb1; clear b0 hb1)
  go_ret
  exact ⟨rfl, hY⟩

theorem iConstText (p : PCon) (w : World) (hp : conOk p = true) (hw : conW p) :
    Calls Try.prog 50 #[.agg #[.int .i64 p.kind, .int .u64 (p.num : Int), .string p.text]] w fun e w' => e = .returned (.string (strOfNums (conT p))) ∧ Below w.heap.size w w' := by
  have hle := conOk_le hp
  have hx : p.num < 18446744073709551616 := hw.2.1
  unfold conT
  by_cases h1 : p.kind = 1
  · have h := iConstText_num p.num p.text w hx
    rw [← strNums_append] at h
    rw [h1]
    simpa using h
  · by_cases h2 : p.kind = 2
    · have h := iConstText_text p.num p.text w hle.2
      have e : strOfNums [2] ++ (strOfNums (varB p.text.size) ++ p.text) = strOfNums (2 :: (varB p.text.size ++ numsOf p.text)) := by
        rw [show (2 :: (varB p.text.size ++ numsOf p.text) : List Int) = [2] ++ (varB p.text.size ++ numsOf p.text) from rfl, strNums_append [2], strNums_append, str_nums]
      rw [e] at h
      rw [h2]
      simpa [shortB] using h
    · have h := iConstText_other p.kind p.num p.text w (by omega) (by omega)
      rw [if_neg h1, if_neg h2]
      exact h

end Go.Proofs.Ytgaphgejpnepfaa
