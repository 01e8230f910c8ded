/-
  Part 17 of what is proved of drawn right trees.
-/
import Derived.Test.YtedhfdgcofboeaaPao
import Derived.Test.YtedhfdgcofboeaaPaf
import Derived.Test.YtedhfdgcofboeaaPaj

namespace Go.Proofs.Ytedhfdgcofboeaa
open Go.RowKit
set_option linter.unusedVariables false
theorem ImgOwn.below {w w' : World} {B : Nat} {fv cv : Value} {p : PImg} {fs : List FSh} (h : ImgOwn w B fv cv p fs) (hb : Below w.heap.size w w') : ImgOwn w' B fv cv p fs := by
  obtain ⟨h1, h2, h3, xs, h4, h5⟩ := h
  refine ⟨h1, h2, row_keep h3 hb, xs, row_keep h4 hb, fun q f r hq hr => ?_⟩
  obtain ⟨a, e1, e2, e3, b1, b2, b3⟩ := h5 q f r hq hr
  exact ⟨a, e1, e2, e3, row_keep b1 hb, row_keep b2 hb, row_keep b3 hb⟩
theorem OthersKept.const {w w' : World} {B k n : Nat} {v : Value} {xs : List Value} (h : OthersKept w w') (hr : w.ownsRow B 40 k v n xs) : w'.ownsRow B 40 k v n xs := by
  obtain ⟨h1, h2⟩ := hr
  refine ⟨h1, ?_⟩
  rcases h2 with h2 | ⟨g, cap, cur, e, hb, hg, rest⟩
  · exact .inl h2
  · exact .inr ⟨g, cap, cur, e, hb, h g cur _ _ (by decide) (by decide) (by decide) (by decide) hg, rest⟩
theorem PRow.other {w w' : World} {B B2 k2 n : Nat} {fs : List FSh} {k j s : Nat} {v : Value} {ys : List Value} (h : PRow w B fs k j s) (hr : w.ownsRow B2 40 k2 v n ys) (hg : w.grownBy w' v.ownBlock) : PRow w' B fs k j s := fun q f hq => by
  obtain ⟨y1, y2, y3, a1, a2, a3, b⟩ := h q f hq
  exact ⟨y1, y2, y3, row_other hr a1 (by decide) hg, row_other hr a2 (by decide) hg, row_other hr a3 (by decide) hg, b⟩
set_option maxHeartbeats 1000000 in
set_option maxRecDepth 100000 in
theorem markImage_f (B : Nat) (fv cv : Value) (p : PImg) (fs : List FSh) (k : Nat) (w : World) (h : ImgOwn w B fv cv p fs) (hB : B ≤ w.heap.size) (hf : Few fs k) (hk : 1 ≤ k) (hm : p.consts.length ≤ 8000000) :
    Calls Try.prog 7 #[.agg #[fv, cv], .int .i64 k] w fun e w' => e = .returned (.int .i64 ((offK fs k fs.length + p.consts.length * 3 : Nat) : Int)) ∧ ImgMk w' fv cv fs p.consts.length k ∧ Below B w w' ∧ ∀ (X : Nat) (cs : Array Value) (T : TypeId) (fr : Nat × Nat), T ≠ 46 → T ≠ 73 → T ≠ 75 → T ≠ 77 → T ≠ 40 → w.heap[X]? = some (.cells cs T fr) → w'.heap[X]? = some (.cells cs T fr) := by
  obtain ⟨x2, c2, rfl⟩ := row_slice h.2.2.1
  have hrow : ∃ xs, w.ownsRow B 46 5 fv p.funcs.length xs := by
    obtain ⟨_, _, _, xs, h4, _⟩ := h
    exact ⟨xs, h4⟩
  obtain ⟨xs0, hrow⟩ := hrow
  have hlen := h.1
  rw [← hlen] at hrow
  obtain ⟨x1, c1, rfl⟩ := row_slice hrow
  have b0 : Below w.heap.size w (w.alloc (.cells #[.slice x1 fs.length c1, .slice x2 p.consts.length c2] 25)) := (Below.refl _ _).alloc (Nat.le_refl _) _
  have hbox := heap_alloc_new w (.cells #[.slice x1 fs.length c1, .slice x2 p.consts.length c2] 25)
  have H0 := h.below b0
  have hK1 : k ≤ offK fs k fs.length := by have := offK_le fs k 0; rw [offK_0] at this; exact this
  have hK2 := hf.2
  obtain ⟨Z, hZ⟩ : ∃ z, offK fs k fs.length = z := ⟨_, rfl⟩
  have HZ : Hid (offK fs k fs.length = Z) := hZ
  rw [hZ] at hK1 hK2 ⊢
  obtain ⟨W0, hW0⟩ : ∃ W, w.alloc (.cells #[.slice x1 fs.length c1, .slice x2 p.consts.length c2] 25) = W := ⟨_, rfl⟩
  rw [hW0] at b0 hbox H0
  have hbB : Below B w W0 := b0.mono hB
  have HBX : Hid (∀ X o, w.heap[X]? = some o → W0.heap[X]? = some o) := fun X o hX => (b0.block X (box_lt hX)).trans hX
  have cF : Calls Try.prog 25 #[.slice x1 fs.length c1, .int .i64 k] W0 fun e w' => e = .returned (.int .i64 (Z : Nat)) ∧ (0 < fs.length → ∃ g, x1 = some ⟨g, 0, none⟩ ∧ FRow w' B g c1 fs k fs.length ∧ PRow w' B fs k fs.length 0) ∧ Below B W0 w' ∧ OthersKept W0 w' := by
    rcases Nat.eq_zero_or_pos fs.length with h0 | h0
    · have hz : Z = k := by
        rw [← hZ, h0, offK_0]
      rw [h0, hz]
      exact (markFuncS_0 x1 c1 k W0 (by omega)).mono fun e w' ⟨e1, e2⟩ => ⟨e1, fun hh => by omega, by rw [← e2]; exact Below.refl _ _, by rw [← e2]; exact OthersKept.refl _⟩
    · obtain ⟨g, rfl⟩ : ∃ g, x1 = some ⟨g, 0, none⟩ := by
        rcases hrow.2 with ⟨_, e2⟩ | ⟨g, cap, cur, e1, _⟩
        · omega
        · simp only [Value.slice.injEq] at e1
          exact ⟨g, e1.1⟩
      have hh := ImgOwn.frow (k := k) H0
      have hc := markFuncS_f B g c1 fs k W0 hf H0.2.1 h0 hh.1 hh.2
      rw [hZ] at hc
      exact hc.mono fun e w' ⟨e1, e2, e3, e4, e5⟩ => ⟨e1, fun _ => ⟨g, rfl, e2, e3⟩, e4, e5⟩
  have hrk := H0.2.2.1
  obtain ⟨m, hmm⟩ : ∃ m, p.consts.length = m := ⟨_, rfl⟩
  obtain ⟨n, hn⟩ : ∃ n, fs.length = n := ⟨_, rfl⟩
  have HN : Hid (fs.length = n) := hn
  rw [hmm] at hrk hm hbox ⊢
  rw [hn] at cF hbox ⊢
  have HW0 : Hid (w.alloc (.cells #[.slice x1 n c1, .slice x2 m c2] 25) = W0) := by
    show _ = _
    rw [← hW0, hn, hmm]
  have t0 : W0.cell? ⟨w.heap.size, 0, none⟩ = some (.slice x1 n c1) := box_at hbox 0 _ rfl
  have hB0 : B ≤ W0.heap.size := Nat.le_trans hB b0.size
  clear hW0 hZ hn hmm hrow hlen h H0 b0
  go_enter Try.func7, Try.ntmps7
  go_upto_region 1 with fail
  rw [HW0.out]
  clear HW0
  go_wp2_with fail
  refine cF.mono ?_
  rintro e w1 ⟨rfl, hFP, hb1, ho1⟩
  have hbox1 := ho1 _ _ _ _ (by decide) (by decide) (by decide) (by decide) hbox
  have t1 : w1.cell? ⟨w.heap.size, 1, none⟩ = some (.slice x2 m c2) := box_at hbox1 1 _ rfl
  have hrk1 := ho1.const hrk
  have cC := markConstS_f B _ m Z _ w1 hrk1 hm (by omega) (by omega)
  clear t0 cF
  go_wp2_with fail
  refine cC.mono ?_
  rintro e w2 ⟨rfl, o2, g2⟩
  have HM : Hid (ImgMk w2 (.slice x1 n c1) (.slice x2 m c2) fs m k) := by
    refine ⟨⟨x1, c1, by rw [HN.out], fun h0 => ?_⟩, by rw [HZ.out]; exact ArgFlat.of_own o2⟩
    obtain ⟨g, e1, r1, r2⟩ := hFP (by rw [← HN.out]; exact h0)
    rw [← HN.out] at r1 r2
    have r1' := r1.other hrk1 (by decide) g2
    have r2' := r2.other hrk1 g2
    obtain ⟨cs, hg⟩ := r1'.heap
    exact ⟨g, 0, e1, box_lt hg, mk_at r1' r2'⟩
  have HB : Hid (Below B w w2) := (hbB.trans hb1).grown g2 (Nat.le_trans hB0 hb1.size) (fun Y hY => (own_type hrk1 hY).1)
  have HX2 : Hid (∀ (X : Nat) (cs : Array Value) (T : TypeId) (fr : Nat × Nat), T ≠ 46 → T ≠ 73 → T ≠ 75 → T ≠ 77 → T ≠ 40 → w.heap[X]? = some (.cells cs T fr) → w2.heap[X]? = some (.cells cs T fr)) := fun X cs T fr t1 t2 t3 t4 t5 hX => by
    have a1 := ho1 X cs T fr t1 t2 t3 t4 (HBX.out X _ hX)
    exact (g2.block X (box_lt a1) (fun e1 => row_apart hrk1 a1 t5 e1.symm)).trans a1
  clear t1 cC hFP o2 g2
  go_wp2
  go_ret
  exact ⟨rfl, HM.out, HB.out, HX2.out⟩
end Go.Proofs.Ytedhfdgcofboeaa
namespace Go.Proofs.Ytedhfdgcofboeaa
open Go.RowKit
set_option linter.unusedVariables false
theorem halfs_snoc (k s : Nat) : halfs (k + 1) s = halfS (halfs k s) := by
  induction k generalizing s with
  | zero => rfl
  | succ k ih => exact ih (halfS s)
set_option maxHeartbeats 400000 in
set_option maxRecDepth 100000 in
theorem iHalved (T : Nat) (w : World) (hT : T < 4294967296) :
    Calls Try.prog 96 #[.int .u32 T] w fun e w' => e = .returned (.int .u32 (halfS T : Nat)) ∧ w = w' := by
  have hT2 : (T : Int) < 4294967296 := by omega
  by_cases ho : T % 2 = 1
  · have ho' : ((T : Int) % 2 == 1) = true := by simp; omega
    have hx2 : bits .xor .u32 ((T : Int) / 2) 3558460437 = ((T / 2 ^^^ 3558460437 : Nat) : Int) := u32_xor_nat (T / 2) 3558460437 (by omega) (by omega)
    have HZ : Hid (Unit → halfS T = T / 2 ^^^ 3558460437) := fun _ => by rw [halfS, if_pos ho]
    obtain ⟨Z, hZ⟩ : ∃ Z, T / 2 ^^^ 3558460437 = Z := ⟨_, rfl⟩
    rw [hZ] at hx2 HZ
    clear hZ ho hT
    go_enter Try.func96, Try.ntmps96
    go_wp2
    go_ret
    exact ⟨by rw [HZ.out ()]; rfl, rfl⟩
  · have ho' : ((T : Int) % 2 == 1) = false := by rw [beq_eq_false_iff_ne]; omega
    have HZ : Hid (Unit → halfS T = T / 2) := fun _ => by rw [halfS, if_neg ho]
    clear ho hT
    go_enter Try.func96, Try.ntmps96
    go_wp2
    go_ret
    exact ⟨by rw [HZ.out ()]; rfl, rfl⟩
set_option maxHeartbeats 400000 in
set_option maxRecDepth 100000 in
theorem iHalvedTimes (T : Nat) (k : Nat) (w : World) (hT : T < 4294967296) (hk : k ≤ 8) :
    Calls Try.prog 90 #[.int .u32 T, .int .i64 k] w fun e w' => e = .returned (.int .u32 (halfs k T : Nat)) ∧ w = w' := by
  have HT : Hid (Unit → T < 4294967296) := fun _ => hT
  clear hT
  go_enter Try.func90, Try.ntmps90
  go_wp2
  go_loop [0, 6] (fun x0 x6 => ∃ (j U : Nat), x0 = .int .u32 U ∧ x6 = .int .i64 j ∧ j ≤ k ∧ U = halfs j T ∧ U < 4294967296) (fun _ x6 => k - (intOf x6).toNat)
  case atStart => exact ⟨0, T, rfl, rfl, by omega, rfl, HT.out ()⟩
  case round =>
    obtain ⟨j, U, rfl, rfl, hj, hU, hU1⟩ := hrel
    have HU : Hid (Unit → U = halfs j T) := fun _ => hU
    have HU1 : Hid (Unit → U < 4294967296) := fun _ => hU1
    clear hU hU1
    by_cases hlt : (j : Int) < k
    · go_wp2_with (go_at_call 96; refine (iHalved U _ (HU1.out ())).mono ?_; rintro e w' ⟨rfl, rfl⟩)
      go_round
      case rel => exact ⟨j + 1, halfS U, rfl, by go_num, by omega, by rw [halfs_snoc, ← HU.out ()], halfS_lt (HU1.out ())⟩
      case measure => simp [intOf]; omega
    · have hjk : j = k := by omega
      subst hjk
      go_wp2
      go_ret
      exact ⟨by rw [HU.out ()]; rfl, rfl⟩
set_option maxHeartbeats 1000000 in
set_option maxRecDepth 100000 in
theorem iWith (s : Nat) (t : ByteArray) (w : World) (hs : s < 4294967296) (ht : t.size ≤ 4000000000000000000) :
    Calls Try.prog 72 #[.int .u32 s, .string t] w fun e w' => e = .returned (.int .u32 (sumL s t.data.toList : Nat)) ∧ w = w' := by
  have HT : Hid (Unit → t.size ≤ 4000000000000000000) := fun _ => ht
  have HS : Hid (Unit → s < 4294967296) := fun _ => hs
  clear ht hs
  go_enter Try.func72, Try.ntmps72
  go_wp2
  go_loop [0, 5] (fun x0 x5 => ∃ (k S : Nat), x0 = .int .u32 S ∧ x5 = .int .i64 k ∧ S = sumL s (t.data.toList.take k) ∧ k ≤ t.size) (fun _ x5 => t.size - (intOf x5).toNat)
  case atStart => exact ⟨0, s, rfl, rfl, rfl, Nat.zero_le _⟩
  case round =>
    obtain ⟨k, S, rfl, rfl, hS, hk⟩ := hrel
    have hS1 : S < 4294967296 := by rw [hS]; exact sumL_lt _ (HS.out ())
    have HS1 : Hid (Unit → S < 4294967296) := fun _ => hS1
    have HSS : Hid (Unit → S = sumL s (t.data.toList.take k)) := fun _ => hS
    clear hS
    have ht := HT.out ()
    have hk2 : (k : Int) < 4000000000000000001 := by omega
    by_cases hlt : k < t.size
    · have hc : (t[k]).toNat < 256 := (t[k]).toNat_lt
      have hx : bits .xor .u32 (S : Int) ((t[k]).toNat : Int) = ((S ^^^ (t[k]).toNat : Nat) : Int) := u32_xor_nat _ _ hS1 (by omega)
      obtain ⟨Y, hY⟩ : ∃ Y, S ^^^ (t[k]).toNat = Y := ⟨_, rfl⟩
      rw [hY] at hx
      have HY : Hid (Unit → S ^^^ (t[k]).toNat = Y) := fun _ => hY
      clear hY hS1 ht
      have hc' : ((t[k]).toNat : Int) < 4294967296 := by omega
      clear hc
      go_wp2_with (go_at_call 90; refine (iHalvedTimes Y 8 _ (by rw [← HY.out ()]; exact xor_byte_lt _ (HS1.out ())) (by decide)).mono ?_; rintro e w' ⟨rfl, rfl⟩)
      go_round
      case rel => exact ⟨k + 1, halfs 8 Y, rfl, by go_num, by rw [take_snoc t k hlt, sumL_snoc, ← HSS.out (), ← HY.out ()]; rfl, by omega⟩
      case measure => simp [intOf]; omega
    · have hkk : k = t.size := by omega
      subst hkk
      clear hS1 ht
      go_wp2
      go_ret
      exact ⟨by rw [HSS.out (), take_all]; rfl, rfl⟩
theorem iSumOf_any (t : ByteArray) (w : World) (ht : t.size ≤ 4000000000000000000) :
    Calls Try.prog 39 #[.string t] w fun e w' => e = .returned (.int .u32 (sumL 4294967295 t.data.toList : Nat)) ∧ w = w' := by
  go_enter Try.func39, Try.ntmps39
  go_wp2_with (go_at_call 72; refine (iWith 4294967295 t _ (by decide) ht).mono ?_; rintro e w' ⟨rfl, rfl⟩)
  have HL : Hid (Unit → sumL 4294967295 t.data.toList < 4294967296) := fun _ => sumL_lt _ (by decide)
  generalize sumL 4294967295 t.data.toList = L at *
  have hL : (L : Int) < 4294967296 := by have := HL.out (); omega
  go_wp2
  go_ret
  exact ⟨rfl, rfl⟩
theorem iSumOf (t : ByteArray) (w : World) (ht : t.size ≤ 1048576) :
    Calls Try.prog 39 #[.string t] w fun e w' => e = .returned (.int .u32 (sumL 4294967295 t.data.toList : Nat)) ∧ Below w.heap.size w w' :=
  (iSumOf_any t w (by omega)).mono (by rintro e w' ⟨rfl, rfl⟩; exact ⟨rfl, Below.refl _ _⟩)
end Go.Proofs.Ytedhfdgcofboeaa
namespace Go.Proofs.Ytedhfdgcofboeaa
open Go.RowKit
set_option linter.unusedVariables false
set_option maxHeartbeats 400000 in
set_option maxRecDepth 100000 in
theorem iInBytes (x : Nat) (w : World) (hx : x < 4294967296) :
    Calls Try.prog 40 #[.int .u32 x] w fun e w' => e = .returned (.string (strOfNums (fourB x))) ∧ Below w.heap.size w w' := by
  have hx' : (x : Int) < 4294967296 := by omega
  have hcv := four_conv w
  clear hx
  go_enter Try.func40, Try.ntmps40
  go_wp2
  go_ret
  exact ⟨by simp only [fourB, Int.natCast_ediv, Int.natCast_emod]; rfl, (Below.refl _ _).alloc (Nat.le_refl _) _⟩
end Go.Proofs.Ytedhfdgcofboeaa
namespace Go.Proofs.Ytedhfdgcofboeaa
open Go.RowKit Go.Sort
set_option linter.unusedVariables false
set_option maxHeartbeats 1000000 in
set_option maxRecDepth 100000 in
theorem iUnsealed_out (t : ByteArray) (w : World) (h : t.size < 4 ∨ 12004 < t.size) (hm : t.size ≤ 1048576) :
    Calls Try.prog 16 #[.string t] w fun e w' => e = .returned (.tuple #[.string ⟨#[]⟩, .bool false]) ∧ Below w.heap.size w w' := by
  rcases h with h | h
  · have h1 : (t.size : Int) - 4 < 0 := by omega
    go_enter Try.func16, Try.ntmps16
    go_wp2
    go_ret2
    exact ⟨rfl, Below.refl _ _⟩
  · have h1 : decide ((t.size : Int) - 4 < 0) = false := by simp; omega
    have h2 : (12000 : Int) < (t.size : Int) - 4 := by omega
    go_enter Try.func16, Try.ntmps16
    go_wp2
    go_ret2
    exact ⟨rfl, Below.refl _ _⟩
theorem iClone (t : ByteArray) (w : World) (ht : t.size ≤ 281474976710656) :
    Calls Try.prog 41 #[.string t] w fun e w' => e = .returned (.string t) ∧ Below w.heap.size w w' := by
  go_enter Try.func41, Try.ntmps41
  go_wp2_with (go_at_call 73; refine (Try.stringslite_Clone t _ ht).mono ?_; rintro e w' ⟨rfl, hb⟩)
  go_ret
  exact ⟨rfl, hb⟩
theorem text_eq_comm (a b : ByteArray) : (a.toList == b.toList) = (b.toList == a.toList) := by
  rw [Bool.eq_iff_iff]
  simp only [beq_iff_eq]
  exact eq_comm
set_option maxHeartbeats 2000000 in
set_option maxRecDepth 100000 in
theorem iUnsealed_in (t : ByteArray) (w : World) (h1 : 4 ≤ t.size) (h2 : t.size ≤ 12004) :
    Calls Try.prog 16 #[.string t] w fun e w' => e = .returned (unsealedV t) ∧ Below w.heap.size w w' := by
  have d1 : decide ((t.size : Int) - 4 < 0) = false := by simp; omega
  have d2 : decide ((12000 : Int) < (t.size : Int) - 4) = false := by simp; omega
  have hin : (t.extract 0 (t.size - 4)).size ≤ 1048576 := by rw [ByteArray.size_extract]; omega
  obtain ⟨Y, hY⟩ : ∃ Y, sumL 4294967295 (t.extract 0 (t.size - 4)).data.toList = Y := ⟨_, rfl⟩
  have hY1 : Y < 4294967296 := by rw [← hY]; exact sumL_lt _ (by decide)
  have hSum := fun W => iSumOf (t.extract 0 (t.size - 4)) W hin
  have hClone := fun W => iClone (t.extract 0 (t.size - 4)) W (by omega)
  have HOK : Hid (Unit → sealOk t = ((strOfNums (fourB Y)).toList == (t.extract (t.size - 4) t.size).toList)) := fun _ => by unfold sealOk innerS; rw [hY, text_eq_comm]
  rw [hY] at hSum
  clear hY
  obtain ⟨F, hF⟩ : ∃ F, strOfNums (fourB Y) = F := ⟨_, rfl⟩
  have hFour := fun W => iInBytes Y W hY1
  rw [hF] at hFour HOK
  clear hF hY1
  have cQ1 := fun d os => Calls.regrown_of (w := w) (d := d) (os := os) (hSum (grow (redrawn w d) os))
  have cQ2 := fun d os => Calls.regrown_of (w := w) (d := d) (os := os) (hFour (grow (redrawn w d) os))
  clear hSum hFour
  clear hin
  go_enter Try.func16, Try.ntmps16
  go_wp2
  refine wp_region_quiet_below (by kernel_rfl) (by kernel_rfl) ?_
  repeat (first | go_big_quiet_step (first | exact cQ1 _ _ | exact cQ2 _ _) | quiet_step (first | exact cQ1 _ _ | exact cQ2 _ _))
  refine wpQuiet_nil ?_
  intro _ hw'
  obtain ⟨⟨dq, osq⟩, hw''⟩ := hw'
  subst hw''
  obtain ⟨c, hc⟩ : ∃ c, (F.toList == (t.extract (t.size - 4) t.size).toList) = c := ⟨_, rfl⟩
  simp only [hc]
  have HC : Hid (Unit → sealOk t = c) := fun _ => (HOK.out ()).trans hc
  clear HOK hc
  cases c
  · go_wp2
    go_ret2
    exact ⟨by rw [unsealedV_no (HC.out ())]; rfl, below_regrown w dq osq⟩
  · go_wp2_with (go_at_call 41; refine (hClone _).mono ?_; rintro e w' ⟨rfl, hb⟩)
    go_ret2
    exact ⟨by rw [unsealedV_yes (HC.out ())]; rfl, chain (below_regrown w dq osq) hb⟩
end Go.Proofs.Ytedhfdgcofboeaa
