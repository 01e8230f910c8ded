/-
  The specification's ShowFunc.
-/
import Derived.Test.YtojmmmfboahkgaaDoorIns20
import Derived.Test.YtojmmmfboahkgaaDoorImg13F
import Derived.Test.YtojmmmfboahkgaaDoorImg13T
import Derived.Test.YtojmmmfboahkgaaDoorRow15
namespace Go.Proofs.YtojmmmfboahkgaaDoor
open Go.RowKit Go.Sort
set_option linter.unusedVariables false

def funText20 (l : List PIns) : List Int := l.flatMap fun i => numsOf (insText i) ++ [10]
def codeIn20 (p : PImg) (k : Int) : List PIns := match p.funcs[k.toNat]? with
  | some f => f.code
  | none => []
def showF (p : PImg) (k : Int) : ByteArray := if imgOk p = true ∧ 0 ≤ k ∧ k < (p.funcs.length : Int) then strOfNums (funText20 (codeIn20 p k)) else ⟨#[]⟩
theorem showF_no {p : PImg} {k : Int} (h : ¬ (imgOk p = true ∧ 0 ≤ k ∧ k < (p.funcs.length : Int))) : showF p k = ⟨#[]⟩ := if_neg h
theorem showF_yes {p : PImg} {k : Nat} {f : PFun} (h1 : imgOk p = true) (h2 : p.funcs[k]? = some f) : showF p (k : Int) = strOfNums (funText20 f.code) := by
  have h3 : k < p.funcs.length := (List.getElem?_eq_some_iff.1 h2).1
  unfold showF codeIn20
  rw [if_pos ⟨h1, by omega, by omega⟩, Int.toNat_natCast, h2]
theorem numsOf_line (s : ByteArray) : numsOf (s ++ ⟨#[10]⟩) = numsOf s ++ [10] := by
  unfold numsOf
  rw [ByteArray.data_append, Array.toList_append, List.map_append]
  rfl
theorem funText_more {l : List PIns} {i : Nat} {x : PIns} (h : l[i]? = some x) : funText20 (l.take (i + 1)) = funText20 (l.take i) ++ numsOf (insText x ++ ⟨#[10]⟩) := by
  unfold funText20
  rw [List.take_add_one, h, List.flatMap_append, numsOf_line]
  simp
theorem insText_size (i : PIns) (h : insW i) : (insText i).size ≤ 51 := by
  obtain ⟨_, ha, hb⟩ := h
  unfold I64 at ha hb
  have k1 := insWord_size i.op.toNat
  have k2 := decA_size i.a (by omega) (by omega)
  have k3 := decA_size i.b (by omega) (by omega)
  have h1 : (⟨#[32]⟩ : ByteArray).size = 1 := rfl
  unfold insText
  split
  · split
    · omega
    · split
      · simp only [ByteArray.size_append, h1]
        omega
      · simp only [ByteArray.size_append, h1]
        omega
  · exact Nat.zero_le _
theorem funText_len {l : List PIns} {n : Nat} (h : l.length ≤ n) (hw : ∀ x ∈ l, insW x) : (funText20 l).length ≤ 52 * n := by
  induction l generalizing n with
  | nil => exact Nat.zero_le _
  | cons a l ih =>
    rw [List.length_cons] at h
    have h1 := ih (n := n - 1) (by omega) (fun x hx => hw x (List.mem_cons_of_mem _ hx))
    have h2 := insText_size a (hw a (List.mem_cons_self ..))
    have h3 : (funText20 (a :: l)).length = (numsOf (insText a)).length + 1 + (funText20 l).length := by
      unfold funText20
      simp
      omega
    rw [h3, numsOf_len]
    omega
theorem all_code20 {p : PImg} {K : Nat} {f : PFun} (h : imgOk p = true) (hf : p.funcs[K]? = some f) : f.code.length ≤ 300 := by
  have hm : f ∈ p.funcs := List.mem_of_getElem? hf
  unfold imgOk at h
  simp only [Bool.and_eq_true, List.all_eq_true] at h
  have h1 := h.2.2.2.1 f hm
  unfold funOk inB at h1
  simp only [Bool.and_eq_true, decide_eq_true_eq] at h1
  omega
theorem Tryd.infoU8 : (Tryd.prog.info? 5).map (fun i => (i.zero, i.size, i.bytes)) = some (some (.int .u8 0), 1, 1) := by kernel_rfl
theorem ownB_begin (w : World) (B : Nat) (e : TypeId) (hB : B ≤ w.heap.size) : OwnB (w.alloc (.cells #[] e)) B e (.slice (some ⟨w.heap.size, 0, none⟩) 0 0) [] :=
  ⟨w.heap.size, 0, #[], _, rfl, hB, heap_alloc_new w _, .inl rfl, Nat.le_refl _, Nat.zero_le _, rfl, rfl⟩

set_option maxHeartbeats 1000000 in
set_option maxRecDepth 100000 in
theorem specShowFunc_any (p : PImg) (k : Int) (fv cv : Value) (w : World) (h : ArgImg w fv cv p) (hw : imgW p) :
    Calls Tryd.prog 9 #[.agg #[fv, cv], .int .i64 k] w fun e w' => e = .returned (.string (showF p k)) ∧ Below w.heap.size w w' := by
  obtain ⟨i0, hi, hz0, hz1, hz2⟩ := info_in Tryd.infoU8
  have hcs : ∀ (W : World) (s : ByteArray), (convert 9 49 (.string s)).run Tryd.prog W = .ok (.slice (some ⟨W.heap.size, 0, none⟩) s.size (grownCap W s.size 0 5)) (Lib.bytesWorld W 5 s) := fun W s => Lib.run_convert_string_bytes W 9 49 5 s Tryd.underlying9 Tryd.underlying49 Tryd.underlying5
  have cI := fun W (hb : Below w.heap.size w W) => specImageOk_any p fv cv W (h.below hb) hw
  obtain ⟨bI, eI⟩ : ∃ b, imgOk p = b := ⟨_, rfl⟩
  simp only [eI] at cI
  have HBI : Hid (imgOk p = bI) := eI
  have HFW : Hid (∀ f ∈ p.funcs, ∀ x ∈ f.code, insW x) := fun f hf => (hw.funcs f hf).code
  clear eI hw
  obtain ⟨hF, hC⟩ := h
  obtain ⟨x1, c1, rfl, m1, o1⟩ := hF
  obtain ⟨x2, c2, rfl, m2, _⟩ := hC.opened conC_len
  clear hC
  unfold maxLen at m1 m2
  obtain ⟨n1, e1⟩ : ∃ n, p.funcs.length = n := ⟨_, rfl⟩
  obtain ⟨n2, e2⟩ : ∃ n, p.consts.length = n := ⟨_, rfl⟩
  rw [e1] at m1 o1 cI ⊢
  rw [e2] at m2 cI ⊢
  have H1 : Hid (0 < n1 → ∃ b o, x1 = some ⟨b, o, none⟩ ∧ b < w.heap.size ∧ ∀ j q, p.funcs[j]? = some q → ∃ cv kv hv, FunAt w b (o + j * 5) q cv kv hv) := o1
  have E1 : Hid (p.funcs.length = n1) := e1
  clear o1 e1 e2
  obtain ⟨F, hF⟩ : ∃ F, showF p k = F := ⟨_, rfl⟩
  have HF : Hid (showF p k = F) := hF
  rw [hF]
  clear hF
  have cR := fun W => l01In_b k 0 ((n1 : Int) - 1) W
  obtain ⟨bR, eR⟩ : ∃ b, inB k 0 ((n1 : Int) - 1) = b := ⟨_, rfl⟩
  simp only [eR] at cR
  have HR : Hid (inB k 0 ((n1 : Int) - 1) = bR) := eR
  clear eR
  have b0 : Below w.heap.size w (w.alloc (.cells #[.slice x1 n1 c1, .slice x2 n2 c2] 37)) := (Below.refl _ _).alloc (Nat.le_refl _) _
  have k1 := fun W (h : Below _ _ W) => new_cell (w := w) (cs := #[.slice x1 n1 c1, .slice x2 n2 c2]) (t := 37) h 0 _ rfl
  have k2 := fun W (h : Below _ _ W) => new_cell (w := w) (cs := #[.slice x1 n1 c1, .slice x2 n2 c2]) (t := 37) h 1 _ rfl
  obtain ⟨W0, hW0⟩ : ∃ W, w.alloc (.cells #[.slice x1 n1 c1, .slice x2 n2 c2] 37) = W := ⟨_, rfl⟩
  rw [hW0] at b0 k1 k2
  have HW0 : Hid (w.alloc (.cells #[.slice x1 n1 c1, .slice x2 n2 c2] 37) = W0) := hW0
  clear hW0
  have s0 := k1 W0 (Below.refl _ _)
  have s1 := k2 W0 (Below.refl _ _)
  have HB0 : Hid (Below w.heap.size w W0) := b0
  obtain ⟨G, hG⟩ : ∃ G, w.heap.size = G := ⟨_, rfl⟩
  have HG : Hid (w.heap.size = G) := hG
  simp only [hG] at k1 k2 s0 s1
  go_enter Tryd.func9, Tryd.ntmps9
  go_upto_region 1 with fail
  rw [HW0.out]
  try simp only [HG.out]
  have cI0 := cI W0 HB0.out
  clear cI
  cases bI with
  | false =>
    have hF : F = ⟨#[]⟩ := by rw [← HF.out]; exact showF_no (fun h => by rw [HBI.out] at h; cases h.1)
    subst hF
    clear H1 k1 k2 cR hcs
    go_wp2_with (go_at_call 19; with_reducible refine cI0.mono ?_; rintro e w' ⟨rfl, hb1⟩)
    go_ret
    exact ⟨rfl, by first | exact chain HB0.out hb1 | (rw [← HG.out]; exact chain HB0.out hb1)⟩
  | true =>
  have HK1 : Hid (∀ W, Below W0.heap.size W0 W → W.cell? ⟨G, 0, none⟩ = some (.slice x1 n1 c1)) := fun W hb => k1 W hb
  clear k1 k2
  cases bR with
  | false =>
    have hF : F = ⟨#[]⟩ := by
      rw [← HF.out]
      refine showF_no (fun h => ?_)
      have h1 := HR.out
      unfold inB at h1
      rw [E1.out] at h
      rw [decide_eq_true h.2.1, decide_eq_true (by omega)] at h1
      cases h1
    subst hF
    clear H1
    go_wp2_with (first
      | (go_at_call 19; (with_reducible refine cI0.mono ?_); rintro e w' ⟨rfl, hb1⟩; have s2 := HK1.out _ hb1)
      | (go_at_call 13; (with_reducible refine (cR _).mono ?_); rintro e w' ⟨rfl, rfl⟩))
    go_ret
    exact ⟨rfl, by first | exact chain HB0.out hb1 | (rw [← HG.out]; exact chain HB0.out hb1)⟩
  | true =>
  obtain ⟨K, hK⟩ : ∃ K : Nat, k = (K : Int) := ⟨k.toNat, by
    have h1 := HR.out
    unfold inB at h1
    simp only [Bool.and_eq_true, decide_eq_true_eq] at h1
    omega⟩
  subst hK
  have hKn : K < n1 := by
    have h1 := HR.out
    unfold inB at h1
    simp only [Bool.and_eq_true, decide_eq_true_eq] at h1
    omega
  obtain ⟨b, o, rfl, hbz, hcell⟩ := H1.out (by omega)
  obtain ⟨f, hf⟩ : ∃ f, p.funcs[K]? = some f := ⟨_, List.getElem?_eq_getElem (by have := E1.out; omega)⟩
  obtain ⟨cv, kv, hv, hA⟩ := hcell K f hf
  have HF2 : Hid (F = strOfNums (funText20 f.code)) := by
    show _ = _
    rw [← HF.out]
    exact showF_yes HBI.out hf
  have hn300 : f.code.length ≤ 300 := all_code20 HBI.out hf
  have HIW : Hid (∀ x ∈ f.code, insW x) := HFW.out f (List.mem_of_getElem? hf)
  have HKA : Hid (∀ W, Below W0.heap.size W0 W → W.cell? ⟨b, o + K * 5 + 3, none⟩ = some kv) := fun W hb => (hb.cell (p := ⟨b, o + K * 5 + 3, none⟩) (by show b < _; have := HB0.out.size; omega)).trans ((HB0.out.cell (p := ⟨b, o + K * 5 + 3, none⟩) (by show b < _; omega)).trans hA.c3)
  obtain ⟨kx, kc, rfl, mk, ok⟩ := hA.code.opened insC_len
  obtain ⟨nk, hnk⟩ : ∃ n, f.code.length = n := ⟨_, rfl⟩
  rw [hnk] at mk ok HKA hn300
  unfold maxLen at mk
  have HNK : Hid (f.code.length = nk) := hnk
  have HC : Hid (0 < nk → ∃ b o, kx = some ⟨b, o, none⟩ ∧ b < w.heap.size ∧ ∀ j q, f.code[j]? = some q → ∀ c u, (insC q)[c]? = some u → w.cell? ⟨b, o + j * 3 + c, none⟩ = some u) := ok
  clear ok hnk hA hcell H1 hf HF HBI HR HFW
  have hKi : (K : Int) < (n1 : Int) := by omega
  have hK0 : (0 : Int) ≤ (K : Int) := by omega
  go_upto_region 3 with (first
    | (go_at_call 19; (with_reducible refine cI0.mono ?_); rintro e w2 ⟨rfl, hb2⟩; have s2 := HK1.out _ hb2)
    | (go_at_call 13; (with_reducible refine (cR _).mono ?_); rintro e w' ⟨rfl, rfl⟩))
  have q2 := ownB_begin w2 W0.heap.size 5 hb2.size
  have B2 : Below W0.heap.size W0 (w2.alloc (.cells #[] 5)) := hb2.alloc hb2.size _
  obtain ⟨W2, hW2⟩ : ∃ W, w2.alloc (.cells #[] 5) = W := ⟨_, rfl⟩
  obtain ⟨E, hE⟩ : ∃ E, w2.heap.size = E := ⟨_, rfl⟩
  rw [hW2, hE] at q2
  rw [hW2] at B2
  have HE : Hid (w2.heap.size = E) := hE
  have HW2 : Hid (w2.alloc (.cells #[] 5) = W2) := hW2
  clear hW2 hE hb2 cI0 cR s0 s1 s2 b0
  go_upto_region 5 with fail
  try rw [HW2.out]
  try simp only [HE.out]
  go_loopw [5, 6] (fun v x wr => ∃ j : Nat, j ≤ nk ∧ x = .int .i64 j ∧ OwnB wr W0.heap.size 5 v (funText20 (f.code.take j)) ∧ Below W0.heap.size W0 wr) (fun _ x _ => nk - (intOf x).toNat)
  case atStart => exact ⟨0, Nat.zero_le _, rfl, q2, B2⟩
  case round =>
    clear q2 B2
    obtain ⟨j, hj, rfl, hO, hb⟩ := hrel
    obtain ⟨vg, vcap, rfl, _, _, _⟩ := hO.slice
    have g0 := HK1.out wr hb
    have g1 := HKA.out wr hb
    have hlen : (funText20 (f.code.take j)).length ≤ 52 * j := funText_len (by rw [List.length_take]; omega) (fun x hx => HIW.out x (List.mem_of_mem_take hx))
    by_cases hjn : j < nk
    · obtain ⟨cb, co, rfl, hcb, hcc⟩ := HC.out (by omega)
      obtain ⟨q, hq⟩ : ∃ q, f.code[j]? = some q := ⟨_, List.getElem?_eq_getElem (by have := HNK.out; omega)⟩
      have hB := chain HB0.out hb
      have h0 : wr.cell? ⟨cb, co + j * 3, none⟩ = some (.int .i64 q.op) := (hB.cell (p := ⟨cb, co + j * 3, none⟩) (by show cb < _; omega)).trans (hcc j q hq 0 _ rfl)
      have h1 : wr.cell? ⟨cb, co + j * 3 + 1, none⟩ = some (.int .i64 q.a) := (hB.cell (p := ⟨cb, co + j * 3 + 1, none⟩) (by show cb < _; omega)).trans (hcc j q hq 1 _ rfl)
      have h2 : wr.cell? ⟨cb, co + j * 3 + 2, none⟩ = some (.int .i64 q.b) := (hB.cell (p := ⟨cb, co + j * 3 + 2, none⟩) (by show cb < _; omega)).trans (hcc j q hq 2 _ rfl)
      have hji : (j : Int) < (nk : Int) := by omega
      have hj0 : (0 : Int) ≤ (j : Int) := by omega
      have hqw := HIW.out q (List.mem_of_getElem? hq)
      have cS := specShowIns_any q wr hqw
      have hsz := insText_size q hqw
      obtain ⟨T, hT⟩ : ∃ T, insText q = T := ⟨_, rfl⟩
      have HT : Hid (funText20 (f.code.take (j + 1)) = funText20 (f.code.take j) ++ numsOf (T ++ ⟨#[10]⟩)) := by
        show _ = _
        rw [← hT]
        exact funText_more hq
      rw [hT] at cS hsz
      obtain ⟨X, hX⟩ : ∃ X, funText20 (f.code.take j) = X := ⟨_, rfl⟩
      rw [hX] at HT hO hlen ⊢
      have hov : ¬ 9223372036854775807 < T.size + 1 := by omega
      clear hT hX hq hcc hqw hB
      go_wp2_with fail
      refine cS.mono ?_
      rintro e w3 ⟨rfl, hb3⟩
      have hO3 := hO.keep hb3
      have hB3 := chain hb hb3
      clear g0 g1 h0 h1 h2 cS hO hb3
      have hbz3 := hB3.size
      have hnn : X.length + (T.size + 1) ≤ 1000000000000 := by omega
      go_wp2_with (at_builtin; refine append_text (w := w3) (w0 := W0) rfl (.tmp 31) (.tmp 43) 49 rfl W0.heap.size 5 i0 Tryd.underlying49 hi hz0 hz1 hz2 (.slice (some ⟨vg, 0, none⟩) X.length vcap) X rfl hO3 _ (T.size + 1) ?hm rfl ?hn hB3 hbz3 ?h3; (case hm => rw [ByteArray.size_append]; rfl); (case hn => rw [ByteArray.size_append]; exact hnn); intro v5 w5 ow5 hb5 bs5)
      have HO5 : Hid (OwnB w5 W0.heap.size 5 v5 (funText20 (f.code.take (j + 1)))) := by rw [HT.out]; exact ow5
      clear ow5 bs5 hO3 hB3 hb
      go_wp2
      go_roundw
      case rel => exact ⟨j + 1, by omega, by go_num, HO5.out, hb5⟩
      case measure => simp [intOf]; omega
    · have hje : j = nk := by omega
      subst hje
      have hF : F = strOfNums (funText20 (f.code.take j)) := by rw [HF2.out, ← HNK.out, List.take_length]
      have hcv := OwnB.conv (P := Tryd.prog) (src := 49) (dst := 9) hO Tryd.underlying49 Tryd.underlying5 Tryd.underlying9
      rw [← hF] at hcv
      have HE2 : Hid (Below w.heap.size w wr) := chain HB0.out hb
      clear hF HF2 hlen HIW hO hb
      go_wp2
      go_ret
      exact ⟨rfl, by first | exact HE2.out | (rw [← HG.out]; exact HE2.out)⟩

end Go.Proofs.YtojmmmfboahkgaaDoor
