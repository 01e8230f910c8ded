/-
  Part 16 of what is proved of drawn right trees.
-/
import Derived.Test.YtbgdapdenbldmaaPao
import Derived.ArgAppend

namespace Go.Proofs.Ytbgdapdenbldmaa
open Go.RowKit Go.Sort
set_option linter.unusedVariables false
variable {p : PImg} {f : PFun} {w0 : World} {R : Nat} {X S H L K n B : Nat} {fv cv : Value} {qc qk qh : Value} {r : RunP} {fi : Nat} {w w' : World}
def afterI (p : PImg) (f : PFun) (q : Nat) (i : PIns) (s : PSta) (r : RunP) : RunP := if mayB p f i s then flowsI r (restP q i s) else { r with bad := true }
theorem rest_jump {q : Nat} {i : PIns} {s : PSta} (h : i.op = 12) : restP q i s = [(i.a.toNat, aftS i s)] := by
  unfold restP jumpsB endsB
  rw [h]
  rfl
theorem rest_both {q : Nat} {i : PIns} {s : PSta} (h : i.op = 13 ∨ i.op = 14) : restP q i s = [(i.a.toNat, aftS i s), (q + 1, aftS i s)] := by
  unfold restP jumpsB endsB
  rcases h with h | h <;> (rw [h]; rfl)
theorem rest_end {q : Nat} {i : PIns} {s : PSta} (h : i.op = 17 ∨ i.op = 18) : restP q i s = [] := by
  unfold restP jumpsB endsB
  rcases h with h | h <;> (rw [h]; rfl)
theorem rest_next {q : Nat} {i : PIns} {s : PSta} (h : i.op ≠ 12 ∧ i.op ≠ 13 ∧ i.op ≠ 14 ∧ i.op ≠ 17 ∧ i.op ≠ 18) : restP q i s = [(q + 1, aftS i s)] := by
  unfold restP jumpsB endsB
  rw [decide_eq_false (by omega), decide_eq_false (by omega)]
  rfl
theorem may_in {p : PImg} {f : PFun} {i : PIns} {s : PSta} (h : mayB p f i s = true) (hop : i.op = 3 ∨ i.op = 4) : regIn s i.a = true := by
  rcases hop with hop | hop
  · rw [may_3 hop, Bool.and_eq_true] at h; exact h.1
  · rw [may_4 hop, Bool.and_eq_true] at h; exact h.1
structure StepM (I J : Nat) (ci cs : Array Value) (w wr : World) : Prop where
  bi : wr.heap[I]? = some (.cells ci 72 (0, 0))
  bj : wr.heap[J]? = some (.cells cs 98 (0, 0))
  bel : Below w.heap.size w wr
  lo : w.heap.size ≤ I ∧ w.heap.size ≤ J
theorem StepM.below {I J : Nat} {ci cs : Array Value} {w wr wr' : World} (h : StepM I J ci cs w wr) (hb : Below wr.heap.size wr wr') : StepM I J ci cs w wr' :=
  ⟨(hb.block _ (lt16 h.bi)).trans h.bi, (hb.block _ (lt16 h.bj)).trans h.bj, chain h.bel hb, h.lo⟩
set_option maxHeartbeats 4000000 in
set_option maxRecDepth 100000 in
theorem iStepFrom (C : TCtx p f w0 n R fv cv qc qk qh) (hB0 : w0.heap.size = B) (h : TAt X S H L K n B fv cv f.params f.regs qc qk qh r fi w) (hb : Below B w0 w) (hok : RunOk n R r) (q : Nat) (s : PSta) (i : PIns) (hs : r.list[q]? = some s) (hsr : s.regs.length = R) (hi : f.code[q]? = some i) :
    Calls Try.prog 84 #[.pointer (some ⟨X, 0, none⟩), .int .i64 (q : Int)] w fun e w' => e = .returned (.tuple #[]) ∧ TAt X S H L K n B fv cv f.params f.regs qc qk qh (afterI p f q i s r) fi w' ∧ TStep X S H L K w w' := by
  obtain ⟨le, hn, hn1, hR⟩ := C.le
  have hqn : q < n := by have := (List.getElem?_eq_some_iff.1 hs).1; have := h.ll; omega
  have hBw : B ≤ w.heap.size := by rw [← hB0]; have := hb.size; omega
  have hq0 : (0 : Int) ≤ (q : Int) := by omega
  have hq1 : (q : Int) < (n : Int) := by omega
  obtain ⟨xo, co, o1, o2, o3, _⟩ := h.at_ hs
  rw [hsr] at o2 o3
  obtain ⟨xk, ck, hqk, mk, ok⟩ := C.fn.code.opened insC_len
  have hio := le.codeOk i (List.mem_of_getElem? hi)
  obtain ⟨ho, ha, hbb⟩ := insOk_le hio
  rw [C.nn] at hqk ok
  obtain ⟨bk, ko, rfl, hbk, hck⟩ := ok (by omega)
  have hbB : bk < B := by omega
  have y0 : w.cell? ⟨bk, ko + q * 3, none⟩ = some (.int .i64 i.op) := (hb.cell (p := ⟨bk, ko + q * 3, none⟩) hbB).trans (hck q i hi 0 _ rfl)
  have y1 : w.cell? ⟨bk, ko + q * 3 + 1, none⟩ = some (.int .i64 i.a) := (hb.cell (p := ⟨bk, ko + q * 3 + 1, none⟩) hbB).trans (hck q i hi 1 _ rfl)
  have y2 : w.cell? ⟨bk, ko + q * 3 + 2, none⟩ = some (.int .i64 i.b) := (hb.cell (p := ⟨bk, ko + q * 3 + 2, none⟩) hbB).trans (hck q i hi 2 _ rfl)
  obtain ⟨IA, eA⟩ : ∃ k : Nat, i.a = (k : Int) := ⟨i.a.toNat, by omega⟩
  have hIA : IA ≤ 300 := by omega
  obtain ⟨OP, eO⟩ : ∃ k, i.op = k := ⟨_, rfl⟩
  obtain ⟨IB, eB⟩ : ∃ k, i.b = k := ⟨_, rfl⟩
  obtain ⟨AC, eC⟩ : ∃ k, s.acc = k := ⟨_, rfl⟩
  obtain ⟨MB, hMB⟩ : ∃ b, mayB p f i s = b := ⟨_, rfl⟩
  have HMB : Hid (mayB p f i s = MB) := hMB
  have HI : Hid (i.op = OP ∧ i.a = (IA : Int) ∧ i.b = IB ∧ s.acc = AC) := ⟨eO, eA, eB, eC⟩
  have cM := fun (W : World) (hW : Below w.heap.size w W) => iMayStep p f i s fv cv qc qk qh (.slice xo R co) W (C.img.below (by
      have h2 := (TStep.of_below (X := X) (S := S) (H := H) (L := L) (K := K) hW).low hb hBw h.lo
      rw [← hB0] at h2
      exact h2)) C.up (C.fn.below (by
      have h2 := (TStep.of_below (X := X) (S := S) (H := H) (L := L) (K := K) hW).low hb hBw h.lo
      rw [← hB0] at h2
      exact h2)) hio (o3.arg.below hW)
  have cT := fun (W : World) (hW : Below w.heap.size w W) (hin : i.op = 3 ∨ i.op = 4 → regIn s i.a = true) => iStepped i s (.slice xo R co) W (o3.arg.below hW) (by omega) hin
  simp only [eO, eA, eB, eC, hMB] at y0 y1 y2 o1 cM cT
  have HH : Hid _ := h
  have HOK : Hid (RunOk n R r) := hok
  have HSR : Hid (s.regs.length = R) := hsr
  have bc := boxC h.box
  have x5 := bc.c5
  rw [hqk] at x5
  have x7 := bc.c7
  have hXl := h.in_.1
  have hSl := h.in_.2.1
  have HBw : Hid (B ≤ w.heap.size) := hBw
  obtain ⟨PAV, ePA⟩ : ∃ k, f.params = k := ⟨_, rfl⟩
  obtain ⟨REV, eRE⟩ : ∃ k, f.regs = k := ⟨_, rfl⟩
  simp only [ePA, eRE] at cM HH ⊢
  obtain ⟨RES, hRES⟩ : ∃ t, afterI p f q i s r = t := ⟨_, rfl⟩
  rw [hRES]
  have HRES : Hid (afterI p f q i s r = RES) := hRES
  clear hRES
  have HK : Hid (∀ W : World, Below w.heap.size w W → W.cell? ⟨X, 5, none⟩ = some (.slice (some ⟨bk, ko, none⟩) n ck) ∧ W.cell? ⟨X, 7, none⟩ = some (.slice (some ⟨S, 0, none⟩) n n) ∧ W.cell? ⟨bk, ko + q * 3, none⟩ = some (.int .i64 OP) ∧ W.cell? ⟨bk, ko + q * 3 + 1, none⟩ = some (.int .i64 IA) ∧ W.cell? ⟨bk, ko + q * 3 + 2, none⟩ = some (.int .i64 IB) ∧ W.cell? ⟨S, q * 2, none⟩ = some (.int .i64 AC) ∧ W.cell? ⟨S, q * 2 + 1, none⟩ = some (.slice xo R co)) := fun W hW => by
    have hkl : bk < w.heap.size := by omega
    exact ⟨(hW.cell (p := ⟨X, 5, none⟩) hXl).trans x5, (hW.cell (p := ⟨X, 7, none⟩) hXl).trans x7, (hW.cell (p := ⟨bk, _, none⟩) hkl).trans y0, (hW.cell (p := ⟨bk, _, none⟩) hkl).trans y1, (hW.cell (p := ⟨bk, _, none⟩) hkl).trans y2, (hW.cell (p := ⟨S, _, none⟩) hSl).trans o1, (hW.cell (p := ⟨S, _, none⟩) hSl).trans o2⟩
  obtain ⟨Z, hZ⟩ : ∃ z, w.heap.size = z := ⟨_, rfl⟩
  have HZ : Hid (w.heap.size = Z) := hZ
  have hqw : IntKind.i64.wrap ((q : Int) + 1) = (q : Int) + 1 := wrap_small (by omega) (by omega)
  clear C le ok hck hi hs hsr hok h bc mk hb hio ho ha hbb o3 eA eO eB eC hMB ePA eRE x5 x7 y0 y1 y2 o1 o2 hXl hSl hBw
  go_enter Try.func84, Try.ntmps84
  go_upto_region 0 with fail
  go_cut [4, 5] (fun p4 p5 wr => ∃ (I J : Nat), p4 = .pointer (some ⟨I, 0, none⟩) ∧ p5 = .pointer (some ⟨J, 0, none⟩) ∧ Hid (StepM I J #[.int .i64 OP, .int .i64 IA, .int .i64 IB] #[.int .i64 AC, .slice xo R co] w wr))
  case first =>
    have bS : ∀ {W : World} (o : Obj), Below w.heap.size w W → Below w.heap.size w (W.alloc o) := fun o h => h.alloc h.size o
    have bP : ∀ (Y j : Nat) (u : Value) {W : World}, Below w.heap.size w W → Z ≤ Y → Below w.heap.size w (W.setCell ⟨Y, j, none⟩ u) := fun Y j u W h hY => h.setCell (p := ⟨Y, j, none⟩) (by show w.heap.size ≤ Y; omega) u
    have hA : ∀ (o1 o2 : Obj), ((w.alloc o1).alloc o2).drew.heap[Z]? = some o1 ∧ ((w.alloc o1).alloc o2).drew.heap[Z + 1]? = some o2 := fun o1 o2 => by
      refine ⟨?_, ?_⟩
      · show ((w.alloc o1).alloc o2).heap[Z]? = _
        rw [heap_alloc_old (r := Z) _ _ (by simp; omega), ← hZ]; exact heap_alloc_new _ _
      · show ((w.alloc o1).alloc o2).heap[Z + 1]? = _
        rw [show Z + 1 = (w.alloc o1).heap.size by simp; omega]; exact heap_alloc_new _ _
    have hEA : Hid (StepM Z (Z + 1) #[.int .i64 OP, .int .i64 IA, .int .i64 IB] #[.int .i64 AC, .slice xo R co] w ((w.alloc (.cells #[.int .i64 OP, .int .i64 IA, .int .i64 IB] 72)).alloc (.cells #[.int .i64 AC, .slice xo R co] 98)).drew) := ⟨(hA _ _).1, (hA _ _).2, (bS _ (bS _ (Below.refl _ _))).drew, by omega, by omega⟩
    have hEB : Hid (StepM (Z + 1) Z #[.int .i64 OP, .int .i64 IA, .int .i64 IB] #[.int .i64 AC, .slice xo R co] w ((w.alloc (.cells #[.int .i64 AC, .slice xo R co] 98)).alloc (.cells #[.int .i64 OP, .int .i64 IA, .int .i64 IB] 72)).drew) := ⟨(hA _ _).2, (hA _ _).1, (bS _ (bS _ (Below.refl _ _))).drew, by omega, by omega⟩
    go_region_held_law (fun W => W.cell? ⟨X, 5, none⟩ = some (.slice (some ⟨bk, ko, none⟩) n ck) ∧ W.cell? ⟨X, 7, none⟩ = some (.slice (some ⟨S, 0, none⟩) n n) ∧ W.cell? ⟨bk, ko + q * 3, none⟩ = some (.int .i64 OP) ∧ W.cell? ⟨bk, ko + q * 3 + 1, none⟩ = some (.int .i64 IA) ∧ W.cell? ⟨bk, ko + q * 3 + 2, none⟩ = some (.int .i64 IB) ∧ W.cell? ⟨S, q * 2, none⟩ = some (.int .i64 AC) ∧ W.cell? ⟨S, q * 2 + 1, none⟩ = some (.slice xo R co))
      (exact HK.out _ (by repeat (first | with_reducible exact Below.refl _ _ | (with_reducible refine RowKit.Below.drew ?_) | (with_reducible refine bS _ ?_) | (with_reducible refine bP _ _ _ ?_ (by omega)))))
      (first | (fail))
    all_goals
      clear HK hA bS bP
      go_wp2
      go_meet
      case rel => first | exact ⟨_, _, rfl, rfl, hEA⟩ | exact ⟨_, _, rfl, rfl, hEB⟩
  case rest =>
    obtain ⟨I, J, rfl, rfl, HM⟩ := hcut
    have M := HM.out
    have T := HH.out.below M.bel
    have HKB : Hid (∀ W : World, Below wc.heap.size wc W → (((W.cell? ⟨X, 0, none⟩ = some fv ∧ W.cell? ⟨X, 1, none⟩ = some cv) ∧ W.cell? ⟨X, 2, none⟩ = some (.int .i64 PAV) ∧ W.cell? ⟨X, 3, none⟩ = some (.int .i64 REV) ∧ W.cell? ⟨X, 4, none⟩ = some qc ∧ W.cell? ⟨X, 5, none⟩ = some qk ∧ W.cell? ⟨X, 6, none⟩ = some qh) ∧ (W.cell? ⟨I, 0, none⟩ = some (.int .i64 OP) ∧ W.cell? ⟨I, 1, none⟩ = some (.int .i64 IA) ∧ W.cell? ⟨I, 2, none⟩ = some (.int .i64 IB)) ∧ (W.cell? ⟨J, 0, none⟩ = some (.int .i64 AC) ∧ W.cell? ⟨J, 1, none⟩ = some (.slice xo R co)))) := fun W hW => by
      have M2 := HM.out.below hW
      have bc := boxC (HH.out.below M2.bel).box
      exact ⟨⟨⟨bc.c0, bc.c1⟩, bc.c2, bc.c3, bc.c4, bc.c5, bc.c6⟩, three_cells M2.bi, two_cells_of M2.bj⟩
    have cM1 := fun (W : World) (hW : Below wc.heap.size wc W) => cM W (chain M.bel hW)
    have cT1 := fun (W : World) (hW : Below wc.heap.size wc W) => cT W (chain M.bel hW)
    have hA2 : ∀ {W V : World}, Below wc.heap.size wc W → Below W.heap.size W V → Hid (Below wc.heap.size wc V) := fun h k => chain h k
    clear cM cT M T HK
    rw [hqk] at HKB cM1
    go_upto_region 1 with fail
    go_region_held_law (fun W => (((W.cell? ⟨X, 0, none⟩ = some fv ∧ W.cell? ⟨X, 1, none⟩ = some cv) ∧ W.cell? ⟨X, 2, none⟩ = some (.int .i64 PAV) ∧ W.cell? ⟨X, 3, none⟩ = some (.int .i64 REV) ∧ W.cell? ⟨X, 4, none⟩ = some qc ∧ W.cell? ⟨X, 5, none⟩ = some (.slice (some ⟨bk, ko, none⟩) n ck) ∧ W.cell? ⟨X, 6, none⟩ = some qh) ∧ (W.cell? ⟨I, 0, none⟩ = some (.int .i64 OP) ∧ W.cell? ⟨I, 1, none⟩ = some (.int .i64 IA) ∧ W.cell? ⟨I, 2, none⟩ = some (.int .i64 IB)) ∧ (W.cell? ⟨J, 0, none⟩ = some (.int .i64 AC) ∧ W.cell? ⟨J, 1, none⟩ = some (.slice xo R co))))
      (exact HKB.out _ (by first | with_reducible exact Below.refl _ _ | with_reducible exact (Below.refl _ _).drew | with_reducible exact HB5.out | with_reducible exact RowKit.Below.drew HB5.out))
      (first | (go_at_call 117; (with_reducible refine (cM1 _ (by first | with_reducible exact Below.refl _ _ | with_reducible exact (Below.refl _ _).drew)).mono ?_); rintro e w5 ⟨rfl, hb5⟩; have HB5 := hA2 (by first | with_reducible exact Below.refl _ _ | with_reducible exact (Below.refl _ _).drew) hb5))
    have M5 := HM.out.below HB5.out
    have T5 := HH.out.below M5.bel
    have HS5 : Hid (TStep X S H L K w w5) := TStep.of_below M5.bel
    cases MB with
    | false =>
      have eR : RES = { r with bad := true } := by
        rw [← HRES.out]
        unfold afterI
        rw [HMB.out]
        rfl
      subst eR
      have bc := boxC T5.box
      have c13 := bc.c13
      have fz := bc.fz
      have HE : Hid _ := T5.setBad
      clear M5 T5 bc HKB cM1 cT1 hA2 hb5
      go_wp2
      go_returns
      exact ⟨rfl, HE.out, HS5.out.trans (TStep.put (k := X) (j := 13) (.bool true) (.inl rfl))⟩
    | true =>
      have eR : RES = flowsI r (restP q i s) := by
        rw [← HRES.out]
        unfold afterI
        rw [HMB.out]
        rfl
      have HER : Hid (RES = flowsI r (restP q i s)) := eR
      have hal : (aftS i s).regs.length = R := by rw [aft_len]; exact HSR.out
      have cT5 := cT1 w5 HB5.out (fun hop => by
        have hop' : i.op = 3 ∨ i.op = 4 := by rw [HI.out.1]; exact hop
        have h := may_in HMB.out hop'
        rw [HI.out.2.1] at h
        exact h)
      obtain ⟨AT, hAT⟩ : ∃ t, aftS i s = t := ⟨_, rfl⟩
      obtain ⟨RA, hRA⟩ : ∃ t, AT.acc = t := ⟨_, rfl⟩
      rw [hAT] at cT5 hal
      rw [hRA] at cT5
      have HAT : Hid (aftS i s = AT ∧ AT.acc = RA ∧ AT.regs.length = R) := ⟨hAT, hRA, hal⟩
      have cT6 := cT5.mono (fun e w' (hh : ∃ v, e = .returned (.agg #[.int .i64 RA, v]) ∧ OwnI w' w5.heap.size v AT.regs ∧ Below w5.heap.size w5 w') => show ∃ (y : Option Addr) (d : Nat), e = .returned (.agg #[.int .i64 RA, .slice y R d]) ∧ Hid (OwnI w' w5.heap.size (.slice y R d) AT.regs) ∧ Hid (Below w5.heap.size w5 w') by
        obtain ⟨v, e1, e2, e3⟩ := hh
        obtain ⟨y, d, rfl⟩ := row_slice e2
        rw [hal] at e1 e2
        exact ⟨y, d, e1, e2, e3⟩)
      obtain ⟨i0, i1, i2⟩ := three_cells M5.bi
      obtain ⟨j0, j1⟩ := two_cells_of M5.bj
      have HM5 : Hid _ := M5
      clear M5 T5 eR cT5 hAT hRA hal HKB cM1 cT1 hA2 hb5
      go_upto_region 4 with (go_at_call 118; (with_reducible refine cT6.mono ?_); rintro e w6 ⟨y6, d6, rfl, HO6, HB6⟩)
      clear cT6 i0 i1 i2 j0 j1
      have bA : Below w6.heap.size w6 (w6.alloc (.cells #[.int .i64 RA, .slice y6 R d6] 98)) := (Below.refl _ _).alloc (Nat.le_refl _) _
      have g7 : (w6.alloc (.cells #[.int .i64 RA, .slice y6 R d6] 98)).heap[w6.heap.size]? = some (.cells #[.int .i64 RA, .slice y6 R d6] 98 (0, 0)) := heap_alloc_new w6 _
      have b57 := chain HB6.out bA
      have M7 := HM5.out.below b57
      have ho7 : OwnI (w6.alloc (.cells #[.int .i64 RA, .slice y6 R d6] 98)) B (.slice y6 R d6) AT.regs := row_low (HO6.out.below bA) (Nat.le_trans HBw.out (HM5.out.bel.size))
      have hMl : w.heap.size ≤ w6.heap.size := Nat.le_trans HM5.out.bel.size HB6.out.size
      obtain ⟨W7, hW7⟩ : ∃ W, w6.alloc (.cells #[.int .i64 RA, .slice y6 R d6] 98) = W := ⟨_, rfl⟩
      obtain ⟨M, hM⟩ : ∃ k, w6.heap.size = k := ⟨_, rfl⟩
      rw [hM] at g7 hMl
      simp only [hW7, hM] at g7 b57 M7 ho7 ⊢
      have T7 := HH.out.below M7.bel
      have hMo : ¬ Own5 X S H L K M := by
        have := HH.out.in_
        unfold Own5
        omega
      obtain ⟨i0, i1, i2⟩ := three_cells M7.bi
      obtain ⟨j0, j1⟩ := two_cells_of g7
      have HS7 : Hid (TStep X S H L K w W7) := TStep.of_below M7.bel
      have HT7 : Hid _ := T7
      have HO7 : Hid _ := ho7
      have HG7 : Hid _ := g7
      have HB7 : Hid (B ≤ W7.heap.size) := Nat.le_trans HBw.out M7.bel.size
      have cA := fun (q' : Nat) (hq' : q' ≤ 1000) => iArrive T7 HOK.out hn hR q' hq' AT HAT.out.2.2 (.slice y6 R d6) ho7 HB7.out (some ⟨bk, ko, none⟩) ck hqk
      simp only [HAT.out.2.1] at cA
      have hOKI : ∀ q', RunOk n R (flowI r q' AT) := fun q' => flowsI_ok (xs := [(q', AT)]) HOK.out (fun x hx => by simp at hx; rw [hx]; exact HAT.out.2.2)
      have HOKI : Hid _ := hOKI
      have hIi := lt16 M7.bi
      have hIo : ¬ Own5 X S H L K I := by
        have := HH.out.in_
        have := M7.lo
        unfold Own5
        omega
      have HM7 : Hid _ := M7
      clear hW7 hM T7 ho7 g7 M7 b57 bA hOKI
      by_cases c12 : OP = 12
      · subst c12
        have eR : RES = flowI r IA AT := by
          rw [HER.out, rest_jump HI.out.1, HAT.out.1, HI.out.2.1, Int.toNat_natCast]
          rfl
        subst eR
        have cA1 := cA IA (by omega)
        clear cA
        go_wp2_with (go_at_call 115; (with_reducible refine cA1.mono ?_); rintro e w8 ⟨rfl, h8, s8⟩)
        go_returns
        exact ⟨rfl, h8, HS7.out.trans s8⟩
      by_cases c134 : OP = 13 ∨ OP = 14
      · have eR : RES = flowI (flowI r IA AT) (q + 1) AT := by
          rw [HER.out, rest_both (by rw [HI.out.1]; exact c134), HAT.out.1, HI.out.2.1, Int.toNat_natCast]
          rfl
        subst eR
        have cA1 := cA IA (by omega)
        have hS8 : ∀ (V : World), TStep X S H L K W7 V → (V.cell? ⟨M, 0, none⟩ = some (.int .i64 RA) ∧ V.cell? ⟨M, 1, none⟩ = some (.slice y6 R d6)) := fun V hV => two_cells_of ((hV.block M (lt16 HG7.out) hMo).trans HG7.out)
        have cA2 := fun (V : World) (h8 : TAt X S H L K n B fv cv PAV REV qc qk qh (flowI r IA AT) fi V) (s8 : TStep X S H L K W7 V) => iArrive h8 (HOKI.out IA) hn hR (q + 1) (by omega) AT HAT.out.2.2 (.slice y6 R d6) (HT7.out.row s8 HO7.out) (Nat.le_trans HB7.out s8.size) (some ⟨bk, ko, none⟩) ck hqk
        simp only [HAT.out.2.1, Int.natCast_add, show ((1 : Nat) : Int) = 1 from rfl] at cA2
        clear cA
        rcases c134 with rfl | rfl
        all_goals
          go_upto_region 11 with (go_at_call 115; (with_reducible refine cA1.mono ?_); rintro e w8 ⟨rfl, h8, s8⟩)
          obtain ⟨m0, m1⟩ := hS8 _ s8
          have cA3 := cA2 _ h8 s8
          have HS8 : Hid (TStep X S H L K W7 w8) := s8
          clear cA2 cA1 h8 s8 i0 i1 i2 j0 j1 hS8
          go_wp2_with (go_at_call 115; (with_reducible refine cA3.mono ?_); rintro e w9 ⟨rfl, h9, s9⟩)
          go_returns
          exact ⟨rfl, h9, HS7.out.trans (HS8.out.trans s9)⟩
      by_cases c178 : OP = 17 ∨ OP = 18
      · have eR : RES = r := by
          rw [HER.out, rest_end (by rw [HI.out.1]; exact c178)]
          rfl
        subst eR
        clear cA
        rcases c178 with rfl | rfl
        all_goals
          go_wp2
          go_returns
          exact ⟨rfl, HT7.out, HS7.out⟩
      have eR : RES = flowI r (q + 1) AT := by
        rw [HER.out, rest_next (by rw [HI.out.1]; omega), HAT.out.1]
        rfl
      subst eR
      have cA1 := cA (q + 1) (by omega)
      simp only [Int.natCast_add, show ((1 : Nat) : Int) = 1 from rfl] at cA1
      have e12 : (OP == 12) = false := by rw [beq_eq_false_iff_ne]; omega
      have e13 : (OP == 13) = false := by rw [beq_eq_false_iff_ne]; omega
      have e14 : (OP == 14) = false := by rw [beq_eq_false_iff_ne]; omega
      have e17 : (OP == 17) = false := by rw [beq_eq_false_iff_ne]; omega
      have e18 : (OP == 18) = false := by rw [beq_eq_false_iff_ne]; omega
      clear cA
      go_wp2_with (go_at_call 115; (with_reducible refine cA1.mono ?_); rintro e w8 ⟨rfl, h8, s8⟩)
      go_returns
      exact ⟨rfl, h8, HS7.out.trans s8⟩
end Go.Proofs.Ytbgdapdenbldmaa
namespace Go.Proofs.Ytbgdapdenbldmaa
open Go.RowKit Go.Sort
set_option linter.unusedVariables false
theorem Try.infoAny16 : (Try.prog.info? 20).map (fun i => (i.zero, i.size, i.bytes)) = some (some .nilIface, 1, 16) := by kernel_rfl
theorem Try.infoBoolI16 : (Try.prog.info? 4).map (fun i => (i.zero, i.size, i.bytes)) = some (some (.bool false), 1, 1) := by kernel_rfl
theorem Try.infoStaI16 : (Try.prog.info? 98).map (fun i => (i.zero, i.size, i.bytes)) = some (some (.agg #[.int .i64 0, .slice none 0 0]), 2, 32) := by kernel_rfl
theorem four_of {w : World} {g : Nat} {a b c d : Value} {t : TypeId} {r : Nat × Nat} (h : w.heap[g]? = some (.cells #[a, b, c, d] t r)) : w.cell? ⟨g, 0, none⟩ = some a ∧ w.cell? ⟨g, 1, none⟩ = some b ∧ w.cell? ⟨g, 2, none⟩ = some c ∧ w.cell? ⟨g, 3, none⟩ = some d := by
  refine ⟨?_, ?_, ?_, ?_⟩ <;> (rw [cell_of_row _ _ _ _ _ _ h]; rfl)
structure RingNew (n L K : Nat) (w w' : World) : Prop where
  bl : w'.heap[L]? = some (.cells (madeCells #[.nilIface] (n * 1)) 20 (0, 0))
  bk : w'.heap[K]? = some (.cells (madeCells #[.bool false] (n * 1)) 4 (0, 0))
  bel : Below w.heap.size w w'
  lo : w.heap.size ≤ L ∧ w.heap.size ≤ K
set_option maxHeartbeats 2000000 in
set_option maxRecDepth 100000 in
theorem iNewRing (n : Nat) (w : World) (hn : n ≤ 300) :
    Calls Try.prog 80 #[.int .i64 (n : Int)] w fun e w' => ∃ L K, e = .returned (.agg #[.slice (some ⟨L, 0, none⟩) n n, .int .i64 0, .int .i64 0, .slice (some ⟨K, 0, none⟩) n n]) ∧ RingNew n L K w w' := by
  have hmA : ∀ W, (Instr.makeSlice 103 (.int .i64 (n : Int)) (.int .i64 (n : Int))).run Try.prog W = .ok (.slice (some ⟨W.heap.size, 0, none⟩) n n) (W.alloc (.cells (madeCells #[.nilIface] (n * 1)) 20)) := fun W => made16m (P := Try.prog) Try.underlying103 Try.infoAny16 (by decide) n (by omega) W
  have hmB : ∀ W, (Instr.makeSlice 50 (.int .i64 (n : Int)) (.int .i64 (n : Int))).run Try.prog W = .ok (.slice (some ⟨W.heap.size, 0, none⟩) n n) (W.alloc (.cells (madeCells #[.bool false] (n * 1)) 4)) := fun W => made16m (P := Try.prog) Try.underlying50 Try.infoBoolI16 (by decide) n (by omega) W
  obtain ⟨CA, hCA⟩ : ∃ a, madeCells #[.nilIface] (n * 1) = a := ⟨_, rfl⟩
  obtain ⟨CB, hCB⟩ : ∃ a, madeCells #[.bool false] (n * 1) = a := ⟨_, rfl⟩
  have HCA : Hid (madeCells #[.nilIface] (n * 1) = CA ∧ madeCells #[.bool false] (n * 1) = CB) := ⟨hCA, hCB⟩
  simp only [hCA] at hmA
  simp only [hCB] at hmB
  have hbR : ∀ (a b : Option Addr) (m d m' d' : Nat) (W : World), (Instr.build 105 #[(0, .slice a m d), (3, .slice b m' d')]).run Try.prog W = .ok (.agg #[.slice a m d, .int .i64 0, .int .i64 0, .slice b m' d']) W := fun a b m d m' d' W => run_build W 105 _ _ (by kernel_rfl)
  obtain ⟨Z, hZ⟩ : ∃ z, w.heap.size = z := ⟨_, rfl⟩
  have M := fun (o1 o2 o3 : Obj) => made_three w o1 o2 o3
  simp only [hZ] at M
  have hEndA : Hid (RingNew n (Z + 1) (Z + 1 + 1) w ((((w.alloc (.cells #[.slice (some ⟨Z + 1, 0, none⟩) n n, .int .i64 0, .int .i64 0, .slice (some ⟨Z + 1 + 1, 0, none⟩) n n] 105)).alloc (.cells CA 20)).alloc (.cells CB 4)).drew)) := by
    obtain ⟨m1, m2, m3, m4, m5⟩ := M (.cells #[.slice (some ⟨Z + 1, 0, none⟩) n n, .int .i64 0, .int .i64 0, .slice (some ⟨Z + 1 + 1, 0, none⟩) n n] 105) (.cells CA 20) (.cells CB 4)
    exact ⟨by rw [HCA.out.1]; exact m2, by rw [HCA.out.2]; exact m3, by rw [hZ]; exact m5.drew, by omega, by omega⟩
  have hEndB : Hid (RingNew n (Z + 1 + 1) (Z + 1) w ((((w.alloc (.cells #[.slice (some ⟨Z + 1 + 1, 0, none⟩) n n, .int .i64 0, .int .i64 0, .slice (some ⟨Z + 1, 0, none⟩) n n] 105)).alloc (.cells CB 4)).alloc (.cells CA 20)).drew)) := by
    obtain ⟨m1, m2, m3, m4, m5⟩ := M (.cells #[.slice (some ⟨Z + 1 + 1, 0, none⟩) n n, .int .i64 0, .int .i64 0, .slice (some ⟨Z + 1, 0, none⟩) n n] 105) (.cells CB 4) (.cells CA 20)
    exact ⟨by rw [HCA.out.1]; exact m3, by rw [HCA.out.2]; exact m2, by rw [hZ]; exact m5.drew, by omega, by omega⟩
  have cells : ∀ (a b : Value) (o2 o3 : Obj), ((((w.alloc (.cells #[a, .int .i64 0, .int .i64 0, b] 105)).alloc o2).alloc o3).drew.cell? ⟨Z, 0, none⟩ = some a ∧ (((w.alloc (.cells #[a, .int .i64 0, .int .i64 0, b] 105)).alloc o2).alloc o3).drew.cell? ⟨Z, 1, none⟩ = some (.int .i64 0) ∧ (((w.alloc (.cells #[a, .int .i64 0, .int .i64 0, b] 105)).alloc o2).alloc o3).drew.cell? ⟨Z, 2, none⟩ = some (.int .i64 0) ∧ (((w.alloc (.cells #[a, .int .i64 0, .int .i64 0, b] 105)).alloc o2).alloc o3).drew.cell? ⟨Z, 3, none⟩ = some b) := fun a b o2 o3 => four_of (w := (((w.alloc (.cells #[a, .int .i64 0, .int .i64 0, b] 105)).alloc o2).alloc o3).drew) (M _ o2 o3).1
  have cA := cells (.slice (some ⟨Z + 1, 0, none⟩) n n) (.slice (some ⟨Z + 1 + 1, 0, none⟩) n n) (.cells CA 20) (.cells CB 4)
  have cB := cells (.slice (some ⟨Z + 1 + 1, 0, none⟩) n n) (.slice (some ⟨Z + 1, 0, none⟩) n n) (.cells CB 4) (.cells CA 20)
  obtain ⟨a0, a1, a2, a3⟩ := cA
  obtain ⟨e0, e1, e2, e3⟩ := cB
  have HA : Hid _ := And.intro a0 (And.intro a1 (And.intro a2 a3))
  have HB : Hid _ := And.intro e0 (And.intro e1 (And.intro e2 e3))
  clear M cells hCA hCB a0 a1 a2 a3 e0 e1 e2 e3
  go_enter Try.func80, Try.ntmps80
  go_upto_region 1 with fail
  go_region
  · obtain ⟨a0, a1, a2, a3⟩ := HA.out
    go_wp2
    refine bodyPost_ret (by simp [results, Try.results80, go_sem, a0, a1, a2, a3]; try rfl) rfl ?_
    exact ⟨_, _, rfl, hEndA.out⟩
  · obtain ⟨a0, a1, a2, a3⟩ := HB.out
    go_wp2
    refine bodyPost_ret (by simp [results, Try.results80, go_sem, a0, a1, a2, a3]; try rfl) rfl ?_
    exact ⟨_, _, rfl, hEndB.out⟩
end Go.Proofs.Ytbgdapdenbldmaa
namespace Go.Proofs.Ytbgdapdenbldmaa
open Go.RowKit Go.Sort
set_option linter.unusedVariables false
def Own4 (X L H tb : Nat) (k : Nat) : Prop := k = X ∨ k = L ∨ k = H ∨ k = tb
def RegV (w : World) (S : Nat → Prop) (v : Value) (l : List Int) : Prop := ArgI w v l ∧ (0 < l.length → ∀ b o m c, v = .slice (some ⟨b, o, none⟩) m c → ¬ S b)
theorem RegV.keep {w w' : World} {S S' : Nat → Prop} {v : Value} {l : List Int} (h : RegV w S v l) (hb : ∀ k, k < w.heap.size → ¬ S k → w'.heap[k]? = w.heap[k]?) (hs : w.heap.size ≤ w'.heap.size) (hS : ∀ k, k < w.heap.size → S' k → S k) : RegV w' S' v l := by
  obtain ⟨⟨x, c, e, hm, hl, hc⟩, hn⟩ := h
  refine ⟨⟨x, c, e, hm, hl, fun h0 => ?_⟩, fun h0 b o m c' e2 hS' => ?_⟩
  · obtain ⟨b, o, e1, h1, h2⟩ := hc h0
    have ne := hn h0 b o _ _ (by rw [e, e1])
    refine ⟨b, o, e1, Nat.lt_of_lt_of_le h1 hs, fun j u hj => ?_⟩
    have q := h2 j u hj
    have hk := hb b h1 ne
    unfold World.cell? at q ⊢
    simp only [hk]
    exact q
  · obtain ⟨b1, o1, e1, h1, _⟩ := hc h0
    rw [e, e1] at e2
    injection e2 with e2 _ _
    injection e2 with e2
    injection e2 with e2 _ _
    subst e2
    exact hn h0 b1 o1 _ _ (by rw [e, e1]) (hS b1 h1 hS')
theorem RegV.of_own {w : World} {B : Nat} {S : Nat → Prop} {v : Value} {l : List Int} (h : OwnI w B v l) (hS : ∀ k, S k → k < B) : RegV w S v l := by
  refine ⟨h.arg, fun _ b o m c e hSb => ?_⟩
  obtain ⟨_, ⟨h0, _⟩ | ⟨g, cap, cur, h0, hB, _⟩⟩ := h
  · rw [h0] at e; cases e
  · rw [h0] at e
    injection e with e _ _
    injection e with e
    injection e with e _ _
    subst e
    have := hS _ hSb
    omega
theorem RegV.below {w w' : World} {S : Nat → Prop} {v : Value} {l : List Int} (h : RegV w S v l) (hb : Below w.heap.size w w') : RegV w' S v l :=
  h.keep (fun k hk _ => hb.block k hk) hb.size (fun _ _ => id)
def QAt (w : World) (tb : Nat) (tv : Value) (l : List Nat) : Prop :=
  (tv = .slice none 0 0 ∧ l = []) ∨ ∃ o cap cur, tv = .slice (some ⟨tb, o, none⟩) l.length cap ∧ w.heap[tb]? = some (.cells cur 3 (0, 0)) ∧ o + cap ≤ cur.size ∧ l.length ≤ cap ∧ cap ≤ maxLen ∧ ∀ (j z : Nat), l[j]? = some z → cur[o + j]? = some (.int .i64 (z : Int))
theorem QAt.keep {w w' : World} {tb : Nat} {tv : Value} {l : List Nat} (h : QAt w tb tv l) (hb : w'.heap[tb]? = w.heap[tb]?) : QAt w' tb tv l := by
  rcases h with h | ⟨o, cap, cur, e, hg, h⟩
  · exact .inl h
  · exact .inr ⟨o, cap, cur, e, hb.trans hg, h⟩
theorem QAt.slice {w : World} {tb : Nat} {tv : Value} {l : List Nat} (h : QAt w tb tv l) : ∃ x c, tv = .slice x l.length c := by
  rcases h with ⟨rfl, rfl⟩ | ⟨o, cap, cur, rfl, _⟩
  · exact ⟨_, _, rfl⟩
  · exact ⟨_, _, rfl⟩
theorem run_push {P : Program} (w : World) (t ty e : TypeId) (i : TypeInfo) (ht : P.underlying t = some (.slice e)) (he : e = 3) (hi : P.info? e = some i) (hz : i.zero = some (.int .i64 0)) (hsize : i.size = 1) (hby : i.bytes = 8)
    (tb : Nat) (tv : Value) (l : List Nat) (h : QAt w tb tv l) (q : Nat) (ad : Addr) (c : Nat) (hc : w.cell? ad = some (.int .i64 (q : Int))) (hl : l.length ≤ 1000000) :
    ∃ v' w' tb', (Builtin.append_ #[t, t] ty #[tv, .slice (some ad) 1 c]).run P w = .ok v' w' ∧ QAt w' tb' v' (l ++ [q]) ∧ (tb' = tb ∨ w.heap.size ≤ tb') ∧ w.os = w'.os ∧ w.tape = w'.tape ∧ w.output = w'.output ∧ w.heap.size ≤ w'.heap.size ∧ ∀ k, k < w.heap.size → tv = .slice none 0 0 ∨ k ≠ tb → w'.heap[k]? = w.heap[k]? := by
  subst he
  have hnw : ∀ j u, [Value.int .i64 (q : Int)][j]? = some u → w.cell? (ad.add j) = some u := fun j u hj => by
    match j, hj with
    | 0, hj =>
      simp at hj
      subst hj
      rw [show ad.add 0 = ad by simp [Addr.add]]
      exact hc
  have hone : ∀ u ∈ [Value.int .i64 (q : Int)], u.oneCell' = true := fun u hu => by
    simp at hu
    rw [hu]
    rfl
  have fresh : ∀ (v' : Value) (w' : World), w'.ownsRow w.heap.size 3 1 v' (l.length + 1) ((l.map fun (z : Nat) => Value.int .i64 (z : Int)) ++ [.int .i64 (q : Int)]) → ∃ tb', QAt w' tb' v' (l ++ [q]) ∧ w.heap.size ≤ tb' := fun v' w' ho => by
    obtain ⟨_, ⟨_, h0⟩ | ⟨g, cap, cur, rfl, hB, hg, hn, hm, hs, htk⟩⟩ := ho
    · omega
    · refine ⟨g, .inr ⟨0, cap, cur, by rw [List.length_append]; rfl, hg, by omega, by rw [List.length_append]; exact hn, hm, fun j z hj => ?_⟩, hB⟩
      have hj2 : (((l ++ [q]).map fun (z : Nat) => Value.int .i64 (z : Int)))[j]? = some (.int .i64 (z : Int)) := by rw [List.getElem?_map, hj]; rfl
      rw [List.map_append] at hj2
      have hlt : j < l.length + 1 := by have := (List.getElem?_eq_some_iff.1 hj).1; rw [List.length_append] at this; exact this
      have h2 : (cur.toList.take ((l.length + 1) * 1))[j]? = some (.int .i64 (z : Int)) := by rw [htk]; exact hj2
      rw [List.getElem?_take, if_pos (by omega)] at h2
      rw [Nat.zero_add]
      simpa using h2
  rcases h with ⟨rfl, rfl⟩ | ⟨o, cap, cur, rfl, hg, hs, hlc, hcm, hcell⟩
  · obtain ⟨v', w', hr, ho, hgr, _⟩ := run_append_own (P := P) w w.heap.size t ty 3 i (.int .i64 0) 1 8 ht hi hz hsize hby rfl (by decide) (.slice none 0 0) 0 [] (World.ownsRow_nil w _ _ _) ad 1 c [.int .i64 (q : Int)] rfl hnw hone (by unfold maxLen; omega) (by omega) (Nat.le_refl _)
    obtain ⟨tb', hQ, hB⟩ := fresh v' w' (by simpa using ho)
    exact ⟨v', w', tb', hr, hQ, .inr hB, hgr.os.symm, hgr.tape.symm, hgr.output.symm, hgr.size, fun k hk _ => hgr.block k hk (by simp [Value.ownBlock])⟩
  · by_cases hroom : l.length + 1 ≤ cap
    · have hlt : o + l.length < cur.size := by omega
      have hr := run_append_room_cells (P := P) w t ty 3 i ht hi tb o l.length cap ad 1 c [.int .i64 (q : Int)] (by rw [hsize]; rfl) hnw hone hroom (fun j hj => by
          have : j = 0 := by simp at hj; exact hj
          subst this
          rw [hsize, Nat.mul_one, Nat.add_zero, cell_of_row _ _ _ _ _ _ hg, Array.getElem?_eq_getElem hlt]
          rfl) (fun j hj => frozen_of_row w tb _ cur _ hg)
      rw [hsize, Nat.mul_one] at hr
      refine ⟨_, _, tb, hr, .inr ⟨o, cap, cur.setIfInBounds (o + l.length) (.int .i64 (q : Int)), by rw [List.length_append]; rfl, heap_setCell_same w tb (o + l.length) cur _ _ hg, by rw [Array.size_setIfInBounds]; exact hs, by rw [List.length_append]; exact hroom, hcm, fun j z hj => ?_⟩, .inl rfl, rfl, rfl, rfl, by simp [World.setCells, World.setCell], fun k hk hne => ?_⟩
      · rw [Array.getElem?_setIfInBounds]
        by_cases e : j = l.length
        · subst e
          rw [List.getElem?_append_right (Nat.le_refl _), Nat.sub_self] at hj
          simp at hj
          subst hj
          rw [if_pos rfl, if_pos hlt]
        · have hj3 : j < l.length := by have := (List.getElem?_eq_some_iff.1 hj).1; rw [List.length_append] at this; simp at this; omega
          rw [List.getElem?_append_left hj3] at hj
          rw [if_neg (by omega)]
          exact hcell j z hj
      · rcases hne with hne | hne
        · cases hne
        · exact heap_setCell_other w ⟨tb, o + l.length, none⟩ k _ hne
    · obtain ⟨v', w', hr, ho, hgr⟩ := run_append_arg_grows (P := P) w t ty 3 i (.int .i64 0) 1 8 ht hi hz hsize hby rfl (by decide) ⟨tb, o, none⟩ l.length cap (l.map fun (z : Nat) => Value.int .i64 (z : Int)) (by simp) (fun j u hj => by
          rw [List.getElem?_map] at hj
          cases hx : l[j]? with
          | none => rw [hx] at hj; cases hj
          | some z =>
            rw [hx] at hj
            simp only [Option.map_some, Option.some.injEq] at hj
            subst hj
            have hadd : (⟨tb, o, none⟩ : Addr).add j = ⟨tb, o + j, none⟩ := by unfold Addr.add; split <;> simp_all
            rw [hadd, cell_of_row _ _ _ _ _ _ hg]
            exact hcell j z hx) ad 1 c [.int .i64 (q : Int)] rfl hnw (by omega) (by unfold maxLen; omega) (by omega)
      obtain ⟨tb', hQ, hB⟩ := fresh v' w' ho
      exact ⟨v', w', tb', hr, hQ, .inr hB, hgr.os.symm, hgr.tape.symm, hgr.output.symm, hgr.size, fun k hk _ => hgr.block k hk (by simp)⟩
structure VAt (X L H tb n : Nat) (tv : Value) (r : RunP) (w : World) : Prop where
  box : w.heap[X]? = some (.cells #[.slice (some ⟨L, 0, none⟩) n n, .slice (some ⟨H, 0, none⟩) n n, tv, .bool r.bad] 96 (0, 0))
  rl : ∃ cur, w.heap[L]? = some (.cells cur 98 (0, 0)) ∧ cur.size = n * 2 ∧ ∀ (q : Nat) (s : PSta), r.list[q]? = some s → ∃ v, cur[q * 2]? = some (.int .i64 s.acc) ∧ cur[q * 2 + 1]? = some v ∧ RegV w (Own4 X L H tb) v s.regs
  rh : ∃ cur, w.heap[H]? = some (.cells cur 4 (0, 0)) ∧ cur.size = n ∧ ∀ (q : Nat) (b : Bool), r.hit[q]? = some b → cur[q]? = some (.bool b)
  rt : QAt w tb tv r.todo
  ll : r.list.length = n
  lt : tb < w.heap.size
structure VStep (X L H tb tb' : Nat) (w w' : World) : Prop where
  os : w.os = w'.os
  tape : w.tape = w'.tape
  output : w.output = w'.output
  size : w.heap.size ≤ w'.heap.size
  block : ∀ k, k < w.heap.size → ¬ Own4 X L H tb k → w'.heap[k]? = w.heap[k]?
  tb : tb' = tb ∨ w.heap.size ≤ tb'
theorem VStep.of_below {X L H tb : Nat} {w w' : World} (h : Below w.heap.size w w') : VStep X L H tb tb w w' := ⟨h.os.symm, h.tape.symm, h.output.symm, h.size, fun k hk _ => h.block k hk, .inl rfl⟩
theorem VStep.own {X L H tb tb' : Nat} {w w' : World} (h : VStep X L H tb tb' w w') {k : Nat} (hk : k < w.heap.size) (hn : ¬ Own4 X L H tb k) : ¬ Own4 X L H tb' k := by
  intro hx
  apply hn
  rcases hx with hx | hx | hx | hx
  · exact .inl hx
  · exact .inr (.inl hx)
  · exact .inr (.inr (.inl hx))
  · rcases h.tb with e | e
    · exact .inr (.inr (.inr (by rw [hx, e])))
    · omega
theorem VStep.trans {X L H tb tb1 tb2 : Nat} {w w1 w2 : World} (h : VStep X L H tb tb1 w w1) (k : VStep X L H tb1 tb2 w1 w2) : VStep X L H tb tb2 w w2 := by
  refine ⟨h.os.trans k.os, h.tape.trans k.tape, h.output.trans k.output, Nat.le_trans h.size k.size, fun i hi hn => ?_, ?_⟩
  · exact (k.block i (Nat.lt_of_lt_of_le hi h.size) (h.own hi hn)).trans (h.block i hi hn)
  · rcases k.tb with e | e
    · rcases h.tb with e2 | e2
      · exact .inl (e.trans e2)
      · exact .inr (by omega)
    · exact .inr (Nat.le_trans h.size e)
theorem VStep.regs {X L H tb tb' : Nat} {w w' : World} (h : VStep X L H tb tb' w w') {v : Value} {l : List Int} (r : RegV w (Own4 X L H tb) v l) : RegV w' (Own4 X L H tb') v l :=
  r.keep h.block h.size (fun k hk hx => Classical.byContradiction (fun hn => h.own hk hn hx))
theorem VStep.low {X L H tb tb' B : Nat} {w0 w w' : World} (h : VStep X L H tb tb' w w') (hb : Below B w0 w) (hB : B ≤ w.heap.size) (hX : B ≤ X ∧ B ≤ L ∧ B ≤ H ∧ B ≤ tb) : Below B w0 w' :=
  ⟨h.os.symm.trans hb.os, h.tape.symm.trans hb.tape, h.output.symm.trans hb.output, Nat.le_trans hb.size h.size, fun k hk => (h.block k (by omega) (by unfold Own4; omega)).trans (hb.block k hk)⟩
theorem VAt.below {X L H tb n : Nat} {tv : Value} {r : RunP} {w w' : World} (h : VAt X L H tb n tv r w) (hb : Below w.heap.size w w') : VAt X L H tb n tv r w' := by
  obtain ⟨cl, l1, l2, l3⟩ := h.rl
  obtain ⟨ch, h1, h2, h3⟩ := h.rh
  refine ⟨(hb.block X (lt16 h.box)).trans h.box, ⟨cl, (hb.block L (lt16 l1)).trans l1, l2, fun q s hs => ?_⟩, ⟨ch, (hb.block H (lt16 h1)).trans h1, h2, h3⟩, h.rt.keep (hb.block tb h.lt), h.ll, Nat.lt_of_lt_of_le h.lt hb.size⟩
  obtain ⟨v, v1, v2, v3⟩ := l3 q s hs
  exact ⟨v, v1, v2, v3.below hb⟩
theorem VAt.apart {X L H tb n : Nat} {tv : Value} {r : RunP} {w : World} (h : VAt X L H tb n tv r w) : X ≠ L ∧ X ≠ H ∧ L ≠ H ∧ (tv = .slice none 0 0 ∨ (X ≠ tb ∧ L ≠ tb ∧ H ≠ tb)) := by
  obtain ⟨cl, l1, _⟩ := h.rl
  obtain ⟨ch, h1, _⟩ := h.rh
  have ne : ∀ {a b : Nat} {c d : Array Value} {s t : TypeId}, w.heap[a]? = some (.cells c s (0, 0)) → w.heap[b]? = some (.cells d t (0, 0)) → s ≠ t → a ≠ b := fun p q hst e => by
    rw [e, q] at p
    injection p with p
    injection p with _ p
    exact hst p.symm
  refine ⟨ne h.box l1 (by decide), ne h.box h1 (by decide), ne l1 h1 (by decide), ?_⟩
  rcases h.rt with ⟨e, _⟩ | ⟨o, cap, cur, _, hg, _⟩
  · exact .inl e
  · exact .inr ⟨ne h.box hg (by decide), ne l1 hg (by decide), ne h1 hg (by decide)⟩
theorem VStep.put {X L H tb k j : Nat} {w : World} (u : Value) (hk : Own4 X L H tb k) : VStep X L H tb tb w (w.setCell ⟨k, j, none⟩ u) :=
  ⟨rfl, rfl, rfl, by simp [World.setCell], fun i _ hn => heap_setCell_other w ⟨k, j, none⟩ i u (fun e => hn (by rw [show i = k from e]; exact hk)), .inl rfl⟩
theorem VAt.setBad {X L H tb n : Nat} {tv : Value} {r : RunP} {w : World} (h : VAt X L H tb n tv r w) : VAt X L H tb n tv { r with bad := true } (w.setCell ⟨X, 3, none⟩ (.bool true)) := by
  have st : VStep X L H tb tb w (w.setCell ⟨X, 3, none⟩ (.bool true)) := VStep.put _ (.inl rfl)
  obtain ⟨a1, a2, a3, a4⟩ := h.apart
  obtain ⟨cl, l1, l2, l3⟩ := h.rl
  obtain ⟨ch, h1, h2, h3⟩ := h.rh
  have o : ∀ k, k ≠ X → (w.setCell ⟨X, 3, none⟩ (.bool true)).heap[k]? = w.heap[k]? := fun k hk => heap_setCell_other w ⟨X, 3, none⟩ k _ hk
  refine ⟨heap_setCell_same w X 3 _ _ _ h.box, ⟨cl, (o L a1.symm).trans l1, l2, fun q s hs => ?_⟩, ⟨ch, (o H a2.symm).trans h1, h2, h3⟩, ?_, h.ll, by simpa using h.lt⟩
  · obtain ⟨v, v1, v2, v3⟩ := l3 q s hs
    exact ⟨v, v1, v2, st.regs v3⟩
  · rcases a4 with e | e
    · rcases h.rt with h5 | ⟨o', cap, cur, e5, _⟩
      · exact .inl h5
      · rw [e] at e5; cases e5
    · exact h.rt.keep (o tb e.1.symm)
theorem VAt.setTodo {X L H tb tb' n : Nat} {tv tv' : Value} {r : RunP} {w w1 : World} {m : List Nat} (h : VAt X L H tb n tv r w) (st : VStep X L H tb tb' w w1) (hX : w1.heap[X]? = w.heap[X]?) (hL : w1.heap[L]? = w.heap[L]?) (hH : w1.heap[H]? = w.heap[H]?) (hq : QAt w1 tb' tv' m) (hlt : tb' < w1.heap.size) :
    VAt X L H tb' n tv' { r with todo := m } (w1.setCell ⟨X, 2, none⟩ tv') := by
  obtain ⟨a1, a2, a3, a4⟩ := h.apart
  obtain ⟨cl, l1, l2, l3⟩ := h.rl
  obtain ⟨ch, h1, h2, h3⟩ := h.rh
  have o : ∀ k, k ≠ X → (w1.setCell ⟨X, 2, none⟩ tv').heap[k]? = w1.heap[k]? := fun k hk => heap_setCell_other w1 ⟨X, 2, none⟩ k _ hk
  have sp : VStep X L H tb' tb' w1 (w1.setCell ⟨X, 2, none⟩ tv') := VStep.put _ (.inl rfl)
  refine ⟨heap_setCell_same w1 X 2 _ _ _ (hX.trans h.box), ⟨cl, (o L a1.symm).trans (hL.trans l1), l2, fun q s hs => ?_⟩, ⟨ch, (o H a2.symm).trans (hH.trans h1), h2, h3⟩, ?_, h.ll, by simpa using hlt⟩
  · obtain ⟨v, v1, v2, v3⟩ := l3 q s hs
    exact ⟨v, v1, v2, sp.regs (st.regs v3)⟩
  · rcases hq with h5 | ⟨o', cap, cur, e5, hg, h5⟩
    · exact .inl h5
    · refine .inr ⟨o', cap, cur, e5, (o tb' ?_).trans hg, h5⟩
      intro e
      have := hX.trans h.box
      rw [e, this] at hg
      injection hg with hg
      injection hg with _ hg
      exact absurd hg (by decide)
theorem VAt.mark {X L H tb n : Nat} {tv : Value} {r : RunP} {w : World} (h : VAt X L H tb n tv r w) (q : Nat) (hq : q < n) : VAt X L H tb n tv { r with hit := r.hit.set q true } (w.setCell ⟨H, q, none⟩ (.bool true)) := by
  have st : VStep X L H tb tb w (w.setCell ⟨H, q, none⟩ (.bool true)) := VStep.put _ (.inr (.inr (.inl rfl)))
  obtain ⟨a1, a2, a3, a4⟩ := h.apart
  obtain ⟨cl, l1, l2, l3⟩ := h.rl
  obtain ⟨ch, h1, h2, h3⟩ := h.rh
  have o : ∀ k, k ≠ H → (w.setCell ⟨H, q, none⟩ (.bool true)).heap[k]? = w.heap[k]? := fun k hk => heap_setCell_other w ⟨H, q, none⟩ k _ hk
  refine ⟨(o X a2).trans h.box, ⟨cl, (o L a3).trans l1, l2, fun k s hs => ?_⟩, ⟨_, heap_setCell_same w H q _ _ _ h1, by rw [Array.size_setIfInBounds]; exact h2, fun k b hb => ?_⟩, ?_, h.ll, by simpa using h.lt⟩
  · obtain ⟨v, v1, v2, v3⟩ := l3 k s hs
    exact ⟨v, v1, v2, st.regs v3⟩
  · rw [Array.getElem?_setIfInBounds]
    by_cases e : q = k
    · subst e
      rw [if_pos rfl, if_pos (by omega)]
      have hb' : (r.hit.set q true)[q]? = some b := hb
      rw [List.getElem?_set] at hb'
      simp only [if_true] at hb'
      split at hb'
      · injection hb' with hb'; rw [hb']
      · cases hb'
    · rw [if_neg e]
      have hb' : (r.hit.set q true)[k]? = some b := hb
      rw [List.getElem?_set_ne e] at hb'
      exact h3 k b hb'
  · rcases a4 with e | e
    · rcases h.rt with h5 | ⟨o', cap, cur, e5, _⟩
      · exact .inl h5
      · rw [e] at e5; cases e5
    · exact h.rt.keep (o tb e.2.2.symm)
theorem VAt.putState {X L H tb n : Nat} {tv v : Value} {r : RunP} {w : World} (h : VAt X L H tb n tv r w) (q : Nat) (hq : q < n) (s : PSta) (hv : RegV w (Own4 X L H tb) v s.regs) :
    VAt X L H tb n tv { r with list := r.list.set q s } ((w.setCell ⟨L, q * 2, none⟩ (.int .i64 s.acc)).setCell ⟨L, q * 2 + 1, none⟩ v) ∧ VStep X L H tb tb w ((w.setCell ⟨L, q * 2, none⟩ (.int .i64 s.acc)).setCell ⟨L, q * 2 + 1, none⟩ v) := by
  have st : VStep X L H tb tb w ((w.setCell ⟨L, q * 2, none⟩ (.int .i64 s.acc)).setCell ⟨L, q * 2 + 1, none⟩ v) := (VStep.put (w := w) (k := L) (j := q * 2) (.int .i64 s.acc) (.inr (.inl rfl))).trans (VStep.put _ (.inr (.inl rfl)))
  obtain ⟨a1, a2, a3, a4⟩ := h.apart
  obtain ⟨cl, l1, l2, l3⟩ := h.rl
  obtain ⟨ch, h1, h2, h3⟩ := h.rh
  have o : ∀ k, k ≠ L → ((w.setCell ⟨L, q * 2, none⟩ (.int .i64 s.acc)).setCell ⟨L, q * 2 + 1, none⟩ v).heap[k]? = w.heap[k]? := fun k hk => (heap_setCell_other _ ⟨L, q * 2 + 1, none⟩ k _ hk).trans (heap_setCell_other w ⟨L, q * 2, none⟩ k _ hk)
  refine ⟨⟨(o X a1).trans h.box, ⟨_, heap_setCell_same _ L (q * 2 + 1) _ _ v (heap_setCell_same w L (q * 2) _ _ (.int .i64 s.acc) l1), by rw [Array.size_setIfInBounds, Array.size_setIfInBounds]; exact l2, fun k t ht => ?_⟩, ⟨ch, (o H a3.symm).trans h1, h2, h3⟩, ?_, by show (r.list.set q s).length = n; rw [List.length_set]; exact h.ll, by simpa using h.lt⟩, st⟩
  · by_cases e : q = k
    · subst e
      have ht' : (r.list.set q s)[q]? = some t := ht
      rw [List.getElem?_set_self (by rw [h.ll]; exact hq)] at ht'
      injection ht' with ht'
      subst ht'
      refine ⟨v, ?_, ?_, st.regs hv⟩
      · rw [Array.getElem?_setIfInBounds, if_neg (by omega), Array.getElem?_setIfInBounds, if_pos rfl, if_pos (by omega)]
      · rw [Array.getElem?_setIfInBounds, if_pos rfl, if_pos (by rw [Array.size_setIfInBounds]; omega)]
    · have ht' : (r.list.set q s)[k]? = some t := ht
      rw [List.getElem?_set_ne e] at ht'
      obtain ⟨u, v1, v2, v3⟩ := l3 k t ht'
      refine ⟨u, ?_, ?_, st.regs v3⟩
      · rw [Array.getElem?_setIfInBounds, if_neg (by omega), Array.getElem?_setIfInBounds, if_neg (by omega)]
        exact v1
      · rw [Array.getElem?_setIfInBounds, if_neg (by omega), Array.getElem?_setIfInBounds, if_neg (by omega)]
        exact v2
  · rcases a4 with e | e
    · rcases h.rt with h5 | ⟨o', cap, cur, e5, _⟩
      · exact .inl h5
      · rw [e] at e5; cases e5
    · exact h.rt.keep (o tb e.2.1.symm)
end Go.Proofs.Ytbgdapdenbldmaa
