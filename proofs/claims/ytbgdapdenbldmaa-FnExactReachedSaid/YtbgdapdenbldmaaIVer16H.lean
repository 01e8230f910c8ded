/-
  From a place on: the program's stepFrom.
-/
import Derived.Test.YtbgdapdenbldmaaIVer16G
import Derived.Test.YtbgdapdenbldmaaIVer16A
import Derived.Test.YtbgdapdenbldmaaVer16S
namespace Go.Proofs.Ytbgdapdenbldmaa
open Go.RowKit Go.Sort
set_option linter.unusedVariables false

variable {p : PImg} {f : PFun} {w0 : World} {R : Nat} {X S H L K n B : Nat} {fv cv : Value} {qc qk qh : Value} {r : RunP} {fi : Nat} {w w' : World}

/-- what follows from a place that is done -/
def afterI (p : PImg) (f : PFun) (q : Nat) (i : PIns) (s : PSta) (r : RunP) : RunP := if mayB p f i s then flowsI r (restP q i s) else { r with bad := true }

theorem rest_jump {q : Nat} {i : PIns} {s : PSta} (h : i.op = 12) : restP q i s = [(i.a.toNat, aftS i s)] := by
  unfold restP jumpsB endsB
  rw [h]
  rfl
theorem rest_both {q : Nat} {i : PIns} {s : PSta} (h : i.op = 13 ∨ i.op = 14) : restP q i s = [(i.a.toNat, aftS i s), (q + 1, aftS i s)] := by
  unfold restP jumpsB endsB
  rcases h with h | h <;> (rw [h]; rfl)
theorem rest_end {q : Nat} {i : PIns} {s : PSta} (h : i.op = 17 ∨ i.op = 18) : restP q i s = [] := by
  unfold restP jumpsB endsB
  rcases h with h | h <;> (rw [h]; rfl)
theorem rest_next {q : Nat} {i : PIns} {s : PSta} (h : i.op ≠ 12 ∧ i.op ≠ 13 ∧ i.op ≠ 14 ∧ i.op ≠ 17 ∧ i.op ≠ 18) : restP q i s = [(q + 1, aftS i s)] := by
  unfold restP jumpsB endsB
  rw [decide_eq_false (by omega), decide_eq_false (by omega)]
  rfl

theorem may_in {p : PImg} {f : PFun} {i : PIns} {s : PSta} (h : mayB p f i s = true) (hop : i.op = 3 ∨ i.op = 4) : regIn s i.a = true := by
  rcases hop with hop | hop
  · rw [may_3 hop, Bool.and_eq_true] at h; exact h.1
  · rw [may_4 hop, Bool.and_eq_true] at h; exact h.1

/-- the two boxes are made -/
structure StepM (I J : Nat) (ci cs : Array Value) (w wr : World) : Prop where
  bi : wr.heap[I]? = some (.cells ci 72 (0, 0))
  bj : wr.heap[J]? = some (.cells cs 98 (0, 0))
  bel : Below w.heap.size w wr
  lo : w.heap.size ≤ I ∧ w.heap.size ≤ J

theorem StepM.below {I J : Nat} {ci cs : Array Value} {w wr wr' : World} (h : StepM I J ci cs w wr) (hb : Below wr.heap.size wr wr') : StepM I J ci cs w wr' :=
  ⟨(hb.block _ (lt16 h.bi)).trans h.bi, (hb.block _ (lt16 h.bj)).trans h.bj, chain h.bel hb, h.lo⟩

set_option maxHeartbeats 4000000 in
set_option maxRecDepth 100000 in
theorem iStepFrom (C : TCtx p f w0 n R fv cv qc qk qh) (hB0 : w0.heap.size = B) (h : TAt X S H L K n B fv cv f.params f.regs qc qk qh r fi w) (hb : Below B w0 w) (hok : RunOk n R r) (q : Nat) (s : PSta) (i : PIns) (hs : r.list[q]? = some s) (hsr : s.regs.length = R) (hi : f.code[q]? = some i) :
    Calls Try.prog 84 #[.pointer (some ⟨X, 0, none⟩), .int .i64 (q : Int)] w fun e w' => e = .returned (.tuple #[]) ∧ TAt X S H L K n B fv cv f.params f.regs qc qk qh (afterI p f q i s r) fi w' ∧ TStep X S H L K w w' := by
  obtain ⟨le, hn, hn1, hR⟩ := C.le
  have hqn : q < n := by have := (List.getElem?_eq_some_iff.1 hs).1; have := h.ll; omega
  have hBw : B ≤ w.heap.size := by rw [← hB0]; have := hb.size; omega
  have hq0 : (0 : Int) ≤ (q : Int) := by omega
  have hq1 : (q : Int) < (n : Int) := by omega
  obtain ⟨xo, co, o1, o2, o3, _⟩ := h.at_ hs
  rw [hsr] at o2 o3
  obtain ⟨xk, ck, hqk, mk, ok⟩ := C.fn.code.opened insC_len
  have hio := le.codeOk i (List.mem_of_getElem? hi)
  obtain ⟨ho, ha, hbb⟩ := insOk_le hio
  rw [C.nn] at hqk ok
  obtain ⟨bk, ko, rfl, hbk, hck⟩ := ok (by omega)
  have hbB : bk < B := by omega
  have y0 : w.cell? ⟨bk, ko + q * 3, none⟩ = some (.int .i64 i.op) := (hb.cell (p := ⟨bk, ko + q * 3, none⟩) hbB).trans (hck q i hi 0 _ rfl)
  have y1 : w.cell? ⟨bk, ko + q * 3 + 1, none⟩ = some (.int .i64 i.a) := (hb.cell (p := ⟨bk, ko + q * 3 + 1, none⟩) hbB).trans (hck q i hi 1 _ rfl)
  have y2 : w.cell? ⟨bk, ko + q * 3 + 2, none⟩ = some (.int .i64 i.b) := (hb.cell (p := ⟨bk, ko + q * 3 + 2, none⟩) hbB).trans (hck q i hi 2 _ rfl)
  obtain ⟨IA, eA⟩ : ∃ k : Nat, i.a = (k : Int) := ⟨i.a.toNat, by omega⟩
  have hIA : IA ≤ 300 := by omega
  obtain ⟨OP, eO⟩ : ∃ k, i.op = k := ⟨_, rfl⟩
  obtain ⟨IB, eB⟩ : ∃ k, i.b = k := ⟨_, rfl⟩
  obtain ⟨AC, eC⟩ : ∃ k, s.acc = k := ⟨_, rfl⟩
  obtain ⟨MB, hMB⟩ : ∃ b, mayB p f i s = b := ⟨_, rfl⟩
  have HMB : Hid (mayB p f i s = MB) := hMB
  have HI : Hid (i.op = OP ∧ i.a = (IA : Int) ∧ i.b = IB ∧ s.acc = AC) := ⟨eO, eA, eB, eC⟩
  have cM := fun (W : World) (hW : Below w.heap.size w W) => iMayStep p f i s fv cv qc qk qh (.slice xo R co) W (C.img.below (by
      have h2 := (TStep.of_below (X := X) (S := S) (H := H) (L := L) (K := K) hW).low hb hBw h.lo
      rw [← hB0] at h2
      exact h2)) C.up (C.fn.below (by
      have h2 := (TStep.of_below (X := X) (S := S) (H := H) (L := L) (K := K) hW).low hb hBw h.lo
      rw [← hB0] at h2
      exact h2)) hio (o3.arg.below hW)
  have cT := fun (W : World) (hW : Below w.heap.size w W) (hin : i.op = 3 ∨ i.op = 4 → regIn s i.a = true) => iStepped i s (.slice xo R co) W (o3.arg.below hW) (by omega) hin
  simp only [eO, eA, eB, eC, hMB] at y0 y1 y2 o1 cM cT
  have HH : Hid _ := h
  have HOK : Hid (RunOk n R r) := hok
  have HSR : Hid (s.regs.length = R) := hsr
  have bc := boxC h.box
  have x5 := bc.c5
  rw [hqk] at x5
  have x7 := bc.c7
  have hXl := h.in_.1
  have hSl := h.in_.2.1
  have HBw : Hid (B ≤ w.heap.size) := hBw
  obtain ⟨PAV, ePA⟩ : ∃ k, f.params = k := ⟨_, rfl⟩
  obtain ⟨REV, eRE⟩ : ∃ k, f.regs = k := ⟨_, rfl⟩
  simp only [ePA, eRE] at cM HH ⊢
  obtain ⟨RES, hRES⟩ : ∃ t, afterI p f q i s r = t := ⟨_, rfl⟩
  rw [hRES]
  have HRES : Hid (afterI p f q i s r = RES) := hRES
  clear hRES
  -- what is read
  have HK : Hid (∀ W : World, Below w.heap.size w W → W.cell? ⟨X, 5, none⟩ = some (.slice (some ⟨bk, ko, none⟩) n ck) ∧ W.cell? ⟨X, 7, none⟩ = some (.slice (some ⟨S, 0, none⟩) n n) ∧ W.cell? ⟨bk, ko + q * 3, none⟩ = some (.int .i64 OP) ∧ W.cell? ⟨bk, ko + q * 3 + 1, none⟩ = some (.int .i64 IA) ∧ W.cell? ⟨bk, ko + q * 3 + 2, none⟩ = some (.int .i64 IB) ∧ W.cell? ⟨S, q * 2, none⟩ = some (.int .i64 AC) ∧ W.cell? ⟨S, q * 2 + 1, none⟩ = some (.slice xo R co)) := fun W hW => by
    have hkl : bk < w.heap.size := by omega
    exact ⟨(hW.cell (p := ⟨X, 5, none⟩) hXl).trans x5, (hW.cell (p := ⟨X, 7, none⟩) hXl).trans x7, (hW.cell (p := ⟨bk, _, none⟩) hkl).trans y0, (hW.cell (p := ⟨bk, _, none⟩) hkl).trans y1, (hW.cell (p := ⟨bk, _, none⟩) hkl).trans y2, (hW.cell (p := ⟨S, _, none⟩) hSl).trans o1, (hW.cell (p := ⟨S, _, none⟩) hSl).trans o2⟩
  obtain ⟨Z, hZ⟩ : ∃ z, w.heap.size = z := ⟨_, rfl⟩
  have HZ : Hid (w.heap.size = Z) := hZ
  have hqw : IntKind.i64.wrap ((q : Int) + 1) = (q : Int) + 1 := wrap_small (by omega) (by omega)
  clear C le ok hck hi hs hsr hok h bc mk hb hio ho ha hbb o3 eA eO eB eC hMB ePA eRE x5 x7 y0 y1 y2 o1 o2 hXl hSl hBw
  go_enter Try.func84, Try.ntmps84
  go_upto_region 0 with fail
  go_cut [4, 5] (fun p4 p5 wr => ∃ (I J : Nat), p4 = .pointer (some ⟨I, 0, none⟩) ∧ p5 = .pointer (some ⟨J, 0, none⟩) ∧ Hid (StepM I J #[.int .i64 OP, .int .i64 IA, .int .i64 IB] #[.int .i64 AC, .slice xo R co] w wr))
  case first =>
    have bS : ∀ {W : World} (o : Obj), Below w.heap.size w W → Below w.heap.size w (W.alloc o) := fun o h => h.alloc h.size o
    have bP : ∀ (Y j : Nat) (u : Value) {W : World}, Below w.heap.size w W → Z ≤ Y → Below w.heap.size w (W.setCell ⟨Y, j, none⟩ u) := fun Y j u W h hY => h.setCell (p := ⟨Y, j, none⟩) (by show w.heap.size ≤ Y; omega) u
    have hA : ∀ (o1 o2 : Obj), ((w.alloc o1).alloc o2).drew.heap[Z]? = some o1 ∧ ((w.alloc o1).alloc o2).drew.heap[Z + 1]? = some o2 := fun o1 o2 => by
      refine ⟨?_, ?_⟩
      · show ((w.alloc o1).alloc o2).heap[Z]? = _
        rw [heap_alloc_old (r := Z) _ _ (by simp; omega), ← hZ]; exact heap_alloc_new _ _
      · show ((w.alloc o1).alloc o2).heap[Z + 1]? = _
        rw [show Z + 1 = (w.alloc o1).heap.size by simp; omega]; exact heap_alloc_new _ _
    have hEA : Hid (StepM Z (Z + 1) #[.int .i64 OP, .int .i64 IA, .int .i64 IB] #[.int .i64 AC, .slice xo R co] w ((w.alloc (.cells #[.int .i64 OP, .int .i64 IA, .int .i64 IB] 72)).alloc (.cells #[.int .i64 AC, .slice xo R co] 98)).drew) := ⟨(hA _ _).1, (hA _ _).2, (bS _ (bS _ (Below.refl _ _))).drew, by omega, by omega⟩
    have hEB : Hid (StepM (Z + 1) Z #[.int .i64 OP, .int .i64 IA, .int .i64 IB] #[.int .i64 AC, .slice xo R co] w ((w.alloc (.cells #[.int .i64 AC, .slice xo R co] 98)).alloc (.cells #[.int .i64 OP, .int .i64 IA, .int .i64 IB] 72)).drew) := ⟨(hA _ _).2, (hA _ _).1, (bS _ (bS _ (Below.refl _ _))).drew, by omega, by omega⟩
    go_region_held_law (fun W => W.cell? ⟨X, 5, none⟩ = some (.slice (some ⟨bk, ko, none⟩) n ck) ∧ W.cell? ⟨X, 7, none⟩ = some (.slice (some ⟨S, 0, none⟩) n n) ∧ W.cell? ⟨bk, ko + q * 3, none⟩ = some (.int .i64 OP) ∧ W.cell? ⟨bk, ko + q * 3 + 1, none⟩ = some (.int .i64 IA) ∧ W.cell? ⟨bk, ko + q * 3 + 2, none⟩ = some (.int .i64 IB) ∧ W.cell? ⟨S, q * 2, none⟩ = some (.int .i64 AC) ∧ W.cell? ⟨S, q * 2 + 1, none⟩ = some (.slice xo R co))
      (exact HK.out _ (by repeat (first | with_reducible exact Below.refl _ _ | (with_reducible refine RowKit.Below.drew ?_) | (with_reducible refine bS _ ?_) | (with_reducible refine bP _ _ _ ?_ (by omega)))))
      (first | (fail))
    all_goals
      clear HK hA bS bP
      go_wp2
      go_meet
      case rel => first | exact ⟨_, _, rfl, rfl, hEA⟩ | exact ⟨_, _, rfl, rfl, hEB⟩
  case rest =>
    obtain ⟨I, J, rfl, rfl, HM⟩ := hcut
    have M := HM.out
    have T := HH.out.below M.bel
    have HKB : Hid (∀ W : World, Below wc.heap.size wc W → (((W.cell? ⟨X, 0, none⟩ = some fv ∧ W.cell? ⟨X, 1, none⟩ = some cv) ∧ W.cell? ⟨X, 2, none⟩ = some (.int .i64 PAV) ∧ W.cell? ⟨X, 3, none⟩ = some (.int .i64 REV) ∧ W.cell? ⟨X, 4, none⟩ = some qc ∧ W.cell? ⟨X, 5, none⟩ = some qk ∧ W.cell? ⟨X, 6, none⟩ = some qh) ∧ (W.cell? ⟨I, 0, none⟩ = some (.int .i64 OP) ∧ W.cell? ⟨I, 1, none⟩ = some (.int .i64 IA) ∧ W.cell? ⟨I, 2, none⟩ = some (.int .i64 IB)) ∧ (W.cell? ⟨J, 0, none⟩ = some (.int .i64 AC) ∧ W.cell? ⟨J, 1, none⟩ = some (.slice xo R co)))) := fun W hW => by
      have M2 := HM.out.below hW
      have bc := boxC (HH.out.below M2.bel).box
      exact ⟨⟨⟨bc.c0, bc.c1⟩, bc.c2, bc.c3, bc.c4, bc.c5, bc.c6⟩, three_cells M2.bi, two_cells_of M2.bj⟩
    have cM1 := fun (W : World) (hW : Below wc.heap.size wc W) => cM W (chain M.bel hW)
    have cT1 := fun (W : World) (hW : Below wc.heap.size wc W) => cT W (chain M.bel hW)
    have hA2 : ∀ {W V : World}, Below wc.heap.size wc W → Below W.heap.size W V → Hid (Below wc.heap.size wc V) := fun h k => chain h k
    clear cM cT M T HK
    rw [hqk] at HKB cM1
    go_upto_region 1 with fail
    go_region_held_law (fun W => (((W.cell? ⟨X, 0, none⟩ = some fv ∧ W.cell? ⟨X, 1, none⟩ = some cv) ∧ W.cell? ⟨X, 2, none⟩ = some (.int .i64 PAV) ∧ W.cell? ⟨X, 3, none⟩ = some (.int .i64 REV) ∧ W.cell? ⟨X, 4, none⟩ = some qc ∧ W.cell? ⟨X, 5, none⟩ = some (.slice (some ⟨bk, ko, none⟩) n ck) ∧ W.cell? ⟨X, 6, none⟩ = some qh) ∧ (W.cell? ⟨I, 0, none⟩ = some (.int .i64 OP) ∧ W.cell? ⟨I, 1, none⟩ = some (.int .i64 IA) ∧ W.cell? ⟨I, 2, none⟩ = some (.int .i64 IB)) ∧ (W.cell? ⟨J, 0, none⟩ = some (.int .i64 AC) ∧ W.cell? ⟨J, 1, none⟩ = some (.slice xo R co))))
      (exact HKB.out _ (by first | with_reducible exact Below.refl _ _ | with_reducible exact (Below.refl _ _).drew | with_reducible exact HB5.out | with_reducible exact RowKit.Below.drew HB5.out))
      (first | (go_at_call 117; (with_reducible refine (cM1 _ (by first | with_reducible exact Below.refl _ _ | with_reducible exact (Below.refl _ _).drew)).mono ?_); rintro e w5 ⟨rfl, hb5⟩; have HB5 := hA2 (by first | with_reducible exact Below.refl _ _ | with_reducible exact (Below.refl _ _).drew) hb5))
    have M5 := HM.out.below HB5.out
    have T5 := HH.out.below M5.bel
    have HS5 : Hid (TStep X S H L K w w5) := TStep.of_below M5.bel
    cases MB with
    | false =>
      have eR : RES = { r with bad := true } := by
        rw [← HRES.out]
        unfold afterI
        rw [HMB.out]
        rfl
      subst eR
      have bc := boxC T5.box
      have c13 := bc.c13
      have fz := bc.fz
      have HE : Hid _ := T5.setBad
      clear M5 T5 bc HKB cM1 cT1 hA2 hb5
      go_wp2
      go_returns
      exact ⟨rfl, HE.out, HS5.out.trans (TStep.put (k := X) (j := 13) (.bool true) (.inl rfl))⟩
    | true =>
      have eR : RES = flowsI r (restP q i s) := by
        rw [← HRES.out]
        unfold afterI
        rw [HMB.out]
        rfl
      have HER : Hid (RES = flowsI r (restP q i s)) := eR
      have hal : (aftS i s).regs.length = R := by rw [aft_len]; exact HSR.out
      have cT5 := cT1 w5 HB5.out (fun hop => by
        have hop' : i.op = 3 ∨ i.op = 4 := by rw [HI.out.1]; exact hop
        have h := may_in HMB.out hop'
        rw [HI.out.2.1] at h
        exact h)
      obtain ⟨AT, hAT⟩ : ∃ t, aftS i s = t := ⟨_, rfl⟩
      obtain ⟨RA, hRA⟩ : ∃ t, AT.acc = t := ⟨_, rfl⟩
      rw [hAT] at cT5 hal
      rw [hRA] at cT5
      have HAT : Hid (aftS i s = AT ∧ AT.acc = RA ∧ AT.regs.length = R) := ⟨hAT, hRA, hal⟩
      have cT6 := cT5.mono (fun e w' (hh : ∃ v, e = .returned (.agg #[.int .i64 RA, v]) ∧ OwnI w' w5.heap.size v AT.regs ∧ Below w5.heap.size w5 w') => show ∃ (y : Option Addr) (d : Nat), e = .returned (.agg #[.int .i64 RA, .slice y R d]) ∧ Hid (OwnI w' w5.heap.size (.slice y R d) AT.regs) ∧ Hid (Below w5.heap.size w5 w') by
        obtain ⟨v, e1, e2, e3⟩ := hh
        obtain ⟨y, d, rfl⟩ := row_slice e2
        rw [hal] at e1 e2
        exact ⟨y, d, e1, e2, e3⟩)
      obtain ⟨i0, i1, i2⟩ := three_cells M5.bi
      obtain ⟨j0, j1⟩ := two_cells_of M5.bj
      have HM5 : Hid _ := M5
      clear M5 T5 eR cT5 hAT hRA hal HKB cM1 cT1 hA2 hb5
      go_upto_region 4 with (go_at_call 118; (with_reducible refine cT6.mono ?_); rintro e w6 ⟨y6, d6, rfl, HO6, HB6⟩)
      clear cT6 i0 i1 i2 j0 j1
      have bA : Below w6.heap.size w6 (w6.alloc (.cells #[.int .i64 RA, .slice y6 R d6] 98)) := (Below.refl _ _).alloc (Nat.le_refl _) _
      have g7 : (w6.alloc (.cells #[.int .i64 RA, .slice y6 R d6] 98)).heap[w6.heap.size]? = some (.cells #[.int .i64 RA, .slice y6 R d6] 98 (0, 0)) := heap_alloc_new w6 _
      have b57 := chain HB6.out bA
      have M7 := HM5.out.below b57
      have ho7 : OwnI (w6.alloc (.cells #[.int .i64 RA, .slice y6 R d6] 98)) B (.slice y6 R d6) AT.regs := row_low (HO6.out.below bA) (Nat.le_trans HBw.out (HM5.out.bel.size))
      have hMl : w.heap.size ≤ w6.heap.size := Nat.le_trans HM5.out.bel.size HB6.out.size
      obtain ⟨W7, hW7⟩ : ∃ W, w6.alloc (.cells #[.int .i64 RA, .slice y6 R d6] 98) = W := ⟨_, rfl⟩
      obtain ⟨M, hM⟩ : ∃ k, w6.heap.size = k := ⟨_, rfl⟩
      rw [hM] at g7 hMl
      simp only [hW7, hM] at g7 b57 M7 ho7 ⊢
      have T7 := HH.out.below M7.bel
      have hMo : ¬ Own5 X S H L K M := by
        have := HH.out.in_
        unfold Own5
        omega
      obtain ⟨i0, i1, i2⟩ := three_cells M7.bi
      obtain ⟨j0, j1⟩ := two_cells_of g7
      have HS7 : Hid (TStep X S H L K w W7) := TStep.of_below M7.bel
      have HT7 : Hid _ := T7
      have HO7 : Hid _ := ho7
      have HG7 : Hid _ := g7
      have HB7 : Hid (B ≤ W7.heap.size) := Nat.le_trans HBw.out M7.bel.size
      -- a state comes to a place, from here on
      have cA := fun (q' : Nat) (hq' : q' ≤ 1000) => iArrive T7 HOK.out hn hR q' hq' AT HAT.out.2.2 (.slice y6 R d6) ho7 HB7.out (some ⟨bk, ko, none⟩) ck hqk
      simp only [HAT.out.2.1] at cA
      have hOKI : ∀ q', RunOk n R (flowI r q' AT) := fun q' => flowsI_ok (xs := [(q', AT)]) HOK.out (fun x hx => by simp at hx; rw [hx]; exact HAT.out.2.2)
      have HOKI : Hid _ := hOKI
      have hIi := lt16 M7.bi
      have hIo : ¬ Own5 X S H L K I := by
        have := HH.out.in_
        have := M7.lo
        unfold Own5
        omega
      have HM7 : Hid _ := M7
      clear hW7 hM T7 ho7 g7 M7 b57 bA hOKI
      by_cases c12 : OP = 12
      · subst c12
        have eR : RES = flowI r IA AT := by
          rw [HER.out, rest_jump HI.out.1, HAT.out.1, HI.out.2.1, Int.toNat_natCast]
          rfl
        subst eR
        have cA1 := cA IA (by omega)
        clear cA
        go_wp2_with (go_at_call 115; (with_reducible refine cA1.mono ?_); rintro e w8 ⟨rfl, h8, s8⟩)
        go_returns
        exact ⟨rfl, h8, HS7.out.trans s8⟩
      by_cases c134 : OP = 13 ∨ OP = 14
      · have eR : RES = flowI (flowI r IA AT) (q + 1) AT := by
          rw [HER.out, rest_both (by rw [HI.out.1]; exact c134), HAT.out.1, HI.out.2.1, Int.toNat_natCast]
          rfl
        subst eR
        have cA1 := cA IA (by omega)
        have hS8 : ∀ (V : World), TStep X S H L K W7 V → (V.cell? ⟨M, 0, none⟩ = some (.int .i64 RA) ∧ V.cell? ⟨M, 1, none⟩ = some (.slice y6 R d6)) := fun V hV => two_cells_of ((hV.block M (lt16 HG7.out) hMo).trans HG7.out)
        have cA2 := fun (V : World) (h8 : TAt X S H L K n B fv cv PAV REV qc qk qh (flowI r IA AT) fi V) (s8 : TStep X S H L K W7 V) => iArrive h8 (HOKI.out IA) hn hR (q + 1) (by omega) AT HAT.out.2.2 (.slice y6 R d6) (HT7.out.row s8 HO7.out) (Nat.le_trans HB7.out s8.size) (some ⟨bk, ko, none⟩) ck hqk
        simp only [HAT.out.2.1, Int.natCast_add, show ((1 : Nat) : Int) = 1 from rfl] at cA2
        clear cA
        rcases c134 with rfl | rfl
        all_goals
          go_upto_region 11 with (go_at_call 115; (with_reducible refine cA1.mono ?_); rintro e w8 ⟨rfl, h8, s8⟩)
          obtain ⟨m0, m1⟩ := hS8 _ s8
          have cA3 := cA2 _ h8 s8
          have HS8 : Hid (TStep X S H L K W7 w8) := s8
          clear cA2 cA1 h8 s8 i0 i1 i2 j0 j1 hS8
          go_wp2_with (go_at_call 115; (with_reducible refine cA3.mono ?_); rintro e w9 ⟨rfl, h9, s9⟩)
          go_returns
          exact ⟨rfl, h9, HS7.out.trans (HS8.out.trans s9)⟩
      by_cases c178 : OP = 17 ∨ OP = 18
      · have eR : RES = r := by
          rw [HER.out, rest_end (by rw [HI.out.1]; exact c178)]
          rfl
        subst eR
        clear cA
        rcases c178 with rfl | rfl
        all_goals
          go_wp2
          go_returns
          exact ⟨rfl, HT7.out, HS7.out⟩
      have eR : RES = flowI r (q + 1) AT := by
        rw [HER.out, rest_next (by rw [HI.out.1]; omega), HAT.out.1]
        rfl
      subst eR
      have cA1 := cA (q + 1) (by omega)
      simp only [Int.natCast_add, show ((1 : Nat) : Int) = 1 from rfl] at cA1
      have e12 : (OP == 12) = false := by rw [beq_eq_false_iff_ne]; omega
      have e13 : (OP == 13) = false := by rw [beq_eq_false_iff_ne]; omega
      have e14 : (OP == 14) = false := by rw [beq_eq_false_iff_ne]; omega
      have e17 : (OP == 17) = false := by rw [beq_eq_false_iff_ne]; omega
      have e18 : (OP == 18) = false := by rw [beq_eq_false_iff_ne]; omega
      clear cA
      go_wp2_with (go_at_call 115; (with_reducible refine cA1.mono ?_); rintro e w8 ⟨rfl, h8, s8⟩)
      go_returns
      exact ⟨rfl, h8, HS7.out.trans s8⟩

end Go.Proofs.Ytbgdapdenbldmaa
