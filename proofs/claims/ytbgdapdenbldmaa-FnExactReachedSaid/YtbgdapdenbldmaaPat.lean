/-
  Part 20 of what is proved of drawn right trees.
-/
import Derived.Test.YtbgdapdenbldmaaPaq

namespace Go.Proofs.Ytbgdapdenbldmaa
open Go.RowKit Go.Sort
set_option linter.unusedVariables false
def StaOut (p : PImg) (f : PFun) (X : Nat) (w w' : World) : Prop := ∃ L H tb n tv r, VAt X L H tb n tv r w' ∧ n = f.code.length ∧ Below w.heap.size w w' ∧ (w.heap.size ≤ X ∧ w.heap.size ≤ L ∧ w.heap.size ≤ H) ∧ (r.bad = true → ∀ F, ¬ Sound p f F) ∧ (r.bad = false → RunInv p f r ∧ r.todo = [])
theorem flow_on {X L H tbB n R : Nat} {r : RunP} {WB W W' : World} (hO : FlowOut X L H tbB n r WB W) (hok : RunOk n R r) (hm : r.todo.length ≤ 1000000) (hn : n ≤ 300) (hR : R ≤ 40) (q : Nat) (s : PSta) (v : Value) (hs : s.regs.length = R) (hq : q ≤ 1000) (hb : Below W.heap.size W W')
    (hv : RegV WB (Own4 X L H tbB) v s.regs ∨ OwnI W' W.heap.size v s.regs) :
    Calls Try.prog 68 #[.pointer (some ⟨X, 0, none⟩), .int .i64 q, .agg #[.int .i64 s.acc, v]] W' fun e w' => e = .returned (.tuple #[]) ∧ FlowOut X L H tbB n (flowP r q s) WB w' := by
  obtain ⟨tb, tv, v1, s1⟩ := hO
  have hlt : ∀ k, Own4 X L H tb k → k < W.heap.size := fun k hk => by
    rcases hk with rfl | rfl | rfl | rfl
    · exact lt16 v1.box
    · obtain ⟨_, h, _⟩ := v1.rl; exact lt16 h
    · obtain ⟨_, h, _⟩ := v1.rh; exact lt16 h
    · exact v1.lt
  have hv' : RegV W' (Own4 X L H tb) v s.regs := by
    rcases hv with hv | hv
    · exact (s1.regs hv).below hb
    · exact RegV.of_own hv hlt
  refine (l16Flow_any X L H tb n R tv r q s v W' (v1.below hb) hok hn hR hs hv' hq hm).mono (fun e w' hh => ⟨hh.1, ?_⟩)
  obtain ⟨tb2, tv2, v2, s2⟩ := hh.2
  exact ⟨tb2, tv2, v2, (s1.trans (VStep.of_below hb)).trans s2⟩
theorem run_todo {R : Nat} {r : RunP} (h : runM R r ≤ 30000) : r.todo.length ≤ 1000000 := by
  unfold runM at h
  omega
theorem take_more {α β : Type} {l : List α} {k : Nat} {x : α} {g : α → Option β} (h : l[k]? = some x) : (l.take (k + 1)).filterMap g = (l.take k).filterMap g ++ (match g x with | none => [] | some y => [y]) := by
  rw [List.take_add_one, h, List.filterMap_append]
  simp only [Option.toList_some, List.filterMap_cons, List.filterMap_nil]
  cases g x <;> rfl
set_option maxHeartbeats 4000000 in
set_option maxRecDepth 100000 in
theorem l16States_any (p : PImg) (f : PFun) (K : Nat) (fv cv : Value) (w : World) (h : ArgImg w fv cv p) (hok : imgOk p = true) (hf : p.funcs[K]? = some f) :
    Calls Try.prog 47 #[.agg #[fv, cv], .int .i64 K] w fun e w' => ∃ X, e = .returned (.pointer (some ⟨X, 0, none⟩)) ∧ StaOut p f X w w' := by
  have HI : Hid (ArgImg w fv cv p) := h
  obtain ⟨hF, hC⟩ := h
  obtain ⟨x1, c1, rfl, m1, o1⟩ := hF
  obtain ⟨x2, c2, rfl, m2, _⟩ := hC.opened conC_len
  have hKl : K < p.funcs.length := (List.getElem?_eq_some_iff.1 hf).1
  obtain ⟨b, o, rfl, hbl, hcell⟩ := o1 (by omega)
  obtain ⟨qc, qk, qh, hA⟩ := hcell K f hf
  obtain ⟨xc, cc, rfl, mc, _⟩ := hA.caps.opened capC_len
  obtain ⟨xk, ck, rfl, mk, ok⟩ := hA.code.opened insC_len
  obtain ⟨xh, ch, rfl, mh, oh⟩ := hA.hnds.opened hndC_len
  have hfun : funOk f = true := by
    have h := hok
    unfold imgOk at h
    simp only [Bool.and_eq_true] at h
    have h1 := h.2.2.2.1
    rw [List.all_eq_true] at h1
    exact h1 f (List.mem_iff_getElem?.2 ⟨K, hf⟩)
  have hb := hfun
  unfold funOk inB at hb
  simp only [Bool.and_eq_true, decide_eq_true_eq] at hb
  obtain ⟨⟨hp0, hp4⟩, ⟨hr0, hr40⟩, hc20, ⟨hk1, hk300⟩, hh40, _⟩ := hb
  unfold maxLen at m1 m2
  obtain ⟨n1, e1⟩ : ∃ n, p.funcs.length = n := ⟨_, rfl⟩
  obtain ⟨n2, e2⟩ : ∃ n, p.consts.length = n := ⟨_, rfl⟩
  obtain ⟨nc, e4⟩ : ∃ n, f.caps.length = n := ⟨_, rfl⟩
  obtain ⟨n, e5⟩ : ∃ n, f.code.length = n := ⟨_, rfl⟩
  obtain ⟨nh, e6⟩ : ∃ n, f.hnds.length = n := ⟨_, rfl⟩
  obtain ⟨PA, e7⟩ : ∃ n : Nat, f.params = (n : Int) := ⟨f.params.toNat, by omega⟩
  obtain ⟨R, e8⟩ : ∃ n : Nat, f.regs = (n : Int) := ⟨f.regs.toNat, by omega⟩
  have g0' := hA.c0
  have g1' := hA.c1
  have g2' := hA.c2
  have g3' := hA.c3
  have g4' := hA.c4
  simp only [e1, e2, e4, e5, e6, e7, e8] at m1 m2 mc mk mh ok oh hKl g0' g1' g2' g3' g4' hp0 hp4 hr0 hr40 hc20 hk1 hk300 hh40 HI ⊢
  have hRt : f.regs.toNat = R := by rw [e8]; simp
  have HL : Hid (p.funcs.length = n1 ∧ f.code.length = n ∧ f.hnds.length = nh ∧ f.params = (PA : Int) ∧ f.regs.toNat = R) := ⟨e1, e5, e6, e7, hRt⟩
  have HFK : Hid (p.funcs[K]? = some f ∧ funOk f = true ∧ imgOk p = true) := ⟨hf, hfun, hok⟩
  have hki : (K : Int) < (n1 : Int) := by omega
  have hk0 : (0 : Int) ≤ (K : Int) := by omega
  have hn3 : n ≤ 300 := by omega
  have hR4 : R ≤ 40 := by omega
  have hP4 : PA ≤ R := by omega
  have hn0 : 0 < n := by omega
  have OK : Hid (∀ (j : Nat) (i : PIns), f.code[j]? = some i → ∃ bk ko, xk = some ⟨bk, ko, none⟩ ∧ bk < w.heap.size ∧ w.cell? ⟨bk, ko + j * 3, none⟩ = some (.int .i64 i.op) ∧ w.cell? ⟨bk, ko + j * 3 + 1, none⟩ = some (.int .i64 i.a) ∧ w.cell? ⟨bk, ko + j * 3 + 2, none⟩ = some (.int .i64 i.b)) := fun j i hj => by
    obtain ⟨bk, ko, e, h1, h2⟩ := ok hn0
    exact ⟨bk, ko, e, h1, h2 j i hj 0 _ rfl, h2 j i hj 1 _ rfl, h2 j i hj 2 _ rfl⟩
  have OH : Hid (∀ (j : Nat) (i : PHnd), f.hnds[j]? = some i → ∃ bk ko, xh = some ⟨bk, ko, none⟩ ∧ bk < w.heap.size ∧ w.cell? ⟨bk, ko + j * 3, none⟩ = some (.int .i64 i.lo) ∧ w.cell? ⟨bk, ko + j * 3 + 1, none⟩ = some (.int .i64 i.hi) ∧ w.cell? ⟨bk, ko + j * 3 + 2, none⟩ = some (.int .i64 i.target)) := fun j i hj => by
    obtain ⟨bk, ko, e, h1, h2⟩ := oh (by have := (List.getElem?_eq_some_iff.1 hj).1; have := HL.out.2.2.1; omega)
    exact ⟨bk, ko, e, h1, h2 j i hj 0 _ rfl, h2 j i hj 1 _ rfl, h2 j i hj 2 _ rfl⟩
  clear ok oh hA hcell hC o1 hf hfun hok e1 e2 e4 e5 e6 e7 e8 hRt hp0 hp4 hr0 hr40 hc20 hk1 hk300
  have b1 : Below w.heap.size w (w.alloc (.cells #[.slice (some ⟨b, o, none⟩) n1 c1, .slice x2 n2 c2] 31)) := (Below.refl _ _).alloc (Nat.le_refl _) _
  have hG : (w.alloc (.cells #[.slice (some ⟨b, o, none⟩) n1 c1, .slice x2 n2 c2] 31)).heap[w.heap.size]? = some (.cells #[.slice (some ⟨b, o, none⟩) n1 c1, .slice x2 n2 c2] 31 (0, 0)) := heap_alloc_new w _
  have hz1 : (w.alloc (.cells #[.slice (some ⟨b, o, none⟩) n1 c1, .slice x2 n2 c2] 31)).heap.size = w.heap.size + 1 := by simp
  obtain ⟨W1, hW1⟩ : ∃ W, w.alloc (.cells #[.slice (some ⟨b, o, none⟩) n1 c1, .slice x2 n2 c2] 31) = W := ⟨_, rfl⟩
  obtain ⟨G, hGG⟩ : ∃ G, w.heap.size = G := ⟨_, rfl⟩
  rw [hW1] at b1 hG hz1
  rw [hGG] at hG hz1
  have HW1 : Hid (_ = W1) := hW1
  clear hW1
  have g0 := (b1.cell hbl).trans g0'
  have g1 := (b1.cell hbl).trans g1'
  have g2 := (b1.cell hbl).trans g2'
  have g3 := (b1.cell hbl).trans g3'
  have g4 := (b1.cell hbl).trans g4'
  obtain ⟨i0, i1⟩ := two_cells_of hG
  have b2 : Below W1.heap.size W1 (W1.alloc (.cells #[.int .i64 PA, .int .i64 R, .slice xc nc cc, .slice xk n ck, .slice xh nh ch] 70)) := (Below.refl _ _).alloc (Nat.le_refl _) _
  have hG2 : (W1.alloc (.cells #[.int .i64 PA, .int .i64 R, .slice xc nc cc, .slice xk n ck, .slice xh nh ch] 70)).heap[G + 1]? = some (.cells #[.int .i64 PA, .int .i64 R, .slice xc nc cc, .slice xk n ck, .slice xh nh ch] 70 (0, 0)) := by rw [← hz1]; exact heap_alloc_new W1 _
  have hz2 : (W1.alloc (.cells #[.int .i64 PA, .int .i64 R, .slice xc nc cc, .slice xk n ck, .slice xh nh ch] 70)).heap.size = G + 2 := by simp [hz1]
  obtain ⟨W2, hW2⟩ : ∃ W, W1.alloc (.cells #[.int .i64 PA, .int .i64 R, .slice xc nc cc, .slice xk n ck, .slice xh nh ch] 70) = W := ⟨_, rfl⟩
  rw [hW2] at b2 hG2 hz2
  have HW2 : Hid (_ = W2) := hW2
  clear hW2
  have F2 : SFix G #[.slice (some ⟨b, o, none⟩) n1 c1, .slice x2 n2 c2] #[.int .i64 PA, .int .i64 R, .slice xc nc cc, .slice xk n ck, .slice xh nh ch] W2 := by
    exact ⟨(b2.block _ (by omega)).trans hG, hG2⟩
  have B2 : Below w.heap.size w W2 := chain b1 b2
  have HG : Hid (w.heap.size = G ∧ W2.heap.size = G + 2) := ⟨hGG, hz2⟩
  clear g0' g1' g2' g3' g4' b2 hG2 hz2
  go_enter Try.func47, Try.ntmps47
  go_upto_region 1 with fail
  rw [HW1.out]
  clear HW1
  go_upto_region 2 with fail
  try rw [HW2.out]
  try simp only [HW2.out]
  clear HW2 g0 g1 g2 g3 g4 i0 i1 b1 hG hz1
  try simp only [HG.out.1]
  have hmS : ∀ W, (Instr.makeSlice 49 (.int .i64 (n : Int)) (.int .i64 (n : Int))).run Try.prog W = .ok (.slice (some ⟨W.heap.size, 0, none⟩) n n) (W.alloc (.cells (madeCells #[.int .i64 0, .slice none 0 0] (n * 2)) 98)) := fun W => made16 Try.underlying49 Try.infoSta16 (by decide) n (by omega) W
  have hmB : ∀ W, (Instr.makeSlice 50 (.int .i64 (n : Int)) (.int .i64 (n : Int))).run Try.prog W = .ok (.slice (some ⟨W.heap.size, 0, none⟩) n n) (W.alloc (.cells (madeCells #[.bool false] (n * 1)) 4)) := fun W => made16 Try.underlying50 Try.infoBool16 (by decide) n (by omega) W
  obtain ⟨CS, hCS⟩ : ∃ a, madeCells #[.int .i64 0, .slice none 0 0] (n * 2) = a := ⟨_, rfl⟩
  obtain ⟨CB, hCB⟩ : ∃ a, madeCells #[.bool false] (n * 1) = a := ⟨_, rfl⟩
  rw [hCS] at hmS
  rw [hCB] at hmB
  have hbR : ∀ (a d : Option Addr) (W : World), (Instr.build 96 #[(0, .slice a n n), (1, .slice d n n)]).run Try.prog W = .ok (.agg #[.slice a n n, .slice d n n, .slice none 0 0, .bool false]) W := fun a d W => run_build W 96 _ _ (by kernel_rfl)
  have HMK : Hid (∀ (X L H : Nat) (W : World), W.heap[L]? = some (.cells CS 98 (0, 0)) → W.heap[H]? = some (.cells CB 4 (0, 0)) → W.heap[X]? = some (.cells #[.slice (some ⟨L, 0, none⟩) n n, .slice (some ⟨H, 0, none⟩) n n, .slice none 0 0, .bool false] 96 (0, 0)) → VAt X L H X n (.slice none 0 0) (noneP f) W) := fun X L H W h1 h2 h3 => by
    refine ⟨h3, ⟨CS, h1, by rw [← hCS, size_madeCells], fun q s hs => ?_⟩, ⟨CB, h2, by rw [← hCB, size_madeCells, Nat.mul_one], fun q bb hb => ?_⟩, .inl ⟨rfl, rfl⟩, by simp [noneP, HL.out.2.1], lt16 h3⟩
    · have hs' : (List.replicate f.code.length (PSta.mk 0 []))[q]? = some s := hs
      rw [List.getElem?_replicate] at hs'
      split at hs'
      · injection hs' with hs'
        subst hs'
        rename_i hq
        rw [HL.out.2.1] at hq
        refine ⟨.slice none 0 0, ?_, ?_, ⟨⟨none, 0, rfl, Nat.zero_le _, rfl, fun h0 => by simp at h0⟩, fun h0 => by simp at h0⟩⟩
        · rw [← hCS, made_at (by omega)]
          have : q * 2 % 2 = 0 := by omega
          simp [this]
        · rw [← hCS, made_at (by omega)]
          have : (q * 2 + 1) % 2 = 1 := by omega
          simp [this]
      · cases hs'
    · have hb' : (List.replicate f.code.length false)[q]? = some bb := hb
      rw [List.getElem?_replicate] at hb'
      split at hb'
      · injection hb' with hb'
        subst hb'
        rename_i hq
        rw [HL.out.2.1] at hq
        rw [← hCB, made_at (by omega)]
        have : q % 1 = 0 := by omega
        simp [this]
      · cases hb'
  clear hCS hCB
  obtain ⟨f0, f1, f2, f3, f4⟩ := five_cells F2.b1
  go_cut [6] (fun pv wr => ∃ X L H : Nat, pv = .pointer (some ⟨X, 0, none⟩) ∧ Hid (VAt X L H X n (.slice none 0 0) (noneP f) wr ∧ Below W2.heap.size W2 wr ∧ G + 2 ≤ X ∧ G + 2 ≤ L ∧ G + 2 ≤ H))
  case first =>
    have HK : Hid (∀ W, Below W2.heap.size W2 W → W.cell? ⟨G + 1, 3, none⟩ = some (.slice xk n ck)) := fun W hW => (hW.cell (p := ⟨G + 1, 3, none⟩) (lt16 F2.b1)).trans f3
    have a1 : ∀ (o : Obj), Below W2.heap.size W2 (W2.alloc o) := fun o => (Below.refl _ _).alloc (Nat.le_refl _) o
    have a2 : ∀ (o o' : Obj), Below W2.heap.size W2 ((W2.alloc o).alloc o') := fun o o' => (a1 o).alloc (a1 o).size o'
    have a3 : ∀ (o o' o'' : Obj), Below W2.heap.size W2 (((W2.alloc o).alloc o').alloc o'') := fun o o' o'' => (a2 o o').alloc (a2 o o').size o''
    go_region_held3 (fun W => W.cell? ⟨G + 1, 3, none⟩ = some (.slice xk n ck))
      (exact HK.out _ (by first | with_reducible exact a1 _ | with_reducible exact a2 _ _ | with_reducible exact a3 _ _ _ | with_reducible exact RowKit.Below.drew (a1 _) | with_reducible exact RowKit.Below.drew (a2 _ _) | with_reducible exact RowKit.Below.drew (a3 _ _ _) | with_reducible exact (Below.refl _ _).drew | with_reducible exact Below.refl _ _))
      (fail)
    · have T := made_three W2 (.cells CS 98) (.cells CB 4) (.cells #[.slice (some ⟨W2.heap.size, 0, none⟩) n n, .slice (some ⟨W2.heap.size + 1, 0, none⟩) n n, .slice none 0 0, .bool false] 96)
      have HE : Hid (VAt (W2.heap.size + 1 + 1) (W2.heap.size) (W2.heap.size + 1) (W2.heap.size + 1 + 1) n (.slice none 0 0) (noneP f) (((W2.alloc (.cells CS 98)).alloc (.cells CB 4)).alloc (.cells #[.slice (some ⟨W2.heap.size, 0, none⟩) n n, .slice (some ⟨W2.heap.size + 1, 0, none⟩) n n, .slice none 0 0, .bool false] 96)) ∧ Below W2.heap.size W2 (((W2.alloc (.cells CS 98)).alloc (.cells CB 4)).alloc (.cells #[.slice (some ⟨W2.heap.size, 0, none⟩) n n, .slice (some ⟨W2.heap.size + 1, 0, none⟩) n n, .slice none 0 0, .bool false] 96)) ∧ G + 2 ≤ W2.heap.size + 1 + 1 ∧ G + 2 ≤ W2.heap.size ∧ G + 2 ≤ W2.heap.size + 1) := by
        have e := HG.out.2
        exact ⟨HMK.out _ _ _ _ T.1 T.2.1 T.2.2.1, T.2.2.2.2, by omega, by omega, by omega⟩
      have HD : Hid (VAt (W2.heap.size + 1 + 1) (W2.heap.size) (W2.heap.size + 1) (W2.heap.size + 1 + 1) n (.slice none 0 0) (noneP f) (((W2.alloc (.cells CS 98)).alloc (.cells CB 4)).alloc (.cells #[.slice (some ⟨W2.heap.size, 0, none⟩) n n, .slice (some ⟨W2.heap.size + 1, 0, none⟩) n n, .slice none 0 0, .bool false] 96)).drew ∧ Below W2.heap.size W2 (((W2.alloc (.cells CS 98)).alloc (.cells CB 4)).alloc (.cells #[.slice (some ⟨W2.heap.size, 0, none⟩) n n, .slice (some ⟨W2.heap.size + 1, 0, none⟩) n n, .slice none 0 0, .bool false] 96)).drew ∧ G + 2 ≤ W2.heap.size + 1 + 1 ∧ G + 2 ≤ W2.heap.size ∧ G + 2 ≤ W2.heap.size + 1) := ⟨HE.out.1.below (Below.refl _ _).drew, HE.out.2.1.drew, HE.out.2.2⟩
      clear T HMK HK a1 a2 a3
      go_wp2
      go_meet
      case rel => first | exact ⟨_, _, _, rfl, HE⟩ | exact ⟨_, _, _, rfl, HD⟩
    · have T := made_three W2 (.cells CB 4) (.cells CS 98) (.cells #[.slice (some ⟨W2.heap.size + 1, 0, none⟩) n n, .slice (some ⟨W2.heap.size, 0, none⟩) n n, .slice none 0 0, .bool false] 96)
      have HE : Hid (VAt (W2.heap.size + 1 + 1) (W2.heap.size + 1) (W2.heap.size) (W2.heap.size + 1 + 1) n (.slice none 0 0) (noneP f) (((W2.alloc (.cells CB 4)).alloc (.cells CS 98)).alloc (.cells #[.slice (some ⟨W2.heap.size + 1, 0, none⟩) n n, .slice (some ⟨W2.heap.size, 0, none⟩) n n, .slice none 0 0, .bool false] 96)) ∧ Below W2.heap.size W2 (((W2.alloc (.cells CB 4)).alloc (.cells CS 98)).alloc (.cells #[.slice (some ⟨W2.heap.size + 1, 0, none⟩) n n, .slice (some ⟨W2.heap.size, 0, none⟩) n n, .slice none 0 0, .bool false] 96)) ∧ G + 2 ≤ W2.heap.size + 1 + 1 ∧ G + 2 ≤ W2.heap.size + 1 ∧ G + 2 ≤ W2.heap.size) := by
        have e := HG.out.2
        exact ⟨HMK.out _ _ _ _ T.2.1 T.1 T.2.2.1, T.2.2.2.2, by omega, by omega, by omega⟩
      have HD : Hid (VAt (W2.heap.size + 1 + 1) (W2.heap.size + 1) (W2.heap.size) (W2.heap.size + 1 + 1) n (.slice none 0 0) (noneP f) (((W2.alloc (.cells CB 4)).alloc (.cells CS 98)).alloc (.cells #[.slice (some ⟨W2.heap.size + 1, 0, none⟩) n n, .slice (some ⟨W2.heap.size, 0, none⟩) n n, .slice none 0 0, .bool false] 96)).drew ∧ Below W2.heap.size W2 (((W2.alloc (.cells CB 4)).alloc (.cells CS 98)).alloc (.cells #[.slice (some ⟨W2.heap.size + 1, 0, none⟩) n n, .slice (some ⟨W2.heap.size, 0, none⟩) n n, .slice none 0 0, .bool false] 96)).drew ∧ G + 2 ≤ W2.heap.size + 1 + 1 ∧ G + 2 ≤ W2.heap.size + 1 ∧ G + 2 ≤ W2.heap.size) := ⟨HE.out.1.below (Below.refl _ _).drew, HE.out.2.1.drew, HE.out.2.2⟩
      clear T HMK HK a1 a2 a3
      go_wp2
      go_meet
      case rel => first | exact ⟨_, _, _, rfl, HE⟩ | exact ⟨_, _, _, rfl, HD⟩
  case rest =>
    obtain ⟨X, L, H, rfl, HV⟩ := hcut
    obtain ⟨V0, B0, hX0, hL0, hH0⟩ := HV.out
    clear HV HMK hmS hmB hbR f0 f1 f2 f3 f4
    have hmI : ∀ W, (Instr.makeSlice 35 (.int .i64 (R : Int)) (.int .i64 (R : Int))).run Try.prog W = .ok (.slice (some ⟨W.heap.size, 0, none⟩) R R) (W.alloc (.cells (madeCells #[.int .i64 0] (R * 1)) 3)) := fun W => made16 Try.underlying35 Try.info13I (by decide) R (by omega) W
    obtain ⟨CI, hCI⟩ : ∃ a, madeCells #[.int .i64 0] (R * 1) = a := ⟨_, rfl⟩
    rw [hCI] at hmI
    have hbS : ∀ (a : Option Addr) (W : World), (Instr.build 98 #[(1, .slice a R R)]).run Try.prog W = .ok (.agg #[.int .i64 0, .slice a R R]) W := fun a W => run_build W 98 _ _ (by kernel_rfl)
    have F0 := F2.low (B0.mono (by have := HG.out.2; omega))
    obtain ⟨f0, f1, f2, f3, f4⟩ := five_cells F0.b1
    obtain ⟨Z, hZ⟩ : ∃ Z, wc.heap.size = Z := ⟨_, rfl⟩
    have c1' : (wc.alloc (.cells CI 3)).heap[Z]? = some (.cells CI 3 (0, 0)) := by rw [← hZ]; exact heap_alloc_new wc _
    have c2' : ((wc.alloc (.cells CI 3)).alloc (.cells #[.int .i64 0, .slice (some ⟨Z, 0, none⟩) R R] 98)).heap[Z]? = some (.cells CI 3 (0, 0)) := by rw [heap_alloc_old (r := Z) _ _ (by simp; omega)]; exact c1'
    have c3' : ((wc.alloc (.cells CI 3)).alloc (.cells #[.int .i64 0, .slice (some ⟨Z, 0, none⟩) R R] 98)).heap[Z + 1]? = some (.cells #[.int .i64 0, .slice (some ⟨Z, 0, none⟩) R R] 98 (0, 0)) := by rw [show Z + 1 = (wc.alloc (.cells CI 3)).heap.size by simp; omega]; exact heap_alloc_new _ _
    have B3 : Below wc.heap.size wc ((wc.alloc (.cells CI 3)).alloc (.cells #[.int .i64 0, .slice (some ⟨Z, 0, none⟩) R R] 98)) := ((Below.refl _ _).alloc (Nat.le_refl _) _).alloc (by simp) _
    obtain ⟨W3, hW3⟩ : ∃ W, (wc.alloc (.cells CI 3)).alloc (.cells #[.int .i64 0, .slice (some ⟨Z, 0, none⟩) R R] 98) = W := ⟨_, rfl⟩
    rw [hW3] at c2' c3' B3
    have HW3 : Hid (_ = W3) := hW3
    have HZ : Hid (wc.heap.size = Z ∧ CI.size = R ∧ ∀ j, j < R → CI[j]? = some (.int .i64 0)) := ⟨hZ, by rw [← hCI, size_madeCells, Nat.mul_one], fun j hj => by
      rw [← hCI, made_at (by omega)]
      have : j % 1 = 0 := by omega
      simp [this]⟩
    clear hW3 hCI c1'
    go_upto_region 4 with fail
    try rw [HW3.out]
    clear HW3 hmI hbS f0 f1 f2 f3 f4
    have own0 : Hid (W3.ownsRow Z 3 1 (.slice (some ⟨Z, 0, none⟩) R R) R CI.toList) := by
      refine ⟨by simp [HZ.out.2.1], .inr ⟨Z, R, CI, rfl, Nat.le_refl _, c2', Nat.le_refl _, by unfold maxLen; omega, by rw [HZ.out.2.1, Nat.mul_one], by rw [Nat.mul_one, ← HZ.out.2.1, List.take_of_length_le (by simp)]⟩⟩
    go_wp2
    go_loopw [8] (fun x wr => ∃ (k : Nat) (xs : List Value), x = .int .i64 k ∧ k ≤ PA ∧ Hid (wr.ownsRow Z 3 1 (.slice (some ⟨Z, 0, none⟩) R R) R xs ∧ (∀ j, j < R → xs[j]? = some (.int .i64 (if j < k then 1 else 0))) ∧ W3.grownBy wr (some Z))) (fun x _ => PA - (intOf x).toNat)
    case atStart =>
      refine ⟨0, _, rfl, Nat.zero_le _, own0.out, fun j hj => ?_, ⟨rfl, rfl, rfl, Nat.le_refl _, fun _ _ _ => rfl⟩⟩
      have := HZ.out.2.2 j hj
      rw [if_neg (Nat.not_lt_zero _)]
      simpa using this
    case round =>
      obtain ⟨k, xs, rfl, hk, HR⟩ := hrel
      have hrow : ∀ (Y : Nat), Y ≠ Z → Y < W3.heap.size → wr.heap[Y]? = W3.heap[Y]? := fun Y hY hl => HR.out.2.2.block Y hl (fun h => hY (by injection h))
      have F3 : wr.heap[G + 1]? = some (.cells #[.int .i64 PA, .int .i64 R, .slice xc nc cc, .slice xk n ck, .slice xh nh ch] 70 (0, 0)) := by
        have l0 := lt16 F0.b1
        have := HZ.out.1
        have := B3.size
        rw [hrow (G + 1) (by omega) (by omega), B3.block _ l0]
        exact F0.b1
      have S3 : wr.heap[Z + 1]? = some (.cells #[.int .i64 0, .slice (some ⟨Z, 0, none⟩) R R] 98 (0, 0)) := (hrow (Z + 1) (by omega) (lt16 c3')).trans c3'
      obtain ⟨f0, f1, f2, f3, f4⟩ := five_cells F3
      obtain ⟨s0, s1⟩ := two_cells_of S3
      by_cases hkn : k < PA
      · obtain ⟨⟨u, hu⟩, hfz⟩ := row_cell HR.out.1 k (by omega)
        have hki2 : (k : Int) < (PA : Int) := by omega
        have hkR : (k : Int) < (R : Int) := by omega
        have hk02 : (0 : Int) ≤ (k : Int) := by omega
        have HN : Hid ((wr.setCell ⟨Z, k, none⟩ (.int .i64 1)).ownsRow Z 3 1 (.slice (some ⟨Z, 0, none⟩) R R) R (xs.set k (.int .i64 1)) ∧ (∀ j, j < R → (xs.set k (.int .i64 1))[j]? = some (.int .i64 (if j < k + 1 then 1 else 0))) ∧ W3.grownBy (wr.setCell ⟨Z, k, none⟩ (.int .i64 1)) (some Z)) := by
          refine ⟨(HR.out.1.stored k _).1, fun j hj => ?_, HR.out.2.2.trans (HR.out.1.stored k _).2⟩
          by_cases e : j = k
          · subst e
            rw [List.getElem?_set_self (by have := HR.out.1.1; omega), if_pos (by omega)]
          · rw [List.getElem?_set_ne (by omega), HR.out.2.1 j hj]
            by_cases h2 : j < k
            · rw [if_pos h2, if_pos (by omega)]
            · rw [if_neg h2, if_neg (by omega)]
        clear HR hrow F3 S3
        go_wp2
        go_roundw
        case rel => exact ⟨k + 1, _, by go_num, by omega, HN⟩
        case measure => simp [intOf]; omega
      · have hki2 : ¬ (k : Int) < (PA : Int) := by omega
        have ek : k = PA := by omega
        have Bw : Below wc.heap.size wc wr := ⟨HR.out.2.2.os.trans B3.os, HR.out.2.2.tape.trans B3.tape, HR.out.2.2.output.trans B3.output, Nat.le_trans B3.size HR.out.2.2.size, fun Y hY => (hrow Y (by have := HZ.out.1; omega) (Nat.lt_of_lt_of_le hY B3.size)).trans (B3.block Y hY)⟩
        have V1 := V0.below Bw
        have hO : OwnI wr Z (.slice (some ⟨Z, 0, none⟩) R R) (firstS f).regs := by
          have hl : (firstS f).regs.length = R := by rw [firstS_len]; exact HL.out.2.2.2.2
          have e := ints_is (l := (firstS f).regs) (xs := xs) (by rw [hl]; have := HR.out.1.1; omega) (fun j z hz => by
            have hj : j < R := by have := (List.getElem?_eq_some_iff.1 hz).1; omega
            rw [HR.out.2.1 j hj]
            have hz' : ((List.range f.regs.toNat).map fun (k : Nat) => if (k : Int) < f.params then (1 : Int) else 0)[j]? = some z := hz
            rw [List.getElem?_map, List.getElem?_range (by rw [HL.out.2.2.2.2]; exact hj)] at hz'
            simp only [Option.map_some, Option.some.injEq] at hz'
            rw [← hz', HL.out.2.2.2.1, ek]
            by_cases h2 : j < PA
            · rw [if_pos h2, if_pos (by omega)]
            · rw [if_neg h2, if_neg (by omega)])
          unfold OwnI
          rw [hl, ← e]
          exact HR.out.1
        have hOwn : ∀ q, Own4 X L H X q → q < Z := fun q hq => by
          have e := HZ.out.1
          rcases hq with rfl | rfl | rfl | rfl
          · have := lt16 V0.box; omega
          · obtain ⟨_, h, _⟩ := V0.rl; have := lt16 h; omega
          · obtain ⟨_, h, _⟩ := V0.rh; have := lt16 h; omega
          · have := lt16 V0.box; omega
        have okN : RunOk n R (noneP f) := by
          refine ⟨by simp [noneP, HL.out.2.1], by simp [noneP, HL.out.2.1], fun q t h => ?_, fun q t h _ => ?_, fun q h => ?_⟩
          · rw [none_fam] at h; cases h
          · have h' : (List.replicate f.code.length (PSta.mk 0 []))[q]? = some t := h
            rw [List.getElem?_replicate] at h'
            split at h'
            · injection h' with h'; exact h'.symm
            · cases h'
          · cases h
        have hFl : (firstS f).regs.length = R := by rw [firstS_len]; exact HL.out.2.2.2.2
        have cF : Calls Try.prog 68 #[.pointer (some ⟨X, 0, none⟩), .int .i64 0, .agg #[.int .i64 0, .slice (some ⟨Z, 0, none⟩) R R]] wr _ := l16Flow_any X L H X n R (.slice none 0 0) (noneP f) 0 (firstS f) (.slice (some ⟨Z, 0, none⟩) R R) wr V1 okN hn3 hR4 hFl (RegV.of_own hO hOwn) (by omega) (by simp [noneP])
        have hzX : X < wr.heap.size := Nat.lt_of_lt_of_le (lt16 V0.box) Bw.size
        have hB2 : Below (G + 2) W2 wr := (B0.mono (by have := HG.out.2; omega)).trans (Bw.mono (by have := lt16 F0.b1; have := HG.out.2; have := B0.size; omega))
        have hwz : G + 2 ≤ wr.heap.size := by have := Bw.size; have := B0.size; have := HG.out.2; omega
        have hStart : ∀ W, FlowOut X L H X n (flowP (noneP f) 0 (firstS f)) wr W → ∃ m, SRun G X L H n p f W2 W m := fun W hW => by
          obtain ⟨tb, tv, v1, s1⟩ := hW
          refine ⟨_, ⟨tb, tv, _, v1, start_inv p f, rfl, ?_, ?_⟩, ⟨hX0, hL0, hH0⟩, s1.low hB2 hwz ⟨hX0, hL0, hH0, hX0⟩⟩
          · refine Nat.le_trans (flow_less (n := n) (by rw [HL.out.2.2.2.2]; exact okN) 0 (firstS f) (firstS_len f)) (none_M f (by rw [HL.out.2.1]; exact hn3) (by rw [HL.out.2.2.2.2]; exact hR4))
          · rcases s1.tb with e | e
            · rw [e]; exact hX0
            · omega
        have HST : Hid _ := hStart
        clear hStart V1 hO hOwn okN hFl Bw hrow F3 S3 HR ek hB2 V0 B0 c2' c3' B3 own0
        go_wp2_with (go_at_call 68; (with_reducible refine cF.mono ?_); rintro e w1 ⟨rfl, hf1⟩)
        have HS1 := HST.out _ hf1
        clear HST hf1 cF f0 f1 f2 f3 f4 s0 s1 hki2 hkn hk
        obtain ⟨m1, HSR⟩ := HS1
        have HS0 : Hid (SRun G X L H n p f W2 w1 m1) := HSR
        clear HSR F0
        have HF2 : Hid (SFix G #[.slice (some ⟨b, o, none⟩) n1 c1, .slice x2 n2 c2] #[.int .i64 PA, .int .i64 R, .slice xc nc cc, .slice xk n ck, .slice xh nh ch] W2 ∧ Below w.heap.size w W2) := ⟨F2, B2⟩
        clear F2 B2
        go_loopw [4, 9, 10, 11, 12, 13, 14] (fun _ _ _ _ _ _ _ wr => ∃ m, Hid (SRun G X L H n p f W2 wr m)) (fun _ _ _ _ _ _ _ wr => Classical.epsilon (Least (SRun G X L H n p f W2 wr)))
        case atStart => exact ⟨_, HS0⟩
        case round =>
          clear HS0
          obtain ⟨m0, HS⟩ := hrel
          have SM := (leastN_is HS.out).1
          obtain ⟨M, hM⟩ : ∃ M, Classical.epsilon (Least (SRun G X L H n p f W2 wr)) = M := ⟨_, rfl⟩
          rw [hM] at SM
          have HM : Hid (Classical.epsilon (Least (SRun G X L H n p f W2 wr)) = M) := hM
          clear hM HS
          obtain ⟨⟨tb, tv, r, V, I, eM, hM3, htb⟩, hlo, hB⟩ := SM
          have HIv : Hid (RunInv p f r ∧ runM f.regs.toNat r = M ∧ runM f.regs.toNat r ≤ 30000) := ⟨I, eM, hM3⟩
          have hBw : Below w.heap.size w wr := by
            have e := HG.out
            exact (HF2.out.2.mono (Nat.le_refl _)).trans (hB.mono (by omega))
          have HOut : Hid (∀ (tb' : Nat) (tv' : Value) (r' : RunP) (W : World), VAt X L H tb' n tv' r' W → Below w.heap.size w W → (r'.bad = true → ∀ F, ¬ Sound p f F) → (r'.bad = false → RunInv p f r' ∧ r'.todo = []) → StaOut p f X w W) := fun tb' tv' r' W h1 h2 h3 h4 => ⟨L, H, tb', n, tv', r', h1, HL.out.2.1.symm, h2, by have := HG.out.1; omega, h3, h4⟩
          clear I eM hM3
          obtain ⟨v0, v1, v2, v3⟩ := four_cells V.box
          rcases V.rt with ⟨rfl, hnil⟩ | ⟨qo, cap, cur, rfl, hg, hcs, hlc, hcm, hcell⟩
          · have HE : Hid (StaOut p f X w wr) := HOut.out _ _ r wr V hBw (fun hb => bad_no HIv.out.1 hb) (fun _ => ⟨HIv.out.1, hnil⟩)
            clear V HOut hB
            go_wp2
            go_ret
            exact ⟨_, rfl, HE.out⟩
          · cases htd : r.todo with
            | nil =>
              have HE : Hid (StaOut p f X w wr) := HOut.out _ _ r wr V hBw (fun hb => bad_no HIv.out.1 hb) (fun _ => ⟨HIv.out.1, htd⟩)
              rw [htd] at v2
              clear V HOut hB hcell hg
              go_wp2
              go_ret
              exact ⟨_, rfl, HE.out⟩
            | cons q mm =>
              obtain ⟨T1, hT1⟩ : ∃ T, mm.length = T := ⟨_, rfl⟩
              rw [htd, List.length_cons, hT1] at v2
              have HTD : Hid (r.todo = q :: mm ∧ mm.length = T1) := ⟨htd, hT1⟩
              obtain ⟨bd, hbd⟩ : ∃ x, r.bad = x := ⟨_, rfl⟩
              rw [hbd] at v3
              cases bd with
              | true =>
                have HE : Hid (StaOut p f X w wr) := HOut.out _ _ r wr V hBw (fun hb => bad_no HIv.out.1 hb) (fun h => by rw [hbd] at h; cases h)
                clear V HOut hB hcell hg htd hT1
                go_wp2
                go_ret
                exact ⟨_, rfl, HE.out⟩
              | false =>
                have HBD : Hid (r.bad = false) := hbd
                obtain ⟨C1, rfl⟩ : ∃ C, cap = C + 1 := ⟨cap - 1, by rw [htd] at hlc; simp at hlc; omega⟩
                have hq0 : wr.cell? ⟨tb, qo, none⟩ = some (.int .i64 (q : Int)) := by
                  rw [cell_of_row _ _ _ _ _ _ hg]
                  have := hcell 0 q (by rw [htd]; rfl)
                  simpa using this
                have fX := fun j => frozen_of_row wr X j _ _ V.box
                have hTC : T1 ≤ C1 := by rw [htd] at hlc; simp at hlc; omega
                clear htd hT1 hbd
                obtain ⟨xq, hxq⟩ : ∃ x, (if C1 = 0 then some (⟨tb, qo, none⟩ : Addr) else some ⟨tb, qo + 1, none⟩) = x := ⟨_, rfl⟩
                have hQ1 : QAt wr tb (.slice xq T1 C1) mm := by
                  by_cases hC : C1 = 0
                  · rw [if_pos hC] at hxq
                    have e0 : mm = [] := List.eq_nil_of_length_eq_zero (by have := HTD.out.2; omega)
                    exact .inr ⟨qo, C1, cur, by rw [← hxq, HTD.out.2], hg, by omega, by rw [HTD.out.2]; exact hTC, by omega, fun j z hj => by rw [e0] at hj; simp at hj⟩
                  · rw [if_neg hC] at hxq
                    refine .inr ⟨qo + 1, C1, cur, by rw [← hxq, HTD.out.2], hg, by omega, by rw [HTD.out.2]; exact hTC, by omega, fun j z hj => ?_⟩
                    have := hcell (j + 1) z (by rw [HTD.out.1]; simpa using hj)
                    rw [show qo + 1 + j = qo + (j + 1) by omega]
                    exact this
                have VA := V.setTodo (tv' := .slice xq T1 C1) (VStep.of_below (Below.refl _ _)) rfl rfl rfl hQ1 V.lt
                have SA : VStep X L H tb tb wr (wr.setCell ⟨X, 2, none⟩ (.slice xq T1 C1)) := VStep.put _ (.inl rfl)
                have BA : Below (G + 2) W2 (wr.setCell ⟨X, 2, none⟩ (.slice xq T1 C1)) := SA.low hB (by have := HG.out.2; have := hB.size; omega) ⟨hlo.1, hlo.2.1, hlo.2.2, htb⟩
                obtain ⟨WA, hWA⟩ : ∃ W, wr.setCell ⟨X, 2, none⟩ (.slice xq T1 C1) = W := ⟨_, rfl⟩
                rw [hWA] at VA SA BA
                have HWA : Hid (_ = WA) := hWA
                have HXQ : Hid (_ = xq) := hxq
                clear hxq hWA hQ1
                go_upto_region 12 with fail
                simp only [HXQ.out]
                rw [HWA.out]
                clear HXQ
                clear HWA v0 v1 v2 v3 fX hq0 hg hcell
                have hqn : q < n := by
                  obtain ⟨t, ht⟩ := HIv.out.1.ok.todo q (by rw [HTD.out.1]; simp)
                  have := (List.getElem?_eq_some_iff.1 (fam_at ht).2).1
                  have := V.ll
                  omega
                obtain ⟨st, hst⟩ : ∃ t, r.list[q]? = some t := ⟨_, List.getElem?_eq_getElem (by have := V.ll; omega)⟩
                obtain ⟨ii, hii⟩ : ∃ i, f.code[q]? = some i := ⟨_, List.getElem?_eq_getElem (by have := HL.out.2.1; omega)⟩
                have hfam : fam r q = some st := by
                  obtain ⟨t, ht⟩ := HIv.out.1.ok.todo q (by rw [HTD.out.1]; simp)
                  have e := (fam_at ht).2
                  rw [hst] at e
                  injection e with e
                  rw [e]; exact ht
                have hstR : st.regs.length = R := by rw [HIv.out.1.ok.regs q st hfam]; exact HL.out.2.2.2.2
                obtain ⟨cl, l1, l2, l3⟩ := VA.rl
                obtain ⟨vs, k1, k2, k3⟩ := l3 q st hst
                obtain ⟨xv, cv', rfl, mv, _⟩ := k3.1.opened
                rw [hstR] at k2 k3
                obtain ⟨SC, eSC⟩ : ∃ x, st.acc = x := ⟨_, rfl⟩
                rw [eSC] at k1
                have q0 : WA.cell? ⟨L, q * 2, none⟩ = some (.int .i64 SC) := by rw [cell_of_row _ _ _ _ _ _ l1]; exact k1
                have q1 : WA.cell? ⟨L, q * 2 + 1, none⟩ = some (.slice xv R cv') := by rw [cell_of_row _ _ _ _ _ _ l1]; exact k2
                obtain ⟨v0, v1, v2, v3⟩ := four_cells VA.box
                have hqi : (q : Int) < (n : Int) := by omega
                have hqi0 : (0 : Int) ≤ (q : Int) := by omega
                have FA := HF2.out.1.low BA
                obtain ⟨bk, ko, exk, hbk, y0', y1', y2'⟩ := OK.out q ii hii
                have hBA : Below w.heap.size w WA := by
                  have e := HG.out
                  exact (HF2.out.2.mono (Nat.le_refl _)).trans (BA.mono (by omega))
                have bS : Below WA.heap.size WA (WA.alloc (.cells #[.int .i64 SC, .slice xv R cv'] 98)) := (Below.refl _ _).alloc (Nat.le_refl _) _
                have hS1 : (WA.alloc (.cells #[.int .i64 SC, .slice xv R cv'] 98)).heap[WA.heap.size]? = some (.cells #[.int .i64 SC, .slice xv R cv'] 98 (0, 0)) := heap_alloc_new WA _
                obtain ⟨WS, hWS⟩ : ∃ W, WA.alloc (.cells #[.int .i64 SC, .slice xv R cv'] 98) = W := ⟨_, rfl⟩
                have hzS : WS.heap.size = WA.heap.size + 1 := by rw [← hWS]; simp
                rw [hWS] at bS hS1
                have HWS : Hid (_ = WS) := hWS
                obtain ⟨SB, hSB⟩ : ∃ x, WA.heap.size = x := ⟨_, rfl⟩
                rw [hSB] at hS1 hzS
                clear hWS
                go_upto_region 13 with fail
                rw [HWS.out]
                clear HWS v0 v1 v2 v3 q0 q1 l1 l2 l3 k1 k2
                obtain ⟨g0, g1, g2, g3, g4⟩ := five_cells ((bS.block (G + 1) (lt16 FA.b1)).trans FA.b1)
                have y0 := ((chain hBA bS).cell hbk).trans y0'
                have y1 := ((chain hBA bS).cell hbk).trans y1'
                have y2 := ((chain hBA bS).cell hbk).trans y2'
                subst exk
                have bI : Below WS.heap.size WS (WS.alloc (.cells #[.int .i64 ii.op, .int .i64 ii.a, .int .i64 ii.b] 72)) := (Below.refl _ _).alloc (Nat.le_refl _) _
                have hI1 : (WS.alloc (.cells #[.int .i64 ii.op, .int .i64 ii.a, .int .i64 ii.b] 72)).heap[SB + 1]? = some (.cells #[.int .i64 ii.op, .int .i64 ii.a, .int .i64 ii.b] 72 (0, 0)) := by rw [← hzS]; exact heap_alloc_new WS _
                obtain ⟨WI, hWI⟩ : ∃ W, WS.alloc (.cells #[.int .i64 ii.op, .int .i64 ii.a, .int .i64 ii.b] 72) = W := ⟨_, rfl⟩
                have hWIz : WI.heap.size = WS.heap.size + 1 := by rw [← hWI]; simp
                have HWIz : Hid (WI.heap.size = WS.heap.size + 1) := hWIz
                rw [hWI] at bI hI1
                have HWI : Hid (_ = WI) := hWI
                clear hWIz
                clear hWI
                go_upto_region 14 with fail
                rw [HWI.out]
                clear HWI g0 g1 g2 g3 g4 y0 y1 y2 y0' y1' y2'
                have VI := (VA.below bS).below bI
                have hBI : Below w.heap.size w WI := chain (chain hBA bS) bI
                have k3I := (k3.below bS).below bI
                have hSB2 : WI.heap[SB]? = some (.cells #[.int .i64 SC, .slice xv R cv'] 98 (0, 0)) := (bI.block _ (by omega)).trans hS1
                have hBI2 : Below (G + 2) W2 WI := BA.trans ((bS.mono (by have := lt16 FA.b1; omega)).trans (bI.mono (by have := lt16 FA.b1; have := bS.size; omega)))
                have FI := HF2.out.1.low hBI2
                have hins := (img_ins HFK.out.2.2 HFK.out.1 hii).1
                have hOwnSB : ∀ k, Own4 X L H tb k → k < SB := fun k hk => by
                  rcases hk with rfl | rfl | rfl | rfl
                  · have := lt16 VA.box; omega
                  · obtain ⟨_, h, _⟩ := VA.rl; have := lt16 h; omega
                  · obtain ⟨_, h, _⟩ := VA.rh; have := lt16 h; omega
                  · have := VA.lt; omega
                have cM0 := l16May_any p f K ii st _ _ _ WI (HI.out.below hBI) HFK.out.1 hins k3I.1
                simp only [eSC] at cM0
                obtain ⟨MB, hMB⟩ : ∃ x, mayB p f ii st = x := ⟨_, rfl⟩
                have HMB : Hid (mayB p f ii st = MB) := hMB
                simp only [hMB] at cM0
                have HST : Hid (r.list[q]? = some st ∧ f.code[q]? = some ii ∧ st.acc = SC ∧ st.regs.length = R ∧ insOk ii = true) := ⟨hst, hii, eSC, hstR, hins⟩
                obtain ⟨i0, i1⟩ := two_cells_of FI.b0
                obtain ⟨s0, s1⟩ := two_cells_of hSB2
                obtain ⟨j0, j1, j2⟩ := three_cells hI1
                have hK3 : Hid (RegV WI (Own4 X L H tb) (.slice xv R cv') st.regs) := k3I
                have hSI : G + 2 ≤ WI.heap.size := by have := hBI2.size; have := HG.out.2; omega
                have hLTS : SB + 1 < WI.heap.size := lt16 hI1
                have HLO : Hid (G + 2 ≤ X ∧ G + 2 ≤ L ∧ G + 2 ≤ H ∧ G + 2 ≤ tb ∧ WI.heap.size = SB + 2) := ⟨hlo.1, hlo.2.1, hlo.2.2, htb, by have := HWIz.out; omega⟩
                clear hst hii eSC hstR hins hMB k3I k3 VA SA BA FA bS hS1 hBA bI
                cases MB with
                | false =>
                  have HE : Hid (∀ W, Below WI.heap.size WI W → StaOut p f X w (W.setCell ⟨X, 3, none⟩ (.bool true))) := fun W hW => by
                    have VW := (VI.below hW).setBad
                    refine HOut.out _ _ _ _ VW ((chain hBI hW).setCell (p := ⟨X, 3, none⟩) (by show _ ≤ X; have := HLO.out; have := HG.out.1; omega) _) (fun _ => may_no HIv.out.1 (by rw [HTD.out.1]; simp) HST.out.1 HST.out.2.1 HMB.out) (fun h => by cases h)
                  have hX4 : ∀ W, Below WI.heap.size WI W → W.heap[X]? = some (.cells #[.slice (some ⟨L, 0, none⟩) n n, .slice (some ⟨H, 0, none⟩) n n, .slice xq T1 C1, .bool r.bad] 96 (0, 0)) := fun W hW => (VI.below hW).box
                  clear VI FI hBI2 hSB2 hI1 hOwnSB HOut hB V
                  go_upto_region 15 with (go_at_call 69; (with_reducible refine cM0.mono ?_); rintro e w4 ⟨rfl, hb4⟩)
                  have HE4 : Hid _ := HE.out _ hb4
                  obtain ⟨u0, u1, u2, u3⟩ := four_cells (hX4 _ hb4)
                  have fX := fun j => frozen_of_row w4 X j _ _ (hX4 _ hb4)
                  clear hX4 HE hb4 cM0 i0 i1 s0 s1 j0 j1 j2
                  go_wp2
                  all_goals
                    go_ret
                    exact ⟨_, rfl, HE4.out⟩
                | true =>
                  obtain ⟨r1, hr1⟩ : ∃ x, ({ r with todo := mm } : RunP) = x := ⟨_, rfl⟩
                  rw [hr1] at VI
                  have HR1 : Hid (({ r with todo := mm } : RunP) = r1) := hr1
                  have okr : RunOk n R r1 := by
                    have h := HIv.out.1.ok
                    rw [HL.out.2.1, HL.out.2.2.2.2] at h
                    rw [← hr1]
                    exact ⟨h.len, h.hlen, h.regs, h.zero, fun k hk => h.todo k (by rw [HTD.out.1]; exact List.mem_cons_of_mem _ hk)⟩
                  have hM1 : runM R r1 ≤ 30000 := by
                    have h := HIv.out.2.2
                    rw [HL.out.2.2.2.2] at h
                    rw [← hr1]
                    unfold runM at h ⊢
                    rw [HTD.out.1] at h
                    simp only [List.length_cons] at h
                    show 2 * wsum R r.list r.hit + mm.length ≤ 30000
                    omega
                  have HFL : Hid (∀ xs : List (Nat × PSta), (∀ x ∈ xs, x.2.regs.length = R) → RunOk n R (flowsP r1 xs) ∧ (flowsP r1 xs).todo.length ≤ 1000000) := fun xs hx => ⟨(flows_flowed xs okr hx).2.1, run_todo (Nat.le_trans (flows_less xs okr hx) hM1)⟩
                  have hnO : ∀ k, k < WI.heap.size → (k < G + 2 ∨ k = SB ∨ k = SB + 1) → ¬ Own4 X L H tb k := fun k hk hc hx => by
                    have h1 := HLO.out
                    have h2 := hOwnSB k hx
                    unfold Own4 at hx
                    omega
                  have HOL : Hid (∀ k, k < WI.heap.size → (k = SB ∨ k = SB + 1) → ¬ Own4 X L H tb k) := fun k hk hc => hnO k hk (.inr hc)
                  have HFX : Hid (∀ (r' : RunP) (W : World), FlowOut X L H tb n r' WI W → SFix G #[.slice (some ⟨b, o, none⟩) n1 c1, .slice x2 n2 c2] #[.int .i64 PA, .int .i64 R, .slice xc nc cc, .slice (some ⟨bk, ko, none⟩) n ck, .slice xh nh ch] W ∧ W.heap[SB]? = some (.cells #[.int .i64 SC, .slice xv R cv'] 98 (0, 0)) ∧ W.heap[SB + 1]? = some (.cells #[.int .i64 ii.op, .int .i64 ii.a, .int .i64 ii.b] 72 (0, 0)) ∧ Below w.heap.size w W ∧ WI.heap.size ≤ W.heap.size ∧ W.heap[X]? ≠ none ∧ ArgI W (.slice xv R cv') st.regs) := fun r' W hW => by
                    obtain ⟨tb', tv', v1, s1⟩ := hW
                    have e := HG.out.1
                    have e2 := HLO.out
                    refine ⟨⟨(s1.block G (lt16 FI.b0) (hnO G (lt16 FI.b0) (by omega))).trans FI.b0, (s1.block (G + 1) (lt16 FI.b1) (hnO (G + 1) (lt16 FI.b1) (by omega))).trans FI.b1⟩, (s1.block SB (lt16 hSB2) (hnO SB (lt16 hSB2) (by omega))).trans hSB2, (s1.block (SB + 1) (lt16 hI1) (hnO (SB + 1) (lt16 hI1) (by omega))).trans hI1, s1.low hBI (by have := hBI.size; omega) (by omega), s1.size, by rw [v1.box]; simp, (s1.regs hK3.out).1⟩
                  have HOW : Hid (∀ W, Below WI.heap.size WI W → FlowOut X L H tb n (flowsP r1 ((f.hnds.take 0).filterMap (hndTo q st))) WI W) := fun W hW => ⟨tb, _, VI.below hW, VStep.of_below hW⟩
                  have HBI2 : Hid (Below (G + 2) W2 WI) := hBI2
                  clear VI FI hBI2 hSB2 hI1 hOwnSB hnO hB V okr hM1 hr1 HOut
                  go_upto_region 17 with (go_at_call 69; (with_reducible refine cM0.mono ?_); rintro e w4 ⟨rfl, hb4⟩)
                  have HO4 : Hid _ := HOW.out _ hb4
                  clear HOW hb4 cM0 i0 i1 s0 s1 j0 j1 j2
                  go_wp2
                  go_loopw [12, 13] (fun x _ wr => ∃ k : Nat, x = .int .i64 k ∧ k ≤ nh ∧ Hid (FlowOut X L H tb n (flowsP r1 ((f.hnds.take k).filterMap (hndTo q st))) WI wr)) (fun x _ _ => nh - (intOf x).toNat)
                  case atStart => exact ⟨0, rfl, Nat.zero_le _, HO4⟩
                  case round =>
                    clear HO4
                    obtain ⟨kk, rfl, hkk, HO⟩ := hrel
                    obtain ⟨FQ, hSQ, hIQ, hBQ, hzQ, hXQ, hAQ⟩ := HFX.out _ _ HO.out
                    have hxl : ∀ (j : Nat), ∀ x ∈ (f.hnds.take j).filterMap (hndTo q st), x.2.regs.length = R := fun j x hx => by
                      obtain ⟨hd, _, h2⟩ := List.mem_filterMap.1 hx
                      unfold hndTo at h2
                      split at h2
                      · injection h2 with h2; rw [← h2]; exact HST.out.2.2.2.1
                      · cases h2
                    obtain ⟨g0, g1, g2, g3, g4⟩ := five_cells FQ.b1
                    obtain ⟨s0, s1⟩ := two_cells_of hSQ
                    by_cases hlt : kk < nh
                    · have hki3 : (kk : Int) < (nh : Int) := by omega
                      have hk03 : (0 : Int) ≤ (kk : Int) := by omega
                      obtain ⟨hd, hhd⟩ : ∃ x, f.hnds[kk]? = some x := ⟨_, List.getElem?_eq_getElem (by have := HL.out.2.2.1; omega)⟩
                      obtain ⟨bh, ho, exh, hbh, z0', z1', z2'⟩ := OH.out kk hd hhd
                      subst exh
                      have z0 := (hBQ.cell hbh).trans z0'
                      have z1 := (hBQ.cell hbh).trans z1'
                      have z2 := (hBQ.cell hbh).trans z2'
                      have hho : hndOk hd = true := by
                        have h := HFK.out.2.1
                        unfold funOk at h
                        simp only [Bool.and_eq_true] at h
                        have h4 := h.2.2.2.2.2.2.2
                        rw [List.all_eq_true] at h4
                        exact h4 hd (List.mem_iff_getElem?.2 ⟨kk, hhd⟩)
                      unfold hndOk inB at hho
                      simp only [Bool.and_eq_true, decide_eq_true_eq] at hho
                      obtain ⟨TG, eTG⟩ : ∃ x : Nat, hd.target = (x : Int) := ⟨hd.target.toNat, by omega⟩
                      obtain ⟨LO, eLO⟩ : ∃ x, hd.lo = x := ⟨_, rfl⟩
                      obtain ⟨HI2, eHI⟩ : ∃ x, hd.hi = x := ⟨_, rfl⟩
                      rw [eTG] at z2
                      rw [eLO] at z0
                      rw [eHI] at z1
                      have hTG : TG ≤ 300 := by omega
                      have HNX : Hid ((f.hnds.take (kk + 1)).filterMap (hndTo q st) = (f.hnds.take kk).filterMap (hndTo q st) ++ (if LO ≤ (q : Int) ∧ (q : Int) < HI2 then [(TG, ⟨1, st.regs⟩)] else [])) := by
                        show _ = _
                        rw [take_more hhd]
                        congr 1
                        unfold hndTo
                        rw [eTG, eLO, eHI, Int.toNat_natCast]
                        by_cases hc : LO ≤ (q : Int) ∧ (q : Int) < HI2
                        · rw [if_pos hc, if_pos hc]
                        · rw [if_neg hc, if_neg hc]
                      have bH : Below wr.heap.size wr (wr.alloc (.cells #[.int .i64 LO, .int .i64 HI2, .int .i64 (TG : Int)] 130)) := (Below.refl _ _).alloc (Nat.le_refl _) _
                      have hHB : (wr.alloc (.cells #[.int .i64 LO, .int .i64 HI2, .int .i64 (TG : Int)] 130)).heap[wr.heap.size]? = some (.cells #[.int .i64 LO, .int .i64 HI2, .int .i64 (TG : Int)] 130 (0, 0)) := heap_alloc_new wr _
                      obtain ⟨WH, hWH⟩ : ∃ W, wr.alloc (.cells #[.int .i64 LO, .int .i64 HI2, .int .i64 (TG : Int)] 130) = W := ⟨_, rfl⟩
                      rw [hWH] at bH hHB
                      have HWH : Hid (_ = WH) := hWH
                      obtain ⟨HB, hHBq⟩ : ∃ x, wr.heap.size = x := ⟨_, rfl⟩
                      rw [hHBq] at hHB
                      clear hWH hho eTG eLO eHI z0' z1' z2' hhd
                      go_upto_region 21 with fail
                      rw [HWH.out]
                      clear HWH z0 z1 z2 g0 g1 g2 g3 g4 s0 s1
                      obtain ⟨t0, t1, t2⟩ := three_cells hHB
                      obtain ⟨tbH, tvH, vQ, sQ⟩ := HO.out
                      have vH := vQ.below bH
                      have sH := sQ.trans (VStep.of_below (X := X) (L := L) (H := H) (tb := tbH) bH)
                      have hOwH : ∀ k, Own4 X L H tbH k → k < HB := fun k hk => by
                        rcases hk with rfl | rfl | rfl | rfl
                        · have := lt16 vQ.box; omega
                        · obtain ⟨_, h, _⟩ := vQ.rl; have := lt16 h; omega
                        · obtain ⟨_, h, _⟩ := vQ.rh; have := lt16 h; omega
                        · have := vQ.lt; omega
                      have HOH : Hid (FlowOut X L H tb n (flowsP r1 ((f.hnds.take kk).filterMap (hndTo q st))) WI WH) := ⟨tbH, tvH, vH, sH⟩
                      by_cases hc : LO ≤ (q : Int) ∧ (q : Int) < HI2
                      · have hc1 := hc.1
                        have hc2 := hc.2
                        obtain ⟨i0, hi, hz0, hz1, hz2⟩ := info_in Try.info13I
                        have hSBH : WH.heap[SB]? = some (.cells #[.int .i64 SC, .slice xv R cv'] 98 (0, 0)) := (bH.block SB (lt16 hSQ)).trans hSQ
                        have hArH : ArgFlat WH (.slice xv R cv') 1 R (st.regs.flatMap intC) := by
                          have h := hAQ.below bH
                          unfold ArgI at h
                          rw [HST.out.2.2.2.1] at h
                          exact h
                        have hnSB : ¬ Own4 X L H tbH SB := fun hx => by
                          have h1 := HOL.out SB (by have := HLO.out; omega) (.inl rfl)
                          exact sQ.own (by have := HLO.out; omega) h1 hx
                        have hnHB : ¬ Own4 X L H tbH HB := fun hx => by have := hOwH HB hx; omega
                        obtain ⟨t0, t1, t2⟩ := three_cells hHB
                        obtain ⟨s0, s1⟩ := two_cells_of hSBH
                        have HKB : Hid (∀ W, Below WH.heap.size WH W → W.cell? ⟨HB, 2, none⟩ = some (.int .i64 (TG : Int)) ∧ W.cell? ⟨SB, 1, none⟩ = some (.slice xv R cv')) := fun W hW => ⟨(hW.cell (p := ⟨HB, 2, none⟩) (lt16 hHB)).trans t2, (hW.cell (p := ⟨SB, 1, none⟩) (lt16 hSBH)).trans s1⟩
                        have HKF : Hid (∀ (r' : RunP) W, FlowOut X L H tbH n r' WH W → W.cell? ⟨HB, 2, none⟩ = some (.int .i64 (TG : Int)) ∧ W.cell? ⟨SB, 1, none⟩ = some (.slice xv R cv')) := fun r' W hW => by
                          obtain ⟨_, _, _, st2⟩ := hW
                          have e1 := st2.block HB (lt16 hHB) hnHB
                          have e2 := st2.block SB (lt16 hSBH) hnSB
                          exact ⟨(three_cells (e1.trans hHB)).2.2, (two_cells_of (e2.trans hSBH)).2⟩
                        have hFL := HFL.out _ (hxl kk)
                        have hBase : FlowOut X L H tbH n (flowsP r1 ((f.hnds.take kk).filterMap (hndTo q st))) WH WH := ⟨tbH, tvH, vH, VStep.of_below (Below.refl _ _)⟩
                        have cFl : ∀ (y : Option Addr) (d : Nat) (W : World), Below WH.heap.size WH W → W.ownsRow WH.heap.size 3 1 (.slice y R d) R (st.regs.flatMap intC) → Calls Try.prog 68 #[.pointer (some ⟨X, 0, none⟩), .int .i64 (TG : Int), .agg #[.int .i64 1, .slice y R d]] W fun e w' => e = .returned (.tuple #[]) ∧ FlowOut X L H tbH n (flowP (flowsP r1 ((f.hnds.take kk).filterMap (hndTo q st))) TG ⟨1, st.regs⟩) WH w' := fun y d W hW ho =>
                          flow_on hBase hFL.1 hFL.2 hn3 hR4 TG ⟨1, st.regs⟩ (.slice y R d) HST.out.2.2.2.1 (by omega) hW (.inr (by unfold OwnI; rw [HST.out.2.2.2.1]; exact ho))
                        have HEND : Hid (∀ W, FlowOut X L H tbH n (flowP (flowsP r1 ((f.hnds.take kk).filterMap (hndTo q st))) TG ⟨1, st.regs⟩) WH W → FlowOut X L H tb n (flowsP r1 ((f.hnds.take (kk + 1)).filterMap (hndTo q st))) WI W) := fun W hW => by
                          rw [HNX.out, if_pos hc, flowsP_app, flowsP_one]
                          obtain ⟨tb', tv', v1, st2⟩ := hW
                          exact ⟨tb', tv', v1, sH.trans st2⟩
                        have hbS1 : ∀ (a : Option Addr) (d : Nat) (W : World), (Instr.build 98 #[(0, .int .i64 1), (1, .slice a R d)]).run Try.prog W = .ok (.agg #[.int .i64 1, .slice a R d]) W := fun a d W => run_build W 98 _ _ (by kernel_rfl)
                        obtain ⟨ZH, hZH⟩ : ∃ x, WH.heap.size = x := ⟨_, rfl⟩
                        have e1 : (WH.alloc (.cells #[] 3)).drew.heap[ZH]? = some (.cells #[] 3 (0, 0)) := by rw [← hZH]; exact heap_alloc_new WH _
                        have bE : Below WH.heap.size WH (WH.alloc (.cells #[] 3)).drew := ((Below.refl _ _).alloc (Nat.le_refl _) _).drew
                        have hBW : ArgFlat (WH.alloc (.cells #[] 3)).drew (.slice xv R cv') 1 R (st.regs.flatMap intC) := hArH.below bE
                        have hGR : ∀ (W' : World), (WH.alloc (.cells #[] 3)).drew.grownBy W' (Value.ownBlock (.slice (some ⟨ZH, 0, none⟩) 0 0)) → Hid (Below WH.heap.size WH W') := fun W' h2 => Below.grown bE h2 bE.size (fun k e => by have e2 : ZH = k := Option.some.inj e; omega)
                        have hHid : ∀ (W : World) (v : Value), W.ownsRow WH.heap.size 3 1 v R (st.regs.flatMap intC) → Hid (W.ownsRow WH.heap.size 3 1 v R (st.regs.flatMap intC)) := fun W v h => h
                        have hone := one_int st.regs
                        have hR9 : R ≤ 1000000000 := by omega
                        have hle0 : WH.heap.size ≤ ZH := by omega
                        clear t0 t1 t2 s0 s1 hc HOH HO vQ sQ vH sH hBase hArH hSBH hnSB hnHB hOwH HNX hFL
                        go_upto_region 22 with fail
                        go_region_held_law (fun W => W.cell? ⟨HB, 2, none⟩ = some (.int .i64 (TG : Int)) ∧ W.cell? ⟨SB, 1, none⟩ = some (.slice xv R cv'))
                          (first | exact HKF.out _ _ HF8.out | exact HKB.out _ (by first | with_reducible exact HB5.out | with_reducible exact RowKit.Below.drew HB5.out | with_reducible exact bE | with_reducible exact Below.refl _ _ | with_reducible exact (Below.refl _ _).drew))
                          (first
                            | (refine step_copyI rfl _ _ 35 rfl WH.heap.size 3 i0 _ 1 8 Try.underlying35 hi hz0 hz1 hz2 rfl (by decide) (by decide) (.slice (some ⟨ZH, 0, none⟩) 0 0) rfl (own16 e1 hle0) (.slice xv R cv') rfl R _ hBW hone hR9 bE.size (some 124) rfl ?_; intro v5 w5 ho5 hg5; have HB5 := hGR _ hg5; obtain ⟨y5, d5, rfl⟩ := row_slice ho5; have HO5 := hHid _ _ ho5; clear ho5 hg5)
                            | (go_simp; go_at_call 68; (with_reducible refine (cFl _ _ _ HB5.out HO5.out).mono ?_); rintro e w8 ⟨rfl, hf8⟩; have HF8 : Hid (FlowOut X L H tbH n (flowP (flowsP r1 ((f.hnds.take kk).filterMap (hndTo q st))) TG ⟨1, st.regs⟩) WH w8) := hf8; clear hf8))
                        all_goals
                          have HN2 : Hid _ := HEND.out _ HF8.out
                          clear HF8 HEND HKB HKF cFl
                          go_wp2
                          go_roundw
                          case rel => exact ⟨kk + 1, by go_num, by omega, HN2⟩
                          case measure => simp [intOf]; omega
                      · have HN2 : Hid (FlowOut X L H tb n (flowsP r1 ((f.hnds.take (kk + 1)).filterMap (hndTo q st))) WI WH) := by
                          show FlowOut _ _ _ _ _ _ _ _
                          rw [HNX.out, if_neg hc, List.append_nil]
                          exact HOH.out
                        by_cases hc1 : LO ≤ (q : Int)
                        · have hc2 : ¬ (q : Int) < HI2 := fun h => hc ⟨hc1, h⟩
                          clear hc HNX HOH HO vQ sQ vH sH hOwH
                          go_wp2
                          go_roundw
                          case rel => exact ⟨kk + 1, by go_num, by omega, HN2⟩
                          case measure => simp [intOf]; omega
                        · clear hc HNX HOH HO vQ sQ vH sH hOwH
                          go_wp2
                          go_roundw
                          case rel => exact ⟨kk + 1, by go_num, by omega, HN2⟩
                          case measure => simp [intOf]; omega
                    · have hki3 : ¬ (kk : Int) < (nh : Int) := by omega
                      have ekk : f.hnds.take kk = f.hnds := List.take_of_length_le (by have := HL.out.2.2.1; omega)
                      rw [ekk] at HO
                      obtain ⟨rr, hrr⟩ : ∃ x, flowsP r1 (f.hnds.filterMap (hndTo q st)) = x := ⟨_, rfl⟩
                      rw [hrr] at HO
                      have hFL := HFL.out (f.hnds.filterMap (hndTo q st)) (by have h := hxl kk; rw [ekk] at h; exact h)
                      rw [hrr] at hFL
                      have hin3 : ii.op = 3 ∨ ii.op = 4 → regIn st ii.a = true := fun h => by
                        have hm := HMB.out
                        rcases h with h | h
                        · rw [may_3 h, Bool.and_eq_true] at hm; exact hm.1
                        · rw [may_4 h, Bool.and_eq_true] at hm; exact hm.1
                      have cA0 := l16After_any ii st _ wr hAQ (by rw [HST.out.2.2.2.1]; omega) hin3
                      simp only [HST.out.2.2.1] at cA0
                      obtain ⟨af, haf⟩ : ∃ x, aftS ii st = x := ⟨_, rfl⟩
                      have hafl : af.regs.length = R := by rw [← haf, aft_len]; exact HST.out.2.2.2.1
                      simp only [haf] at cA0
                      obtain ⟨AA, eAA⟩ : ∃ x, af.acc = x := ⟨_, rfl⟩
                      simp only [eAA] at cA0
                      have cA := cA0.mono (fun e w' (hh : ∃ v', e = .returned (.agg #[.int .i64 AA, v']) ∧ OwnI w' wr.heap.size v' af.regs ∧ Below wr.heap.size wr w') => show ∃ (y : Option Addr) (d : Nat), e = .returned (.agg #[.int .i64 AA, .slice y R d]) ∧ OwnI w' wr.heap.size (.slice y R d) af.regs ∧ Below wr.heap.size wr w' by
                        obtain ⟨v, e1, e2, e3⟩ := hh
                        obtain ⟨y, d, rfl⟩ := row_slice e2
                        rw [hafl] at e1 e2
                        exact ⟨y, d, e1, e2, e3⟩)
                      clear cA0
                      obtain ⟨tbJ, tvJ, vQ, sQ⟩ := HO.out
                      have hOwJ : ∀ k, Own4 X L H tbJ k → k < wr.heap.size := fun k hk => by
                        rcases hk with rfl | rfl | rfl | rfl
                        · exact lt16 vQ.box
                        · obtain ⟨_, h, _⟩ := vQ.rl; exact lt16 h
                        · obtain ⟨_, h, _⟩ := vQ.rh; exact lt16 h
                        · exact vQ.lt
                      have hBWr : Below (G + 2) W2 wr ∧ G + 2 ≤ tbJ := by
                        have e := HLO.out
                        refine ⟨sQ.low HBI2.out (by omega) ⟨e.1, e.2.1, e.2.2.1, e.2.2.2.1⟩, ?_⟩
                        rcases sQ.tb with h | h
                        · omega
                        · omega
                      have hnIB : ¬ Own4 X L H tbJ (SB + 1) := fun hx => sQ.own (by have := HLO.out; omega) (HOL.out (SB + 1) (by have := HLO.out; omega) (.inr rfl)) hx
                      obtain ⟨j0, j1, j2⟩ := three_cells hIQ
                      have hFIN : ∀ (WJ W : World) (r' : RunP), Below wr.heap.size wr WJ → r' = stepP f q ii st r1 → FlowOut X L H tbJ n r' WJ W → ∃ m, m < M ∧ SRun G X L H n p f W2 W m := fun WJ W r' hb er hW => by
                        obtain ⟨tb', tv', v1, s1⟩ := hW
                        have e1 := HLO.out
                        have hz := hzQ
                        have I1 := step_inv HIv.out.1 HBD.out HTD.out.1 HST.out.1 HST.out.2.1 HMB.out
                        have I2 := step_less (i := ii) HIv.out.1 HTD.out.1 HST.out.1
                        rw [HR1.out, ← er] at I1 I2
                        have hm := HIv.out.2
                        refine ⟨_, by rw [← hm.1]; exact I2, ⟨tb', tv', r', v1, I1, rfl, by omega, ?_⟩, ⟨e1.1, e1.2.1, e1.2.2.1⟩, s1.low (hBWr.1.trans (hb.mono (by omega))) (by have := hb.size; omega) ⟨e1.1, e1.2.1, e1.2.2.1, hBWr.2⟩⟩
                        rcases s1.tb with h | h
                        · have := hBWr.2; omega
                        · have := hb.size; omega
                      have HFIN : Hid _ := hFIN
                      have HNX : Hid (stepP f q ii st r1 = flowsP rr ((if jumpsB ii.op then [(ii.a.toNat, af)] else []) ++ (if endsB ii.op then [] else [(q + 1, af)]))) := by
                        show stepP f q ii st r1 = _
                        unfold stepP nexts
                        rw [flowsP_app, hrr, haf]
                      have hio := HST.out.2.2.2.2
                      unfold insOk inB at hio
                      simp only [Bool.and_eq_true, decide_eq_true_eq] at hio
                      obtain ⟨IA, eIA⟩ : ∃ x : Nat, ii.a = (x : Int) := ⟨ii.a.toNat, by omega⟩
                      have hIA : IA ≤ 300 := by omega
                      obtain ⟨s0, s1⟩ := two_cells_of hSQ
                      obtain ⟨OP, eOP⟩ : ∃ x, ii.op = x := ⟨_, rfl⟩
                      obtain ⟨IBx, eIB⟩ : ∃ x, ii.b = x := ⟨_, rfl⟩
                      simp only [eIA, eOP, eIB] at j0 j1 j2 cA hIQ
                      have HOPx : Hid (ii.op = OP ∧ ii.a = (IA : Int)) := ⟨eOP, eIA⟩
                      rw [eOP, eIA, Int.toNat_natCast] at HNX
                      have HJ : Hid (∀ (w6 : World) (y : Option Addr) (d : Nat), OwnI w6 wr.heap.size (.slice y R d) af.regs → Below wr.heap.size wr w6 →
                          (w6.alloc (.cells #[.int .i64 AA, .slice y R d] 98)).heap[w6.heap.size]? = some (.cells #[.int .i64 AA, .slice y R d] 98 (0, 0)) ∧ (w6.alloc (.cells #[.int .i64 AA, .slice y R d] 98)).heap[SB + 1]? = some (.cells #[.int .i64 OP, .int .i64 (IA : Int), .int .i64 IBx] 72 (0, 0)) ∧ FlowOut X L H tbJ n rr (w6.alloc (.cells #[.int .i64 AA, .slice y R d] 98)) (w6.alloc (.cells #[.int .i64 AA, .slice y R d] 98)) ∧ RegV (w6.alloc (.cells #[.int .i64 AA, .slice y R d] 98)) (Own4 X L H tbJ) (.slice y R d) af.regs ∧ Below wr.heap.size wr (w6.alloc (.cells #[.int .i64 AA, .slice y R d] 98)) ∧ ¬ Own4 X L H tbJ w6.heap.size) := fun w6 y d ho hb => by
                        have b7 : Below w6.heap.size w6 (w6.alloc (.cells #[.int .i64 AA, .slice y R d] 98)) := (Below.refl _ _).alloc (Nat.le_refl _) _
                        have b67 := chain hb b7
                        exact ⟨heap_alloc_new w6 _, (b67.block (SB + 1) (lt16 hIQ)).trans hIQ, ⟨tbJ, tvJ, vQ.below b67, VStep.of_below (Below.refl _ _)⟩, (RegV.of_own ho hOwJ).below b7, b67, fun hx => by have := hOwJ _ hx; have := hb.size; omega⟩
                      have HnIB : Hid (¬ Own4 X L H tbJ (SB + 1)) := hnIB
                      have HRR : Hid (RunOk n R rr ∧ rr.todo.length ≤ 1000000 ∧ ∀ x : Nat × PSta, x.2.regs.length = R → RunOk n R (flowP rr x.1 x.2) ∧ (flowP rr x.1 x.2).todo.length ≤ 1000000) := by
                        refine ⟨hFL.1, hFL.2, fun x hx => ?_⟩
                        have h := HFL.out (f.hnds.filterMap (hndTo q st) ++ [x]) (fun z hz => by
                          rcases List.mem_append.1 hz with h1 | h1
                          · have h := hxl kk; rw [ekk] at h; exact h z h1
                          · simp at h1; rw [h1]; exact hx)
                        rw [flowsP_app, flowsP_one, hrr] at h
                        exact h
                      have HAF : Hid (af.acc = AA ∧ af.regs.length = R) := ⟨eAA, hafl⟩
                      clear hFIN hnIB hBWr hOwJ vQ sQ HO hFL hin3 haf hafl eAA hio eIA eOP eIB hrr ekk hxl hIQ hSQ FQ hBQ hXQ hAQ
                      go_upto_region 24 with (go_at_call 70; (with_reducible refine cA.mono ?_); rintro e w6 ⟨y6, d6, rfl, ho6, hb6⟩)
                      have HJ6 : Hid _ := HJ.out w6 y6 d6 ho6 hb6
                      obtain ⟨WJ, hWJ⟩ : ∃ W, w6.alloc (.cells #[.int .i64 AA, .slice y6 R d6] 98) = W := ⟨_, rfl⟩
                      rw [hWJ] at HJ6
                      simp only [hWJ]
                      obtain ⟨AB, hAB⟩ : ∃ x, w6.heap.size = x := ⟨_, rfl⟩
                      rw [hAB] at HJ6
                      try simp only [hAB]
                      obtain ⟨a1, a2, a3, a4, a5, a6⟩ := HJ6.out
                      clear hWJ hAB HJ HJ6 ho6 hb6 cA j0 j1 j2 s0 s1 g0 g1 g2 g3 g4
                      have HFJ : Hid (∀ (r' : RunP) (W : World), FlowOut X L H tbJ n r' WJ W → W.heap[AB]? = some (.cells #[.int .i64 AA, .slice y6 R d6] 98 (0, 0)) ∧ W.heap[SB + 1]? = some (.cells #[.int .i64 OP, .int .i64 (IA : Int), .int .i64 IBx] 72 (0, 0))) := fun r' W hW => by
                        obtain ⟨_, _, _, st2⟩ := hW
                        exact ⟨(st2.block AB (lt16 a1) a6).trans a1, (st2.block (SB + 1) (lt16 a2) HnIB.out).trans a2⟩
                      have cF : ∀ (r' : RunP) (W : World) (z : Nat), (RunOk n R r' ∧ r'.todo.length ≤ 1000000) → z ≤ 1000 → FlowOut X L H tbJ n r' WJ W → Calls Try.prog 68 #[.pointer (some ⟨X, 0, none⟩), .int .i64 (z : Int), .agg #[.int .i64 AA, .slice y6 R d6]] W fun e w' => e = .returned (.tuple #[]) ∧ FlowOut X L H tbJ n (flowP r' z af) WJ w' := fun r' W z hr hz hW => by
                        have h := flow_on hW hr.1 hr.2 hn3 hR4 z af (.slice y6 R d6) HAF.out.2 hz (Below.refl _ _) (.inl a4)
                        rw [HAF.out.1] at h
                        exact h
                      have HCL : Hid (∀ (W : World) (r' : RunP), r' = stepP f q ii st r1 → FlowOut X L H tbJ n r' WJ W → (∃ m, Hid (SRun G X L H n p f W2 W m)) ∧ Classical.epsilon (Least (SRun G X L H n p f W2 W)) < M) := fun W r' er hW => by
                        obtain ⟨m, hm, hS⟩ := HFIN.out WJ W r' a5 er hW
                        exact ⟨⟨m, hS⟩, Nat.lt_of_le_of_lt (leastN_is hS).2 hm⟩
                      have hq1 : q + 1 ≤ 1000 := by omega
                      have hwq : IntKind.i64.wrap ((q : Int) + 1) = (q : Int) + 1 := wrap_small (by omega) (by omega)
                      have cN : ∀ (r' : RunP) (W : World), (RunOk n R r' ∧ r'.todo.length ≤ 1000000) → FlowOut X L H tbJ n r' WJ W → Calls Try.prog 68 #[.pointer (some ⟨X, 0, none⟩), .int .i64 ((q : Int) + 1), .agg #[.int .i64 AA, .slice y6 R d6]] W fun e w' => e = .returned (.tuple #[]) ∧ FlowOut X L H tbJ n (flowP r' (q + 1) af) WJ w' := fun r' W hr hW => by
                        have h := cF r' W (q + 1) hr hq1 hW
                        rw [show (((q + 1 : Nat)) : Int) = (q : Int) + 1 by omega] at h
                        exact h
                      have cJ := cF rr WJ IA ⟨HRR.out.1, HRR.out.2.1⟩ (by omega) a3
                      have HJ2 : Hid (RunOk n R (flowP rr IA af) ∧ (flowP rr IA af).todo.length ≤ 1000000) := HRR.out.2.2 (IA, af) HAF.out.2
                      have cN0 := cN rr WJ ⟨HRR.out.1, HRR.out.2.1⟩ a3
                      have HA3 : Hid (FlowOut X L H tbJ n rr WJ WJ) := a3
                      obtain ⟨p0, p1⟩ := two_cells_of a1
                      obtain ⟨j0, j1, j2⟩ := three_cells a2
                      clear a1 a2 a3 a4 a5 a6 HFIN HRR cF
                      by_cases c12 : OP = 12
                      · subst c12
                        have ej : jumpsB 12 = true := by decide
                        have ee : endsB 12 = true := by decide
                        have HX : Hid (flowP rr IA af = stepP f q ii st r1) := by
                          show flowP rr IA af = stepP f q ii st r1
                          rw [HNX.out, ej, ee]
                          rw [if_pos rfl, if_pos rfl, List.append_nil, flowsP_one]
                        go_upto_region 26 with (go_at_call 68; (with_reducible refine cJ.mono ?_); rintro e w8 ⟨rfl, hf8⟩)
                        obtain ⟨p0', p1'⟩ := two_cells_of (HFJ.out _ _ hf8).1
                        obtain ⟨j0', j1', j2'⟩ := three_cells (HFJ.out _ _ hf8).2
                        have HC := HCL.out _ _ HX.out hf8
                        have HC1 : Hid _ := HC.1
                        have HC2 : Hid _ := HC.2
                        clear HC
                        clear cN cN0 cJ p0 p1 j0 j1 j2
                        go_wp2
                        go_roundw
                        case rel =>
                          obtain ⟨m, hm⟩ := HC1.out
                          exact ⟨m, hm⟩
                        case measure =>
                          rw [HM.out]
                          exact HC2.out
                      by_cases c13 : OP = 13
                      · subst c13
                        have ej : jumpsB 13 = true := by decide
                        have ee : endsB 13 = false := by decide
                        have HX : Hid (flowP (flowP rr IA af) (q + 1) af = stepP f q ii st r1) := by
                          show flowP (flowP rr IA af) (q + 1) af = stepP f q ii st r1
                          rw [HNX.out, ej, ee]
                          rw [if_pos rfl, if_neg (by decide), flowsP_app, flowsP_one, flowsP_one]
                        go_upto_region 26 with (go_at_call 68; (with_reducible refine cJ.mono ?_); rintro e w8 ⟨rfl, hf8⟩)
                        obtain ⟨p0', p1'⟩ := two_cells_of (HFJ.out _ _ hf8).1
                        obtain ⟨j0', j1', j2'⟩ := three_cells (HFJ.out _ _ hf8).2
                        have cN8 := cN _ w8 HJ2.out hf8
                        clear cN cN0 cJ p0 p1 j0 j1 j2
                        go_wp2_with (go_at_call 68; (with_reducible refine cN8.mono ?_); rintro e w9 ⟨rfl, hf9⟩)
                        have HC := HCL.out _ _ HX.out hf9
                        have HC1 : Hid _ := HC.1
                        have HC2 : Hid _ := HC.2
                        clear HC
                        go_roundw
                        case rel =>
                          obtain ⟨m, hm⟩ := HC1.out
                          exact ⟨m, hm⟩
                        case measure =>
                          rw [HM.out]
                          exact HC2.out
                      by_cases c14 : OP = 14
                      · subst c14
                        have ej : jumpsB 14 = true := by decide
                        have ee : endsB 14 = false := by decide
                        have HX : Hid (flowP (flowP rr IA af) (q + 1) af = stepP f q ii st r1) := by
                          show flowP (flowP rr IA af) (q + 1) af = stepP f q ii st r1
                          rw [HNX.out, ej, ee]
                          rw [if_pos rfl, if_neg (by decide), flowsP_app, flowsP_one, flowsP_one]
                        go_upto_region 26 with (go_at_call 68; (with_reducible refine cJ.mono ?_); rintro e w8 ⟨rfl, hf8⟩)
                        obtain ⟨p0', p1'⟩ := two_cells_of (HFJ.out _ _ hf8).1
                        obtain ⟨j0', j1', j2'⟩ := three_cells (HFJ.out _ _ hf8).2
                        have cN8 := cN _ w8 HJ2.out hf8
                        clear cN cN0 cJ p0 p1 j0 j1 j2
                        go_wp2_with (go_at_call 68; (with_reducible refine cN8.mono ?_); rintro e w9 ⟨rfl, hf9⟩)
                        have HC := HCL.out _ _ HX.out hf9
                        have HC1 : Hid _ := HC.1
                        have HC2 : Hid _ := HC.2
                        clear HC
                        go_roundw
                        case rel =>
                          obtain ⟨m, hm⟩ := HC1.out
                          exact ⟨m, hm⟩
                        case measure =>
                          rw [HM.out]
                          exact HC2.out
                      by_cases c17 : OP = 17
                      · subst c17
                        have ej : jumpsB 17 = false := by decide
                        have ee : endsB 17 = true := by decide
                        have HX : Hid (rr = stepP f q ii st r1) := by
                          show rr = stepP f q ii st r1
                          rw [HNX.out, ej, ee]
                          rw [if_neg (by decide), if_pos rfl, List.nil_append, flowsP_nil]
                        have HC := HCL.out _ _ HX.out HA3.out
                        have HC1 : Hid _ := HC.1
                        have HC2 : Hid _ := HC.2
                        clear HC
                        clear cN cN0 cJ
                        go_wp2
                        go_roundw
                        case rel =>
                          obtain ⟨m, hm⟩ := HC1.out
                          exact ⟨m, hm⟩
                        case measure =>
                          rw [HM.out]
                          exact HC2.out
                      by_cases c18 : OP = 18
                      · subst c18
                        have ej : jumpsB 18 = false := by decide
                        have ee : endsB 18 = true := by decide
                        have HX : Hid (rr = stepP f q ii st r1) := by
                          show rr = stepP f q ii st r1
                          rw [HNX.out, ej, ee]
                          rw [if_neg (by decide), if_pos rfl, List.nil_append, flowsP_nil]
                        have HC := HCL.out _ _ HX.out HA3.out
                        have HC1 : Hid _ := HC.1
                        have HC2 : Hid _ := HC.2
                        clear HC
                        clear cN cN0 cJ
                        go_wp2
                        go_roundw
                        case rel =>
                          obtain ⟨m, hm⟩ := HC1.out
                          exact ⟨m, hm⟩
                        case measure =>
                          rw [HM.out]
                          exact HC2.out
                      have ej : jumpsB OP = false := by unfold jumpsB; exact decide_eq_false (by omega)
                      have ee : endsB OP = false := by unfold endsB; exact decide_eq_false (by omega)
                      have HX : Hid (flowP rr (q + 1) af = stepP f q ii st r1) := by
                        show flowP rr (q + 1) af = stepP f q ii st r1
                        rw [HNX.out, ej, ee]
                        rw [if_neg (by decide), if_neg (by decide), List.nil_append, flowsP_one]
                      have e12 : (OP == 12) = false := by rw [beq_eq_false_iff_ne]; exact c12
                      have e13 : (OP == 13) = false := by rw [beq_eq_false_iff_ne]; exact c13
                      have e14 : (OP == 14) = false := by rw [beq_eq_false_iff_ne]; exact c14
                      have e17 : (OP == 17) = false := by rw [beq_eq_false_iff_ne]; exact c17
                      have e18 : (OP == 18) = false := by rw [beq_eq_false_iff_ne]; exact c18
                      have n12 : (OP != 12) = true := bne_iff_ne.2 c12
                      have n17 : (OP != 17) = true := bne_iff_ne.2 c17
                      have n18 : (OP != 18) = true := bne_iff_ne.2 c18
                      clear cN cJ ej ee
                      go_wp2_with (go_at_call 68; (with_reducible refine cN0.mono ?_); rintro e w9 ⟨rfl, hf9⟩)
                      have HC := HCL.out _ _ HX.out hf9
                      have HC1 : Hid _ := HC.1
                      have HC2 : Hid _ := HC.2
                      clear HC
                      go_roundw
                      case rel =>
                        obtain ⟨m, hm⟩ := HC1.out
                        exact ⟨m, hm⟩
                      case measure =>
                        rw [HM.out]
                        exact HC2.out
end Go.Proofs.Ytbgdapdenbldmaa
namespace Go.Proofs.Ytbgdapdenbldmaa
open Go.RowKit Go.Sort
set_option linter.unusedVariables false
end Go.Proofs.Ytbgdapdenbldmaa
