/-
  Part 14 of what is proved of drawn right trees.
-/
import Derived.Test.YtbgdapdenbldmaaPam
import Derived.Test.YtbgdapdenbldmaaPae
import Derived.Test.YtbgdapdenbldmaaPaa
import Derived.Lib.ConvBytes
import Derived.Lib.SmallJoins
import Derived.Maps.AppendAt

namespace Go.Proofs.Ytbgdapdenbldmaa
open Go.RowKit Go.Sort
set_option linter.unusedVariables false
variable {X S H L K n B : Nat} {fv cv : Value} {PA RE : Int} {qc qk qh : Value} {r : RunP} {fi : Nat} {w w' : World}
theorem own_lt {e : TypeId} {k B n g : Nat} {v : Value} {xs : List Value} (h : w.ownsRow B e k v n xs) (hg : v.ownBlock = some g) : g < w.heap.size ∧ B ≤ g := by
  obtain ⟨_, ⟨h2, _⟩ | ⟨g2, cap, cur, h2, h3, h4, _⟩⟩ := h
  · rw [h2] at hg; cases hg
  · rw [h2] at hg
    have e : g2 = g := Option.some.inj hg
    rw [← e]
    exact ⟨lt16 h4, h3⟩
theorem TAt.newRow (h : TAt X S H L K n B fv cv PA RE qc qk qh r fi w) (hb : Below w.heap.size w w') {v : Value} {l : List Int} {b : Nat} (hB : w.heap.size ≤ b) (ho : OwnI w' b v l) : NewRow S w' v := by
  intro cur k g u hc hk hg hu
  obtain ⟨c1, s1, s2, s3, s4⟩ := h.st
  rw [hb.block S (lt16 s1), s1] at hc
  injection hc with hc
  injection hc with hc
  subst hc
  have h1 := (own_lt ho hg).2
  have hk2 : k < n * 2 := by have := (Array.getElem?_eq_some_iff.1 hk).1; omega
  obtain ⟨s, hs⟩ : ∃ s, r.list[k / 2]? = some s := ⟨_, List.getElem?_eq_getElem (by rw [h.ll]; omega)⟩
  obtain ⟨y, k1, k2, k3⟩ := s3 (k / 2) s hs
  rcases Nat.mod_two_eq_zero_or_one k with e | e
  · rw [show k / 2 * 2 = k by omega, hk] at k1
    injection k1 with k1
    subst k1
    cases hu
  · rw [show k / 2 * 2 + 1 = k by omega, hk] at k2
    injection k2 with k2
    subst k2
    have := (own_lt k3 hu).1
    omega
theorem TAt.at_ (h : TAt X S H L K n B fv cv PA RE qc qk qh r fi w) {q : Nat} {s : PSta} (hs : r.list[q]? = some s) : ∃ x c, w.cell? ⟨S, q * 2, none⟩ = some (.int .i64 s.acc) ∧ w.cell? ⟨S, q * 2 + 1, none⟩ = some (.slice x s.regs.length c) ∧ OwnI w B (.slice x s.regs.length c) s.regs ∧ (∀ j, w.frozen? ⟨S, j, none⟩ = false) := by
  obtain ⟨c1, s1, s2, s3, s4⟩ := h.st
  obtain ⟨v, k1, k2, k3⟩ := s3 q s hs
  obtain ⟨x, c, rfl⟩ := row_slice k3
  exact ⟨x, c, by rw [cell_of_row _ _ _ _ _ _ s1]; exact k1, by rw [cell_of_row _ _ _ _ _ _ s1]; exact k2, k3, fun j => frozen_of_row w S j _ _ s1⟩
theorem TAt.hitAt (h : TAt X S H L K n B fv cv PA RE qc qk qh r fi w) {q : Nat} {b : Bool} (hs : r.hit[q]? = some b) : w.cell? ⟨H, q, none⟩ = some (.bool b) ∧ (∀ j, w.frozen? ⟨H, j, none⟩ = false) := by
  obtain ⟨c1, s1, s2, s3⟩ := h.ht
  exact ⟨by rw [cell_of_row _ _ _ _ _ _ s1]; exact s3 q b hs, fun j => frozen_of_row w H j _ _ s1⟩
theorem TAt.arrived (h : TAt X S H L K n B fv cv PA RE qc qk qh r fi w) {q : Nat} (hq : q < n) (t : PSta) (v : Value) (hv : OwnI w B v t.regs) (hn : NewRow S w v) :
    (TAt X S H L K n B fv cv PA RE qc qk qh ⟨r.list.set q t, r.hit.set q true, r.todo, r.bad⟩ fi (((w.setCell ⟨H, q, none⟩ (.bool true)).setCell ⟨S, q * 2, none⟩ (.int .i64 t.acc)).setCell ⟨S, q * 2 + 1, none⟩ v) ∧ TStep X S H L K w (((w.setCell ⟨H, q, none⟩ (.bool true)).setCell ⟨S, q * 2, none⟩ (.int .i64 t.acc)).setCell ⟨S, q * 2 + 1, none⟩ v)) ∧
    (TAt X S H L K n B fv cv PA RE qc qk qh ⟨r.list.set q t, r.hit.set q true, r.todo, r.bad⟩ fi (((w.setCell ⟨S, q * 2, none⟩ (.int .i64 t.acc)).setCell ⟨S, q * 2 + 1, none⟩ v).setCell ⟨H, q, none⟩ (.bool true)) ∧ TStep X S H L K w (((w.setCell ⟨S, q * 2, none⟩ (.int .i64 t.acc)).setCell ⟨S, q * 2 + 1, none⟩ v).setCell ⟨H, q, none⟩ (.bool true))) := by
  have st1 : TStep X S H L K w (w.setCell ⟨H, q, none⟩ (.bool true)) := TStep.put _ (.inr (.inr (.inl rfl)))
  have m := h.mark q hq
  have ap := h.apart
  have hn' : NewRow S (w.setCell ⟨H, q, none⟩ (.bool true)) v := fun cur k g u hc => hn cur k g u (by
    rw [heap_setCell_other w ⟨H, q, none⟩ S _ ap.sh] at hc
    exact hc)
  obtain ⟨a1, a2⟩ := m.putState q hq t v (h.row st1 hv) hn'
  obtain ⟨b1, b2⟩ := h.putState q hq t v hv hn
  exact ⟨⟨a1, st1.trans a2⟩, ⟨b1.mark q hq, b2.trans (TStep.put _ (.inr (.inr (.inl rfl))))⟩⟩
theorem flow_new {q : Nat} {s old : PSta} (h : r.list[q]? = some old) (hb : r.hit[q]? = some false) : flowI r q s = ⟨r.list.set q s, r.hit.set q true, putL r.todo q, r.bad⟩ := by
  unfold flowI
  rw [h]
  simp only
  rw [if_neg (by rw [hb]; simp)]
theorem flow_old {q : Nat} {s old : PSta} (h : r.list[q]? = some old) (hb : r.hit[q]? = some true) (hs : sameS (joinS old s) old = false) : flowI r q s = ⟨r.list.set q (joinS old s), r.hit.set q true, putL r.todo q, r.bad⟩ := by
  unfold flowI
  rw [h]
  simp only
  rw [if_pos hb, if_neg (by rw [hs]; simp), set_same hb]
theorem flow_stay {q : Nat} {s old : PSta} (h : r.list[q]? = some old) (hb : r.hit[q]? = some true) (hs : sameS (joinS old s) old = true) : flowI r q s = r := by
  unfold flowI
  rw [h]
  simp only
  rw [if_pos hb, if_pos hs]
theorem flow_out {q : Nat} {s : PSta} (h : r.list.length ≤ q) : flowI r q s = { r with bad := true } := by
  unfold flowI
  rw [List.getElem?_eq_none h]
set_option maxHeartbeats 2000000 in
set_option maxRecDepth 100000 in
theorem iArrive_out {R : Nat} (h : TAt X S H L K n B fv cv PA RE qc qk qh r fi w) (hn : n ≤ 300) (q : Nat) (hq : q ≤ 1000) (s : PSta) (x : Option Addr) (c : Nat) (xk : Option Addr) (ck : Nat) (hqk : qk = .slice xk n ck) (hqn : n ≤ q) :
    Calls Try.prog 115 #[.pointer (some ⟨X, 0, none⟩), .int .i64 (q : Int), .agg #[.int .i64 s.acc, .slice x R c]] w fun e w' => e = .returned (.tuple #[]) ∧ TAt X S H L K n B fv cv PA RE qc qk qh (flowI r q s) fi w' ∧ TStep X S H L K w w' := by
  rw [flow_out (s := s) (by rw [h.ll]; exact hqn)]
  have b1 : Below w.heap.size w (w.alloc (.cells #[.int .i64 s.acc, .slice x R c] 98)) := (Below.refl _ _).alloc (Nat.le_refl _) _
  have h1 := h.below b1
  obtain ⟨W1, hW1⟩ : ∃ W, w.alloc (.cells #[.int .i64 s.acc, .slice x R c] 98) = W := ⟨_, rfl⟩
  simp only [hW1] at b1 h1
  have HW1 : Hid (_ = W1) := hW1
  have HE : Hid _ := And.intro h1.setBad ((TStep.of_below (X := X) (S := S) (H := H) (L := L) (K := K) b1).trans (TStep.put (k := X) (j := 13) (.bool true) (.inl rfl)))
  have bc := boxC h1.box
  have c5 := bc.c5
  have c13 := bc.c13
  have fz := bc.fz
  subst hqk
  have cI := fun W => iIsInIns xk n ck (q : Int) W (by unfold maxLen; omega)
  rw [show inB (q : Int) 0 ((n : Int) - 1) = false by unfold inB; rw [decide_eq_false (p := (q : Int) ≤ (n : Int) - 1) (by omega), Bool.and_false]] at cI
  clear hW1 bc h1 h
  go_enter Try.func115, Try.ntmps115
  go_upto_region 1 with fail
  rw [HW1.out]
  clear HW1
  go_wp2_with (go_at_call 36; (with_reducible refine (cI _).mono ?_); rintro e w5 ⟨rfl, rfl⟩)
  go_returns
  exact ⟨rfl, HE.out.1, HE.out.2⟩
set_option maxHeartbeats 4000000 in
set_option maxRecDepth 100000 in
theorem iArrive_new {R : Nat} (h : TAt X S H L K n B fv cv PA RE qc qk qh r fi w) (hn : n ≤ 300) (hR : R ≤ 40) (q : Nat) (s : PSta) (hs : s.regs.length = R) (x : Option Addr) (c : Nat) (hv : OwnI w B (.slice x R c) s.regs) (hB : B ≤ w.heap.size) (xk : Option Addr) (ck : Nat) (hqk : qk = .slice xk n ck) (hqn : q < n) (hb : r.hit[q]? = some false) :
    Calls Try.prog 115 #[.pointer (some ⟨X, 0, none⟩), .int .i64 (q : Int), .agg #[.int .i64 s.acc, .slice x R c]] w fun e w' => e = .returned (.tuple #[]) ∧ TAt X S H L K n B fv cv PA RE qc qk qh (flowI r q s) fi w' ∧ TStep X S H L K w w' := by
  obtain ⟨old, hold⟩ : ∃ t, r.list[q]? = some t := ⟨_, List.getElem?_eq_getElem (by rw [h.ll]; exact hqn)⟩
  rw [flow_new (s := s) hold hb]
  have HH : Hid _ := h
  have HHB : Hid (r.hit[q]? = some false) := hb
  have HOLD : Hid (r.list[q]? = some old) := hold
  have HV : Hid (OwnI w B (.slice x R c) s.regs) := hv
  have hq0 : (0 : Int) ≤ (q : Int) := by omega
  have hq1 : (q : Int) < (n : Int) := by omega
  obtain ⟨xo, co, o1, o2, o3, _⟩ := h.at_ hold
  obtain ⟨OA, eOA⟩ : ∃ y, old.acc = y := ⟨_, rfl⟩
  obtain ⟨ro, ero⟩ : ∃ y, old.regs.length = y := ⟨_, rfl⟩
  rw [eOA] at o1
  rw [ero] at o2
  obtain ⟨AC, eAC⟩ : ∃ y, s.acc = y := ⟨_, rfl⟩
  have HC : Hid (s.acc = AC ∧ s.regs.length = R) := ⟨eAC, hs⟩
  rw [eAC]
  have b1 : Below w.heap.size w (w.alloc (.cells #[.int .i64 AC, .slice x R c] 98)) := (Below.refl _ _).alloc (Nat.le_refl _) _
  have g1 : (w.alloc (.cells #[.int .i64 AC, .slice x R c] 98)).heap[w.heap.size]? = some (.cells #[.int .i64 AC, .slice x R c] 98 (0, 0)) := heap_alloc_new w _
  have z1 : (w.alloc (.cells #[.int .i64 AC, .slice x R c] 98)).heap.size = w.heap.size + 1 := by simp
  obtain ⟨W1, hW1⟩ : ∃ W, w.alloc (.cells #[.int .i64 AC, .slice x R c] 98) = W := ⟨_, rfl⟩
  simp only [hW1] at b1 g1 z1
  have HW1 : Hid (_ = W1) := hW1
  have b2 : Below W1.heap.size W1 (W1.alloc (.cells #[.int .i64 OA, .slice xo ro co] 98)) := (Below.refl _ _).alloc (Nat.le_refl _) _
  have g2 : (W1.alloc (.cells #[.int .i64 OA, .slice xo ro co] 98)).heap[W1.heap.size]? = some (.cells #[.int .i64 OA, .slice xo ro co] 98 (0, 0)) := heap_alloc_new W1 _
  have z2 : (W1.alloc (.cells #[.int .i64 OA, .slice xo ro co] 98)).heap.size = W1.heap.size + 1 := by simp
  obtain ⟨W2, hW2⟩ : ∃ W, W1.alloc (.cells #[.int .i64 OA, .slice xo ro co] 98) = W := ⟨_, rfl⟩
  simp only [hW2] at b2 g2 z2
  have HW2 : Hid (_ = W2) := hW2
  obtain ⟨G, hG⟩ : ∃ g, w.heap.size = g := ⟨_, rfl⟩
  obtain ⟨N, hN⟩ : ∃ g, W1.heap.size = g := ⟨_, rfl⟩
  rw [hG] at g1 z1
  rw [hN] at g2 z2
  have hNG : N = G + 1 := by omega
  have HG : Hid (w.heap.size = G ∧ W1.heap.size = N ∧ W2.heap.size = N + 1 ∧ N = G + 1) := ⟨hG, hN, z2, hNG⟩
  have b02 : Below w.heap.size w W2 := chain b1 b2
  have T1 := HH.out.below b1
  have T2 := HH.out.below b02
  have bc1 := boxC T1.box
  have bc2 := boxC T2.box
  have p1 : W1.cell? ⟨S, q * 2, none⟩ = some (.int .i64 OA) := (b1.cell (p := ⟨S, q * 2, none⟩) (by have := h.in_; exact this.2.1)).trans o1
  have p2 : W1.cell? ⟨S, q * 2 + 1, none⟩ = some (.slice xo ro co) := (b1.cell (p := ⟨S, q * 2 + 1, none⟩) (by have := h.in_; exact this.2.1)).trans o2
  have p3 := (T2.hitAt hb).1
  have k0 := heap_setCell_same W2 N 0 _ _ (.int .i64 AC) g2
  have k1 := heap_setCell_same _ N 1 _ _ (.slice x R c) k0
  have nfz := fun j => frozen_of_row W2 N j _ _ g2
  obtain ⟨n0, n1⟩ := two_cells_of g2
  have gw2 : W2.heap[G]? = some (.cells #[.int .i64 AC, .slice x R c] 98 (0, 0)) := (b2.block G (by omega)).trans g1
  obtain ⟨gg0, gg1⟩ := two_cells_of gw2
  have hGN : G ≠ N := by omega
  have bN : Below w.heap.size w ((W2.setCell ⟨N, 0, none⟩ (.int .i64 AC)).setCell ⟨N, 1, none⟩ (.slice x R c)) := (b02.setCell (p := ⟨N, 0, none⟩) (by show _ ≤ N; omega) _).setCell (p := ⟨N, 1, none⟩) (by show _ ≤ N; omega) _
  have gG : ((W2.setCell ⟨N, 0, none⟩ (.int .i64 AC)).setCell ⟨N, 1, none⟩ (.slice x R c)).heap[G]? = some (.cells #[.int .i64 AC, .slice x R c] 98 (0, 0)) := by
    rw [heap_setCell_other _ ⟨N, 1, none⟩ G _ hGN, heap_setCell_other _ ⟨N, 0, none⟩ G _ hGN]
    exact gw2
  have z3 : ((W2.setCell ⟨N, 0, none⟩ (.int .i64 AC)).setCell ⟨N, 1, none⟩ (.slice x R c)).heap.size = N + 1 := by simp; omega
  obtain ⟨W3, hW3⟩ : ∃ W, (W2.setCell ⟨N, 0, none⟩ (.int .i64 AC)).setCell ⟨N, 1, none⟩ (.slice x R c) = W := ⟨_, rfl⟩
  simp only [hW3] at k1 bN gG z3
  have HW3 : Hid (_ = W3) := hW3
  obtain ⟨m0, m1⟩ := two_cells_of k1
  obtain ⟨q0, q1⟩ := two_cells_of gG
  have T3 := HH.out.below bN
  have bc3 := boxC T3.box
  have p5 := (T3.hitAt hb).1
  have aS : ArgI W3 (.slice x R c) s.regs := hv.arg.below bN
  have cJ0 := iJoin_any s s (.slice x R c) (.slice x R c) W3 aS aS (by omega) (by omega)
  rw [joinS_self, eAC] at cJ0
  have cJ := cJ0.mono (fun e w' (hh : ∃ v, e = .returned (.agg #[.int .i64 AC, v]) ∧ OwnI w' W3.heap.size v s.regs ∧ Below W3.heap.size W3 w') => show ∃ (y : Option Addr) (d : Nat), e = .returned (.agg #[.int .i64 AC, .slice y R d]) ∧ Hid (OwnI w' W3.heap.size (.slice y R d) s.regs) ∧ Hid (Below W3.heap.size W3 w') by
    obtain ⟨v, e1, e2, e3⟩ := hh
    obtain ⟨y, d, rfl⟩ := row_slice e2
    rw [hs] at e1 e2
    exact ⟨y, d, e1, e2, e3⟩)
  subst hqk
  have cI := fun W => iIsInIns xk n ck (q : Int) W (by unfold maxLen; omega)
  rw [show inB (q : Int) 0 ((n : Int) - 1) = true by unfold inB; rw [decide_eq_true (p := (q : Int) ≤ (n : Int) - 1) (by omega), decide_eq_true hq0]; rfl] at cI
  have x5 := bc1.c5
  have x7 := bc1.c7
  have y8 := bc2.c8
  have HB3 : Hid (Below w.heap.size w W3) := bN
  have HK1 : Hid _ := k1
  clear hW1 hW2 hW3 bc1 bc2 bc3 T1 T2 T3 cJ0 k0 k1 bN gG g1 g2 gw2 b1 b2 b02 o1 o2 o3 hv h aS hold hb eOA ero eAC hs hG hN z1 z2 z3 hNG
  go_enter Try.func115, Try.ntmps115
  go_upto_region 1 with fail
  rw [HW1.out]
  clear HW1
  go_upto_region 4 with (go_at_call 36; (with_reducible refine (cI _).mono ?_); rintro e w5 ⟨rfl, rfl⟩)
  rw [HW2.out]
  clear HW2
  simp only [HG.out.1, HG.out.2.1]
  clear x5 x7 p1 p2
  go_upto_region 6 with fail
  rw [HW3.out]
  clear HW3
  go_upto_region 7 with (go_at_call 130; (with_reducible refine cJ.mono ?_); rintro e w6 ⟨y6, d6, rfl, HO6, HB6⟩)
  clear cJ m0 m1 q0 q1 p3 p5 y8 n0 n1 gg0 gg1 nfz
  have bA : Below w6.heap.size w6 (w6.alloc (.cells #[.int .i64 AC, .slice y6 R d6] 98)) := (Below.refl _ _).alloc (Nat.le_refl _) _
  have b7 : Below w.heap.size w (w6.alloc (.cells #[.int .i64 AC, .slice y6 R d6] 98)) := chain (chain HB3.out HB6.out) bA
  have g7 : (w6.alloc (.cells #[.int .i64 AC, .slice y6 R d6] 98)).heap[w6.heap.size]? = some (.cells #[.int .i64 AC, .slice y6 R d6] 98 (0, 0)) := heap_alloc_new w6 _
  have ho7 : OwnI (w6.alloc (.cells #[.int .i64 AC, .slice y6 R d6] 98)) W3.heap.size (.slice y6 R d6) s.regs := HO6.out.below bA
  obtain ⟨W7, hW7⟩ : ∃ W, w6.alloc (.cells #[.int .i64 AC, .slice y6 R d6] 98) = W := ⟨_, rfl⟩
  obtain ⟨N7, hN7⟩ : ∃ k, w6.heap.size = k := ⟨_, rfl⟩
  rw [hN7] at g7
  have hN7G : G < N7 := by
    have h1 := HB3.out.size
    have h2 := HB6.out.size
    have h3 := lt16 HK1.out
    have h4 := HG.out
    omega
  simp only [hW7, hN7] at b7 g7 ho7 ⊢
  have HMORE : True := trivial
  have T7 := HH.out.below b7
  have bc7 := boxC T7.box
  have x7 := bc7.c7
  have x8 := bc7.c8
  have hz := T7.hitAt HHB.out
  have p7 := hz.1
  have pz := hz.2
  have sz : ∀ j, W7.frozen? ⟨S, j, none⟩ = false := (T7.at_ HOLD.out).choose_spec.choose_spec.2.2.2
  obtain ⟨xo', co', so1, so2, _, _⟩ := T7.at_ HOLD.out
  obtain ⟨j0, j1⟩ := two_cells_of g7
  have hnew : NewRow S W7 (.slice y6 R d6) := HH.out.newRow b7 (Nat.le_trans (Nat.le_refl _) HB3.out.size) ho7
  have hown : OwnI W7 B (.slice y6 R d6) s.regs := row_low ho7 (Nat.le_trans hB HB3.out.size)
  have AR := T7.arrived hqn s (.slice y6 R d6) hown hnew
  rw [HC.out.1] at AR
  have HAR : Hid _ := AR
  have ap := T7.apart
  have iX := T7.in_
  have hXS := ap.xs
  have hXH := ap.xh
  have hSH := ap.sh
  have hneS : N7 ≠ S := fun e => by have := HH.out.in_; have := HG.out; omega
  have hneH : N7 ≠ H := fun e => by have := HH.out.in_; have := HG.out; omega
  have HKS : Hid (∀ (W : World), (W.heap[X]? = W7.heap[X]? ∧ W.heap[N7]? = W7.heap[N7]?) → (W.cell? ⟨X, 7, none⟩ = some (.slice (some ⟨S, 0, none⟩) n n) ∧ W.cell? ⟨X, 8, none⟩ = some (.slice (some ⟨H, 0, none⟩) n n)) ∧ (W.cell? ⟨N7, 0, none⟩ = some (.int .i64 AC) ∧ W.cell? ⟨N7, 1, none⟩ = some (.slice y6 R d6))) := fun W hW => by
    have t1 := boxC (hW.1.trans T7.box)
    exact ⟨⟨t1.c7, t1.c8⟩, two_cells_of (hW.2.trans g7)⟩
  have kR : W7.heap[X]? = W7.heap[X]? ∧ W7.heap[N7]? = W7.heap[N7]? := ⟨rfl, rfl⟩
  have kD : ∀ {W : World}, (W.heap[X]? = W7.heap[X]? ∧ W.heap[N7]? = W7.heap[N7]?) → (W.drew.heap[X]? = W7.heap[X]? ∧ W.drew.heap[N7]? = W7.heap[N7]?) := fun h => h
  have kH : ∀ {W : World} (j : Nat) (u : Value), (W.heap[X]? = W7.heap[X]? ∧ W.heap[N7]? = W7.heap[N7]?) → ((W.setCell ⟨H, j, none⟩ u).heap[X]? = W7.heap[X]? ∧ (W.setCell ⟨H, j, none⟩ u).heap[N7]? = W7.heap[N7]?) := fun j u h => ⟨(heap_setCell_other _ ⟨H, j, none⟩ X u hXH).trans h.1, (heap_setCell_other _ ⟨H, j, none⟩ N7 u hneH).trans h.2⟩
  have kS : ∀ {W : World} (j : Nat) (u : Value), (W.heap[X]? = W7.heap[X]? ∧ W.heap[N7]? = W7.heap[N7]?) → ((W.setCell ⟨S, j, none⟩ u).heap[X]? = W7.heap[X]? ∧ (W.setCell ⟨S, j, none⟩ u).heap[N7]? = W7.heap[N7]?) := fun j u h => ⟨(heap_setCell_other _ ⟨S, j, none⟩ X u hXS).trans h.1, (heap_setCell_other _ ⟨S, j, none⟩ N7 u hneS).trans h.2⟩
  have HB7 : Hid (TStep X S H L K w W7) := TStep.of_below b7
  have cP := fun (r' : RunP) (W : World) (hW : TAt X S H L K n B fv cv PA RE qc (.slice xk n ck) qh r' fi W) => iPut hW q hqn hn
  have HKR : Hid _ := kR
  clear bc7 T7 hz hnew hown AR g7 ho7 b7 bA hW7 hN7 ap iX HH HV kR hneS hneH
  go_upto_region 8 with fail
  clear x7 x8 j0 j1
  go_region_held_law (fun W => (W.cell? ⟨X, 7, none⟩ = some (.slice (some ⟨S, 0, none⟩) n n) ∧ W.cell? ⟨X, 8, none⟩ = some (.slice (some ⟨H, 0, none⟩) n n)) ∧ (W.cell? ⟨N7, 0, none⟩ = some (.int .i64 AC) ∧ W.cell? ⟨N7, 1, none⟩ = some (.slice y6 R d6)))
    (exact HKS.out _ (by repeat (first | with_reducible exact HKR.out | (with_reducible refine kD ?_) | (with_reducible refine kH _ _ ?_) | (with_reducible refine kS _ _ ?_))))
    (first | (fail))
  obtain ⟨A1, S1⟩ := HAR.out.1
  have A2 := A1.below ((Below.refl _ _).drew)
  have S2 := S1.trans (TStep.of_below ((Below.refl _ _).drew))
  obtain ⟨W8, hW8⟩ : ∃ W, (((W7.setCell ⟨H, q, none⟩ (.bool true)).setCell ⟨S, q * 2, none⟩ (.int .i64 AC)).setCell ⟨S, q * 2 + 1, none⟩ (.slice y6 R d6)).drew = W := ⟨_, rfl⟩
  simp only [hW8] at A2 S2 ⊢
  have cP8 := cP _ _ A2
  have HS8 : Hid _ := S2
  clear A1 S1 S2 A2 hW8 HAR cP HKS HKR kD kH kS p7 pz sz so1 so2
  go_wp2_with (go_at_call 132; (with_reducible refine cP8.mono ?_); rintro e w9 ⟨rfl, h9, s9⟩)
  go_returns
  exact ⟨rfl, h9, HB7.out.trans (HS8.out.trans s9)⟩
set_option maxHeartbeats 4000000 in
set_option maxRecDepth 100000 in
theorem iArrive_old {R : Nat} (h : TAt X S H L K n B fv cv PA RE qc qk qh r fi w) (hn : n ≤ 300) (hR : R ≤ 40) (q : Nat) (s : PSta) (hs : s.regs.length = R) (x : Option Addr) (c : Nat) (hv : OwnI w B (.slice x R c) s.regs) (hB : B ≤ w.heap.size) (xk : Option Addr) (ck : Nat) (hqk : qk = .slice xk n ck) (hqn : q < n) (hok : RunOk n R r) (hb : r.hit[q]? = some true) :
    Calls Try.prog 115 #[.pointer (some ⟨X, 0, none⟩), .int .i64 (q : Int), .agg #[.int .i64 s.acc, .slice x R c]] w fun e w' => e = .returned (.tuple #[]) ∧ TAt X S H L K n B fv cv PA RE qc qk qh (flowI r q s) fi w' ∧ TStep X S H L K w w' := by
  obtain ⟨old, hold⟩ : ∃ t, r.list[q]? = some t := ⟨_, List.getElem?_eq_getElem (by rw [h.ll]; exact hqn)⟩
  have HH : Hid _ := h
  have HHB : Hid (r.hit[q]? = some true) := hb
  have HOLD : Hid (r.list[q]? = some old) := hold
  have HV : Hid (OwnI w B (.slice x R c) s.regs) := hv
  have hq0 : (0 : Int) ≤ (q : Int) := by omega
  have hq1 : (q : Int) < (n : Int) := by omega
  obtain ⟨xo, co, o1, o2, o3, _⟩ := h.at_ hold
  obtain ⟨OA, eOA⟩ : ∃ y, old.acc = y := ⟨_, rfl⟩
  have ero : old.regs.length = R := hok.regs q old (fam_of hb hold)
  rw [eOA] at o1
  rw [ero] at o2 o3
  obtain ⟨AC, eAC⟩ : ∃ y, s.acc = y := ⟨_, rfl⟩
  have HC : Hid (s.acc = AC ∧ s.regs.length = R) := ⟨eAC, hs⟩
  rw [eAC]
  have b1 : Below w.heap.size w (w.alloc (.cells #[.int .i64 AC, .slice x R c] 98)) := (Below.refl _ _).alloc (Nat.le_refl _) _
  have g1 : (w.alloc (.cells #[.int .i64 AC, .slice x R c] 98)).heap[w.heap.size]? = some (.cells #[.int .i64 AC, .slice x R c] 98 (0, 0)) := heap_alloc_new w _
  have z1 : (w.alloc (.cells #[.int .i64 AC, .slice x R c] 98)).heap.size = w.heap.size + 1 := by simp
  obtain ⟨W1, hW1⟩ : ∃ W, w.alloc (.cells #[.int .i64 AC, .slice x R c] 98) = W := ⟨_, rfl⟩
  simp only [hW1] at b1 g1 z1
  have HW1 : Hid (_ = W1) := hW1
  have b2 : Below W1.heap.size W1 (W1.alloc (.cells #[.int .i64 OA, .slice xo R co] 98)) := (Below.refl _ _).alloc (Nat.le_refl _) _
  have g2 : (W1.alloc (.cells #[.int .i64 OA, .slice xo R co] 98)).heap[W1.heap.size]? = some (.cells #[.int .i64 OA, .slice xo R co] 98 (0, 0)) := heap_alloc_new W1 _
  have z2 : (W1.alloc (.cells #[.int .i64 OA, .slice xo R co] 98)).heap.size = W1.heap.size + 1 := by simp
  obtain ⟨W2, hW2⟩ : ∃ W, W1.alloc (.cells #[.int .i64 OA, .slice xo R co] 98) = W := ⟨_, rfl⟩
  simp only [hW2] at b2 g2 z2
  have HW2 : Hid (_ = W2) := hW2
  obtain ⟨G, hG⟩ : ∃ g, w.heap.size = g := ⟨_, rfl⟩
  obtain ⟨N, hN⟩ : ∃ g, W1.heap.size = g := ⟨_, rfl⟩
  rw [hG] at g1 z1
  rw [hN] at g2 z2
  have hNG : N = G + 1 := by omega
  have HG : Hid (w.heap.size = G ∧ W1.heap.size = N ∧ W2.heap.size = N + 1 ∧ N = G + 1) := ⟨hG, hN, z2, hNG⟩
  have b02 : Below w.heap.size w W2 := chain b1 b2
  have T1 := HH.out.below b1
  have T2 := HH.out.below b02
  have bc1 := boxC T1.box
  have bc2 := boxC T2.box
  have p1 : W1.cell? ⟨S, q * 2, none⟩ = some (.int .i64 OA) := (b1.cell (p := ⟨S, q * 2, none⟩) (by have := h.in_; exact this.2.1)).trans o1
  have p2 : W1.cell? ⟨S, q * 2 + 1, none⟩ = some (.slice xo R co) := (b1.cell (p := ⟨S, q * 2 + 1, none⟩) (by have := h.in_; exact this.2.1)).trans o2
  have p3 := (T2.hitAt hb).1
  have gw2 : W2.heap[G]? = some (.cells #[.int .i64 AC, .slice x R c] 98 (0, 0)) := (b2.block G (by omega)).trans g1
  obtain ⟨gg0, gg1⟩ := two_cells_of gw2
  obtain ⟨n0, n1⟩ := two_cells_of g2
  have aS : ArgI W2 (.slice x R c) s.regs := hv.arg.below b02
  have aO : ArgI W2 (.slice xo R co) old.regs := o3.arg.below b02
  have HAO : Hid (ArgI w (.slice xo R co) old.regs) := o3.arg
  have cJ0 := iJoin_any old s (.slice xo R co) (.slice x R c) W2 aO aS (by omega) (by omega)
  obtain ⟨JT, hJT⟩ : ∃ t, joinS old s = t := ⟨_, rfl⟩
  have hJl : JT.regs.length = R := by rw [← hJT, (join_le old s (by rw [ero, hs])).1.len]; exact ero
  obtain ⟨JA, hJA⟩ : ∃ a, JT.acc = a := ⟨_, rfl⟩
  rw [hJT, eOA, eAC, hJA] at cJ0
  have HJA : Hid (JT.acc = JA) := hJA
  have cJ := cJ0.mono (fun e w' (hh : ∃ v, e = .returned (.agg #[.int .i64 JA, v]) ∧ OwnI w' W2.heap.size v JT.regs ∧ Below W2.heap.size W2 w') => show ∃ (y : Option Addr) (d : Nat), e = .returned (.agg #[.int .i64 JA, .slice y R d]) ∧ Hid (OwnI w' W2.heap.size (.slice y R d) JT.regs) ∧ Hid (Below W2.heap.size W2 w') by
    obtain ⟨v, e1, e2, e3⟩ := hh
    obtain ⟨y, d, rfl⟩ := row_slice e2
    rw [hJl] at e1 e2
    exact ⟨y, d, e1, e2, e3⟩)
  subst hqk
  have cI := fun W => iIsInIns xk n ck (q : Int) W (by unfold maxLen; omega)
  rw [show inB (q : Int) 0 ((n : Int) - 1) = true by unfold inB; rw [decide_eq_true (p := (q : Int) ≤ (n : Int) - 1) (by omega), decide_eq_true hq0]; rfl] at cI
  have x5 := bc1.c5
  have x7 := bc1.c7
  have y8 := bc2.c8
  have HB3 : Hid (Below w.heap.size w W2) := b02
  have HK1 : Hid _ := g2
  have HFL : Hid ((sameS JT old = true → flowI r q s = r) ∧ (sameS JT old = false → flowI r q s = ⟨r.list.set q JT, r.hit.set q true, putL r.todo q, r.bad⟩)) := by
    rw [← hJT]
    exact ⟨fun h => flow_stay hold hb h, fun h => flow_old hold hb h⟩
  have HOA : Hid (old.acc = OA) := eOA
  obtain ⟨RES, hRES⟩ : ∃ t, flowI r q s = t := ⟨_, rfl⟩
  rw [hRES] at HFL ⊢
  clear hW1 hW2 bc1 bc2 T1 T2 cJ0 g1 g2 gw2 b1 b2 b02 o1 o2 o3 hv h aS aO hold hb eOA ero eAC hs hG hN z1 z2 hNG hJT hJl hJA hok hRES
  go_enter Try.func115, Try.ntmps115
  go_upto_region 1 with fail
  rw [HW1.out]
  clear HW1
  go_upto_region 4 with (go_at_call 36; (with_reducible refine (cI _).mono ?_); rintro e w5 ⟨rfl, rfl⟩)
  rw [HW2.out]
  clear HW2
  simp only [HG.out.1, HG.out.2.1]
  clear x5 x7 p1 p2
  go_upto_region 7 with (go_at_call 130; (with_reducible refine cJ.mono ?_); rintro e w6 ⟨y6, d6, rfl, HO6, HB6⟩)
  clear cJ p3 y8 n0 n1 gg0 gg1
  have bA : Below w6.heap.size w6 (w6.alloc (.cells #[.int .i64 JA, .slice y6 R d6] 98)) := (Below.refl _ _).alloc (Nat.le_refl _) _
  have b7 : Below w.heap.size w (w6.alloc (.cells #[.int .i64 JA, .slice y6 R d6] 98)) := chain (chain HB3.out HB6.out) bA
  have g7 : (w6.alloc (.cells #[.int .i64 JA, .slice y6 R d6] 98)).heap[w6.heap.size]? = some (.cells #[.int .i64 JA, .slice y6 R d6] 98 (0, 0)) := heap_alloc_new w6 _
  have gN : (w6.alloc (.cells #[.int .i64 JA, .slice y6 R d6] 98)).heap[N]? = some (.cells #[.int .i64 OA, .slice xo R co] 98 (0, 0)) := ((chain HB6.out bA).block N (lt16 HK1.out)).trans HK1.out
  have ho7 : OwnI (w6.alloc (.cells #[.int .i64 JA, .slice y6 R d6] 98)) W2.heap.size (.slice y6 R d6) JT.regs := HO6.out.below bA
  obtain ⟨WA, hWA⟩ : ∃ W, w6.alloc (.cells #[.int .i64 JA, .slice y6 R d6] 98) = W := ⟨_, rfl⟩
  obtain ⟨N7, hN7⟩ : ∃ k, w6.heap.size = k := ⟨_, rfl⟩
  rw [hN7] at g7
  have hN7G : G < N7 := by
    have h1 := HB3.out.size
    have h2 := HB6.out.size
    have h3 := lt16 HK1.out
    have h4 := HG.out
    omega
  simp only [hWA, hN7] at b7 g7 gN ho7 ⊢
  have TA := HH.out.below b7
  have x8 := (boxC TA.box).c8
  have p7 := (TA.hitAt HHB.out).1
  obtain ⟨j0, j1⟩ := two_cells_of g7
  obtain ⟨n0, n1⟩ := two_cells_of gN
  have cS := iSameState JT old (.slice y6 R d6) (.slice xo R co) WA ho7.arg (HAO.out.below b7)
  rw [HJA.out, HOA.out] at cS
  obtain ⟨F, hF⟩ : ∃ b, sameS JT old = b := ⟨_, rfl⟩
  rw [hF] at cS HFL
  have HB7a : Hid (Below w.heap.size w WA) := b7
  have HG7 : Hid _ := g7
  have HO7 : Hid _ := ho7
  clear TA g7 gN ho7 b7 bA hWA hN7 hF HAO HOA
  cases F with
  | true =>
    have eR := HFL.out.1 rfl
    subst eR
    go_wp2_with (go_at_call 131; (with_reducible refine cS.mono ?_); rintro e w8 ⟨rfl, hb8⟩)
    go_returns
    exact ⟨rfl, HH.out.below (chain HB7a.out hb8), TStep.of_below (chain HB7a.out hb8)⟩
  | false =>
  have eR := HFL.out.2 rfl
  subst eR
  go_upto_region 8 with (go_at_call 131; (with_reducible refine cS.mono ?_); rintro e W7 ⟨rfl, hb8⟩)
  clear x8 p7 j0 j1 n0 n1 cS
  have b7 := chain HB7a.out hb8
  have g7 := (hb8.block N7 (lt16 HG7.out)).trans HG7.out
  have ho7 : OwnI W7 W2.heap.size (.slice y6 R d6) JT.regs := OwnI.below HO7.out hb8
  have HMORE : True := trivial
  have T7 := HH.out.below b7
  have bc7 := boxC T7.box
  have x7 := bc7.c7
  have x8 := bc7.c8
  have hz := T7.hitAt HHB.out
  have p7 := hz.1
  have pz := hz.2
  have sz : ∀ j, W7.frozen? ⟨S, j, none⟩ = false := (T7.at_ HOLD.out).choose_spec.choose_spec.2.2.2
  obtain ⟨xo', co', so1, so2, _, _⟩ := T7.at_ HOLD.out
  obtain ⟨j0, j1⟩ := two_cells_of g7
  have hnew : NewRow S W7 (.slice y6 R d6) := HH.out.newRow b7 (Nat.le_trans (Nat.le_refl _) HB3.out.size) ho7
  have hown : OwnI W7 B (.slice y6 R d6) JT.regs := row_low ho7 (Nat.le_trans hB HB3.out.size)
  have AR := T7.arrived hqn JT (.slice y6 R d6) hown hnew
  rw [HJA.out] at AR
  have HAR : Hid _ := AR
  have ap := T7.apart
  have iX := T7.in_
  have hXS := ap.xs
  have hXH := ap.xh
  have hSH := ap.sh
  have hneS : N7 ≠ S := fun e => by have := HH.out.in_; have := HG.out; omega
  have hneH : N7 ≠ H := fun e => by have := HH.out.in_; have := HG.out; omega
  have HKS : Hid (∀ (W : World), (W.heap[X]? = W7.heap[X]? ∧ W.heap[N7]? = W7.heap[N7]?) → (W.cell? ⟨X, 7, none⟩ = some (.slice (some ⟨S, 0, none⟩) n n) ∧ W.cell? ⟨X, 8, none⟩ = some (.slice (some ⟨H, 0, none⟩) n n)) ∧ (W.cell? ⟨N7, 0, none⟩ = some (.int .i64 JA) ∧ W.cell? ⟨N7, 1, none⟩ = some (.slice y6 R d6))) := fun W hW => by
    have t1 := boxC (hW.1.trans T7.box)
    exact ⟨⟨t1.c7, t1.c8⟩, two_cells_of (hW.2.trans g7)⟩
  have kR : W7.heap[X]? = W7.heap[X]? ∧ W7.heap[N7]? = W7.heap[N7]? := ⟨rfl, rfl⟩
  have kD : ∀ {W : World}, (W.heap[X]? = W7.heap[X]? ∧ W.heap[N7]? = W7.heap[N7]?) → (W.drew.heap[X]? = W7.heap[X]? ∧ W.drew.heap[N7]? = W7.heap[N7]?) := fun h => h
  have kH : ∀ {W : World} (j : Nat) (u : Value), (W.heap[X]? = W7.heap[X]? ∧ W.heap[N7]? = W7.heap[N7]?) → ((W.setCell ⟨H, j, none⟩ u).heap[X]? = W7.heap[X]? ∧ (W.setCell ⟨H, j, none⟩ u).heap[N7]? = W7.heap[N7]?) := fun j u h => ⟨(heap_setCell_other _ ⟨H, j, none⟩ X u hXH).trans h.1, (heap_setCell_other _ ⟨H, j, none⟩ N7 u hneH).trans h.2⟩
  have kS : ∀ {W : World} (j : Nat) (u : Value), (W.heap[X]? = W7.heap[X]? ∧ W.heap[N7]? = W7.heap[N7]?) → ((W.setCell ⟨S, j, none⟩ u).heap[X]? = W7.heap[X]? ∧ (W.setCell ⟨S, j, none⟩ u).heap[N7]? = W7.heap[N7]?) := fun j u h => ⟨(heap_setCell_other _ ⟨S, j, none⟩ X u hXS).trans h.1, (heap_setCell_other _ ⟨S, j, none⟩ N7 u hneS).trans h.2⟩
  have HB7 : Hid (TStep X S H L K w W7) := TStep.of_below b7
  have cP := fun (r' : RunP) (W : World) (hW : TAt X S H L K n B fv cv PA RE qc (.slice xk n ck) qh r' fi W) => iPut hW q hqn hn
  have HKR : Hid _ := kR
  clear bc7 hb8 T7 hz hnew hown AR g7 ho7 b7 ap iX HH HV kR hneS hneH
  clear x7 x8 j0 j1
  go_region_held_law (fun W => (W.cell? ⟨X, 7, none⟩ = some (.slice (some ⟨S, 0, none⟩) n n) ∧ W.cell? ⟨X, 8, none⟩ = some (.slice (some ⟨H, 0, none⟩) n n)) ∧ (W.cell? ⟨N7, 0, none⟩ = some (.int .i64 JA) ∧ W.cell? ⟨N7, 1, none⟩ = some (.slice y6 R d6)))
    (exact HKS.out _ (by repeat (first | with_reducible exact HKR.out | (with_reducible refine kD ?_) | (with_reducible refine kH _ _ ?_) | (with_reducible refine kS _ _ ?_))))
    (first | (fail))
  obtain ⟨A1, S1⟩ := HAR.out.1
  have A2 := A1.below ((Below.refl _ _).drew)
  have S2 := S1.trans (TStep.of_below ((Below.refl _ _).drew))
  obtain ⟨W8, hW8⟩ : ∃ W, (((W7.setCell ⟨H, q, none⟩ (.bool true)).setCell ⟨S, q * 2, none⟩ (.int .i64 JA)).setCell ⟨S, q * 2 + 1, none⟩ (.slice y6 R d6)).drew = W := ⟨_, rfl⟩
  simp only [hW8] at A2 S2 ⊢
  have cP8 := cP _ _ A2
  have HS8 : Hid _ := S2
  clear A1 S1 S2 A2 hW8 HAR cP HKS HKR kD kH kS p7 pz sz so1 so2
  go_wp2_with (go_at_call 132; (with_reducible refine cP8.mono ?_); rintro e w9 ⟨rfl, h9, s9⟩)
  go_returns
  exact ⟨rfl, h9, HB7.out.trans (HS8.out.trans s9)⟩
theorem iArrive {R : Nat} (h : TAt X S H L K n B fv cv PA RE qc qk qh r fi w) (hok : RunOk n R r) (hn : n ≤ 300) (hR : R ≤ 40) (q : Nat) (hq : q ≤ 1000) (s : PSta) (hs : s.regs.length = R) (v : Value) (hv : OwnI w B v s.regs) (hB : B ≤ w.heap.size) (xk : Option Addr) (ck : Nat) (hqk : qk = .slice xk n ck) :
    Calls Try.prog 115 #[.pointer (some ⟨X, 0, none⟩), .int .i64 (q : Int), .agg #[.int .i64 s.acc, v]] w fun e w' => e = .returned (.tuple #[]) ∧ TAt X S H L K n B fv cv PA RE qc qk qh (flowI r q s) fi w' ∧ TStep X S H L K w w' := by
  obtain ⟨x, c, rfl⟩ := row_slice hv
  rw [hs] at hv ⊢
  rcases Nat.lt_or_ge q n with h1 | h1
  · obtain ⟨b, hb⟩ : ∃ b, r.hit[q]? = some b := ⟨_, List.getElem?_eq_getElem (by rw [h.hl]; exact h1)⟩
    cases b with
    | false => exact iArrive_new h hn hR q s hs x c hv hB xk ck hqk h1 hb
    | true => exact iArrive_old h hn hR q s hs x c hv hB xk ck hqk h1 hok hb
  · exact iArrive_out h hn q hq s x c xk ck hqk h1
end Go.Proofs.Ytbgdapdenbldmaa
namespace Go.Proofs.Ytbgdapdenbldmaa
open Go.RowKit
set_option linter.unusedVariables false
theorem inB_le {x a b : Int} (h : inB x a b = true) : a ≤ x ∧ x ≤ b := by
  unfold inB at h
  simp only [Bool.and_eq_true, decide_eq_true_eq] at h
  exact h
theorem capOk_le {c : PCap} (h : capOk c = true) : 0 ≤ c.index ∧ c.index ≤ 40 := inB_le h
theorem insOk_le {c : PIns} (h : insOk c = true) : (1 ≤ c.op ∧ c.op ≤ 19) ∧ (0 ≤ c.a ∧ c.a ≤ 300) ∧ 0 ≤ c.b ∧ c.b ≤ 300 := by
  unfold insOk at h
  simp only [Bool.and_eq_true] at h
  exact ⟨inB_le h.1, inB_le h.2.1, inB_le h.2.2⟩
theorem hndOk_le {c : PHnd} (h : hndOk c = true) : (0 ≤ c.lo ∧ c.lo ≤ 300) ∧ (0 ≤ c.hi ∧ c.hi ≤ 300) ∧ 0 ≤ c.target ∧ c.target ≤ 300 := by
  unfold hndOk at h
  simp only [Bool.and_eq_true] at h
  exact ⟨inB_le h.1, inB_le h.2.1, inB_le h.2.2⟩
structure FunLe (f : PFun) : Prop where
  params : 0 ≤ f.params ∧ f.params ≤ 4
  regs : 0 ≤ f.regs ∧ f.regs ≤ 40
  caps : f.caps.length ≤ 20
  code : 1 ≤ f.code.length ∧ f.code.length ≤ 300
  hnds : f.hnds.length ≤ 40
  capsOk : ∀ q ∈ f.caps, capOk q = true
  codeOk : ∀ q ∈ f.code, insOk q = true
  hndsOk : ∀ q ∈ f.hnds, hndOk q = true
theorem funOk_le {f : PFun} (h : funOk f = true) : FunLe f := by
  unfold funOk at h
  simp only [Bool.and_eq_true, decide_eq_true_eq, List.all_eq_true] at h
  obtain ⟨h1, h2, h3, h4, h5, h6, h7, h8⟩ := h
  have a1 := inB_le h1
  have a2 := inB_le h2
  have a4 := inB_le h4
  exact ⟨a1, by omega, h3, by omega, h5, h6, h7, h8⟩
structure ImgLe (p : PImg) : Prop where
  funcs : 1 ≤ p.funcs.length ∧ p.funcs.length ≤ 16
  consts : p.consts.length ≤ 40
  funsOk : ∀ q ∈ p.funcs, funOk q = true
  consOk : ∀ q ∈ p.consts, conOk q = true
theorem imgOk_le {p : PImg} (h : imgOk p = true) : ImgLe p := by
  unfold imgOk at h
  simp only [Bool.and_eq_true, decide_eq_true_eq, List.all_eq_true] at h
  obtain ⟨h1, h2, h3, h4, h5⟩ := h
  have a1 := inB_le h1
  exact ⟨by omega, h2, h4, h3⟩
end Go.Proofs.Ytbgdapdenbldmaa
