/-
  The walk of the program's Shortest.
-/
import Derived.Test.YtcdplnejejpjnaaGreatDoorICand
import Derived.Test.YtcdplnejejpjnaaGreatDoorINear
import Derived.Test.YtcdplnejejpjnaaGreatDoorShow7
import Derived.Test.YtcdplnejejpjnaaGreatDoorRangeA
namespace Go.Proofs.YtcdplnejejpjnaaGreatDoor
open Go.RowKit Go.Shelf
attribute [local go_sem] Oper.semAt_some
set_option linter.unusedVariables false

theorem keeps_below {B : Nat} {W W' : World} (h : Below W.heap.size W W') : KeepsFrom B W W' := ⟨h.size, fun k o _ hk _ => (h.block k (Array.getElem?_eq_some_iff.1 hk).1).trans hk⟩
theorem boxed_below {W W' : World} {b : Nat} {t : TypeId} {v : Value} (h : Boxed W b t v) (hb : Below W.heap.size W W') : Boxed W' b t v := (hb.block b h.lt).trans h

/-- what the first candidate that reads back is -/
theorem short_told {x K : Nat} (kx : kindN x = 4) (hK : backC (exactS x).data.toList (exactE x) (x % 9223372036854775808) K = true) (hKl : K < 2 * (exactS x).size) (hb : ∀ k, k < K → backC (exactS x).data.toList (exactE x) (x % 9223372036854775808) k = false) :
    shortS x = txt (Lib.trimRightB (candC (exactS x).data.toList K) 48) ∧ shortE x = shE (exactS x).data.toList (exactE x) (K / 2 + 1) + (candC (exactS x).data.toList K).length - (Lib.trimRightB (candC (exactS x).data.toList K) 48).length := by
  obtain ⟨y, hy⟩ : ∃ y, x % 9223372036854775808 = y := ⟨_, rfl⟩
  obtain ⟨s1, s2⟩ := short_same x
  obtain ⟨e1, e2⟩ := exact_same x
  obtain ⟨k1, k2, k3⟩ := kind_same x
  have hy2 : y < 9223372036854775808 := by omega
  rw [hy] at s1 s2 e1 e2 k1 k2 k3 hK hb
  have ky : kindN y = 4 := k1.trans kx
  have hf := (exact_list ky).1
  have hS : exactS y = txt (Lib.decDigits (exactF (mantN y) (expN y))) := by unfold exactS; rw [if_pos ky]
  have hE : exactE y = exactX (mantN y) (expN y) := by unfold exactE; rw [if_pos ky]
  rw [← s1, ← s2, ← e1, ← e2]
  rw [← e1, ← e2] at hK hb
  rw [← e1] at hKl
  unfold shortS shortE
  rw [if_pos ky, if_pos ky]
  have hyy : y % 9223372036854775808 = y := Nat.mod_eq_of_lt hy2
  rw [hyy]
  have hl : (exactS y).data.toList = Lib.decDigits (exactF (mantN y) (expN y)) := by rw [hS, txt_data]
  have hlen : (exactS y).data.toList.length = (exactS y).size := size_list _
  obtain ⟨c1, c2⟩ := cand_short (K := K) ky hy2 hl hf (by rw [← hE]; exact hK) (by rw [hlen]; exact hKl) (fun k hk => by rw [← hE]; exact hb k hk)
  rw [← hE] at c1 c2
  exact ⟨by rw [c1], c2⟩
theorem some_back {x : Nat} (kx : kindN x = 4) : ∃ K, K < 2 * (exactS x).size ∧ backC (exactS x).data.toList (exactE x) (x % 9223372036854775808) K = true := by
  obtain ⟨y, hy⟩ : ∃ y, x % 9223372036854775808 = y := ⟨_, rfl⟩
  obtain ⟨e1, e2⟩ := exact_same x
  obtain ⟨k1, k2, k3⟩ := kind_same x
  rw [hy] at e1 e2 k1 ⊢
  have ky : kindN y = 4 := k1.trans kx
  have hS : exactS y = txt (Lib.decDigits (exactF (mantN y) (expN y))) := by unfold exactS; rw [if_pos ky]
  have hE : exactE y = exactX (mantN y) (expN y) := by unfold exactE; rw [if_pos ky]
  have hl : (exactS y).data.toList = Lib.decDigits (exactF (mantN y) (expN y)) := by rw [hS, txt_data]
  obtain ⟨K, c1, c2⟩ := cand_some ky (by omega) hl
  rw [size_list] at c1
  rw [← e1, ← e2]
  exact ⟨K, c1, by rw [hE]; exact c2⟩

theorem dec_plus {d k : Nat} (h : d < 10 ^ k) : (Lib.decDigits (d + 1)).length ≤ k + 1 :=
  dec_len (by omega) (Nat.lt_of_le_of_lt (Nat.succ_le_of_lt h) (Nat.pow_lt_pow_right (by decide) (Nat.lt_succ_self k)))
theorem cand_len {x : Nat} (kx : kindN x = 4) (k : Nat) : (candC (exactS x).data.toList k).length ≤ 800 := by
  obtain ⟨f1, f2, f3, f4, f5, f6⟩ := exact_list kx
  have hl : (exactS x).data.toList.length ≤ 790 := by rw [size_list]; exact f4
  have h1 : ∀ n, ((exactS x).data.toList.take n).length ≤ 800 := fun n => by rw [List.length_take]; omega
  have h2 : ∀ n, (Lib.decDigits (digV ((exactS x).data.toList.take n) + 1)).length ≤ 800 := fun n => by
    have hfg : Figs ((exactS x).data.toList.take n) := fun c hc => figsOk_figs f1 c (List.mem_of_mem_take hc)
    have h3 := dec_plus (digV_lt hfg)
    rw [List.length_take] at h3
    omega
  unfold candC nearC farC
  split <;> split
  · exact h2 _
  · exact h1 _
  · exact h1 _
  · exact h2 _

set_option maxHeartbeats 2000000 in
set_option maxRecDepth 100000 in
theorem shortFin (x : Nat) (w : World) (hx : x < 18446744073709551616) (kx : kindN x = 4) (htab : ∀ W, Below w.heap.size w W → Lib.TabIs Tryz.prog W "internal/strconv.uint64pow10" .u64 Lib.pow10Tab) :
    Calls Tryz.prog 16 #[.int .u64 x] w fun e w' => e = .returned (.tuple #[.string (shortS x), .int .i64 (shortE x)]) ∧ Below w.heap.size w w' := by
  have hmf : ∀ (fn : Fn) (first cap : Array Value) (w : World), (Instr.makeFunc fn first cap).run Tryz.prog w = .ok (.func fn first cap) w := fun _ _ _ _ => rfl
  refine (callsIn_wide (n := 4)).1 ?_
  refine callsIn_of_wp_marks Tryz.func16 rfl trivial ?_ rfl
  simp only [Tryz.ntmps16, List.size_toArray, List.length_cons, List.length_nil, Nat.reduceAdd, Nat.reduceSub, Array.replicate_succ, Array.replicate_zero, List.push_toArray, List.append_toArray, List.nil_append, List.cons_append]
  gi_wp2
  obtain ⟨H, hH⟩ : ∃ H, w.heap.size = H := ⟨_, rfl⟩
  obtain ⟨W0, hW0⟩ : ∃ W0, ((w.alloc (.cells #[.int .u64 (x : Int)] 24)).alloc (.cells #[.string ⟨#[]⟩] 9)).alloc (.cells #[.int .i64 0] 3) = W0 := ⟨_, rfl⟩
  have b0 := Boxed.new w 24 (.int .u64 (x : Int))
  have b1 := Boxed.new (w.alloc (.cells #[.int .u64 (x : Int)] 24)) 9 (.string ⟨#[]⟩)
  have b2 := Boxed.new ((w.alloc (.cells #[.int .u64 (x : Int)] 24)).alloc (.cells #[.string ⟨#[]⟩] 9)) 3 (.int .i64 0)
  simp only [World.size_alloc, hH] at b0 b1 b2
  have b0' := (b0.alloc (.cells #[.string ⟨#[]⟩] 9)).alloc (.cells #[.int .i64 0] 3)
  have b1' := b1.alloc (.cells #[.int .i64 0] 3)
  have hbel : Below H w W0 := by
    rw [← hW0, ← hH]
    exact (((Below.refl _ w).alloc (Nat.le_refl _) _).alloc (by simp) _).alloc (by simp; omega) _
  have hsz : W0.heap.size = H + 3 := by rw [← hW0]; simp [hH]
  rw [hW0] at b0' b1' b2
  rw [hH, hW0]
  clear b0 b1 hW0
  have HT : Hid (∀ W, Below H w W → Lib.TabIs Tryz.prog W "internal/strconv.uint64pow10" .u64 Lib.pow10Tab) := by rw [← hH]; exact htab
  have hlc := fun k => cand_len kx k
  obtain ⟨f1, f2, f3, f4, f5, f6⟩ := exact_list kx
  have HE : Hid (Unit → ∀ K, K < 2 * (exactS x).size → backC (exactS x).data.toList (exactE x) (x % 9223372036854775808) K = true → (∀ k, k < K → backC (exactS x).data.toList (exactE x) (x % 9223372036854775808) k = false) → shortS x = txt (Lib.trimRightB (candC (exactS x).data.toList K) 48) ∧ shortE x = shE (exactS x).data.toList (exactE x) (K / 2 + 1) + (candC (exactS x).data.toList K).length - (Lib.trimRightB (candC (exactS x).data.toList K) 48).length) := fun _ K h1 h2 h3 => short_told kx h2 h1 h3
  have HSome := some_back kx
  have HC : Hid (Unit → ∀ (l : Nat) (J Jx : List (ByteArray × Int) → World → Prop) (W : World), Below H w W → (∀ pre W W', J pre W → Below W.heap.size W W' → J pre W') → (∀ pre c W1, J pre W1 → (pre.length < 2 * (exactS x).size ∧ c = (txt (candC (exactS x).data.toList pre.length), shE (exactS x).data.toList (exactE x) (pre.length / 2 + 1))) → YieldAt Fence.wide (4 - 1 - 1) Tryz.prog l #[.string c.1, .int .i64 c.2] W1 fun e W' => (e = .returned (.bool true) ∧ J (pre ++ [c]) W') ∨ (e = .returned (.bool false) ∧ Jx (pre ++ [c]) W')) → J [] W →
      CallsIn Fence.wide (4 - 1) Tryz.prog 34 (#[.int .u64 x] ++ #[.func (.yield l) #[] #[]] ++ #[]) W fun e W' => (∃ v, e = .returned v) ∧ ((∃ xs, xs.length = 2 * (exactS x).size ∧ J xs W') ∨ (∃ xs, True ∧ Jx xs W'))) :=
    fun _ l J Jx W hb hst hY h0 => candWalk x l J Jx W hx kx (fun W' h => HT.out W' (hb.trans (h.mono (by have := hb.size; omega)))) hst hY h0
  obtain ⟨ls, hls⟩ : ∃ ls, (exactS x).data.toList = ls := ⟨_, rfl⟩
  obtain ⟨T, hT⟩ : ∃ T, (exactS x).size = T := ⟨_, rfl⟩
  obtain ⟨X, hX⟩ : ∃ X, exactE x = X := ⟨_, rfl⟩
  obtain ⟨pos, hpos⟩ : ∃ pos, x % 9223372036854775808 = pos := ⟨_, rfl⟩
  rw [hls, hT, hX, hpos] at HE HSome
  rw [hls, hT, hX] at HC
  simp only [hls] at hlc
  rw [hT] at f3 f4
  rw [hX] at f5 f6
  have HLT : Hid (Unit → ls.length = T) := fun _ => by rw [← hls, ← hT]; exact size_list _
  have hposI : (x : Int) % 9223372036854775808 = pos := by omega
  clear htab hls hT hX hpos f1 f2
  refine rangeSome (α := ByteArray × Int) rfl (by decide) (gf := 34) (fs := #[.int .u64 (x : Int)]) (lb := #[]) rfl trivial (enters_of Tryz.func34 (by kernel_rfl) rfl)
    (encs := fun c => #[.string c.1, .int .i64 c.2]) (fun _ => rfl)
    (fun pre W => Boxed W H 24 (.int .u64 (x : Int)) ∧ Boxed W (H + 1) 9 (.string ⟨#[]⟩) ∧ Boxed W (H + 1 + 1) 3 (.int .i64 0) ∧ Below H w W ∧ H + 3 ≤ W.heap.size ∧ ∀ k, k < pre.length → backC ls X pos k = false)
    (fun pre W => ∃ K : Nat, Boxed W (H + 1) 9 (.string (txt (Lib.trimRightB (candC ls K) 48))) ∧ Boxed W (H + 1 + 1) 3 (.int .i64 (shE ls X (K / 2 + 1) + (candC ls K).length - (Lib.trimRightB (candC ls K) 48).length)) ∧ Below H w W ∧ H + 3 ≤ W.heap.size ∧ K < 2 * T ∧ backC ls X pos K = true ∧ ∀ k, k < K → backC ls X pos k = false)
    (fun pre c => pre.length < 2 * T ∧ c = (txt (candC ls pre.length), shE ls X (pre.length / 2 + 1)))
    (fun xs => xs.length = 2 * T) (fun _ => True)
    ?own1 ?own2 ⟨b0', b1', b2, hbel, by omega, fun k h => by simp at h⟩
    (fun c => { tmps := #[.int .u64 (x : Int), .pointer (some ⟨H, 0, none⟩), .pointer (some ⟨H + 1, 0, none⟩), .pointer (some ⟨H + 1 + 1, 0, none⟩), .string c.1, .int .i64 c.2, .int .u64 (x : Int), .func (.func 34) #[.int .u64 (x : Int)] #[], .string c.1, .int .i64 c.2, undef, undef, undef, undef, undef, undef, undef, undef, undef, undef, undef], defers := [] })
    ?assign ?body ?seq ?done ?stop
  case own1 =>
    rintro pre A B row ⟨k1, k2, k3, k4, k5, k6⟩ hgr hr
    exact ⟨box_stays k1 hgr hr, box_stays k2 hgr hr, box_stays k3 hgr hr, k4.grown hgr (by omega) (fun k e => by have := (hr k e).1; omega), by have := hgr.size; omega, k6⟩
  case own2 =>
    rintro pre A B row ⟨K, k1, k2, k3, k4, k5⟩ hgr hr
    exact ⟨K, box_stays k1 hgr hr, box_stays k2 hgr hr, k3.grown hgr (by omega) (fun k e => by have := (hr k e).1; omega), by have := hgr.size; omega, k5⟩
  case assign =>
    intro l c W K hK
    gi_wp2
    exact hK
  case seq =>
    intro l J Jx W hb hJI hst hY h0
    rw [hsz] at hb
    have hb' : Below H w W := hbel.trans (hb.mono (by omega))
    refine (HC.out () l J Jx W hb' hst hY h0).mono ?_
    rintro e W' ⟨he, (⟨xs, h1, h2⟩ | ⟨xs, h1, h2⟩)⟩
    · exact ⟨he, .inl ⟨xs, h1, h2⟩⟩
    · exact ⟨he, .inr ⟨xs, h1, h2⟩⟩
  case done =>
    rintro D xs W hD hlen ⟨k1, k2, k3, k4, k5, k6⟩ hK
    exfalso
    obtain ⟨K, c1, c2⟩ := HSome
    rw [k6 K (by omega)] at c2
    cases c2
  case stop =>
    rintro D xs W hD _ ⟨K, k1, k2, k3, k4, k5, k6, k7⟩ hKD
    obtain ⟨q1, q2⟩ := HE.out () K k5 k6 k7
    have hst : ∀ r, (some D : Option Nat) = some r → 0 ≤ r ∧ ∃ o : Obj, W.heap[r]? = some o ∧ o.isCells = false := fun q e => by cases e; exact ⟨Nat.zero_le _, _, hKD, rfl⟩
    have c1 := (box_stays k1 (grownBy_putObj' W D (.deferred none)) hst).cell
    have c2 := (box_stays k2 (grownBy_putObj' W D (.deferred none)) hst).cell
    rw [← q1] at c1
    rw [← q2] at c2
    have hbD : Below H w (W.putObj D (.deferred none)) := k3.trans (belowK_b (w := w) (by omega) W D _ _ (by omega) hKD rfl rfl)
    gi_wp2
    refine ⟨by simp, .inl ⟨_, _, rfl, run_takeDeferred hKD, ?_⟩⟩
    refine ⟨.tuple #[.string (shortS x), .int .i64 (shortE x)], ?_, rfl, by rw [hH]; exact hbD⟩
    simp [results, Tryz.results16, go_sem, c1, c2]
  case body =>
    rintro l pre ⟨cs, ce⟩ W ⟨k1, k2, k3, k4, k5, k6⟩ ⟨hl1, hc⟩
    injection hc with hc1 hc2
    have hsz1 : cs.size ≤ 800 := by rw [hc1, txt_size]; exact hlc _
    have hce : -2000 ≤ ce ∧ ce ≤ 2000 := by
      rw [hc2]
      unfold shE
      have := HLT.out ()
      omega
    obtain ⟨hce1, hce2⟩ := hce
    have cN := fun V => iNearest cs ce V (by omega) (by omega) (by omega)
    have cS := fun V => iSize x V
    rw [hposI] at cS
    obtain ⟨N, hN⟩ : ∃ N, nearN cs.data.toList ce = N := ⟨_, rfl⟩
    rw [hN] at cN
    have HB : Hid (Unit → backC ls X pos pre.length = decide (N = pos)) := fun _ => by
      unfold backC
      rw [← hN, hc1, hc2, txt_data]
    have HCC : Hid (Unit → cs = txt (candC ls pre.length) ∧ ce = shE ls X (pre.length / 2 + 1)) := fun _ => ⟨hc1, hc2⟩
    clear hN hc1 hc2
    have c0 : W.drew.cell? ⟨H, 0, none⟩ = some (.int .u64 (x : Int)) := k1.cell
    have hHW : H < W.drew.heap.size := k1.lt
    gi_wp2_with fail
    refine wpIn_mono (Q := fun e a' w' => e = .normal ∧ a' = { tmps := #[.int .u64 (x : Int), .pointer (some ⟨H, 0, none⟩), .pointer (some ⟨H + 1, 0, none⟩), .pointer (some ⟨H + 1 + 1, 0, none⟩), .string cs, .int .i64 ce, .int .u64 (x : Int), .func (.func 34) #[.int .u64 (x : Int)] #[], .string cs, .int .i64 ce, .string cs, .int .i64 ce, .int .u64 (N : Int), .int .u64 (x : Int), .int .u64 (pos : Int), .bool ((N : Int) == (pos : Int)), undef, undef, undef, undef, undef], defers := [] } ∧ Below W.drew.heap.size W.drew w') ?reg ?fin
    case reg =>
      refine held_in_round (fun w' => w'.cell? ⟨H, 0, none⟩ = some (.int .u64 (x : Int))) (by kernel_rfl) (no_defer (by kernel_rfl)) (by rintro ⟨_, _, h, _⟩; cases h) c0 (fun hS => ?_)
      refine wpAnyH_take (i := 0) (v := .string cs) rfl (by kernel_rfl) (by kernel_rfl) (by kernel_rfl) (fun _ _ _ h => by cases h.1) (Or.inl ⟨by rfl, ?_⟩) (by assumption) ?_
      · intro w hSw
        go_simp
      simp only [Act.put]
      refine wpAnyH_take (i := 1) (v := .int .i64 ce) rfl (by kernel_rfl) (by kernel_rfl) (by kernel_rfl) (fun _ _ _ h => by cases h.1) (Or.inl ⟨by rfl, ?_⟩) (by assumption) ?_
      · intro w hSw
        go_simp
      simp only [Act.put]
      refine wpAnyH_take (i := 3) (v := .int .u64 (x : Int)) rfl (by kernel_rfl) (by kernel_rfl) (by kernel_rfl) (fun _ _ _ h => by cases h.1) (Or.inl ⟨by rfl, ?_⟩) (by assumption) ?_
      · intro w hSw
        go_simp
      simp only [Act.put]
      refine wpAnyH_ready (rs := [2]) (by kernel_rfl) (by simp) ?_
      refine AllReadyH.cons rfl (fun K hK => ?_) AllReadyH.nil
      go_simp
      go_wp2_with (go_at_call 22; with_reducible refine (cN _).mono ?_; rintro e w' ⟨rfl, hbN⟩)
      refine hK.out _ _ ?_ (fun hS => ?_)
      · exact (hbN.cell (p := ⟨H, 0, none⟩) hHW).trans c0
      clear hK K
      refine wpAnyH_ready (rs := [4]) (by kernel_rfl) (by simp) ?_
      refine AllReadyH.cons rfl (fun K hK => ?_) AllReadyH.nil
      go_simp
      go_wp2_with (go_at_call 33; with_reducible refine (cS _).mono ?_; rintro e w' ⟨rfl, rfl⟩)
      refine hK.out _ _ ?_ (fun hS => ?_)
      · exact hS
      clear hK K
      refine wpAnyH_take (i := 5) (v := .bool ((N : Int) == (pos : Int))) rfl (by kernel_rfl) (by kernel_rfl) (by kernel_rfl) (fun _ _ _ h => by cases h.1) (Or.inl ⟨by rfl, ?_⟩) (by assumption) ?_
      · intro w hSw
        go_simp
      simp only [Act.put]
      refine wpAnyH_done (by kernel_rfl) ?_ _
      exact ⟨rfl, rfl, hbN⟩
    case fin =>
      rintro e a' W' ⟨rfl, rfl, hbW⟩
      have hbW2 : Below W.heap.size W W' := (Below.refl _ W).drew.trans hbW
      have m1 := boxed_below k1 hbW2
      have m2 := boxed_below k2 hbW2
      have m3 := boxed_below k3 hbW2
      have m4 : Below H w W' := k4.trans (hbW2.mono (by omega))
      have m5 := hbW2.size
      by_cases hN : N = pos
      · have hN' : ((N : Int) == (pos : Int)) = true := by rw [beq_iff_eq]; omega
        obtain ⟨F, hF⟩ : ∃ F, (⟨(Lib.trimRightB cs.data.toList 48).toArray⟩ : ByteArray) = F := ⟨_, rfl⟩
        have hFs : F.size ≤ 1000 := by
          rw [← hF]
          show (Lib.trimRightB cs.data.toList 48).length ≤ 1000
          have h1 : (Lib.trimRightB cs.data.toList 48).length ≤ cs.data.toList.length := by
            unfold Lib.trimRightB
            rw [List.length_reverse]
            exact Nat.le_trans (List.dropWhile_sublist _).length_le (by rw [List.length_reverse]; exact Nat.le_refl _)
          rw [size_list] at h1
          omega
        have cB := fun V => behindWalk cs F ce V hF (by omega) hFs (by omega) (by omega)
        have v1 := m2.cell
        have v2 := m2.frozen
        have n1 : Boxed (W'.setCell ⟨H + 1, 0, none⟩ (.string F)) (H + 1 + 1) 3 (.int .i64 0) := m3.other (by omega) _
        have v3 := n1.cell
        have v4 := n1.frozen
        have n2 : Boxed (W'.setCell ⟨H + 1, 0, none⟩ (.string F)) (H + 1) 9 (.string F) := Boxed.set _ m2
        obtain ⟨G, hG⟩ : ∃ G : Int, ce + (cs.size : Int) - (F.size : Int) = G := ⟨_, rfl⟩
        rw [hG] at cB
        have HX : Hid (Unit → F = txt (Lib.trimRightB (candC ls pre.length) 48) ∧ G = shE ls X (pre.length / 2 + 1) + (candC ls pre.length).length - (Lib.trimRightB (candC ls pre.length) 48).length) := fun _ => by
          obtain ⟨h1, h2⟩ := HCC.out ()
          have e1 : cs.data.toList = candC ls pre.length := by rw [h1, txt_data]
          have e2 : F = txt (Lib.trimRightB (candC ls pre.length) 48) := by rw [← hF, e1]; rfl
          refine ⟨e2, ?_⟩
          rw [← hG, e2, txt_size, h2]
          have e3 : cs.size = (candC ls pre.length).length := by rw [h1, txt_size]
          rw [e3]
        clear hF hG
        gi_wp2_with fail
        refine ⟨trivial, ?_⟩
        with_reducible refine (CallsIn.inRound l (callsIn_wide.2 (cB _))).mono ?_
        rintro e w5 ⟨rfl, rfl⟩
        gi_wp2
        obtain ⟨x1, x2⟩ := HX.out ()
        refine ⟨(keeps_below hbW2).trans (((KeepsOthers.setCell _ _ _).trans (KeepsOthers.setCell _ _ _)).from _), pre.length, ?_, ?_, (m4.setCell (p := ⟨H + 1, 0, none⟩) (by show H ≤ H + 1; omega) _).setCell (p := ⟨H + 1 + 1, 0, none⟩) (by show H ≤ H + 1 + 1; omega) _, ?_, hl1, ?_, k6⟩
        · rw [← x1]
          exact n2.other (by omega) _
        · rw [← x2]
          exact Boxed.set _ n1
        · have g1 := (grownBy_setCell' W' (H + 1) (.string F)).size
          have g2 := (grownBy_setCell' (W'.setCell ⟨H + 1, 0, none⟩ (.string F)) (H + 1 + 1) (.int .i64 G)).size
          omega
        · rw [HB.out ()]
          exact decide_eq_true hN
      · have hN' : ((N : Int) == (pos : Int)) = false := by rw [beq_eq_false_iff_ne]; omega
        gi_wp2
        refine ⟨keeps_below hbW2, m1, m2, m3, m4, by omega, fun k hk => ?_⟩
        rw [List.length_append, List.length_singleton] at hk
        rcases Nat.lt_or_ge k pre.length with h | h
        · exact k6 k h
        · rw [(by omega : k = pre.length), HB.out ()]
          exact decide_eq_false hN

set_option maxHeartbeats 1000000 in
set_option maxRecDepth 100000 in
theorem candNone (x l : Nat) (J : List (ByteArray × Int) → World → Prop) (W : World) (hx : x < 18446744073709551616) (kx : kindN x ≠ 4) (htab : ∀ W', Below W.heap.size W W' → Lib.TabIs Tryz.prog W' "internal/strconv.uint64pow10" .u64 Lib.pow10Tab)
    (hst : ∀ pre W W', J pre W → Below W.heap.size W W' → J pre W') (h0 : J [] W) :
    CallsIn Fence.wide (4 - 1) Tryz.prog 34 (#[.int .u64 x] ++ #[.func (.yield l) #[] #[]] ++ #[]) W fun e W' => (∃ v, e = .returned v) ∧ J [] W' := by
  have cE := iExact x W hx htab
  have hS : exactS x = ⟨#[]⟩ := by unfold exactS; rw [if_neg kx]
  have hE : exactE x = 0 := by unfold exactE; rw [if_neg kx]
  rw [hS, hE] at cE
  clear hS hE htab
  refine callsIn_of_wp Tryz.func34 rfl trivial ?_ rfl
  simp only [Tryz.ntmps34, List.size_toArray, List.length_cons, List.length_nil, Nat.reduceAdd, Nat.reduceSub, Array.replicate_succ, Array.replicate_zero, List.push_toArray, List.append_toArray, List.nil_append, List.cons_append]
  gi_wp2_with fail
  refine ⟨trivial, ?_⟩
  with_reducible refine (callsIn_wide.2 cE).mono ?_
  rintro e w1 ⟨rfl, hb1⟩
  have h1 := hst _ _ _ h0 hb1
  clear cE h0 hb1
  gi_wp2
  gi_loopw [6] (fun x6 wr => x6 = .int .i64 1 ∧ J [] wr) (fun _ _ => 0)
  case atStart => exact ⟨rfl, h1⟩
  case round =>
    clear h1
    obtain ⟨rfl, hJ⟩ := hrel
    gi_wp2
    go_end0
    exact ⟨⟨_, rfl⟩, hJ⟩

set_option maxHeartbeats 1000000 in
set_option maxRecDepth 100000 in
theorem shortNone (x : Nat) (w : World) (hx : x < 18446744073709551616) (kx : kindN x ≠ 4) (htab : ∀ W, Below w.heap.size w W → Lib.TabIs Tryz.prog W "internal/strconv.uint64pow10" .u64 Lib.pow10Tab) :
    Calls Tryz.prog 16 #[.int .u64 x] w fun e w' => e = .returned (.tuple #[.string (shortS x), .int .i64 (shortE x)]) ∧ Below w.heap.size w w' := by
  have hmf : ∀ (fn : Fn) (first cap : Array Value) (w : World), (Instr.makeFunc fn first cap).run Tryz.prog w = .ok (.func fn first cap) w := fun _ _ _ _ => rfl
  have hS : shortS x = ⟨#[]⟩ := by unfold shortS; rw [if_neg kx]
  have hE : shortE x = 0 := by unfold shortE; rw [if_neg kx]
  rw [hS, hE]
  refine (callsIn_wide (n := 4)).1 ?_
  refine callsIn_of_wp_marks Tryz.func16 rfl trivial ?_ rfl
  simp only [Tryz.ntmps16, List.size_toArray, List.length_cons, List.length_nil, Nat.reduceAdd, Nat.reduceSub, Array.replicate_succ, Array.replicate_zero, List.push_toArray, List.append_toArray, List.nil_append, List.cons_append]
  gi_wp2
  obtain ⟨H, hH⟩ : ∃ H, w.heap.size = H := ⟨_, rfl⟩
  obtain ⟨W0, hW0⟩ : ∃ W0, ((w.alloc (.cells #[.int .u64 (x : Int)] 24)).alloc (.cells #[.string ⟨#[]⟩] 9)).alloc (.cells #[.int .i64 0] 3) = W0 := ⟨_, rfl⟩
  have b1 := Boxed.new (w.alloc (.cells #[.int .u64 (x : Int)] 24)) 9 (.string ⟨#[]⟩)
  have b2 := Boxed.new ((w.alloc (.cells #[.int .u64 (x : Int)] 24)).alloc (.cells #[.string ⟨#[]⟩] 9)) 3 (.int .i64 0)
  simp only [World.size_alloc, hH] at b1 b2
  have b1' := b1.alloc (.cells #[.int .i64 0] 3)
  have hbel : Below H w W0 := by
    rw [← hW0, ← hH]
    exact (((Below.refl _ w).alloc (Nat.le_refl _) _).alloc (by simp) _).alloc (by simp; omega) _
  have hsz : W0.heap.size = H + 3 := by rw [← hW0]; simp [hH]
  rw [hW0] at b1' b2
  rw [hH, hW0]
  clear b1 hW0
  have HT : Hid (∀ W, Below H w W → Lib.TabIs Tryz.prog W "internal/strconv.uint64pow10" .u64 Lib.pow10Tab) := by rw [← hH]; exact htab
  clear htab
  refine rangeSome (α := ByteArray × Int) rfl (by decide) (gf := 34) (fs := #[.int .u64 (x : Int)]) (lb := #[]) rfl trivial (enters_of Tryz.func34 (by kernel_rfl) rfl)
    (encs := fun c => #[.string c.1, .int .i64 c.2]) (fun _ => rfl)
    (fun pre W => Boxed W (H + 1) 9 (.string ⟨#[]⟩) ∧ Boxed W (H + 1 + 1) 3 (.int .i64 0) ∧ Below H w W ∧ H + 3 ≤ W.heap.size)
    (fun _ _ => False) (fun _ _ => False) (fun _ => True) (fun _ => False)
    ?own1 (fun _ _ _ _ h _ _ => h) ⟨b1', b2, hbel, by omega⟩
    (fun c => { tmps := #[.int .u64 (x : Int), .pointer (some ⟨H, 0, none⟩), .pointer (some ⟨H + 1, 0, none⟩), .pointer (some ⟨H + 1 + 1, 0, none⟩), .string c.1, .int .i64 c.2, .int .u64 (x : Int), .func (.func 34) #[.int .u64 (x : Int)] #[], .string c.1, .int .i64 c.2, undef, undef, undef, undef, undef, undef, undef, undef, undef, undef, undef], defers := [] })
    ?assign (fun _ _ _ _ _ h => h.elim) ?seq ?done (fun _ _ _ _ h _ _ => h.elim)
  case own1 =>
    rintro pre A B row ⟨k1, k2, k4, k5⟩ hgr hr
    exact ⟨box_stays k1 hgr hr, box_stays k2 hgr hr, k4.grown hgr (by omega) (fun k e => by have := (hr k e).1; omega), by have := hgr.size; omega⟩
  case assign =>
    intro l c W K hK
    gi_wp2
    exact hK
  case seq =>
    intro l J Jx W hb hJI hst hY h0
    rw [hsz] at hb
    have hb' : Below H w W := hbel.trans (hb.mono (by omega))
    refine (candNone x l J W hx kx (fun W' h => HT.out W' (hb'.trans (h.mono (by have := hb'.size; omega)))) hst h0).mono ?_
    rintro e W' ⟨he, h1⟩
    exact ⟨he, .inl ⟨[], trivial, h1⟩⟩
  case done =>
    rintro D xs W hD _ ⟨k1, k2, k3, k4⟩ hKD
    have v1 := k1.cell
    have v2 := k1.frozen
    have n1 : Boxed (W.setCell ⟨H + 1, 0, none⟩ (.string ⟨#[]⟩)) (H + 1 + 1) 3 (.int .i64 0) := k2.other (by omega) _
    have n2 : Boxed (W.setCell ⟨H + 1, 0, none⟩ (.string ⟨#[]⟩)) (H + 1) 9 (.string ⟨#[]⟩) := Boxed.set _ k1
    have v3 := n1.cell
    have v4 := n1.frozen
    obtain ⟨V, hV⟩ : ∃ V, (W.setCell ⟨H + 1, 0, none⟩ (.string ⟨#[]⟩)).setCell ⟨H + 1 + 1, 0, none⟩ (.int .i64 0) = V := ⟨_, rfl⟩
    have p1 : Boxed V (H + 1) 9 (.string ⟨#[]⟩) := by rw [← hV]; exact n2.other (by omega) _
    have p2 : Boxed V (H + 1 + 1) 3 (.int .i64 0) := by rw [← hV]; exact Boxed.set _ n1
    have hKV : V.heap[D]? = some (.deferred (some [])) := by
      rw [← hV]
      exact (((KeepsOthers.setCell W _ _).trans (KeepsOthers.setCell _ _ _)).same D _ hKD rfl)
    have hbV : Below H w V := by
      rw [← hV]
      exact (k3.setCell (p := ⟨H + 1, 0, none⟩) (by show H ≤ H + 1; omega) _).setCell (p := ⟨H + 1 + 1, 0, none⟩) (by show H ≤ H + 1 + 1; omega) _
    have hst : ∀ r, (some D : Option Nat) = some r → 0 ≤ r ∧ ∃ o : Obj, V.heap[r]? = some o ∧ o.isCells = false := fun q e => by cases e; exact ⟨Nat.zero_le _, _, hKV, rfl⟩
    have c1 := (box_stays p1 (grownBy_putObj' V D (.deferred none)) hst).cell
    have c2 := (box_stays p2 (grownBy_putObj' V D (.deferred none)) hst).cell
    have hbD : Below H w (V.putObj D (.deferred none)) := hbV.trans (belowK_b (w := w) (by omega) V D _ _ (by omega) hKV rfl rfl)
    gi_wp2
    refine ⟨by simp, .inl ⟨_, _, rfl, run_takeDeferred hKV, ?_⟩⟩
    refine ⟨.tuple #[.string ⟨#[]⟩, .int .i64 0], ?_, rfl, by rw [hH]; exact hbD⟩
    simp [results, Tryz.results16, go_sem, c1, c2]

theorem iShortest (x : Nat) (w : World) (hx : x < 18446744073709551616) (htab : ∀ W, Below w.heap.size w W → Lib.TabIs Tryz.prog W "internal/strconv.uint64pow10" .u64 Lib.pow10Tab) :
    Calls Tryz.prog 16 #[.int .u64 x] w fun e w' => e = .returned (.tuple #[.string (shortS x), .int .i64 (shortE x)]) ∧ Below w.heap.size w w' := by
  by_cases kx : kindN x = 4
  · exact shortFin x w hx kx htab
  · exact shortNone x w hx kx htab

end Go.Proofs.YtcdplnejejpjnaaGreatDoor
