/-
  The specification's Reached and DeadOf.
-/
import Derived.Test.YtbgdapdenbldmaaStaO
namespace Go.Proofs.Ytbgdapdenbldmaa
open Go.RowKit Go.Sort
set_option linter.unusedVariables false

/-- how many instructions of a function are reached; -1 where its states are none -/
def ReachIs (p : PImg) (k : Int) (r : Int) : Prop := (stB p k = false ∧ r = -1) ∨ (stB p k = true ∧ ∃ L H, IsRes p k L H ∧ r = ((H.count true : Nat) : Int))
theorem ReachIs.one {p : PImg} {k : Int} {r r' : Int} (h : ReachIs p k r) (h' : ReachIs p k r') : r = r' := by
  rcases h with ⟨a, rfl⟩ | ⟨a, L, H, b, rfl⟩
  · rcases h' with ⟨_, rfl⟩ | ⟨a', _⟩
    · rfl
    · rw [a] at a'; cases a'
  · rcases h' with ⟨a', _⟩ | ⟨_, L', H', b', rfl⟩
    · rw [a] at a'; cases a'
    · rw [(b.one b').2]
theorem count_more {l : List Bool} {i : Nat} {b : Bool} (h : l[i]? = some b) : ((l.take (i + 1)).count true) = (l.take i).count true + (if b then 1 else 0) := by
  rw [List.take_add_one, h, List.count_append]
  cases b <;> rfl

set_option maxHeartbeats 1000000 in
set_option maxRecDepth 100000 in
theorem specReached_any (p : PImg) (k : Int) (fv cv : Value) (w : World) (h : ArgImg w fv cv p) (hw : imgW p) :
    Calls Try.prog 7 #[.agg #[fv, cv], .int .i64 k] w fun e w' => ∃ r : Int, e = .returned (.int .i64 r) ∧ ReachIs p k r ∧ Below w.heap.size w w' := by
  have b0 : Below w.heap.size w (w.alloc (.cells #[fv, cv] 31)) := (Below.refl _ _).alloc (Nat.le_refl _) _
  have z0 := heap_alloc_new w (.cells #[fv, cv] 31)
  have cS := (specStates_any p k fv cv _ (h.below b0) hw).mono (fun e w' (hh : ∃ lv hv, e = .returned (.tuple #[lv, hv, .bool (stB p k)]) ∧ StaRes p k (stB p k) lv hv _ w') => show ∃ (lv hv : Value) (L : List PSta) (Hh : List Bool), e = .returned (.tuple #[lv, hv, .bool (stB p k)]) ∧ Hid (IsRes p k L Hh) ∧ Hid (ArgBo w' hv Hh) ∧ Below _ _ w' by
    obtain ⟨lv, hv, e1, e2⟩ := hh
    obtain ⟨L, Hh, a, b, c⟩ := e2.lists
    exact ⟨lv, hv, L, Hh, e1, a, c, e2.1⟩)
  obtain ⟨SB, eSB⟩ : ∃ x, stB p k = x := ⟨_, rfl⟩
  have HSB : Hid (stB p k = SB) := eSB
  rw [eSB] at cS
  clear eSB h hw
  obtain ⟨W0, hW0⟩ : ∃ W, w.alloc (.cells #[fv, cv] 31) = W := ⟨_, rfl⟩
  rw [hW0] at b0 z0 cS
  have HW0 : Hid (_ = W0) := hW0
  clear hW0
  obtain ⟨G, hG⟩ : ∃ G, w.heap.size = G := ⟨_, rfl⟩
  rw [hG] at z0
  obtain ⟨p0, p1⟩ := two_cells_of z0
  go_enter Try.func7, Try.ntmps7
  go_upto_region 1 with fail
  rw [HW0.out]
  clear HW0
  try simp only [hG]
  cases SB with
  | false =>
    go_wp2_with (go_at_call 24; (with_reducible refine cS.mono ?_); rintro e w2 ⟨lv, hv, L, Hh, rfl, HR, HHa, b2⟩)
    go_ret
    exact ⟨-1, rfl, .inl ⟨HSB.out, rfl⟩, chain b0 b2⟩
  | true =>
    go_upto_region 2 with (go_at_call 24; (with_reducible refine cS.mono ?_); rintro e w2 ⟨lv, hv, L, Hh, rfl, HR, HHa, b2⟩)
    obtain ⟨hx, hc, rfl, hm, ho⟩ := HHa.out.opened
    obtain ⟨n, hn⟩ : ∃ n, Hh.length = n := ⟨_, rfl⟩
    have hfew : n ≤ 300 := by rw [← hn]; exact HR.out.few.2.1
    rw [hn] at ho hm ⊢
    have HN : Hid (Hh.length = n) := hn
    have HO : Hid (0 < n → ∃ b o, hx = some ⟨b, o, none⟩ ∧ b < w2.heap.size ∧ ∀ (j : Nat) (z : Bool), Hh[j]? = some z → w2.cell? ⟨b, o + j, none⟩ = some (.bool z)) := ho
    have B2 : Below w.heap.size w w2 := chain b0 b2
    clear ho hn p0 p1 cS b2 z0 HHa hm
    go_upto_region 6 with fail
    go_loopw [8, 9] (fun v i wr => ∃ j : Nat, j ≤ n ∧ i = .int .i64 j ∧ v = .int .i64 (((Hh.take j).count true : Nat) : Int) ∧ w2 = wr) (fun _ i _ => n - (intOf i).toNat)
    case atStart => exact ⟨0, Nat.zero_le _, rfl, rfl, rfl⟩
    case round =>
      obtain ⟨j, hj, rfl, rfl, rfl⟩ := hrel
      by_cases hjn : j < n
      · obtain ⟨b, o, rfl, hb, hcc⟩ := HO.out (by omega)
        obtain ⟨q, hq⟩ : ∃ q, Hh[j]? = some q := ⟨_, List.getElem?_eq_getElem (by have := HN.out; omega)⟩
        have g0 : w2.cell? ⟨b, o + j, none⟩ = some (.bool q) := hcc j q hq
        have hji : (j : Int) < (n : Int) := by omega
        have hj0 : (0 : Int) ≤ (j : Int) := by omega
        have HT := count_more hq
        obtain ⟨N, hN⟩ : ∃ N, (Hh.take j).count true = N := ⟨_, rfl⟩
        have hNj : N ≤ j := by
          rw [← hN]
          refine Nat.le_trans List.count_le_length ?_
          rw [List.length_take]
          omega
        rw [hN] at HT ⊢
        have HT2 : Hid ((Hh.take (j + 1)).count true = N + if q then 1 else 0) := HT
        clear HT hN hcc hq
        cases q with
        | true =>
          go_wp2
          go_roundw
          case rel => exact ⟨j + 1, by omega, by go_num, by rw [HT2.out]; go_num, trivial⟩
          case measure => simp [intOf]; omega
        | false =>
          go_wp2
          go_roundw
          case rel => exact ⟨j + 1, by omega, by go_num, by rw [HT2.out]; rfl, trivial⟩
          case measure => simp [intOf]; omega
      · have hje : j = n := by omega
        subst hje
        go_wp2
        go_ret
        exact ⟨_, rfl, .inr ⟨HSB.out, L, Hh, HR.out, by rw [← HN.out, List.take_length]⟩, B2⟩

end Go.Proofs.Ytbgdapdenbldmaa
