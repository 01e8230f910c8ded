/-
  What FnJoins asks of joined states (pure), and the law's own comparison of rows.
-/
import Derived.Test.YtlplljgcgohonaaDrJoin
import Derived.Test.YtlplljgcgohonaaIVer16J
import Derived.Test.YtlplljgcgohonaaIVer16B
namespace Go.Proofs.Ytlplljgcgohonaa
open Go.RowKit Go.Sort
set_option linter.unusedVariables false
set_option linter.unusedSimpArgs false

theorem joinAt_comm (l m : List Int) (i : Nat) : joinAt l m i = joinAt m l i := by
  unfold joinAt
  cases h1 : l[i]? <;> cases h2 : m[i]? <;> simp only []
  rename_i x y
  by_cases e : x = y
  · rw [if_pos e, if_pos e.symm, e]
  · rw [if_neg e, if_neg (fun h => e h.symm)]
theorem joinL_comm (l m : List Int) : joinL l m = joinL m l := by
  unfold joinL
  rw [Nat.max_comm]
  exact List.map_congr_left (fun i _ => joinAt_comm l m i)
theorem joinS_comm (a b : PSta) : joinS b a = joinS a b := by
  unfold joinS
  rw [joinL_comm b.regs a.regs]
  by_cases e : a.acc = b.acc
  · rw [if_pos e, if_pos e.symm, e]
  · rw [if_neg e, if_neg (fun h => e h.symm)]
theorem joinL_some {l m : List Int} {i : Nat} {z : Int} (h : (joinL l m)[i]? = some z) (hz : z ≠ 0) : l[i]? = some z ∧ m[i]? = some z := by
  have e := join_at h
  unfold joinAt at e
  split at e
  · rename_i x y h1 h2
    split at e
    · rename_i hxy
      rw [h1, h2, ← hxy, e]
      exact ⟨rfl, rfl⟩
    · exact absurd e hz
  · exact absurd e hz
theorem joinS_acc (a b : PSta) : (joinS a b).acc = 0 ∨ (joinS a b).acc = a.acc ∧ (joinS a b).acc = b.acc := by
  unfold joinS
  by_cases e : a.acc = b.acc
  · right
    simp [e]
  · left
    simp [e]

set_option maxHeartbeats 1000000 in
set_option maxRecDepth 100000 in
theorem sameInts_f (a b : Value) (ls ms : List Int) (w : World) (ha : ArgI w a ls) (hb : ArgI w b ms) :
    Calls Try.prog 10 #[a, b] w fun e w' => e = .returned (.bool (decide (ls = ms))) ∧ Below w.heap.size w w' := by
  obtain ⟨xa, ca, rfl, hm, oa⟩ := ha.opened
  obtain ⟨xb, cb, rfl, hm', ob⟩ := hb.opened
  clear ha hb
  unfold maxLen at hm hm'
  obtain ⟨n, hn⟩ : ∃ n, ls.length = n := ⟨_, rfl⟩
  obtain ⟨m, hmm⟩ : ∃ m, ms.length = m := ⟨_, rfl⟩
  have HN : Hid (ls.length = n) := hn
  have HM : Hid (ms.length = m) := hmm
  rw [hn] at hm oa ⊢
  rw [hmm] at hm' ob ⊢
  obtain ⟨F, hF⟩ : ∃ F, decide (ls = ms) = F := ⟨_, rfl⟩
  rw [hF]
  have HF : Hid (decide (ls = ms) = F) := hF
  clear hn hmm hF
  by_cases hnm : n = m
  case neg =>
    have hf : F = false := by
      rw [← HF.out]
      apply decide_eq_false
      intro e
      apply hnm
      rw [← HN.out, ← HM.out, e]
    subst hf
    have hne : ((n : Int) == (m : Int)) = false := by rw [beq_eq_false_iff_ne]; omega
    clear oa ob
    go_enter Try.func10, Try.ntmps10
    go_wp2
    go_ret
    exact ⟨rfl, Below.refl _ _⟩
  subst hnm
  have HA : Hid (0 < n → ∃ b o, xa = some ⟨b, o, none⟩ ∧ b < w.heap.size ∧ ∀ (j : Nat) (z : Int), ls[j]? = some z → w.cell? ⟨b, o + j, none⟩ = some (.int .i64 z)) := oa
  have HB : Hid (0 < n → ∃ b o, xb = some ⟨b, o, none⟩ ∧ b < w.heap.size ∧ ∀ (j : Nat) (z : Int), ms[j]? = some z → w.cell? ⟨b, o + j, none⟩ = some (.int .i64 z)) := ob
  clear oa ob
  go_enter Try.func10, Try.ntmps10
  go_wp2
  go_loopw [5] (fun i wr => ∃ k : Nat, k ≤ n ∧ i = .int .i64 k ∧ Hid (∀ j, j < k → ls[j]? = ms[j]?) ∧ Below w.heap.size w wr) (fun i _ => n - (intOf i).toNat)
  case atStart => exact ⟨0, Nat.zero_le _, rfl, fun j hj => absurd hj (Nat.not_lt_zero _), Below.refl _ _⟩
  case round =>
    obtain ⟨k, hk, rfl, HS, hbel⟩ := hrel
    by_cases hlt : k < n
    · obtain ⟨ga, sa, rfl, hga, hca⟩ := HA.out (by omega)
      obtain ⟨gb, sb, rfl, hgb, hcb⟩ := HB.out (by omega)
      obtain ⟨y, hy⟩ : ∃ s, ls[k]? = some s := ⟨_, List.getElem?_eq_getElem (by have := HN.out; omega)⟩
      obtain ⟨z, hz⟩ : ∃ s, ms[k]? = some s := ⟨_, List.getElem?_eq_getElem (by have := HM.out; omega)⟩
      have h1 : wr.cell? ⟨ga, sa + k, none⟩ = some (.int .i64 y) := (hbel.cell hga).trans (hca k y hy)
      have h2 : wr.cell? ⟨gb, sb + k, none⟩ = some (.int .i64 z) := (hbel.cell hgb).trans (hcb k z hz)
      have hki : (k : Int) < (n : Int) := by omega
      have hk0 : (0 : Int) ≤ (k : Int) := by omega
      by_cases e : y = z
      · have HS2 : Hid (∀ j, j < k + 1 → ls[j]? = ms[j]?) := fun j hj => by
          rcases Nat.lt_or_ge j k with h' | h'
          · exact HS.out j h'
          · have e3 : j = k := by omega
            subst e3
            rw [hy, hz, e]
        subst e
        clear hca hcb hy hz HS HA HB
        go_wp2
        go_quiet (fail)
        go_wp2
        go_roundw
        case rel => exact ⟨k + 1, by omega, by go_num, HS2, below_drewN hbel _⟩
        case measure => simp [intOf]; omega
      · have hf : F = false := by
          rw [← HF.out]
          apply decide_eq_false
          intro e3
          rw [e3, hz] at hy
          injection hy with hy
          exact e hy.symm
        subst hf
        have hne : (y == z) = false := by rw [beq_eq_false_iff_ne]; exact e
        clear hca hcb hy hz HS HA HB
        go_wp2
        go_quiet (fail)
        go_wp2
        go_ret
        exact ⟨rfl, below_drewN hbel _⟩
    · have hf : F = true := by
        rw [← HF.out]
        apply decide_eq_true
        apply List.ext_getElem?
        intro j
        by_cases hj : j < k
        · exact HS.out j hj
        · rw [List.getElem?_eq_none (by have := HN.out; omega), List.getElem?_eq_none (by have := HM.out; omega)]
      subst hf
      go_wp2
      go_ret
      exact ⟨rfl, hbel⟩

end Go.Proofs.Ytlplljgcgohonaa
