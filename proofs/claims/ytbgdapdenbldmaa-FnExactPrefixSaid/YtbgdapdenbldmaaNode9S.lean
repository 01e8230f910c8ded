/-
  The law's own helpers that count how much came in: numbers, texts, nodes.
-/
import Derived.Test.YtbgdapdenbldmaaRows
import Derived.Test.YtbgdapdenbldmaaNode9B
import Derived.Test.YtbgdapdenbldmaaInfo
namespace Go.Proofs.Ytbgdapdenbldmaa
open Go.RowKit
set_option linter.unusedVariables false

/-- what is left of a count: too little, or all that was counted is few -/
def LeftOk (r left n : Int) : Prop := r = -1 ∨ (0 ≤ r ∧ r ≤ left ∧ n ≤ left)

set_option maxHeartbeats 1000000 in
set_option maxRecDepth 100000 in
theorem szStringS_any (v : Value) (l : List ByteArray) (left : Int) (w : World) (hv : ArgStrs w v l) (h0 : 0 ≤ left) (h1 : left ≤ 1048576) :
    Calls Try.prog 41 #[v, .int .i64 left] w fun e w' => ∃ r : Int, e = .returned (.int .i64 r) ∧ LeftOk r left l.length ∧ w = w' := by
  obtain ⟨x, c, rfl, hm, hs, hc⟩ := hv
  obtain ⟨n, hn⟩ : ∃ n, l.length = n := ⟨_, rfl⟩
  rw [hn] at hm hc ⊢
  have HN : Hid (l.length = n) := hn
  clear hn
  unfold maxLen at hm hs
  by_cases h : left < n
  · have hlt : left - (n : Int) < 0 := by omega
    clear hc
    go_enter Try.func41, Try.ntmps41
    go_wp2
    go_ret
    exact ⟨_, rfl, .inl rfl, rfl⟩
  · have hlt : ¬ left - (n : Int) < 0 := by omega
    go_enter Try.func41, Try.ntmps41
    go_wp2
    go_loop [1, 5] (fun y i => ∃ (k : Nat) (L : Int), y = .int .i64 L ∧ i = .int .i64 k ∧ k ≤ n ∧ 0 ≤ L ∧ L ≤ left) (fun _ i => n - (intOf i).toNat)
    case atStart => exact ⟨0, _, rfl, rfl, Nat.zero_le _, by omega, by omega⟩
    case round =>
      obtain ⟨k, L, rfl, rfl, hk, hL0, hL1⟩ := hrel
      by_cases hkn : k < n
      · obtain ⟨b, o, rfl, _, hcell⟩ := hc (by omega)
        have hcl := hcell k hkn
        obtain ⟨s, hs'⟩ : ∃ s, l.getD k ByteArray.empty = s := ⟨_, rfl⟩
        rw [hs'] at hcl
        have hsz : s.size ≤ 9223372036854775807 := by
          have hl := HN.out
          rw [List.getD, List.getElem?_eq_getElem (by omega)] at hs'
          rw [← hs']
          exact hs _ (List.getElem_mem _)
        have hki : (k : Int) < (n : Int) := by omega
        have hk0 : (0 : Int) ≤ (k : Int) := by omega
        clear hc hcell hs' hs
        by_cases hL : L < s.size
        · have hlt2 : L - (s.size : Int) < 0 := by omega
          go_wp2
          go_ret
          exact ⟨_, rfl, .inl rfl, rfl⟩
        · have hlt2 : ¬ L - (s.size : Int) < 0 := by omega
          go_wp2
          go_round
          case rel => exact ⟨k + 1, _, rfl, by go_num, by omega, by omega, by omega⟩
          case measure => simp [intOf]; omega
      · go_wp2
        go_ret
        exact ⟨_, rfl, .inr ⟨by omega, by omega, by omega⟩, rfl⟩

def szFew (p : PNode) (left : Int) : Prop := (p.list.length : Int) ≤ left ∧ (p.names.length : Int) ≤ left

end Go.Proofs.Ytbgdapdenbldmaa
