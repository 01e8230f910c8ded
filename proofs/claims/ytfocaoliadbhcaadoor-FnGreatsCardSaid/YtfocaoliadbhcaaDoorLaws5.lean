/-
  What the laws of products ask for besides: bytes that came in are kept, numbers in their order.
-/
import Derived.Test.YtfocaoliadbhcaaDoorLaws3
import Derived.Test.YtfocaoliadbhcaaDoorCur
namespace Go.Proofs.YtfocaoliadbhcaaDoor
open Go.RowKit

theorem codeIn_below {w w' : World} {ac : Option Addr} {len : Nat} (h : CodeIn w ac len w.heap.size) (hb : Below w.heap.size w w') : CodeIn w' ac len w'.heap.size := by
  refine ⟨h.1, fun hp => ?_⟩
  obtain ⟨b, off, e, hne, hlt, hc⟩ := h.2 hp
  have hs := hb.size
  refine ⟨b, off, e, by omega, by omega, fun j hj => ?_⟩
  obtain ⟨z, hz, hcz⟩ := hc j hj
  exact ⟨z, hz, (hb.cell (p := ⟨b, off + j, none⟩) hlt).trans hcz⟩

theorem less_no {a b : Nat} (hb : b ≤ a) (ha : a < 9223372036854775808) : lessN a b = false := by
  unfold lessN
  rw [decide_eq_false]
  rintro ⟨_, _, h⟩
  unfold keyN at h
  rw [if_neg (by omega), if_neg (by omega)] at h
  omega

end Go.Proofs.YtfocaoliadbhcaaDoor
