/-
  What a run ends with is one: the states that tell most, and what is reached. The law's own comparison of states.
-/
import Derived.Test.YtbgdapdenbldmaaVer16X
import Derived.Test.YtbgdapdenbldmaaSta16T
namespace Go.Proofs.Ytbgdapdenbldmaa
open Go.RowKit Go.Sort
set_option linter.unusedVariables false

theorem hit_fam {p : PImg} {f : PFun} {r : RunP} (h : RunInv p f r) {q : Nat} (hq : q < f.code.length) : (r.hit[q]? = some true ↔ (fam r q).isSome = true) := by
  constructor
  · intro hh
    obtain ⟨t, ht⟩ : ∃ t, r.list[q]? = some t := ⟨_, List.getElem?_eq_getElem (by have := h.ok.len; omega)⟩
    rw [fam_of hh ht]
    rfl
  · intro hh
    obtain ⟨t, ht⟩ := Option.isSome_iff_exists.1 hh
    exact (fam_at ht).1

/-- two runs that have ended well tell the same -/
theorem run_same {p : PImg} {f : PFun} {r r' : RunP} (h : RunInv p f r) (ht : r.todo = []) (hb : r.bad = false) (h' : RunInv p f r') (ht' : r'.todo = []) (hb' : r'.bad = false) : r.list = r'.list ∧ r.hit = r'.hit := by
  have e : fam r = fam r' := (end_best h hb ht).unique (end_best h' hb' ht')
  have hH : ∀ q, q < f.code.length → (r.hit[q]? = some true ↔ r'.hit[q]? = some true) := fun q hq => by
    rw [hit_fam h hq, hit_fam h' hq, e]
  constructor
  · apply List.ext_getElem?
    intro q
    by_cases hq : q < f.code.length
    · obtain ⟨t, k1⟩ : ∃ t, r.list[q]? = some t := ⟨_, List.getElem?_eq_getElem (by have := h.ok.len; omega)⟩
      obtain ⟨t', k2⟩ : ∃ t, r'.list[q]? = some t := ⟨_, List.getElem?_eq_getElem (by have := h'.ok.len; omega)⟩
      by_cases hh : r.hit[q]? = some true
      · have f1 := fam_of hh k1
        have f2 := fam_of ((hH q hq).1 hh) k2
        rw [e, f2] at f1
        rw [k1, k2, f1]
      · rw [k1, k2, h.ok.zero q t k1 hh, h'.ok.zero q t' k2 (fun x => hh ((hH q hq).2 x))]
    · rw [List.getElem?_eq_none (by have := h.ok.len; omega), List.getElem?_eq_none (by have := h'.ok.len; omega)]
  · apply List.ext_getElem?
    intro q
    by_cases hq : q < f.code.length
    · obtain ⟨b, k1⟩ : ∃ t, r.hit[q]? = some t := ⟨_, List.getElem?_eq_getElem (by have := h.ok.hlen; omega)⟩
      obtain ⟨b', k2⟩ : ∃ t, r'.hit[q]? = some t := ⟨_, List.getElem?_eq_getElem (by have := h'.ok.hlen; omega)⟩
      have hx := hH q hq
      rw [k1, k2] at hx ⊢
      cases b <;> cases b' <;> simp_all
    · rw [List.getElem?_eq_none (by have := h.ok.hlen; omega), List.getElem?_eq_none (by have := h'.ok.hlen; omega)]

end Go.Proofs.Ytbgdapdenbldmaa
