/-
  A table that the row lists, wherever it stands on the list; the library's own words for a world with new blocks, in ours.
-/
import Derived.Test.YtojmmmfboahkgaaDoorBase
import Derived.Lib.LaidTab
import Derived.Lib.QuietBelow
import Derived.WalkSmall
namespace Go.Proofs.YtojmmmfboahkgaaDoor
open Go.RowKit Go.Sort

theorem tabIs_at {P : Program} {W : World} {name : String} {k : IntKind} {zs : List Int} {g : Nat} {t e : TypeId} {n : Nat}
    (hg : P.globalNamed name = some g) (hty : (P.globals[g]?).map (·.type) = some t) (ht : P.underlying t = some (.array n e)) (he : P.underlying e = some (.int k)) (hce : P.cellsOf e = 1) (hct : P.cellsOf t = n) :
    ∀ {l : List (String × DataW Unit)} {ps : List MemPlace}, DataW.LaidVars P W l ps → (name, Lib.tabData k zs) ∈ l → Lib.TabIs P W name k zs
  | [], _, _, hm => by simp at hm
  | (nm, d) :: r, _, h, hm => by
    obtain ⟨g', t', cs, fuel, p, q, hg', ht', hvar, hd, hrest, _⟩ := h
    rcases List.mem_cons.1 hm with e1 | hm'
    · injection e1 with e2 e3
      subst e2
      subst e3
      obtain rfl := Option.some.inj (hg.symm.trans hg')
      obtain rfl := Option.some.inj (hty.symm.trans ht')
      unfold Lib.TabIs
      rw [hvar, ← Lib.cells_of_tab ht he hce hct hd]
    · exact tabIs_at hg hty ht he hce hct hrest hm'

theorem tabIs_later {P : Program} {W w' : World} {name : String} {k : IntKind} {zs : List Int} {g : Nat} (hb : Below W.heap.size W w') (hg : P.globalNamed name = some g) (hlt : g < W.heap.size) (h : Lib.TabIs P W name k zs) : Lib.TabIs P w' name k zs :=
  var?_below hb hg hlt h

theorem below_grown {w w' : World} (h : ∃ k os, w' = grow (w.drewN k) os) : Below w.heap.size w w' := by
  obtain ⟨k, os, rfl⟩ := h
  exact ⟨rfl, rfl, rfl, by simp [grow, World.drewN], fun i hi => by simp [grow, World.drewN, Array.getElem?_append, hi]⟩

end Go.Proofs.YtojmmmfboahkgaaDoor
