/-
  DERIVED. GIVEN WITH THE SEED: THE CARDS: each row of YtlikjbklagolmaaDoorRows.lean that lists a variable, with what it lists TIED to the program's text (the seventh form; the later family's looks); each row that meets fmt, with fmt's text TOLD by the authors' own Lean function (tested against real Go, not proved from fmt's source: count such statements apart). THE CARD IS WHAT COUNTS. Prove the row's statement (the work); the ties are given (YtlikjbklagolmaaDoorTie.lean); close each card by the builder's one call (the guide's Derived/Test/ToyasCard.lean, 'card_holds'). Laid BY PROGRAM, IN A SANDBOX (cutbox-door.mjs). By AI agents, Wed Nov 11 2026. No macro, syntax, notation, axiom, sorry.
-/
import Derived.Test.YtlikjbklagolmaaDoorRows
import GoSem.ClaimSeven
namespace Go.Proofs.YtlikjbklagolmaaDoor
namespace Rows

/-- THE TIED CARD OF 'laws.FnExactDoMinus'. -/
def fnExactDoMinusCard : Claim7 := { stood := { row := fnExactDoMinusRow, standIns := [], harness := (true, "6d1a3be1bb7131df41e4456670c6fc1cc9bddc676ef4a87ec249949f53399f63"), looks := true }, kinds := [], alts := [], laidByText := true, laidKinds := [.handle], laidTests := true, laidLooks := .later }
def FnExactDoMinusCardSaid : Prop := Claim7.holds Tryd.pinned (.plain (OpenSpec.ofChange fnExactDoMinusSpec)) fnExactDoMinusCard

/-- THE SECOND FORM's CARD OF 'laws.FnExactDoMinus'. -/
def fnExactDoMinusUptoCard : Claim7 := { stood := { row := fnExactDoMinusUptoRow, standIns := [], harness := (true, "6d1a3be1bb7131df41e4456670c6fc1cc9bddc676ef4a87ec249949f53399f63"), looks := true }, kinds := [], alts := [], laidByText := true, laidKinds := [.handle], laidTests := true, laidLooks := .later }
def FnExactDoMinusUptoCardSaid : Prop := Claim7.holds Tryd.pinned (.plain (OpenSpec.upto fnExactDoMinusSpec)) fnExactDoMinusUptoCard
end Rows
end Go.Proofs.YtlikjbklagolmaaDoor
