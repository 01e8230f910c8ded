/-
  DERIVED. GIVEN WITH THE SEED: THE CARDS: each row of YtcdbifcidaafnaaGreatDoorRows.lean that lists a variable, with what it lists TIED to the program's text (the seventh form; the later family's looks); each row that meets fmt, with fmt's text TOLD by the authors' own Lean function (tested against real Go, not proved from fmt's source: count such statements apart). THE CARD IS WHAT COUNTS. Prove the row's statement (the work); the ties are given (YtcdbifcidaafnaaGreatDoorTie.lean); close each card by the builder's one call (the guide's Derived/Test/ToyasCard.lean, 'card_holds'). Laid BY PROGRAM, IN A SANDBOX (cutbox-door.mjs). By AI agents, Wed Nov 11 2026. No macro, syntax, notation, axiom, sorry.
-/
import Derived.Test.YtcdbifcidaafnaaGreatDoorRows
import GoSem.ClaimSeven
namespace Go.Proofs.YtcdbifcidaafnaaGreatDoor
namespace Rows

/-- THE TIED CARD OF 'laws.FnValues'. -/
def fnValuesCard : Claim7 := { stood := { row := fnValuesRow, standIns := [], harness := (true, "694c808b946af363640dae7249f920146016a0ae0fdb43f072bc43286c4b5b3f"), looks := true }, kinds := [], alts := [], laidByText := true, laidKinds := [.handle], laidTests := true, laidLooks := .later }
def FnValuesCardSaid : Prop := Claim7.holds Tryz.pinned (.plain (OpenSpec.ofChange fnValuesSpec)) fnValuesCard

/-- THE TIED CARD OF 'laws.FnCompares'. -/
def fnComparesCard : Claim7 := { stood := { row := fnComparesRow, standIns := [], harness := (true, "694c808b946af363640dae7249f920146016a0ae0fdb43f072bc43286c4b5b3f"), looks := true }, kinds := [], alts := [], laidByText := true, laidKinds := [.handle], laidTests := true, laidLooks := .later }
def FnComparesCardSaid : Prop := Claim7.holds Tryz.pinned (.plain (OpenSpec.ofChange fnComparesSpec)) fnComparesCard

/-- THE TIED CARD OF 'laws.FnExactDoBinary'. -/
def fnExactDoBinaryCard : Claim7 := { stood := { row := fnExactDoBinaryRow, standIns := [], harness := (true, "694c808b946af363640dae7249f920146016a0ae0fdb43f072bc43286c4b5b3f"), looks := true }, kinds := [], alts := [], laidByText := true, laidKinds := [.handle], laidTests := true, laidLooks := .later }
def FnExactDoBinaryCardSaid : Prop := Claim7.holds Tryz.pinned (.plain (OpenSpec.ofChange fnExactDoBinarySpec)) fnExactDoBinaryCard

/-- THE SECOND FORM's CARD OF 'laws.FnValues'. -/
def fnValuesUptoCard : Claim7 := { stood := { row := fnValuesUptoRow, standIns := [], harness := (true, "694c808b946af363640dae7249f920146016a0ae0fdb43f072bc43286c4b5b3f"), looks := true }, kinds := [], alts := [], laidByText := true, laidKinds := [.handle], laidTests := true, laidLooks := .later }
def FnValuesUptoCardSaid : Prop := Claim7.holds Tryz.pinned (.plain (OpenSpec.upto fnValuesSpec)) fnValuesUptoCard

/-- THE SECOND FORM's CARD OF 'laws.FnCompares'. -/
def fnComparesUptoCard : Claim7 := { stood := { row := fnComparesUptoRow, standIns := [], harness := (true, "694c808b946af363640dae7249f920146016a0ae0fdb43f072bc43286c4b5b3f"), looks := true }, kinds := [], alts := [], laidByText := true, laidKinds := [.handle], laidTests := true, laidLooks := .later }
def FnComparesUptoCardSaid : Prop := Claim7.holds Tryz.pinned (.plain (OpenSpec.upto fnComparesSpec)) fnComparesUptoCard

/-- THE SECOND FORM's CARD OF 'laws.FnExactDoBinary'. -/
def fnExactDoBinaryUptoCard : Claim7 := { stood := { row := fnExactDoBinaryUptoRow, standIns := [], harness := (true, "694c808b946af363640dae7249f920146016a0ae0fdb43f072bc43286c4b5b3f"), looks := true }, kinds := [], alts := [], laidByText := true, laidKinds := [.handle], laidTests := true, laidLooks := .later }
def FnExactDoBinaryUptoCardSaid : Prop := Claim7.holds Tryz.pinned (.plain (OpenSpec.upto fnExactDoBinarySpec)) fnExactDoBinaryUptoCard
end Rows
end Go.Proofs.YtcdbifcidaafnaaGreatDoor
