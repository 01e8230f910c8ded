/-
  DERIVED. GIVEN WITH THE SEED: THE CARDS: each row of YtcdplnejejpjnaaGreatDoorRows.lean that lists a variable, with what it lists TIED to the program's text (the seventh form; the later family's looks); each row that meets fmt, with fmt's text TOLD by the authors' own Lean function (tested against real Go, not proved from fmt's source: count such statements apart). THE CARD IS WHAT COUNTS. Prove the row's statement (the work); the ties are given (YtcdplnejejpjnaaGreatDoorTie.lean); close each card by the builder's one call (the guide's Derived/Test/ToyasCard.lean, 'card_holds'). Laid BY PROGRAM, IN A SANDBOX (cutbox-door.mjs). By AI agents, Wed Nov 11 2026. No macro, syntax, notation, axiom, sorry.
-/
import Derived.Test.YtcdplnejejpjnaaGreatDoorRows
import GoSem.ClaimSeven
namespace Go.Proofs.YtcdplnejejpjnaaGreatDoor
namespace Rows

/-- THE TIED CARD OF 'laws.FnShows'. -/
def fnShowsCard : Claim7 := { stood := { row := fnShowsRow, standIns := [], harness := (true, "accb81a9f0eaa67c312b285064c8c5d6092136d33cfca5a46ab775b440bb2c46"), looks := true }, kinds := [], alts := [], laidByText := true, laidKinds := [.data, .data, .data, .data, .sentinel, .sentinel, .pinned], laidTests := true, laidLooks := .later }
def FnShowsCardSaid : Prop := Claim7.holds Tryz.pinned (.plain (OpenSpec.ofChange fnShowsSpec)) fnShowsCard

/-- THE TIED CARD OF 'laws.FnExactShowNumber'. -/
def fnExactShowNumberCard : Claim7 := { stood := { row := fnExactShowNumberRow, standIns := [], harness := (true, "accb81a9f0eaa67c312b285064c8c5d6092136d33cfca5a46ab775b440bb2c46"), looks := true }, kinds := [], alts := [], laidByText := true, laidKinds := [.data, .data, .data, .data, .pinned], laidTests := true, laidLooks := .later }
def FnExactShowNumberCardSaid : Prop := Claim7.holds Tryz.pinned (.plain (OpenSpec.ofChange fnExactShowNumberSpec)) fnExactShowNumberCard

/-- THE SECOND FORM's CARD OF 'laws.FnShows'. -/
def fnShowsUptoCard : Claim7 := { stood := { row := fnShowsUptoRow, standIns := [], harness := (true, "accb81a9f0eaa67c312b285064c8c5d6092136d33cfca5a46ab775b440bb2c46"), looks := true }, kinds := [], alts := [], laidByText := true, laidKinds := [.data, .data, .data, .data, .sentinel, .sentinel, .pinned], laidTests := true, laidLooks := .later }
def FnShowsUptoCardSaid : Prop := Claim7.holds Tryz.pinned (.plain (OpenSpec.upto fnShowsSpec)) fnShowsUptoCard

/-- THE SECOND FORM's CARD OF 'laws.FnExactShowNumber'. -/
def fnExactShowNumberUptoCard : Claim7 := { stood := { row := fnExactShowNumberUptoRow, standIns := [], harness := (true, "accb81a9f0eaa67c312b285064c8c5d6092136d33cfca5a46ab775b440bb2c46"), looks := true }, kinds := [], alts := [], laidByText := true, laidKinds := [.data, .data, .data, .data, .pinned], laidTests := true, laidLooks := .later }
def FnExactShowNumberUptoCardSaid : Prop := Claim7.holds Tryz.pinned (.plain (OpenSpec.upto fnExactShowNumberSpec)) fnExactShowNumberUptoCard
end Rows
end Go.Proofs.YtcdplnejejpjnaaGreatDoor
