/-
  DERIVED. GIVEN WITH THE SEED: THE CARDS: each row of YtaiaopkfbamohaaDoorRows.lean that lists a variable, with what it lists TIED to the program's text (the seventh form; the later family's looks); each row that meets fmt, with fmt's text TOLD by the authors' own Lean function (tested against real Go, not proved from fmt's source: count such statements apart). THE CARD IS WHAT COUNTS. Prove the row's statement (the work); the ties are given (YtaiaopkfbamohaaDoorTie.lean); close each card by the builder's one call (the guide's Derived/Test/ToyasCard.lean, 'card_holds'). Laid BY PROGRAM, IN A SANDBOX (cutbox-door.mjs). By AI agents, Wed Nov 11 2026. No macro, syntax, notation, axiom, sorry.
-/
import Derived.Test.YtaiaopkfbamohaaDoorRows
import GoSem.ClaimSeven
namespace Go.Proofs.YtaiaopkfbamohaaDoor
namespace Rows

/-- THE TIED CARD OF 'laws.FnGreats'. -/
def fnGreatsCard : Claim7 := { stood := { row := fnGreatsRow, standIns := [], harness := (true, "40d1382ba76d3929376c3cb1abc14ad049c18131b1c550d939b4df4107ae85cf"), looks := false }, kinds := [], alts := [], laidByText := true, laidKinds := [.data, .data, .data, .data, .pinned], laidTests := true, laidLooks := .later }
def FnGreatsCardSaid : Prop := Claim7.holds Tryd.pinned (.plain (OpenSpec.ofChange fnGreatsSpec)) fnGreatsCard

/-- THE TIED CARD OF 'laws.FnExact'. -/
def fnExactCard : Claim7 := { stood := { row := fnExactRow, standIns := [], harness := (true, "40d1382ba76d3929376c3cb1abc14ad049c18131b1c550d939b4df4107ae85cf"), looks := false }, kinds := [], alts := [], laidByText := true, laidKinds := [.data, .data, .data, .data, .pinned], laidTests := true, laidLooks := .later }
def FnExactCardSaid : Prop := Claim7.holds Tryd.pinned (.plain (OpenSpec.ofChange fnExactSpec)) fnExactCard

/-- THE TIED CARD OF 'laws.FnExactGreatPower'. -/
def fnExactGreatPowerCard : Claim7 := { stood := { row := fnExactGreatPowerRow, standIns := [], harness := (true, "40d1382ba76d3929376c3cb1abc14ad049c18131b1c550d939b4df4107ae85cf"), looks := false }, kinds := [], alts := [], laidByText := true, laidKinds := [.data, .data, .data, .data, .pinned], laidTests := true, laidLooks := .later }
def FnExactGreatPowerCardSaid : Prop := Claim7.holds Tryd.pinned (.plain (OpenSpec.ofChange fnExactGreatPowerSpec)) fnExactGreatPowerCard

/-- THE TIED CARD OF 'laws.FnExactExact'. -/
def fnExactExactCard : Claim7 := { stood := { row := fnExactExactRow, standIns := [], harness := (true, "40d1382ba76d3929376c3cb1abc14ad049c18131b1c550d939b4df4107ae85cf"), looks := false }, kinds := [], alts := [], laidByText := true, laidKinds := [.data, .data, .data, .data, .pinned], laidTests := true, laidLooks := .later }
def FnExactExactCardSaid : Prop := Claim7.holds Tryd.pinned (.plain (OpenSpec.ofChange fnExactExactSpec)) fnExactExactCard

/-- THE SECOND FORM's CARD OF 'laws.FnGreats'. -/
def fnGreatsUptoCard : Claim7 := { stood := { row := fnGreatsUptoRow, standIns := [], harness := (true, "40d1382ba76d3929376c3cb1abc14ad049c18131b1c550d939b4df4107ae85cf"), looks := false }, kinds := [], alts := [], laidByText := true, laidKinds := [.data, .data, .data, .data, .pinned], laidTests := true, laidLooks := .later }
def FnGreatsUptoCardSaid : Prop := Claim7.holds Tryd.pinned (.plain (OpenSpec.upto fnGreatsSpec)) fnGreatsUptoCard

/-- THE SECOND FORM's CARD OF 'laws.FnExact'. -/
def fnExactUptoCard : Claim7 := { stood := { row := fnExactUptoRow, standIns := [], harness := (true, "40d1382ba76d3929376c3cb1abc14ad049c18131b1c550d939b4df4107ae85cf"), looks := false }, kinds := [], alts := [], laidByText := true, laidKinds := [.data, .data, .data, .data, .pinned], laidTests := true, laidLooks := .later }
def FnExactUptoCardSaid : Prop := Claim7.holds Tryd.pinned (.plain (OpenSpec.upto fnExactSpec)) fnExactUptoCard

/-- THE SECOND FORM's CARD OF 'laws.FnExactGreatPower'. -/
def fnExactGreatPowerUptoCard : Claim7 := { stood := { row := fnExactGreatPowerUptoRow, standIns := [], harness := (true, "40d1382ba76d3929376c3cb1abc14ad049c18131b1c550d939b4df4107ae85cf"), looks := false }, kinds := [], alts := [], laidByText := true, laidKinds := [.data, .data, .data, .data, .pinned], laidTests := true, laidLooks := .later }
def FnExactGreatPowerUptoCardSaid : Prop := Claim7.holds Tryd.pinned (.plain (OpenSpec.upto fnExactGreatPowerSpec)) fnExactGreatPowerUptoCard

/-- THE SECOND FORM's CARD OF 'laws.FnExactExact'. -/
def fnExactExactUptoCard : Claim7 := { stood := { row := fnExactExactUptoRow, standIns := [], harness := (true, "40d1382ba76d3929376c3cb1abc14ad049c18131b1c550d939b4df4107ae85cf"), looks := false }, kinds := [], alts := [], laidByText := true, laidKinds := [.data, .data, .data, .data, .pinned], laidTests := true, laidLooks := .later }
def FnExactExactUptoCardSaid : Prop := Claim7.holds Tryd.pinned (.plain (OpenSpec.upto fnExactExactSpec)) fnExactExactUptoCard
end Rows
end Go.Proofs.YtaiaopkfbamohaaDoor
