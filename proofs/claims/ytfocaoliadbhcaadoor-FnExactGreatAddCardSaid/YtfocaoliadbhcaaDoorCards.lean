/-
  DERIVED. GIVEN WITH THE SEED: THE CARDS: each row of YtfocaoliadbhcaaDoorRows.lean that lists a variable, with what it lists TIED to the program's text (the seventh form; the later family's looks); each row that meets fmt, with fmt's text TOLD by the authors' own Lean function (tested against real Go, not proved from fmt's source: count such statements apart). THE CARD IS WHAT COUNTS. Prove the row's statement (the work); the ties are given (YtfocaoliadbhcaaDoorTie.lean); close each card by the builder's one call (the guide's Derived/Test/ToyasCard.lean, 'card_holds'). Laid BY PROGRAM, IN A SANDBOX (cutbox-door.mjs). By AI agents, Wed Nov 11 2026. No macro, syntax, notation, axiom, sorry.
-/
import Derived.Test.YtfocaoliadbhcaaDoorRows
import GoSem.ClaimSeven
namespace Go.Proofs.YtfocaoliadbhcaaDoor
namespace Rows

/-- THE TIED CARD OF 'laws.FnExactGreatAdd'. -/
def fnExactGreatAddCard : Claim7 := { stood := { row := fnExactGreatAddRow, standIns := [], harness := (true, "696f2ef48a28e818fe72a2f3d257e9f5dbcaaa6747c06d9066cde0d6c4e9b92b"), looks := false }, kinds := [], alts := [], laidByText := true, laidKinds := [.data, .pinned], laidTests := true, laidLooks := .later }
def FnExactGreatAddCardSaid : Prop := Claim7.holds Tryd.pinned (.plain (OpenSpec.ofChange fnExactGreatAddSpec)) fnExactGreatAddCard

/-- THE TIED CARD OF 'laws.FnExactGreatSub'. -/
def fnExactGreatSubCard : Claim7 := { stood := { row := fnExactGreatSubRow, standIns := [], harness := (true, "696f2ef48a28e818fe72a2f3d257e9f5dbcaaa6747c06d9066cde0d6c4e9b92b"), looks := false }, kinds := [], alts := [], laidByText := true, laidKinds := [.data, .pinned], laidTests := true, laidLooks := .later }
def FnExactGreatSubCardSaid : Prop := Claim7.holds Tryd.pinned (.plain (OpenSpec.ofChange fnExactGreatSubSpec)) fnExactGreatSubCard

/-- THE TIED CARD OF 'laws.FnExactGreatMul'. -/
def fnExactGreatMulCard : Claim7 := { stood := { row := fnExactGreatMulRow, standIns := [], harness := (true, "696f2ef48a28e818fe72a2f3d257e9f5dbcaaa6747c06d9066cde0d6c4e9b92b"), looks := false }, kinds := [], alts := [], laidByText := true, laidKinds := [.data, .pinned], laidTests := true, laidLooks := .later }
def FnExactGreatMulCardSaid : Prop := Claim7.holds Tryd.pinned (.plain (OpenSpec.ofChange fnExactGreatMulSpec)) fnExactGreatMulCard

/-- THE TIED CARD OF 'laws.FnExactGreatPower'. -/
def fnExactGreatPowerCard : Claim7 := { stood := { row := fnExactGreatPowerRow, standIns := [], harness := (true, "696f2ef48a28e818fe72a2f3d257e9f5dbcaaa6747c06d9066cde0d6c4e9b92b"), looks := false }, kinds := [], alts := [], laidByText := true, laidKinds := [.data, .data, .data, .data, .pinned], laidTests := true, laidLooks := .later }
def FnExactGreatPowerCardSaid : Prop := Claim7.holds Tryd.pinned (.plain (OpenSpec.ofChange fnExactGreatPowerSpec)) fnExactGreatPowerCard

/-- THE TIED CARD OF 'laws.FnExactExact'. -/
def fnExactExactCard : Claim7 := { stood := { row := fnExactExactRow, standIns := [], harness := (true, "696f2ef48a28e818fe72a2f3d257e9f5dbcaaa6747c06d9066cde0d6c4e9b92b"), looks := false }, kinds := [], alts := [], laidByText := true, laidKinds := [.data, .data, .data, .data, .pinned], laidTests := true, laidLooks := .later }
def FnExactExactCardSaid : Prop := Claim7.holds Tryd.pinned (.plain (OpenSpec.ofChange fnExactExactSpec)) fnExactExactCard

/-- THE TIED CARD OF 'laws.FnExact'. -/
def fnExactCard : Claim7 := { stood := { row := fnExactRow, standIns := [], harness := (true, "696f2ef48a28e818fe72a2f3d257e9f5dbcaaa6747c06d9066cde0d6c4e9b92b"), looks := false }, kinds := [], alts := [], laidByText := true, laidKinds := [.data, .data, .data, .data, .pinned], laidTests := true, laidLooks := .later }
def FnExactCardSaid : Prop := Claim7.holds Tryd.pinned (.plain (OpenSpec.ofChange fnExactSpec)) fnExactCard

/-- THE TIED CARD OF 'laws.FnGreats'. -/
def fnGreatsCard : Claim7 := { stood := { row := fnGreatsRow, standIns := [], harness := (true, "696f2ef48a28e818fe72a2f3d257e9f5dbcaaa6747c06d9066cde0d6c4e9b92b"), looks := false }, kinds := [], alts := [], laidByText := true, laidKinds := [.data, .data, .data, .data, .pinned], laidTests := true, laidLooks := .later }
def FnGreatsCardSaid : Prop := Claim7.holds Tryd.pinned (.plain (OpenSpec.ofChange fnGreatsSpec)) fnGreatsCard

/-- THE SECOND FORM's CARD OF 'laws.FnExactGreatAdd'. -/
def fnExactGreatAddUptoCard : Claim7 := { stood := { row := fnExactGreatAddUptoRow, standIns := [], harness := (true, "696f2ef48a28e818fe72a2f3d257e9f5dbcaaa6747c06d9066cde0d6c4e9b92b"), looks := false }, kinds := [], alts := [], laidByText := true, laidKinds := [.data, .pinned], laidTests := true, laidLooks := .later }
def FnExactGreatAddUptoCardSaid : Prop := Claim7.holds Tryd.pinned (.plain (OpenSpec.upto fnExactGreatAddSpec)) fnExactGreatAddUptoCard

/-- THE SECOND FORM's CARD OF 'laws.FnExactGreatSub'. -/
def fnExactGreatSubUptoCard : Claim7 := { stood := { row := fnExactGreatSubUptoRow, standIns := [], harness := (true, "696f2ef48a28e818fe72a2f3d257e9f5dbcaaa6747c06d9066cde0d6c4e9b92b"), looks := false }, kinds := [], alts := [], laidByText := true, laidKinds := [.data, .pinned], laidTests := true, laidLooks := .later }
def FnExactGreatSubUptoCardSaid : Prop := Claim7.holds Tryd.pinned (.plain (OpenSpec.upto fnExactGreatSubSpec)) fnExactGreatSubUptoCard

/-- THE SECOND FORM's CARD OF 'laws.FnExactGreatMul'. -/
def fnExactGreatMulUptoCard : Claim7 := { stood := { row := fnExactGreatMulUptoRow, standIns := [], harness := (true, "696f2ef48a28e818fe72a2f3d257e9f5dbcaaa6747c06d9066cde0d6c4e9b92b"), looks := false }, kinds := [], alts := [], laidByText := true, laidKinds := [.data, .pinned], laidTests := true, laidLooks := .later }
def FnExactGreatMulUptoCardSaid : Prop := Claim7.holds Tryd.pinned (.plain (OpenSpec.upto fnExactGreatMulSpec)) fnExactGreatMulUptoCard

/-- THE SECOND FORM's CARD OF 'laws.FnExactGreatPower'. -/
def fnExactGreatPowerUptoCard : Claim7 := { stood := { row := fnExactGreatPowerUptoRow, standIns := [], harness := (true, "696f2ef48a28e818fe72a2f3d257e9f5dbcaaa6747c06d9066cde0d6c4e9b92b"), looks := false }, kinds := [], alts := [], laidByText := true, laidKinds := [.data, .data, .data, .data, .pinned], laidTests := true, laidLooks := .later }
def FnExactGreatPowerUptoCardSaid : Prop := Claim7.holds Tryd.pinned (.plain (OpenSpec.upto fnExactGreatPowerSpec)) fnExactGreatPowerUptoCard

/-- THE SECOND FORM's CARD OF 'laws.FnExactExact'. -/
def fnExactExactUptoCard : Claim7 := { stood := { row := fnExactExactUptoRow, standIns := [], harness := (true, "696f2ef48a28e818fe72a2f3d257e9f5dbcaaa6747c06d9066cde0d6c4e9b92b"), looks := false }, kinds := [], alts := [], laidByText := true, laidKinds := [.data, .data, .data, .data, .pinned], laidTests := true, laidLooks := .later }
def FnExactExactUptoCardSaid : Prop := Claim7.holds Tryd.pinned (.plain (OpenSpec.upto fnExactExactSpec)) fnExactExactUptoCard

/-- THE SECOND FORM's CARD OF 'laws.FnExact'. -/
def fnExactUptoCard : Claim7 := { stood := { row := fnExactUptoRow, standIns := [], harness := (true, "696f2ef48a28e818fe72a2f3d257e9f5dbcaaa6747c06d9066cde0d6c4e9b92b"), looks := false }, kinds := [], alts := [], laidByText := true, laidKinds := [.data, .data, .data, .data, .pinned], laidTests := true, laidLooks := .later }
def FnExactUptoCardSaid : Prop := Claim7.holds Tryd.pinned (.plain (OpenSpec.upto fnExactSpec)) fnExactUptoCard

/-- THE SECOND FORM's CARD OF 'laws.FnGreats'. -/
def fnGreatsUptoCard : Claim7 := { stood := { row := fnGreatsUptoRow, standIns := [], harness := (true, "696f2ef48a28e818fe72a2f3d257e9f5dbcaaa6747c06d9066cde0d6c4e9b92b"), looks := false }, kinds := [], alts := [], laidByText := true, laidKinds := [.data, .data, .data, .data, .pinned], laidTests := true, laidLooks := .later }
def FnGreatsUptoCardSaid : Prop := Claim7.holds Tryd.pinned (.plain (OpenSpec.upto fnGreatsSpec)) fnGreatsUptoCard
end Rows
end Go.Proofs.YtfocaoliadbhcaaDoor
