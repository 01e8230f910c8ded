/-
  DERIVED. GIVEN WITH THE SEED: THE CARDS: each row of YtdejncgnoadcjaaDoorRows.lean that lists a variable, with what it lists TIED to the program's text (the seventh form; the later family's looks); each row that meets fmt, with fmt's text TOLD by the authors' own Lean function (tested against real Go, not proved from fmt's source: count such statements apart). THE CARD IS WHAT COUNTS. Prove the row's statement (the work); the ties are given (YtdejncgnoadcjaaDoorTie.lean); close each card by the builder's one call (the guide's Derived/Test/ToyasCard.lean, 'card_holds'). Laid BY PROGRAM, IN A SANDBOX (cutbox-door.mjs). By AI agents, Wed Nov 11 2026. No macro, syntax, notation, axiom, sorry.
-/
import Derived.Test.YtdejncgnoadcjaaDoorRows
import GoSem.ClaimSeven
namespace Go.Proofs.YtdejncgnoadcjaaDoor
namespace Rows

/-- THE TIED CARD OF 'laws.FnExactGreatAdd'. -/
def fnExactGreatAddCard : Claim7 := { stood := { row := fnExactGreatAddRow, standIns := [], harness := (true, "4407879ad943c0892508268c0bbb13cd2a56c3d0b7e07ee2af59805c4235c523"), looks := false }, kinds := [], alts := [], laidByText := true, laidKinds := [.data, .pinned], laidTests := true, laidLooks := .later }
def FnExactGreatAddCardSaid : Prop := Claim7.holds Tryd.pinned (.plain (OpenSpec.ofChange fnExactGreatAddSpec)) fnExactGreatAddCard

/-- THE TIED CARD OF 'laws.FnExactGreatSub'. -/
def fnExactGreatSubCard : Claim7 := { stood := { row := fnExactGreatSubRow, standIns := [], harness := (true, "4407879ad943c0892508268c0bbb13cd2a56c3d0b7e07ee2af59805c4235c523"), looks := false }, kinds := [], alts := [], laidByText := true, laidKinds := [.data, .pinned], laidTests := true, laidLooks := .later }
def FnExactGreatSubCardSaid : Prop := Claim7.holds Tryd.pinned (.plain (OpenSpec.ofChange fnExactGreatSubSpec)) fnExactGreatSubCard

/-- THE TIED CARD OF 'laws.FnExactGreatMul'. -/
def fnExactGreatMulCard : Claim7 := { stood := { row := fnExactGreatMulRow, standIns := [], harness := (true, "4407879ad943c0892508268c0bbb13cd2a56c3d0b7e07ee2af59805c4235c523"), looks := false }, kinds := [], alts := [], laidByText := true, laidKinds := [.data, .pinned], laidTests := true, laidLooks := .later }
def FnExactGreatMulCardSaid : Prop := Claim7.holds Tryd.pinned (.plain (OpenSpec.ofChange fnExactGreatMulSpec)) fnExactGreatMulCard

/-- THE SECOND FORM's CARD OF 'laws.FnExactGreatAdd'. -/
def fnExactGreatAddUptoCard : Claim7 := { stood := { row := fnExactGreatAddUptoRow, standIns := [], harness := (true, "4407879ad943c0892508268c0bbb13cd2a56c3d0b7e07ee2af59805c4235c523"), looks := false }, kinds := [], alts := [], laidByText := true, laidKinds := [.data, .pinned], laidTests := true, laidLooks := .later }
def FnExactGreatAddUptoCardSaid : Prop := Claim7.holds Tryd.pinned (.plain (OpenSpec.upto fnExactGreatAddSpec)) fnExactGreatAddUptoCard

/-- THE SECOND FORM's CARD OF 'laws.FnExactGreatSub'. -/
def fnExactGreatSubUptoCard : Claim7 := { stood := { row := fnExactGreatSubUptoRow, standIns := [], harness := (true, "4407879ad943c0892508268c0bbb13cd2a56c3d0b7e07ee2af59805c4235c523"), looks := false }, kinds := [], alts := [], laidByText := true, laidKinds := [.data, .pinned], laidTests := true, laidLooks := .later }
def FnExactGreatSubUptoCardSaid : Prop := Claim7.holds Tryd.pinned (.plain (OpenSpec.upto fnExactGreatSubSpec)) fnExactGreatSubUptoCard

/-- THE SECOND FORM's CARD OF 'laws.FnExactGreatMul'. -/
def fnExactGreatMulUptoCard : Claim7 := { stood := { row := fnExactGreatMulUptoRow, standIns := [], harness := (true, "4407879ad943c0892508268c0bbb13cd2a56c3d0b7e07ee2af59805c4235c523"), looks := false }, kinds := [], alts := [], laidByText := true, laidKinds := [.data, .pinned], laidTests := true, laidLooks := .later }
def FnExactGreatMulUptoCardSaid : Prop := Claim7.holds Tryd.pinned (.plain (OpenSpec.upto fnExactGreatMulSpec)) fnExactGreatMulUptoCard
end Rows
end Go.Proofs.YtdejncgnoadcjaaDoor
