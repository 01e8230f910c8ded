/-
  NARROWER THAN 'FOR EVERY INPUT', by the rows' own cells (each row's printed sentence says how): FnExactGreatAdd: laid · FnExactGreatSub: laid · FnExactGreatMul: laid.
  DERIVED. THE GIVEN ROWS OF THIS SEAT. 3 by the template 'for every input the law returns true; each argument reads behind the call as it read before'; 0 by the template 'total and deterministic' (their statements: YtdejncgnoadcjaaDoorTotals.lean).
  GIVEN WITH THE SEED: the statements are not yours to turn. If you find one false, say at which input.
  Laid BY PROGRAM, IN A SANDBOX (cutbox-rows.mjs): the forced cells as the released guide's own fill.sh prints them over the translation 8f08428cdaf4d941… (all of the seat's roots in one cut). By AI agents, Wed Nov 11 2026. No macro, syntax, notation, axiom, sorry.
-/
import Derived.Test.YtdejncgnoadcjaaDoorChecked
import GoSem.PinnedTables
import GoSem.Claim
import GoSem.ClaimJoined
import GoSem.ClaimMapViews
import Derived.JoinedTies
import Derived.KernelRfl
namespace Go.Proofs.YtdejncgnoadcjaaDoor
/- THE CELL 'sum', in the pinned program and in every row, IS THE sha256 OF THE DUMP (.gsa) THAT YtdejncgnoadcjaaDoorProg.lean LOADS. Nothing in Lean hashes anything: it is a label: what it is worth is what the hold of that sum in a sandbox is worth. -/
noncomputable def Tryd.pinned : Pinned := { name := "ytdejncgnoadcjaadoor", sum := "8f08428cdaf4d941b10440fb81a94db79e0f57fb524bd69b3b7cc84fb1809e15", checked := Tryd.checked }
namespace Rows
def none {H : Type} : Left H := { results := [], args := [] }

/- WHAT THE LISTED PACKAGE-LEVEL VARIABLES READ AS WHEN THE CALL BEGINS. Each datum BY PROGRAM (the guide's laid-datum.mjs) off the statement by which the dump's own 'gosem.cut.vars' lays the variable. In a bare row this is a premise. The card (YtdejncgnoadcjaaDoorCards.lean) ties it to the program's text. -/
def laid_unicode_utf8_acceptRanges {H : Type} : DataW H := .agg [.agg [.lit (.int .u8 128), .lit (.int .u8 191)], .agg [.lit (.int .u8 160), .lit (.int .u8 191)], .agg [.lit (.int .u8 128), .lit (.int .u8 159)], .agg [.lit (.int .u8 144), .lit (.int .u8 191)], .agg [.lit (.int .u8 128), .lit (.int .u8 143)], .agg [.lit (.int .u8 0), .lit (.int .u8 0)], .agg [.lit (.int .u8 0), .lit (.int .u8 0)], .agg [.lit (.int .u8 0), .lit (.int .u8 0)], .agg [.lit (.int .u8 0), .lit (.int .u8 0)], .agg [.lit (.int .u8 0), .lit (.int .u8 0)], .agg [.lit (.int .u8 0), .lit (.int .u8 0)], .agg [.lit (.int .u8 0), .lit (.int .u8 0)], .agg [.lit (.int .u8 0), .lit (.int .u8 0)], .agg [.lit (.int .u8 0), .lit (.int .u8 0)], .agg [.lit (.int .u8 0), .lit (.int .u8 0)], .agg [.lit (.int .u8 0), .lit (.int .u8 0)]]
/-- One of Go's own tables, pinned by name: the form's constant. -/
def laid_unicode_utf8_first : DataW Unit := Go.Pinned.utf8First

/-- 'laws.FnExactGreatAdd': WHATEVER THE INPUT: true; the input reads as it did. -/
def fnExactGreatAddSpec : ChangeSpec := { name := "fnExactGreatAdd", fn := fun _ => fun
  | [d1, d2] => { results := [.lit (.bool true)], args := [d1, d2] }
  | _ => none }
def fnExactGreatAddRow : OpenClaim := { program := "ytdejncgnoadcjaadoor", sum := "8f08428cdaf4d941b10440fb81a94db79e0f57fb524bd69b3b7cc84fb1809e15", func := "loop.example/g00115/laws.FnExactGreatAdd", spec := "fnExactGreatAdd", inPlace := ["internal/bytealg.IndexByteString", "internal/bytealg.IndexString"], unfollowed := true, recurses := true, named := ["unicode/utf8.first", "unicode/utf8.acceptRanges", "internal/bytealg.MaxLen"], apart := false, laid := [("unicode/utf8.acceptRanges", laid_unicode_utf8_acceptRanges), ("unicode/utf8.first", laid_unicode_utf8_first)] }
def FnExactGreatAddSaid : Prop := fnExactGreatAddRow.holds Tryd.pinned (OpenSpec.ofChange fnExactGreatAddSpec)

/-- ITS FALSE NEIGHBOUR: 'it returns false'. Refute it at one input. -/
def fnExactGreatAddWrong : ChangeSpec := { name := "fnExactGreatAdd", fn := fun _ => fun
  | [d1, d2] => { results := [.lit (.bool false)], args := [d1, d2] }
  | _ => none }
def FnExactGreatAddWrongFalsely : Prop := fnExactGreatAddRow.holds Tryd.pinned (OpenSpec.ofChange fnExactGreatAddWrong)

/-- 'laws.FnExactGreatSub': WHATEVER THE INPUT: true; the input reads as it did. -/
def fnExactGreatSubSpec : ChangeSpec := { name := "fnExactGreatSub", fn := fun _ => fun
  | [d1, d2] => { results := [.lit (.bool true)], args := [d1, d2] }
  | _ => none }
def fnExactGreatSubRow : OpenClaim := { program := "ytdejncgnoadcjaadoor", sum := "8f08428cdaf4d941b10440fb81a94db79e0f57fb524bd69b3b7cc84fb1809e15", func := "loop.example/g00115/laws.FnExactGreatSub", spec := "fnExactGreatSub", inPlace := ["internal/bytealg.IndexByteString", "internal/bytealg.IndexString"], unfollowed := true, recurses := true, named := ["unicode/utf8.first", "unicode/utf8.acceptRanges", "internal/bytealg.MaxLen"], apart := false, laid := [("unicode/utf8.acceptRanges", laid_unicode_utf8_acceptRanges), ("unicode/utf8.first", laid_unicode_utf8_first)] }
def FnExactGreatSubSaid : Prop := fnExactGreatSubRow.holds Tryd.pinned (OpenSpec.ofChange fnExactGreatSubSpec)

/-- ITS FALSE NEIGHBOUR: 'it returns false'. Refute it at one input. -/
def fnExactGreatSubWrong : ChangeSpec := { name := "fnExactGreatSub", fn := fun _ => fun
  | [d1, d2] => { results := [.lit (.bool false)], args := [d1, d2] }
  | _ => none }
def FnExactGreatSubWrongFalsely : Prop := fnExactGreatSubRow.holds Tryd.pinned (OpenSpec.ofChange fnExactGreatSubWrong)

/-- 'laws.FnExactGreatMul': WHATEVER THE INPUT: true; the input reads as it did. -/
def fnExactGreatMulSpec : ChangeSpec := { name := "fnExactGreatMul", fn := fun _ => fun
  | [d1, d2] => { results := [.lit (.bool true)], args := [d1, d2] }
  | _ => none }
def fnExactGreatMulRow : OpenClaim := { program := "ytdejncgnoadcjaadoor", sum := "8f08428cdaf4d941b10440fb81a94db79e0f57fb524bd69b3b7cc84fb1809e15", func := "loop.example/g00115/laws.FnExactGreatMul", spec := "fnExactGreatMul", inPlace := ["internal/bytealg.IndexByteString", "internal/bytealg.IndexString"], unfollowed := true, recurses := true, named := ["unicode/utf8.first", "unicode/utf8.acceptRanges", "internal/bytealg.MaxLen"], apart := false, laid := [("unicode/utf8.acceptRanges", laid_unicode_utf8_acceptRanges), ("unicode/utf8.first", laid_unicode_utf8_first)] }
def FnExactGreatMulSaid : Prop := fnExactGreatMulRow.holds Tryd.pinned (OpenSpec.ofChange fnExactGreatMulSpec)

/-- ITS FALSE NEIGHBOUR: 'it returns false'. Refute it at one input. -/
def fnExactGreatMulWrong : ChangeSpec := { name := "fnExactGreatMul", fn := fun _ => fun
  | [d1, d2] => { results := [.lit (.bool false)], args := [d1, d2] }
  | _ => none }
def FnExactGreatMulWrongFalsely : Prop := fnExactGreatMulRow.holds Tryd.pinned (OpenSpec.ofChange fnExactGreatMulWrong)

/- THE SECOND FORM. 'bulk': how many values and letters a reading holds, each counted each time it is reached (what is shared counts as often as it is met; a slice's spare places count too). A statement '..UptoSaid' is the law's where the arguments, and the package variables that the reading takes, are together of bulk at most 1048576: NARROWER than '..Said'. Prove '..Said' where nothing that the law and all that it calls make is longer than what came in: it says more and counts as full. Else prove '..UptoSaid'. A law counts once. -/
mutual
def uptoBulk {H : Type} : DataW H → Nat
  | .lit (.string bytes) => bytes.length + 1
  | .lit _ => 1
  | .nil => 1
  | .ptr d => uptoBulk d + 1
  | .slice elems spare => uptoBulkAll elems + uptoBulkAll spare + 1
  | .agg parts => uptoBulkAll parts + 1
  | .iface _ d => uptoBulk d + 1
  | .map entries => uptoBulkEntries entries + 1
  | .held _ => 1
def uptoBulkAll {H : Type} : List (DataW H) → Nat
  | [] => 0
  | d :: r => uptoBulk d + uptoBulkAll r
def uptoBulkEntries {H : Type} : List (Lit × DataW H) → Nat
  | [] => 0
  | x :: r => uptoBulkEntry x + uptoBulkEntries r
def uptoBulkEntry {H : Type} : Lit × DataW H → Nat
  | (.string bytes, d) => bytes.length + uptoBulk d + 1
  | (_, d) => uptoBulk d + 1
 end
def uptoSmall : (H : Type) → List (DataW H) → Bool := fun _ ds => decide (uptoBulkAll ds ≤ 1048576)
def OpenSpec.upto (s : _root_.Go.ChangeSpec) : _root_.Go.OpenSpec := { _root_.Go.OpenSpec.ofChange s with cond := some uptoSmall }

/-- 'laws.FnExactGreatAdd', WHERE WHAT IT READS IS OF BULK AT MOST 1048576: true; the input reads as it did. -/
def fnExactGreatAddUptoRow : OpenClaim := { program := "ytdejncgnoadcjaadoor", sum := "8f08428cdaf4d941b10440fb81a94db79e0f57fb524bd69b3b7cc84fb1809e15", func := "loop.example/g00115/laws.FnExactGreatAdd", spec := "fnExactGreatAdd", inPlace := ["internal/bytealg.IndexByteString", "internal/bytealg.IndexString"], unfollowed := true, recurses := true, named := ["unicode/utf8.first", "unicode/utf8.acceptRanges", "internal/bytealg.MaxLen"], apart := false, laid := [("unicode/utf8.acceptRanges", laid_unicode_utf8_acceptRanges), ("unicode/utf8.first", laid_unicode_utf8_first)], narrowed := true }
def FnExactGreatAddUptoSaid : Prop := fnExactGreatAddUptoRow.holds Tryd.pinned (OpenSpec.upto fnExactGreatAddSpec)

/-- 'laws.FnExactGreatSub', WHERE WHAT IT READS IS OF BULK AT MOST 1048576: true; the input reads as it did. -/
def fnExactGreatSubUptoRow : OpenClaim := { program := "ytdejncgnoadcjaadoor", sum := "8f08428cdaf4d941b10440fb81a94db79e0f57fb524bd69b3b7cc84fb1809e15", func := "loop.example/g00115/laws.FnExactGreatSub", spec := "fnExactGreatSub", inPlace := ["internal/bytealg.IndexByteString", "internal/bytealg.IndexString"], unfollowed := true, recurses := true, named := ["unicode/utf8.first", "unicode/utf8.acceptRanges", "internal/bytealg.MaxLen"], apart := false, laid := [("unicode/utf8.acceptRanges", laid_unicode_utf8_acceptRanges), ("unicode/utf8.first", laid_unicode_utf8_first)], narrowed := true }
def FnExactGreatSubUptoSaid : Prop := fnExactGreatSubUptoRow.holds Tryd.pinned (OpenSpec.upto fnExactGreatSubSpec)

/-- 'laws.FnExactGreatMul', WHERE WHAT IT READS IS OF BULK AT MOST 1048576: true; the input reads as it did. -/
def fnExactGreatMulUptoRow : OpenClaim := { program := "ytdejncgnoadcjaadoor", sum := "8f08428cdaf4d941b10440fb81a94db79e0f57fb524bd69b3b7cc84fb1809e15", func := "loop.example/g00115/laws.FnExactGreatMul", spec := "fnExactGreatMul", inPlace := ["internal/bytealg.IndexByteString", "internal/bytealg.IndexString"], unfollowed := true, recurses := true, named := ["unicode/utf8.first", "unicode/utf8.acceptRanges", "internal/bytealg.MaxLen"], apart := false, laid := [("unicode/utf8.acceptRanges", laid_unicode_utf8_acceptRanges), ("unicode/utf8.first", laid_unicode_utf8_first)], narrowed := true }
def FnExactGreatMulUptoSaid : Prop := fnExactGreatMulUptoRow.holds Tryd.pinned (OpenSpec.upto fnExactGreatMulSpec)

end Rows
end Go.Proofs.YtdejncgnoadcjaaDoor
