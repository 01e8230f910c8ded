/-
  No cell of these rows narrows 'for every input' (looked for: loops, veiled, ifaces, maps, wideKeys, modest, calm, conditions, laid).
  DERIVED. THE GIVEN ROWS OF THIS SEAT. 6 by the template 'for every input the law returns true; each argument reads behind the call as it read before'; 0 by the template 'total and deterministic' (their statements: YtcdnmacnnbcfhabTotals.lean).
  GIVEN WITH THE SEED: the statements are not yours to turn. If you find one false, say at which input.
  Laid BY PROGRAM, IN A SANDBOX (cutbox-rows.mjs): the forced cells as the released guide's own fill.sh prints them over the translation 6efd2b030c290963… (all of the seat's roots in one cut). By AI agents, Wed Nov 11 2026. No macro, syntax, notation, axiom, sorry.
-/
import Derived.Test.YtcdnmacnnbcfhabChecked
import GoSem.Claim
import GoSem.ClaimJoined
import GoSem.ClaimMapViews
import Derived.JoinedTies
import Derived.KernelRfl
namespace Go.Proofs.Ytcdnmacnnbcfhab
/- THE CELL 'sum', in the pinned program and in every row, IS THE sha256 OF THE DUMP (.gsa) THAT YtcdnmacnnbcfhabProg.lean LOADS. Nothing in Lean hashes anything: it is a label: what it is worth is what the hold of that sum in a sandbox is worth. -/
noncomputable def Try.pinned : Pinned := { name := "ytcdnmacnnbcfhab", sum := "6efd2b030c290963335cb5e5a838f503a2d2a7886d546e1ea3c38effc9f2ea2d", checked := Try.checked }
namespace Rows
def none {H : Type} : Left H := { results := [], args := [] }

/-- 'laws.FnExactSealed': WHATEVER THE INPUT: true; the input reads as it did. -/
def fnExactSealedSpec : ChangeSpec := { name := "fnExactSealed", fn := fun _ => fun
  | [d] => { results := [.lit (.bool true)], args := [d] }
  | _ => none }
def fnExactSealedRow : OpenClaim := { program := "ytcdnmacnnbcfhab", sum := "6efd2b030c290963335cb5e5a838f503a2d2a7886d546e1ea3c38effc9f2ea2d", func := "loop.example/g00115/laws.FnExactSealed", spec := "fnExactSealed", apart := false }
def FnExactSealedSaid : Prop := fnExactSealedRow.holds Try.pinned (OpenSpec.ofChange fnExactSealedSpec)

/-- ITS FALSE NEIGHBOUR: 'it returns false'. Refute it at one input. -/
def fnExactSealedWrong : ChangeSpec := { name := "fnExactSealed", fn := fun _ => fun
  | [d] => { results := [.lit (.bool false)], args := [d] }
  | _ => none }
def FnExactSealedWrongFalsely : Prop := fnExactSealedRow.holds Try.pinned (OpenSpec.ofChange fnExactSealedWrong)

/-- 'laws.FnExactUnsealed': WHATEVER THE INPUT: true; the input reads as it did. -/
def fnExactUnsealedSpec : ChangeSpec := { name := "fnExactUnsealed", fn := fun _ => fun
  | [d] => { results := [.lit (.bool true)], args := [d] }
  | _ => none }
def fnExactUnsealedRow : OpenClaim := { program := "ytcdnmacnnbcfhab", sum := "6efd2b030c290963335cb5e5a838f503a2d2a7886d546e1ea3c38effc9f2ea2d", func := "loop.example/g00115/laws.FnExactUnsealed", spec := "fnExactUnsealed", apart := false }
def FnExactUnsealedSaid : Prop := fnExactUnsealedRow.holds Try.pinned (OpenSpec.ofChange fnExactUnsealedSpec)

/-- ITS FALSE NEIGHBOUR: 'it returns false'. Refute it at one input. -/
def fnExactUnsealedWrong : ChangeSpec := { name := "fnExactUnsealed", fn := fun _ => fun
  | [d] => { results := [.lit (.bool false)], args := [d] }
  | _ => none }
def FnExactUnsealedWrongFalsely : Prop := fnExactUnsealedRow.holds Try.pinned (OpenSpec.ofChange fnExactUnsealedWrong)

/-- 'laws.FnExactPartsOfNumber': WHATEVER THE INPUT: true; the input reads as it did. -/
def fnExactPartsOfNumberSpec : ChangeSpec := { name := "fnExactPartsOfNumber", fn := fun _ => fun
  | [d] => { results := [.lit (.bool true)], args := [d] }
  | _ => none }
def fnExactPartsOfNumberRow : OpenClaim := { program := "ytcdnmacnnbcfhab", sum := "6efd2b030c290963335cb5e5a838f503a2d2a7886d546e1ea3c38effc9f2ea2d", func := "loop.example/g00115/laws.FnExactPartsOfNumber", spec := "fnExactPartsOfNumber", apart := false }
def FnExactPartsOfNumberSaid : Prop := fnExactPartsOfNumberRow.holds Try.pinned (OpenSpec.ofChange fnExactPartsOfNumberSpec)

/-- ITS FALSE NEIGHBOUR: 'it returns false'. Refute it at one input. -/
def fnExactPartsOfNumberWrong : ChangeSpec := { name := "fnExactPartsOfNumber", fn := fun _ => fun
  | [d] => { results := [.lit (.bool false)], args := [d] }
  | _ => none }
def FnExactPartsOfNumberWrongFalsely : Prop := fnExactPartsOfNumberRow.holds Try.pinned (OpenSpec.ofChange fnExactPartsOfNumberWrong)

/-- 'laws.FnExactRoundTo': WHATEVER THE INPUT: true; the input reads as it did. -/
def fnExactRoundToSpec : ChangeSpec := { name := "fnExactRoundTo", fn := fun _ => fun
  | [d1, d2, d3, d4] => { results := [.lit (.bool true)], args := [d1, d2, d3, d4] }
  | _ => none }
def fnExactRoundToRow : OpenClaim := { program := "ytcdnmacnnbcfhab", sum := "6efd2b030c290963335cb5e5a838f503a2d2a7886d546e1ea3c38effc9f2ea2d", func := "loop.example/g00115/laws.FnExactRoundTo", spec := "fnExactRoundTo", apart := false }
def FnExactRoundToSaid : Prop := fnExactRoundToRow.holds Try.pinned (OpenSpec.ofChange fnExactRoundToSpec)

/-- ITS FALSE NEIGHBOUR: 'it returns false'. Refute it at one input. -/
def fnExactRoundToWrong : ChangeSpec := { name := "fnExactRoundTo", fn := fun _ => fun
  | [d1, d2, d3, d4] => { results := [.lit (.bool false)], args := [d1, d2, d3, d4] }
  | _ => none }
def FnExactRoundToWrongFalsely : Prop := fnExactRoundToRow.holds Try.pinned (OpenSpec.ofChange fnExactRoundToWrong)

/-- 'laws.FnExactFromInt': WHATEVER THE INPUT: true; the input reads as it did. -/
def fnExactFromIntSpec : ChangeSpec := { name := "fnExactFromInt", fn := fun _ => fun
  | [d] => { results := [.lit (.bool true)], args := [d] }
  | _ => none }
def fnExactFromIntRow : OpenClaim := { program := "ytcdnmacnnbcfhab", sum := "6efd2b030c290963335cb5e5a838f503a2d2a7886d546e1ea3c38effc9f2ea2d", func := "loop.example/g00115/laws.FnExactFromInt", spec := "fnExactFromInt", apart := false }
def FnExactFromIntSaid : Prop := fnExactFromIntRow.holds Try.pinned (OpenSpec.ofChange fnExactFromIntSpec)

/-- ITS FALSE NEIGHBOUR: 'it returns false'. Refute it at one input. -/
def fnExactFromIntWrong : ChangeSpec := { name := "fnExactFromInt", fn := fun _ => fun
  | [d] => { results := [.lit (.bool false)], args := [d] }
  | _ => none }
def FnExactFromIntWrongFalsely : Prop := fnExactFromIntRow.holds Try.pinned (OpenSpec.ofChange fnExactFromIntWrong)

/-- 'laws.FnExactToInt32': WHATEVER THE INPUT: true; the input reads as it did. -/
def fnExactToInt32Spec : ChangeSpec := { name := "fnExactToInt32", fn := fun _ => fun
  | [d] => { results := [.lit (.bool true)], args := [d] }
  | _ => none }
def fnExactToInt32Row : OpenClaim := { program := "ytcdnmacnnbcfhab", sum := "6efd2b030c290963335cb5e5a838f503a2d2a7886d546e1ea3c38effc9f2ea2d", func := "loop.example/g00115/laws.FnExactToInt32", spec := "fnExactToInt32", apart := false }
def FnExactToInt32Said : Prop := fnExactToInt32Row.holds Try.pinned (OpenSpec.ofChange fnExactToInt32Spec)

/-- ITS FALSE NEIGHBOUR: 'it returns false'. Refute it at one input. -/
def fnExactToInt32Wrong : ChangeSpec := { name := "fnExactToInt32", fn := fun _ => fun
  | [d] => { results := [.lit (.bool false)], args := [d] }
  | _ => none }
def FnExactToInt32WrongFalsely : Prop := fnExactToInt32Row.holds Try.pinned (OpenSpec.ofChange fnExactToInt32Wrong)

/- THE SECOND FORM. 'bulk': how many values and letters a reading holds, each counted each time it is reached (what is shared counts as often as it is met; a slice's spare places count too). A statement '..UptoSaid' is the law's where the arguments, and the package variables that the reading takes, are together of bulk at most 1048576: NARROWER than '..Said'. Prove '..Said' where nothing that the law and all that it calls make is longer than what came in: it says more and counts as full. Else prove '..UptoSaid'. A law counts once. -/
mutual
def uptoBulk {H : Type} : DataW H → Nat
  | .lit (.string bytes) => bytes.length + 1
  | .lit _ => 1
  | .nil => 1
  | .ptr d => uptoBulk d + 1
  | .slice elems spare => uptoBulkAll elems + uptoBulkAll spare + 1
  | .agg parts => uptoBulkAll parts + 1
  | .iface _ d => uptoBulk d + 1
  | .map entries => uptoBulkEntries entries + 1
  | .held _ => 1
def uptoBulkAll {H : Type} : List (DataW H) → Nat
  | [] => 0
  | d :: r => uptoBulk d + uptoBulkAll r
def uptoBulkEntries {H : Type} : List (Lit × DataW H) → Nat
  | [] => 0
  | x :: r => uptoBulkEntry x + uptoBulkEntries r
def uptoBulkEntry {H : Type} : Lit × DataW H → Nat
  | (.string bytes, d) => bytes.length + uptoBulk d + 1
  | (_, d) => uptoBulk d + 1
 end
def uptoSmall : (H : Type) → List (DataW H) → Bool := fun _ ds => decide (uptoBulkAll ds ≤ 1048576)
def OpenSpec.upto (s : _root_.Go.ChangeSpec) : _root_.Go.OpenSpec := { _root_.Go.OpenSpec.ofChange s with cond := some uptoSmall }

/-- 'laws.FnExactSealed', WHERE WHAT IT READS IS OF BULK AT MOST 1048576: true; the input reads as it did. -/
def fnExactSealedUptoRow : OpenClaim := { program := "ytcdnmacnnbcfhab", sum := "6efd2b030c290963335cb5e5a838f503a2d2a7886d546e1ea3c38effc9f2ea2d", func := "loop.example/g00115/laws.FnExactSealed", spec := "fnExactSealed", apart := false, narrowed := true }
def FnExactSealedUptoSaid : Prop := fnExactSealedUptoRow.holds Try.pinned (OpenSpec.upto fnExactSealedSpec)

/-- 'laws.FnExactUnsealed', WHERE WHAT IT READS IS OF BULK AT MOST 1048576: true; the input reads as it did. -/
def fnExactUnsealedUptoRow : OpenClaim := { program := "ytcdnmacnnbcfhab", sum := "6efd2b030c290963335cb5e5a838f503a2d2a7886d546e1ea3c38effc9f2ea2d", func := "loop.example/g00115/laws.FnExactUnsealed", spec := "fnExactUnsealed", apart := false, narrowed := true }
def FnExactUnsealedUptoSaid : Prop := fnExactUnsealedUptoRow.holds Try.pinned (OpenSpec.upto fnExactUnsealedSpec)

/-- 'laws.FnExactPartsOfNumber', WHERE WHAT IT READS IS OF BULK AT MOST 1048576: true; the input reads as it did. -/
def fnExactPartsOfNumberUptoRow : OpenClaim := { program := "ytcdnmacnnbcfhab", sum := "6efd2b030c290963335cb5e5a838f503a2d2a7886d546e1ea3c38effc9f2ea2d", func := "loop.example/g00115/laws.FnExactPartsOfNumber", spec := "fnExactPartsOfNumber", apart := false, narrowed := true }
def FnExactPartsOfNumberUptoSaid : Prop := fnExactPartsOfNumberUptoRow.holds Try.pinned (OpenSpec.upto fnExactPartsOfNumberSpec)

/-- 'laws.FnExactRoundTo', WHERE WHAT IT READS IS OF BULK AT MOST 1048576: true; the input reads as it did. -/
def fnExactRoundToUptoRow : OpenClaim := { program := "ytcdnmacnnbcfhab", sum := "6efd2b030c290963335cb5e5a838f503a2d2a7886d546e1ea3c38effc9f2ea2d", func := "loop.example/g00115/laws.FnExactRoundTo", spec := "fnExactRoundTo", apart := false, narrowed := true }
def FnExactRoundToUptoSaid : Prop := fnExactRoundToUptoRow.holds Try.pinned (OpenSpec.upto fnExactRoundToSpec)

/-- 'laws.FnExactFromInt', WHERE WHAT IT READS IS OF BULK AT MOST 1048576: true; the input reads as it did. -/
def fnExactFromIntUptoRow : OpenClaim := { program := "ytcdnmacnnbcfhab", sum := "6efd2b030c290963335cb5e5a838f503a2d2a7886d546e1ea3c38effc9f2ea2d", func := "loop.example/g00115/laws.FnExactFromInt", spec := "fnExactFromInt", apart := false, narrowed := true }
def FnExactFromIntUptoSaid : Prop := fnExactFromIntUptoRow.holds Try.pinned (OpenSpec.upto fnExactFromIntSpec)

/-- 'laws.FnExactToInt32', WHERE WHAT IT READS IS OF BULK AT MOST 1048576: true; the input reads as it did. -/
def fnExactToInt32UptoRow : OpenClaim := { program := "ytcdnmacnnbcfhab", sum := "6efd2b030c290963335cb5e5a838f503a2d2a7886d546e1ea3c38effc9f2ea2d", func := "loop.example/g00115/laws.FnExactToInt32", spec := "fnExactToInt32", apart := false, narrowed := true }
def FnExactToInt32UptoSaid : Prop := fnExactToInt32UptoRow.holds Try.pinned (OpenSpec.upto fnExactToInt32Spec)

end Rows
end Go.Proofs.Ytcdnmacnnbcfhab
