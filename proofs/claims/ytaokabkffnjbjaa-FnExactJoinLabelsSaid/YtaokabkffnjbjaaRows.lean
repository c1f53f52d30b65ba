/-
  No cell of these rows narrows 'for every input' (looked for: loops, veiled, ifaces, maps, wideKeys, modest, calm, conditions, laid).
  DERIVED. THE GIVEN ROWS OF THIS SEAT. 7 by the template 'for every input the law returns true; each argument reads behind the call as it read before'; 0 by the template 'total and deterministic' (their statements: YtaokabkffnjbjaaTotals.lean).
  GIVEN WITH THE SEED: the statements are not yours to turn. If you find one false, say at which input.
  Laid BY PROGRAM, IN A SANDBOX (cutbox-rows.mjs): the forced cells as the released guide's own fill.sh prints them over the translation d5c046033a3a600e… (all of the seat's roots in one cut). By AI agents, Wed Nov 11 2026. No macro, syntax, notation, axiom, sorry.
-/
import Derived.Test.YtaokabkffnjbjaaChecked
import GoSem.Claim
import GoSem.ClaimJoined
import GoSem.ClaimMapViews
import Derived.JoinedTies
import Derived.KernelRfl
namespace Go.Proofs.Ytaokabkffnjbjaa
/- THE CELL 'sum', in the pinned program and in every row, IS THE sha256 OF THE DUMP (.gsa) THAT YtaokabkffnjbjaaProg.lean LOADS. Nothing in Lean hashes anything: it is a label: what it is worth is what the hold of that sum in a sandbox is worth. -/
noncomputable def Try.pinned : Pinned := { name := "ytaokabkffnjbjaa", sum := "d5c046033a3a600e40e76883895610b38ab23694223579433fc91d094e841d16", checked := Try.checked }
namespace Rows
def none {H : Type} : Left H := { results := [], args := [] }

/-- 'laws.FnExactLabelOk': WHATEVER THE INPUT: true; the input reads as it did. -/
def fnExactLabelOkSpec : ChangeSpec := { name := "fnExactLabelOk", fn := fun _ => fun
  | [d] => { results := [.lit (.bool true)], args := [d] }
  | _ => none }
def fnExactLabelOkRow : OpenClaim := { program := "ytaokabkffnjbjaa", sum := "d5c046033a3a600e40e76883895610b38ab23694223579433fc91d094e841d16", func := "loop.example/g00827/laws.FnExactLabelOk", spec := "fnExactLabelOk", apart := false }
def FnExactLabelOkSaid : Prop := fnExactLabelOkRow.holds Try.pinned (OpenSpec.ofChange fnExactLabelOkSpec)

/-- ITS FALSE NEIGHBOUR: 'it returns false'. Refute it at one input. -/
def fnExactLabelOkWrong : ChangeSpec := { name := "fnExactLabelOk", fn := fun _ => fun
  | [d] => { results := [.lit (.bool false)], args := [d] }
  | _ => none }
def FnExactLabelOkWrongFalsely : Prop := fnExactLabelOkRow.holds Try.pinned (OpenSpec.ofChange fnExactLabelOkWrong)

/-- 'laws.FnExactValuesOk': WHATEVER THE INPUT: true; the input reads as it did. -/
def fnExactValuesOkSpec : ChangeSpec := { name := "fnExactValuesOk", fn := fun _ => fun
  | [d] => { results := [.lit (.bool true)], args := [d] }
  | _ => none }
def fnExactValuesOkRow : OpenClaim := { program := "ytaokabkffnjbjaa", sum := "d5c046033a3a600e40e76883895610b38ab23694223579433fc91d094e841d16", func := "loop.example/g00827/laws.FnExactValuesOk", spec := "fnExactValuesOk", apart := false }
def FnExactValuesOkSaid : Prop := fnExactValuesOkRow.holds Try.pinned (OpenSpec.ofChange fnExactValuesOkSpec)

/-- ITS FALSE NEIGHBOUR: 'it returns false'. Refute it at one input. -/
def fnExactValuesOkWrong : ChangeSpec := { name := "fnExactValuesOk", fn := fun _ => fun
  | [d] => { results := [.lit (.bool false)], args := [d] }
  | _ => none }
def FnExactValuesOkWrongFalsely : Prop := fnExactValuesOkRow.holds Try.pinned (OpenSpec.ofChange fnExactValuesOkWrong)

/-- 'laws.FnExactLabelState': WHATEVER THE INPUT: true; the input reads as it did. -/
def fnExactLabelStateSpec : ChangeSpec := { name := "fnExactLabelState", fn := fun _ => fun
  | [d1, d2] => { results := [.lit (.bool true)], args := [d1, d2] }
  | _ => none }
def fnExactLabelStateRow : OpenClaim := { program := "ytaokabkffnjbjaa", sum := "d5c046033a3a600e40e76883895610b38ab23694223579433fc91d094e841d16", func := "loop.example/g00827/laws.FnExactLabelState", spec := "fnExactLabelState", recurses := true, apart := false }
def FnExactLabelStateSaid : Prop := fnExactLabelStateRow.holds Try.pinned (OpenSpec.ofChange fnExactLabelStateSpec)

/-- ITS FALSE NEIGHBOUR: 'it returns false'. Refute it at one input. -/
def fnExactLabelStateWrong : ChangeSpec := { name := "fnExactLabelState", fn := fun _ => fun
  | [d1, d2] => { results := [.lit (.bool false)], args := [d1, d2] }
  | _ => none }
def FnExactLabelStateWrongFalsely : Prop := fnExactLabelStateRow.holds Try.pinned (OpenSpec.ofChange fnExactLabelStateWrong)

/-- 'laws.FnExactJoinLabels': WHATEVER THE INPUT: true; the input reads as it did. -/
def fnExactJoinLabelsSpec : ChangeSpec := { name := "fnExactJoinLabels", fn := fun _ => fun
  | [d1, d2] => { results := [.lit (.bool true)], args := [d1, d2] }
  | _ => none }
def fnExactJoinLabelsRow : OpenClaim := { program := "ytaokabkffnjbjaa", sum := "d5c046033a3a600e40e76883895610b38ab23694223579433fc91d094e841d16", func := "loop.example/g00827/laws.FnExactJoinLabels", spec := "fnExactJoinLabels", apart := false }
def FnExactJoinLabelsSaid : Prop := fnExactJoinLabelsRow.holds Try.pinned (OpenSpec.ofChange fnExactJoinLabelsSpec)

/-- ITS FALSE NEIGHBOUR: 'it returns false'. Refute it at one input. -/
def fnExactJoinLabelsWrong : ChangeSpec := { name := "fnExactJoinLabels", fn := fun _ => fun
  | [d1, d2] => { results := [.lit (.bool false)], args := [d1, d2] }
  | _ => none }
def FnExactJoinLabelsWrongFalsely : Prop := fnExactJoinLabelsRow.holds Try.pinned (OpenSpec.ofChange fnExactJoinLabelsWrong)

/-- 'laws.FnExactImpliesLabel': WHATEVER THE INPUT: true; the input reads as it did. -/
def fnExactImpliesLabelSpec : ChangeSpec := { name := "fnExactImpliesLabel", fn := fun _ => fun
  | [d1, d2] => { results := [.lit (.bool true)], args := [d1, d2] }
  | _ => none }
def fnExactImpliesLabelRow : OpenClaim := { program := "ytaokabkffnjbjaa", sum := "d5c046033a3a600e40e76883895610b38ab23694223579433fc91d094e841d16", func := "loop.example/g00827/laws.FnExactImpliesLabel", spec := "fnExactImpliesLabel", apart := false }
def FnExactImpliesLabelSaid : Prop := fnExactImpliesLabelRow.holds Try.pinned (OpenSpec.ofChange fnExactImpliesLabelSpec)

/-- ITS FALSE NEIGHBOUR: 'it returns false'. Refute it at one input. -/
def fnExactImpliesLabelWrong : ChangeSpec := { name := "fnExactImpliesLabel", fn := fun _ => fun
  | [d1, d2] => { results := [.lit (.bool false)], args := [d1, d2] }
  | _ => none }
def FnExactImpliesLabelWrongFalsely : Prop := fnExactImpliesLabelRow.holds Try.pinned (OpenSpec.ofChange fnExactImpliesLabelWrong)

/-- 'laws.FnExactWithoutLiteral': WHATEVER THE INPUT: true; the input reads as it did. -/
def fnExactWithoutLiteralSpec : ChangeSpec := { name := "fnExactWithoutLiteral", fn := fun _ => fun
  | [d1, d2] => { results := [.lit (.bool true)], args := [d1, d2] }
  | _ => none }
def fnExactWithoutLiteralRow : OpenClaim := { program := "ytaokabkffnjbjaa", sum := "d5c046033a3a600e40e76883895610b38ab23694223579433fc91d094e841d16", func := "loop.example/g00827/laws.FnExactWithoutLiteral", spec := "fnExactWithoutLiteral", apart := false }
def FnExactWithoutLiteralSaid : Prop := fnExactWithoutLiteralRow.holds Try.pinned (OpenSpec.ofChange fnExactWithoutLiteralSpec)

/-- ITS FALSE NEIGHBOUR: 'it returns false'. Refute it at one input. -/
def fnExactWithoutLiteralWrong : ChangeSpec := { name := "fnExactWithoutLiteral", fn := fun _ => fun
  | [d1, d2] => { results := [.lit (.bool false)], args := [d1, d2] }
  | _ => none }
def FnExactWithoutLiteralWrongFalsely : Prop := fnExactWithoutLiteralRow.holds Try.pinned (OpenSpec.ofChange fnExactWithoutLiteralWrong)

/-- 'laws.FnExactCountValues': WHATEVER THE INPUT: true; the input reads as it did. -/
def fnExactCountValuesSpec : ChangeSpec := { name := "fnExactCountValues", fn := fun _ => fun
  | [d] => { results := [.lit (.bool true)], args := [d] }
  | _ => none }
def fnExactCountValuesRow : OpenClaim := { program := "ytaokabkffnjbjaa", sum := "d5c046033a3a600e40e76883895610b38ab23694223579433fc91d094e841d16", func := "loop.example/g00827/laws.FnExactCountValues", spec := "fnExactCountValues", apart := false }
def FnExactCountValuesSaid : Prop := fnExactCountValuesRow.holds Try.pinned (OpenSpec.ofChange fnExactCountValuesSpec)

/-- ITS FALSE NEIGHBOUR: 'it returns false'. Refute it at one input. -/
def fnExactCountValuesWrong : ChangeSpec := { name := "fnExactCountValues", fn := fun _ => fun
  | [d] => { results := [.lit (.bool false)], args := [d] }
  | _ => none }
def FnExactCountValuesWrongFalsely : Prop := fnExactCountValuesRow.holds Try.pinned (OpenSpec.ofChange fnExactCountValuesWrong)

/- THE SECOND FORM. 'bulk': how many values and letters a reading holds, each counted each time it is reached (what is shared counts as often as it is met; a slice's spare places count too). A statement '..UptoSaid' is the law's where the arguments, and the package variables that the reading takes, are together of bulk at most 1048576: NARROWER than '..Said'. Prove '..Said' where nothing that the law and all that it calls make is longer than what came in: it says more and counts as full. Else prove '..UptoSaid'. A law counts once. -/
mutual
def uptoBulk {H : Type} : DataW H → Nat
  | .lit (.string bytes) => bytes.length + 1
  | .lit _ => 1
  | .nil => 1
  | .ptr d => uptoBulk d + 1
  | .slice elems spare => uptoBulkAll elems + uptoBulkAll spare + 1
  | .agg parts => uptoBulkAll parts + 1
  | .iface _ d => uptoBulk d + 1
  | .map entries => uptoBulkEntries entries + 1
  | .held _ => 1
def uptoBulkAll {H : Type} : List (DataW H) → Nat
  | [] => 0
  | d :: r => uptoBulk d + uptoBulkAll r
def uptoBulkEntries {H : Type} : List (Lit × DataW H) → Nat
  | [] => 0
  | x :: r => uptoBulkEntry x + uptoBulkEntries r
def uptoBulkEntry {H : Type} : Lit × DataW H → Nat
  | (.string bytes, d) => bytes.length + uptoBulk d + 1
  | (_, d) => uptoBulk d + 1
 end
def uptoSmall : (H : Type) → List (DataW H) → Bool := fun _ ds => decide (uptoBulkAll ds ≤ 1048576)
def OpenSpec.upto (s : _root_.Go.ChangeSpec) : _root_.Go.OpenSpec := { _root_.Go.OpenSpec.ofChange s with cond := some uptoSmall }

/-- 'laws.FnExactLabelOk', WHERE WHAT IT READS IS OF BULK AT MOST 1048576: true; the input reads as it did. -/
def fnExactLabelOkUptoRow : OpenClaim := { program := "ytaokabkffnjbjaa", sum := "d5c046033a3a600e40e76883895610b38ab23694223579433fc91d094e841d16", func := "loop.example/g00827/laws.FnExactLabelOk", spec := "fnExactLabelOk", apart := false, narrowed := true }
def FnExactLabelOkUptoSaid : Prop := fnExactLabelOkUptoRow.holds Try.pinned (OpenSpec.upto fnExactLabelOkSpec)

/-- 'laws.FnExactValuesOk', WHERE WHAT IT READS IS OF BULK AT MOST 1048576: true; the input reads as it did. -/
def fnExactValuesOkUptoRow : OpenClaim := { program := "ytaokabkffnjbjaa", sum := "d5c046033a3a600e40e76883895610b38ab23694223579433fc91d094e841d16", func := "loop.example/g00827/laws.FnExactValuesOk", spec := "fnExactValuesOk", apart := false, narrowed := true }
def FnExactValuesOkUptoSaid : Prop := fnExactValuesOkUptoRow.holds Try.pinned (OpenSpec.upto fnExactValuesOkSpec)

/-- 'laws.FnExactLabelState', WHERE WHAT IT READS IS OF BULK AT MOST 1048576: true; the input reads as it did. -/
def fnExactLabelStateUptoRow : OpenClaim := { program := "ytaokabkffnjbjaa", sum := "d5c046033a3a600e40e76883895610b38ab23694223579433fc91d094e841d16", func := "loop.example/g00827/laws.FnExactLabelState", spec := "fnExactLabelState", recurses := true, apart := false, narrowed := true }
def FnExactLabelStateUptoSaid : Prop := fnExactLabelStateUptoRow.holds Try.pinned (OpenSpec.upto fnExactLabelStateSpec)

/-- 'laws.FnExactJoinLabels', WHERE WHAT IT READS IS OF BULK AT MOST 1048576: true; the input reads as it did. -/
def fnExactJoinLabelsUptoRow : OpenClaim := { program := "ytaokabkffnjbjaa", sum := "d5c046033a3a600e40e76883895610b38ab23694223579433fc91d094e841d16", func := "loop.example/g00827/laws.FnExactJoinLabels", spec := "fnExactJoinLabels", apart := false, narrowed := true }
def FnExactJoinLabelsUptoSaid : Prop := fnExactJoinLabelsUptoRow.holds Try.pinned (OpenSpec.upto fnExactJoinLabelsSpec)

/-- 'laws.FnExactImpliesLabel', WHERE WHAT IT READS IS OF BULK AT MOST 1048576: true; the input reads as it did. -/
def fnExactImpliesLabelUptoRow : OpenClaim := { program := "ytaokabkffnjbjaa", sum := "d5c046033a3a600e40e76883895610b38ab23694223579433fc91d094e841d16", func := "loop.example/g00827/laws.FnExactImpliesLabel", spec := "fnExactImpliesLabel", apart := false, narrowed := true }
def FnExactImpliesLabelUptoSaid : Prop := fnExactImpliesLabelUptoRow.holds Try.pinned (OpenSpec.upto fnExactImpliesLabelSpec)

/-- 'laws.FnExactWithoutLiteral', WHERE WHAT IT READS IS OF BULK AT MOST 1048576: true; the input reads as it did. -/
def fnExactWithoutLiteralUptoRow : OpenClaim := { program := "ytaokabkffnjbjaa", sum := "d5c046033a3a600e40e76883895610b38ab23694223579433fc91d094e841d16", func := "loop.example/g00827/laws.FnExactWithoutLiteral", spec := "fnExactWithoutLiteral", apart := false, narrowed := true }
def FnExactWithoutLiteralUptoSaid : Prop := fnExactWithoutLiteralUptoRow.holds Try.pinned (OpenSpec.upto fnExactWithoutLiteralSpec)

/-- 'laws.FnExactCountValues', WHERE WHAT IT READS IS OF BULK AT MOST 1048576: true; the input reads as it did. -/
def fnExactCountValuesUptoRow : OpenClaim := { program := "ytaokabkffnjbjaa", sum := "d5c046033a3a600e40e76883895610b38ab23694223579433fc91d094e841d16", func := "loop.example/g00827/laws.FnExactCountValues", spec := "fnExactCountValues", apart := false, narrowed := true }
def FnExactCountValuesUptoSaid : Prop := fnExactCountValuesUptoRow.holds Try.pinned (OpenSpec.upto fnExactCountValuesSpec)

end Rows
end Go.Proofs.Ytaokabkffnjbjaa
