/-
  No cell of these rows narrows 'for every input' (looked for: loops, veiled, ifaces, maps, wideKeys, modest, calm, conditions, laid).
  DERIVED. THE GIVEN ROWS OF THIS SEAT. 5 by the template 'for every input the law returns true; each argument reads behind the call as it read before'; 0 by the template 'total and deterministic' (their statements: YtdmockkifoknnaaTotals.lean).
  GIVEN WITH THE SEED: the statements are not yours to turn. If you find one false, say at which input.
  Laid BY PROGRAM, IN A SANDBOX (cutbox-rows.mjs): the forced cells as the released guide's own fill.sh prints them over the translation badc67df066e8303… (all of the seat's roots in one cut). By AI agents, Wed Nov 11 2026. No macro, syntax, notation, axiom, sorry.
-/
import Derived.Test.YtdmockkifoknnaaChecked
import GoSem.Claim
import GoSem.ClaimJoined
import GoSem.ClaimMapViews
import Derived.JoinedTies
import Derived.KernelRfl
namespace Go.Proofs.Ytdmockkifoknnaa
/- THE CELL 'sum', in the pinned program and in every row, IS THE sha256 OF THE DUMP (.gsa) THAT YtdmockkifoknnaaProg.lean LOADS. Nothing in Lean hashes anything: it is a label: what it is worth is what the hold of that sum in a sandbox is worth. -/
noncomputable def Try.pinned : Pinned := { name := "ytdmockkifoknnaa", sum := "badc67df066e830305f51fc9a3e4b6841593155adb2b4eb797ac4cf8c29ecaee", checked := Try.checked }
namespace Rows
def none {H : Type} : Left H := { results := [], args := [] }

/-- 'laws.FnExactGraphOk': WHATEVER THE INPUT: true; the input reads as it did. -/
def fnExactGraphOkSpec : ChangeSpec := { name := "fnExactGraphOk", fn := fun _ => fun
  | [d] => { results := [.lit (.bool true)], args := [d] }
  | _ => none }
def fnExactGraphOkRow : OpenClaim := { program := "ytdmockkifoknnaa", sum := "badc67df066e830305f51fc9a3e4b6841593155adb2b4eb797ac4cf8c29ecaee", func := "loop.example/g00827/laws.FnExactGraphOk", spec := "fnExactGraphOk", apart := false }
def FnExactGraphOkSaid : Prop := fnExactGraphOkRow.holds Try.pinned (OpenSpec.ofChange fnExactGraphOkSpec)

/-- ITS FALSE NEIGHBOUR: 'it returns false'. Refute it at one input. -/
def fnExactGraphOkWrong : ChangeSpec := { name := "fnExactGraphOk", fn := fun _ => fun
  | [d] => { results := [.lit (.bool false)], args := [d] }
  | _ => none }
def FnExactGraphOkWrongFalsely : Prop := fnExactGraphOkRow.holds Try.pinned (OpenSpec.ofChange fnExactGraphOkWrong)

/-- 'laws.FnExactShortestFrom': WHATEVER THE INPUT: true; the input reads as it did. -/
def fnExactShortestFromSpec : ChangeSpec := { name := "fnExactShortestFrom", fn := fun _ => fun
  | [d1, d2] => { results := [.lit (.bool true)], args := [d1, d2] }
  | _ => none }
def fnExactShortestFromRow : OpenClaim := { program := "ytdmockkifoknnaa", sum := "badc67df066e830305f51fc9a3e4b6841593155adb2b4eb797ac4cf8c29ecaee", func := "loop.example/g00827/laws.FnExactShortestFrom", spec := "fnExactShortestFrom", unfollowed := true, recurses := true, apart := false }
def FnExactShortestFromSaid : Prop := fnExactShortestFromRow.holds Try.pinned (OpenSpec.ofChange fnExactShortestFromSpec)

/-- ITS FALSE NEIGHBOUR: 'it returns false'. Refute it at one input. -/
def fnExactShortestFromWrong : ChangeSpec := { name := "fnExactShortestFrom", fn := fun _ => fun
  | [d1, d2] => { results := [.lit (.bool false)], args := [d1, d2] }
  | _ => none }
def FnExactShortestFromWrongFalsely : Prop := fnExactShortestFromRow.holds Try.pinned (OpenSpec.ofChange fnExactShortestFromWrong)

/-- 'laws.FnExactNegativeCycle': WHATEVER THE INPUT: true; the input reads as it did. -/
def fnExactNegativeCycleSpec : ChangeSpec := { name := "fnExactNegativeCycle", fn := fun _ => fun
  | [d] => { results := [.lit (.bool true)], args := [d] }
  | _ => none }
def fnExactNegativeCycleRow : OpenClaim := { program := "ytdmockkifoknnaa", sum := "badc67df066e830305f51fc9a3e4b6841593155adb2b4eb797ac4cf8c29ecaee", func := "loop.example/g00827/laws.FnExactNegativeCycle", spec := "fnExactNegativeCycle", unfollowed := true, recurses := true, apart := false }
def FnExactNegativeCycleSaid : Prop := fnExactNegativeCycleRow.holds Try.pinned (OpenSpec.ofChange fnExactNegativeCycleSpec)

/-- ITS FALSE NEIGHBOUR: 'it returns false'. Refute it at one input. -/
def fnExactNegativeCycleWrong : ChangeSpec := { name := "fnExactNegativeCycle", fn := fun _ => fun
  | [d] => { results := [.lit (.bool false)], args := [d] }
  | _ => none }
def FnExactNegativeCycleWrongFalsely : Prop := fnExactNegativeCycleRow.holds Try.pinned (OpenSpec.ofChange fnExactNegativeCycleWrong)

/-- 'laws.FnExactIsNegativeCycle': WHATEVER THE INPUT: true; the input reads as it did. -/
def fnExactIsNegativeCycleSpec : ChangeSpec := { name := "fnExactIsNegativeCycle", fn := fun _ => fun
  | [d1, d2] => { results := [.lit (.bool true)], args := [d1, d2] }
  | _ => none }
def fnExactIsNegativeCycleRow : OpenClaim := { program := "ytdmockkifoknnaa", sum := "badc67df066e830305f51fc9a3e4b6841593155adb2b4eb797ac4cf8c29ecaee", func := "loop.example/g00827/laws.FnExactIsNegativeCycle", spec := "fnExactIsNegativeCycle", apart := false }
def FnExactIsNegativeCycleSaid : Prop := fnExactIsNegativeCycleRow.holds Try.pinned (OpenSpec.ofChange fnExactIsNegativeCycleSpec)

/-- ITS FALSE NEIGHBOUR: 'it returns false'. Refute it at one input. -/
def fnExactIsNegativeCycleWrong : ChangeSpec := { name := "fnExactIsNegativeCycle", fn := fun _ => fun
  | [d1, d2] => { results := [.lit (.bool false)], args := [d1, d2] }
  | _ => none }
def FnExactIsNegativeCycleWrongFalsely : Prop := fnExactIsNegativeCycleRow.holds Try.pinned (OpenSpec.ofChange fnExactIsNegativeCycleWrong)

/-- 'laws.FnExactPathWeight': WHATEVER THE INPUT: true; the input reads as it did. -/
def fnExactPathWeightSpec : ChangeSpec := { name := "fnExactPathWeight", fn := fun _ => fun
  | [d1, d2] => { results := [.lit (.bool true)], args := [d1, d2] }
  | _ => none }
def fnExactPathWeightRow : OpenClaim := { program := "ytdmockkifoknnaa", sum := "badc67df066e830305f51fc9a3e4b6841593155adb2b4eb797ac4cf8c29ecaee", func := "loop.example/g00827/laws.FnExactPathWeight", spec := "fnExactPathWeight", apart := false }
def FnExactPathWeightSaid : Prop := fnExactPathWeightRow.holds Try.pinned (OpenSpec.ofChange fnExactPathWeightSpec)

/-- ITS FALSE NEIGHBOUR: 'it returns false'. Refute it at one input. -/
def fnExactPathWeightWrong : ChangeSpec := { name := "fnExactPathWeight", fn := fun _ => fun
  | [d1, d2] => { results := [.lit (.bool false)], args := [d1, d2] }
  | _ => none }
def FnExactPathWeightWrongFalsely : Prop := fnExactPathWeightRow.holds Try.pinned (OpenSpec.ofChange fnExactPathWeightWrong)

/- THE SECOND FORM. 'bulk': how many values and letters a reading holds, each counted each time it is reached (what is shared counts as often as it is met; a slice's spare places count too). A statement '..UptoSaid' is the law's where the arguments, and the package variables that the reading takes, are together of bulk at most 1048576: NARROWER than '..Said'. Prove '..Said' where nothing that the law and all that it calls make is longer than what came in: it says more and counts as full. Else prove '..UptoSaid'. A law counts once. -/
mutual
def uptoBulk {H : Type} : DataW H → Nat
  | .lit (.string bytes) => bytes.length + 1
  | .lit _ => 1
  | .nil => 1
  | .ptr d => uptoBulk d + 1
  | .slice elems spare => uptoBulkAll elems + uptoBulkAll spare + 1
  | .agg parts => uptoBulkAll parts + 1
  | .iface _ d => uptoBulk d + 1
  | .map entries => uptoBulkEntries entries + 1
  | .held _ => 1
def uptoBulkAll {H : Type} : List (DataW H) → Nat
  | [] => 0
  | d :: r => uptoBulk d + uptoBulkAll r
def uptoBulkEntries {H : Type} : List (Lit × DataW H) → Nat
  | [] => 0
  | x :: r => uptoBulkEntry x + uptoBulkEntries r
def uptoBulkEntry {H : Type} : Lit × DataW H → Nat
  | (.string bytes, d) => bytes.length + uptoBulk d + 1
  | (_, d) => uptoBulk d + 1
 end
def uptoSmall : (H : Type) → List (DataW H) → Bool := fun _ ds => decide (uptoBulkAll ds ≤ 1048576)
def OpenSpec.upto (s : _root_.Go.ChangeSpec) : _root_.Go.OpenSpec := { _root_.Go.OpenSpec.ofChange s with cond := some uptoSmall }

/-- 'laws.FnExactGraphOk', WHERE WHAT IT READS IS OF BULK AT MOST 1048576: true; the input reads as it did. -/
def fnExactGraphOkUptoRow : OpenClaim := { program := "ytdmockkifoknnaa", sum := "badc67df066e830305f51fc9a3e4b6841593155adb2b4eb797ac4cf8c29ecaee", func := "loop.example/g00827/laws.FnExactGraphOk", spec := "fnExactGraphOk", apart := false, narrowed := true }
def FnExactGraphOkUptoSaid : Prop := fnExactGraphOkUptoRow.holds Try.pinned (OpenSpec.upto fnExactGraphOkSpec)

/-- 'laws.FnExactShortestFrom', WHERE WHAT IT READS IS OF BULK AT MOST 1048576: true; the input reads as it did. -/
def fnExactShortestFromUptoRow : OpenClaim := { program := "ytdmockkifoknnaa", sum := "badc67df066e830305f51fc9a3e4b6841593155adb2b4eb797ac4cf8c29ecaee", func := "loop.example/g00827/laws.FnExactShortestFrom", spec := "fnExactShortestFrom", unfollowed := true, recurses := true, apart := false, narrowed := true }
def FnExactShortestFromUptoSaid : Prop := fnExactShortestFromUptoRow.holds Try.pinned (OpenSpec.upto fnExactShortestFromSpec)

/-- 'laws.FnExactNegativeCycle', WHERE WHAT IT READS IS OF BULK AT MOST 1048576: true; the input reads as it did. -/
def fnExactNegativeCycleUptoRow : OpenClaim := { program := "ytdmockkifoknnaa", sum := "badc67df066e830305f51fc9a3e4b6841593155adb2b4eb797ac4cf8c29ecaee", func := "loop.example/g00827/laws.FnExactNegativeCycle", spec := "fnExactNegativeCycle", unfollowed := true, recurses := true, apart := false, narrowed := true }
def FnExactNegativeCycleUptoSaid : Prop := fnExactNegativeCycleUptoRow.holds Try.pinned (OpenSpec.upto fnExactNegativeCycleSpec)

/-- 'laws.FnExactIsNegativeCycle', WHERE WHAT IT READS IS OF BULK AT MOST 1048576: true; the input reads as it did. -/
def fnExactIsNegativeCycleUptoRow : OpenClaim := { program := "ytdmockkifoknnaa", sum := "badc67df066e830305f51fc9a3e4b6841593155adb2b4eb797ac4cf8c29ecaee", func := "loop.example/g00827/laws.FnExactIsNegativeCycle", spec := "fnExactIsNegativeCycle", apart := false, narrowed := true }
def FnExactIsNegativeCycleUptoSaid : Prop := fnExactIsNegativeCycleUptoRow.holds Try.pinned (OpenSpec.upto fnExactIsNegativeCycleSpec)

/-- 'laws.FnExactPathWeight', WHERE WHAT IT READS IS OF BULK AT MOST 1048576: true; the input reads as it did. -/
def fnExactPathWeightUptoRow : OpenClaim := { program := "ytdmockkifoknnaa", sum := "badc67df066e830305f51fc9a3e4b6841593155adb2b4eb797ac4cf8c29ecaee", func := "loop.example/g00827/laws.FnExactPathWeight", spec := "fnExactPathWeight", apart := false, narrowed := true }
def FnExactPathWeightUptoSaid : Prop := fnExactPathWeightUptoRow.holds Try.pinned (OpenSpec.upto fnExactPathWeightSpec)

end Rows
end Go.Proofs.Ytdmockkifoknnaa
