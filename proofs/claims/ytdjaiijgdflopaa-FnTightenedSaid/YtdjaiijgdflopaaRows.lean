/-
  No cell of these rows narrows 'for every input' (looked for: loops, veiled, ifaces, maps, wideKeys, modest, calm, conditions, laid).
  DERIVED. THE GIVEN ROWS OF THIS SEAT. 10 by the template 'for every input the law returns true; each argument reads behind the call as it read before'; 0 by the template 'total and deterministic' (their statements: YtdjaiijgdflopaaTotals.lean).
  GIVEN WITH THE SEED: the statements are not yours to turn. If you find one false, say at which input.
  Laid BY PROGRAM, IN A SANDBOX (cutbox-rows.mjs): the forced cells as the released guide's own fill.sh prints them over the translation 60c70776f4ee1638… (all of the seat's roots in one cut). By AI agents, Wed Nov 11 2026. No macro, syntax, notation, axiom, sorry.
-/
import Derived.Test.YtdjaiijgdflopaaChecked
import GoSem.Claim
import GoSem.ClaimJoined
import GoSem.ClaimMapViews
import Derived.JoinedTies
import Derived.KernelRfl
namespace Go.Proofs.Ytdjaiijgdflopaa
/- THE CELL 'sum', in the pinned program and in every row, IS THE sha256 OF THE DUMP (.gsa) THAT YtdjaiijgdflopaaProg.lean LOADS. Nothing in Lean hashes anything: it is a label: what it is worth is what the hold of that sum in a sandbox is worth. -/
noncomputable def Try.pinned : Pinned := { name := "ytdjaiijgdflopaa", sum := "60c70776f4ee163859c6efc4b9d9a350794def49fdce85f2e7ad406c2bbc14e0", checked := Try.checked }
namespace Rows
def none {H : Type} : Left H := { results := [], args := [] }

/-- 'laws.FnDistances': WHATEVER THE INPUT: true; the input reads as it did. -/
def fnDistancesSpec : ChangeSpec := { name := "fnDistances", fn := fun _ => fun
  | [d] => { results := [.lit (.bool true)], args := [d] }
  | _ => none }
def fnDistancesRow : OpenClaim := { program := "ytdjaiijgdflopaa", sum := "60c70776f4ee163859c6efc4b9d9a350794def49fdce85f2e7ad406c2bbc14e0", func := "loop.example/g00827/laws.FnDistances", spec := "fnDistances", unfollowed := true, recurses := true, apart := false }
def FnDistancesSaid : Prop := fnDistancesRow.holds Try.pinned (OpenSpec.ofChange fnDistancesSpec)

/-- ITS FALSE NEIGHBOUR: 'it returns false'. Refute it at one input. -/
def fnDistancesWrong : ChangeSpec := { name := "fnDistances", fn := fun _ => fun
  | [d] => { results := [.lit (.bool false)], args := [d] }
  | _ => none }
def FnDistancesWrongFalsely : Prop := fnDistancesRow.holds Try.pinned (OpenSpec.ofChange fnDistancesWrong)

/-- 'laws.FnCycles': WHATEVER THE INPUT: true; the input reads as it did. -/
def fnCyclesSpec : ChangeSpec := { name := "fnCycles", fn := fun _ => fun
  | [d] => { results := [.lit (.bool true)], args := [d] }
  | _ => none }
def fnCyclesRow : OpenClaim := { program := "ytdjaiijgdflopaa", sum := "60c70776f4ee163859c6efc4b9d9a350794def49fdce85f2e7ad406c2bbc14e0", func := "loop.example/g00827/laws.FnCycles", spec := "fnCycles", unfollowed := true, recurses := true, apart := false }
def FnCyclesSaid : Prop := fnCyclesRow.holds Try.pinned (OpenSpec.ofChange fnCyclesSpec)

/-- ITS FALSE NEIGHBOUR: 'it returns false'. Refute it at one input. -/
def fnCyclesWrong : ChangeSpec := { name := "fnCycles", fn := fun _ => fun
  | [d] => { results := [.lit (.bool false)], args := [d] }
  | _ => none }
def FnCyclesWrongFalsely : Prop := fnCyclesRow.holds Try.pinned (OpenSpec.ofChange fnCyclesWrong)

/-- 'laws.FnTightened': WHATEVER THE INPUT: true; the input reads as it did. -/
def fnTightenedSpec : ChangeSpec := { name := "fnTightened", fn := fun _ => fun
  | [d] => { results := [.lit (.bool true)], args := [d] }
  | _ => none }
def fnTightenedRow : OpenClaim := { program := "ytdjaiijgdflopaa", sum := "60c70776f4ee163859c6efc4b9d9a350794def49fdce85f2e7ad406c2bbc14e0", func := "loop.example/g00827/laws.FnTightened", spec := "fnTightened", unfollowed := true, recurses := true, apart := false }
def FnTightenedSaid : Prop := fnTightenedRow.holds Try.pinned (OpenSpec.ofChange fnTightenedSpec)

/-- ITS FALSE NEIGHBOUR: 'it returns false'. Refute it at one input. -/
def fnTightenedWrong : ChangeSpec := { name := "fnTightened", fn := fun _ => fun
  | [d] => { results := [.lit (.bool false)], args := [d] }
  | _ => none }
def FnTightenedWrongFalsely : Prop := fnTightenedRow.holds Try.pinned (OpenSpec.ofChange fnTightenedWrong)

/-- 'laws.FnExactTableOk': WHATEVER THE INPUT: true; the input reads as it did. -/
def fnExactTableOkSpec : ChangeSpec := { name := "fnExactTableOk", fn := fun _ => fun
  | [d] => { results := [.lit (.bool true)], args := [d] }
  | _ => none }
def fnExactTableOkRow : OpenClaim := { program := "ytdjaiijgdflopaa", sum := "60c70776f4ee163859c6efc4b9d9a350794def49fdce85f2e7ad406c2bbc14e0", func := "loop.example/g00827/laws.FnExactTableOk", spec := "fnExactTableOk", apart := false }
def FnExactTableOkSaid : Prop := fnExactTableOkRow.holds Try.pinned (OpenSpec.ofChange fnExactTableOkSpec)

/-- ITS FALSE NEIGHBOUR: 'it returns false'. Refute it at one input. -/
def fnExactTableOkWrong : ChangeSpec := { name := "fnExactTableOk", fn := fun _ => fun
  | [d] => { results := [.lit (.bool false)], args := [d] }
  | _ => none }
def FnExactTableOkWrongFalsely : Prop := fnExactTableOkRow.holds Try.pinned (OpenSpec.ofChange fnExactTableOkWrong)

/-- 'laws.FnExactCellOf': WHATEVER THE INPUT: true; the input reads as it did. -/
def fnExactCellOfSpec : ChangeSpec := { name := "fnExactCellOf", fn := fun _ => fun
  | [d1, d2, d3] => { results := [.lit (.bool true)], args := [d1, d2, d3] }
  | _ => none }
def fnExactCellOfRow : OpenClaim := { program := "ytdjaiijgdflopaa", sum := "60c70776f4ee163859c6efc4b9d9a350794def49fdce85f2e7ad406c2bbc14e0", func := "loop.example/g00827/laws.FnExactCellOf", spec := "fnExactCellOf", apart := false }
def FnExactCellOfSaid : Prop := fnExactCellOfRow.holds Try.pinned (OpenSpec.ofChange fnExactCellOfSpec)

/-- ITS FALSE NEIGHBOUR: 'it returns false'. Refute it at one input. -/
def fnExactCellOfWrong : ChangeSpec := { name := "fnExactCellOf", fn := fun _ => fun
  | [d1, d2, d3] => { results := [.lit (.bool false)], args := [d1, d2, d3] }
  | _ => none }
def FnExactCellOfWrongFalsely : Prop := fnExactCellOfRow.holds Try.pinned (OpenSpec.ofChange fnExactCellOfWrong)

/-- 'laws.FnExactCloseGraph': WHATEVER THE INPUT: true; the input reads as it did. -/
def fnExactCloseGraphSpec : ChangeSpec := { name := "fnExactCloseGraph", fn := fun _ => fun
  | [d] => { results := [.lit (.bool true)], args := [d] }
  | _ => none }
def fnExactCloseGraphRow : OpenClaim := { program := "ytdjaiijgdflopaa", sum := "60c70776f4ee163859c6efc4b9d9a350794def49fdce85f2e7ad406c2bbc14e0", func := "loop.example/g00827/laws.FnExactCloseGraph", spec := "fnExactCloseGraph", unfollowed := true, recurses := true, apart := false }
def FnExactCloseGraphSaid : Prop := fnExactCloseGraphRow.holds Try.pinned (OpenSpec.ofChange fnExactCloseGraphSpec)

/-- ITS FALSE NEIGHBOUR: 'it returns false'. Refute it at one input. -/
def fnExactCloseGraphWrong : ChangeSpec := { name := "fnExactCloseGraph", fn := fun _ => fun
  | [d] => { results := [.lit (.bool false)], args := [d] }
  | _ => none }
def FnExactCloseGraphWrongFalsely : Prop := fnExactCloseGraphRow.holds Try.pinned (OpenSpec.ofChange fnExactCloseGraphWrong)

/-- 'laws.FnExactIsClosed': WHATEVER THE INPUT: true; the input reads as it did. -/
def fnExactIsClosedSpec : ChangeSpec := { name := "fnExactIsClosed", fn := fun _ => fun
  | [d] => { results := [.lit (.bool true)], args := [d] }
  | _ => none }
def fnExactIsClosedRow : OpenClaim := { program := "ytdjaiijgdflopaa", sum := "60c70776f4ee163859c6efc4b9d9a350794def49fdce85f2e7ad406c2bbc14e0", func := "loop.example/g00827/laws.FnExactIsClosed", spec := "fnExactIsClosed", apart := false }
def FnExactIsClosedSaid : Prop := fnExactIsClosedRow.holds Try.pinned (OpenSpec.ofChange fnExactIsClosedSpec)

/-- ITS FALSE NEIGHBOUR: 'it returns false'. Refute it at one input. -/
def fnExactIsClosedWrong : ChangeSpec := { name := "fnExactIsClosed", fn := fun _ => fun
  | [d] => { results := [.lit (.bool false)], args := [d] }
  | _ => none }
def FnExactIsClosedWrongFalsely : Prop := fnExactIsClosedRow.holds Try.pinned (OpenSpec.ofChange fnExactIsClosedWrong)

/-- 'laws.FnExactTightenTable': WHATEVER THE INPUT: true; the input reads as it did. -/
def fnExactTightenTableSpec : ChangeSpec := { name := "fnExactTightenTable", fn := fun _ => fun
  | [d1, d2] => { results := [.lit (.bool true)], args := [d1, d2] }
  | _ => none }
def fnExactTightenTableRow : OpenClaim := { program := "ytdjaiijgdflopaa", sum := "60c70776f4ee163859c6efc4b9d9a350794def49fdce85f2e7ad406c2bbc14e0", func := "loop.example/g00827/laws.FnExactTightenTable", spec := "fnExactTightenTable", apart := false }
def FnExactTightenTableSaid : Prop := fnExactTightenTableRow.holds Try.pinned (OpenSpec.ofChange fnExactTightenTableSpec)

/-- ITS FALSE NEIGHBOUR: 'it returns false'. Refute it at one input. -/
def fnExactTightenTableWrong : ChangeSpec := { name := "fnExactTightenTable", fn := fun _ => fun
  | [d1, d2] => { results := [.lit (.bool false)], args := [d1, d2] }
  | _ => none }
def FnExactTightenTableWrongFalsely : Prop := fnExactTightenTableRow.holds Try.pinned (OpenSpec.ofChange fnExactTightenTableWrong)

/-- 'laws.FnExactWindowBetween': WHATEVER THE INPUT: true; the input reads as it did. -/
def fnExactWindowBetweenSpec : ChangeSpec := { name := "fnExactWindowBetween", fn := fun _ => fun
  | [d1, d2, d3] => { results := [.lit (.bool true)], args := [d1, d2, d3] }
  | _ => none }
def fnExactWindowBetweenRow : OpenClaim := { program := "ytdjaiijgdflopaa", sum := "60c70776f4ee163859c6efc4b9d9a350794def49fdce85f2e7ad406c2bbc14e0", func := "loop.example/g00827/laws.FnExactWindowBetween", spec := "fnExactWindowBetween", apart := false }
def FnExactWindowBetweenSaid : Prop := fnExactWindowBetweenRow.holds Try.pinned (OpenSpec.ofChange fnExactWindowBetweenSpec)

/-- ITS FALSE NEIGHBOUR: 'it returns false'. Refute it at one input. -/
def fnExactWindowBetweenWrong : ChangeSpec := { name := "fnExactWindowBetween", fn := fun _ => fun
  | [d1, d2, d3] => { results := [.lit (.bool false)], args := [d1, d2, d3] }
  | _ => none }
def FnExactWindowBetweenWrongFalsely : Prop := fnExactWindowBetweenRow.holds Try.pinned (OpenSpec.ofChange fnExactWindowBetweenWrong)

/-- 'laws.FnExactEdgesOf': WHATEVER THE INPUT: true; the input reads as it did. -/
def fnExactEdgesOfSpec : ChangeSpec := { name := "fnExactEdgesOf", fn := fun _ => fun
  | [d] => { results := [.lit (.bool true)], args := [d] }
  | _ => none }
def fnExactEdgesOfRow : OpenClaim := { program := "ytdjaiijgdflopaa", sum := "60c70776f4ee163859c6efc4b9d9a350794def49fdce85f2e7ad406c2bbc14e0", func := "loop.example/g00827/laws.FnExactEdgesOf", spec := "fnExactEdgesOf", apart := false }
def FnExactEdgesOfSaid : Prop := fnExactEdgesOfRow.holds Try.pinned (OpenSpec.ofChange fnExactEdgesOfSpec)

/-- ITS FALSE NEIGHBOUR: 'it returns false'. Refute it at one input. -/
def fnExactEdgesOfWrong : ChangeSpec := { name := "fnExactEdgesOf", fn := fun _ => fun
  | [d] => { results := [.lit (.bool false)], args := [d] }
  | _ => none }
def FnExactEdgesOfWrongFalsely : Prop := fnExactEdgesOfRow.holds Try.pinned (OpenSpec.ofChange fnExactEdgesOfWrong)

/- THE SECOND FORM. 'bulk': how many values and letters a reading holds, each counted each time it is reached (what is shared counts as often as it is met; a slice's spare places count too). A statement '..UptoSaid' is the law's where the arguments, and the package variables that the reading takes, are together of bulk at most 1048576: NARROWER than '..Said'. Prove '..Said' where nothing that the law and all that it calls make is longer than what came in: it says more and counts as full. Else prove '..UptoSaid'. A law counts once. -/
mutual
def uptoBulk {H : Type} : DataW H → Nat
  | .lit (.string bytes) => bytes.length + 1
  | .lit _ => 1
  | .nil => 1
  | .ptr d => uptoBulk d + 1
  | .slice elems spare => uptoBulkAll elems + uptoBulkAll spare + 1
  | .agg parts => uptoBulkAll parts + 1
  | .iface _ d => uptoBulk d + 1
  | .map entries => uptoBulkEntries entries + 1
  | .held _ => 1
def uptoBulkAll {H : Type} : List (DataW H) → Nat
  | [] => 0
  | d :: r => uptoBulk d + uptoBulkAll r
def uptoBulkEntries {H : Type} : List (Lit × DataW H) → Nat
  | [] => 0
  | x :: r => uptoBulkEntry x + uptoBulkEntries r
def uptoBulkEntry {H : Type} : Lit × DataW H → Nat
  | (.string bytes, d) => bytes.length + uptoBulk d + 1
  | (_, d) => uptoBulk d + 1
 end
def uptoSmall : (H : Type) → List (DataW H) → Bool := fun _ ds => decide (uptoBulkAll ds ≤ 1048576)
def OpenSpec.upto (s : _root_.Go.ChangeSpec) : _root_.Go.OpenSpec := { _root_.Go.OpenSpec.ofChange s with cond := some uptoSmall }

/-- 'laws.FnDistances', WHERE WHAT IT READS IS OF BULK AT MOST 1048576: true; the input reads as it did. -/
def fnDistancesUptoRow : OpenClaim := { program := "ytdjaiijgdflopaa", sum := "60c70776f4ee163859c6efc4b9d9a350794def49fdce85f2e7ad406c2bbc14e0", func := "loop.example/g00827/laws.FnDistances", spec := "fnDistances", unfollowed := true, recurses := true, apart := false, narrowed := true }
def FnDistancesUptoSaid : Prop := fnDistancesUptoRow.holds Try.pinned (OpenSpec.upto fnDistancesSpec)

/-- 'laws.FnCycles', WHERE WHAT IT READS IS OF BULK AT MOST 1048576: true; the input reads as it did. -/
def fnCyclesUptoRow : OpenClaim := { program := "ytdjaiijgdflopaa", sum := "60c70776f4ee163859c6efc4b9d9a350794def49fdce85f2e7ad406c2bbc14e0", func := "loop.example/g00827/laws.FnCycles", spec := "fnCycles", unfollowed := true, recurses := true, apart := false, narrowed := true }
def FnCyclesUptoSaid : Prop := fnCyclesUptoRow.holds Try.pinned (OpenSpec.upto fnCyclesSpec)

/-- 'laws.FnTightened', WHERE WHAT IT READS IS OF BULK AT MOST 1048576: true; the input reads as it did. -/
def fnTightenedUptoRow : OpenClaim := { program := "ytdjaiijgdflopaa", sum := "60c70776f4ee163859c6efc4b9d9a350794def49fdce85f2e7ad406c2bbc14e0", func := "loop.example/g00827/laws.FnTightened", spec := "fnTightened", unfollowed := true, recurses := true, apart := false, narrowed := true }
def FnTightenedUptoSaid : Prop := fnTightenedUptoRow.holds Try.pinned (OpenSpec.upto fnTightenedSpec)

/-- 'laws.FnExactTableOk', WHERE WHAT IT READS IS OF BULK AT MOST 1048576: true; the input reads as it did. -/
def fnExactTableOkUptoRow : OpenClaim := { program := "ytdjaiijgdflopaa", sum := "60c70776f4ee163859c6efc4b9d9a350794def49fdce85f2e7ad406c2bbc14e0", func := "loop.example/g00827/laws.FnExactTableOk", spec := "fnExactTableOk", apart := false, narrowed := true }
def FnExactTableOkUptoSaid : Prop := fnExactTableOkUptoRow.holds Try.pinned (OpenSpec.upto fnExactTableOkSpec)

/-- 'laws.FnExactCellOf', WHERE WHAT IT READS IS OF BULK AT MOST 1048576: true; the input reads as it did. -/
def fnExactCellOfUptoRow : OpenClaim := { program := "ytdjaiijgdflopaa", sum := "60c70776f4ee163859c6efc4b9d9a350794def49fdce85f2e7ad406c2bbc14e0", func := "loop.example/g00827/laws.FnExactCellOf", spec := "fnExactCellOf", apart := false, narrowed := true }
def FnExactCellOfUptoSaid : Prop := fnExactCellOfUptoRow.holds Try.pinned (OpenSpec.upto fnExactCellOfSpec)

/-- 'laws.FnExactCloseGraph', WHERE WHAT IT READS IS OF BULK AT MOST 1048576: true; the input reads as it did. -/
def fnExactCloseGraphUptoRow : OpenClaim := { program := "ytdjaiijgdflopaa", sum := "60c70776f4ee163859c6efc4b9d9a350794def49fdce85f2e7ad406c2bbc14e0", func := "loop.example/g00827/laws.FnExactCloseGraph", spec := "fnExactCloseGraph", unfollowed := true, recurses := true, apart := false, narrowed := true }
def FnExactCloseGraphUptoSaid : Prop := fnExactCloseGraphUptoRow.holds Try.pinned (OpenSpec.upto fnExactCloseGraphSpec)

/-- 'laws.FnExactIsClosed', WHERE WHAT IT READS IS OF BULK AT MOST 1048576: true; the input reads as it did. -/
def fnExactIsClosedUptoRow : OpenClaim := { program := "ytdjaiijgdflopaa", sum := "60c70776f4ee163859c6efc4b9d9a350794def49fdce85f2e7ad406c2bbc14e0", func := "loop.example/g00827/laws.FnExactIsClosed", spec := "fnExactIsClosed", apart := false, narrowed := true }
def FnExactIsClosedUptoSaid : Prop := fnExactIsClosedUptoRow.holds Try.pinned (OpenSpec.upto fnExactIsClosedSpec)

/-- 'laws.FnExactTightenTable', WHERE WHAT IT READS IS OF BULK AT MOST 1048576: true; the input reads as it did. -/
def fnExactTightenTableUptoRow : OpenClaim := { program := "ytdjaiijgdflopaa", sum := "60c70776f4ee163859c6efc4b9d9a350794def49fdce85f2e7ad406c2bbc14e0", func := "loop.example/g00827/laws.FnExactTightenTable", spec := "fnExactTightenTable", apart := false, narrowed := true }
def FnExactTightenTableUptoSaid : Prop := fnExactTightenTableUptoRow.holds Try.pinned (OpenSpec.upto fnExactTightenTableSpec)

/-- 'laws.FnExactWindowBetween', WHERE WHAT IT READS IS OF BULK AT MOST 1048576: true; the input reads as it did. -/
def fnExactWindowBetweenUptoRow : OpenClaim := { program := "ytdjaiijgdflopaa", sum := "60c70776f4ee163859c6efc4b9d9a350794def49fdce85f2e7ad406c2bbc14e0", func := "loop.example/g00827/laws.FnExactWindowBetween", spec := "fnExactWindowBetween", apart := false, narrowed := true }
def FnExactWindowBetweenUptoSaid : Prop := fnExactWindowBetweenUptoRow.holds Try.pinned (OpenSpec.upto fnExactWindowBetweenSpec)

/-- 'laws.FnExactEdgesOf', WHERE WHAT IT READS IS OF BULK AT MOST 1048576: true; the input reads as it did. -/
def fnExactEdgesOfUptoRow : OpenClaim := { program := "ytdjaiijgdflopaa", sum := "60c70776f4ee163859c6efc4b9d9a350794def49fdce85f2e7ad406c2bbc14e0", func := "loop.example/g00827/laws.FnExactEdgesOf", spec := "fnExactEdgesOf", apart := false, narrowed := true }
def FnExactEdgesOfUptoSaid : Prop := fnExactEdgesOfUptoRow.holds Try.pinned (OpenSpec.upto fnExactEdgesOfSpec)

end Rows
end Go.Proofs.Ytdjaiijgdflopaa
