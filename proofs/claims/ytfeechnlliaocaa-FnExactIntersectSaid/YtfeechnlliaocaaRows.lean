/-
  No cell of these rows narrows 'for every input' (looked for: loops, veiled, ifaces, maps, wideKeys, modest, calm, conditions, laid).
  DERIVED. THE GIVEN ROWS OF THIS SEAT. 8 by the template 'for every input the law returns true; each argument reads behind the call as it read before'; 0 by the template 'total and deterministic' (their statements: YtfeechnlliaocaaTotals.lean).
  GIVEN WITH THE SEED: the statements are not yours to turn. If you find one false, say at which input.
  Laid BY PROGRAM, IN A SANDBOX (cutbox-rows.mjs): the forced cells as the released guide's own fill.sh prints them over the translation 80ae619607bb9eae… (all of the seat's roots in one cut). By AI agents, Wed Nov 11 2026. No macro, syntax, notation, axiom, sorry.
-/
import Derived.Test.YtfeechnlliaocaaChecked
import GoSem.Claim
import GoSem.ClaimJoined
import GoSem.ClaimMapViews
import Derived.JoinedTies
import Derived.KernelRfl
namespace Go.Proofs.Ytfeechnlliaocaa
/- THE CELL 'sum', in the pinned program and in every row, IS THE sha256 OF THE DUMP (.gsa) THAT YtfeechnlliaocaaProg.lean LOADS. Nothing in Lean hashes anything: it is a label: what it is worth is what the hold of that sum in a sandbox is worth. -/
noncomputable def Try.pinned : Pinned := { name := "ytfeechnlliaocaa", sum := "80ae619607bb9eaec6b1d93ce96ce6fc0aa6398527d8c8169e8cb675d2342618", checked := Try.checked }
namespace Rows
def none {H : Type} : Left H := { results := [], args := [] }

/-- 'laws.FnExactIntervalOk': WHATEVER THE INPUT: true; the input reads as it did. -/
def fnExactIntervalOkSpec : ChangeSpec := { name := "fnExactIntervalOk", fn := fun _ => fun
  | [d] => { results := [.lit (.bool true)], args := [d] }
  | _ => none }
def fnExactIntervalOkRow : OpenClaim := { program := "ytfeechnlliaocaa", sum := "80ae619607bb9eaec6b1d93ce96ce6fc0aa6398527d8c8169e8cb675d2342618", func := "loop.example/g00827/laws.FnExactIntervalOk", spec := "fnExactIntervalOk", apart := false }
def FnExactIntervalOkSaid : Prop := fnExactIntervalOkRow.holds Try.pinned (OpenSpec.ofChange fnExactIntervalOkSpec)

/-- ITS FALSE NEIGHBOUR: 'it returns false'. Refute it at one input. -/
def fnExactIntervalOkWrong : ChangeSpec := { name := "fnExactIntervalOk", fn := fun _ => fun
  | [d] => { results := [.lit (.bool false)], args := [d] }
  | _ => none }
def FnExactIntervalOkWrongFalsely : Prop := fnExactIntervalOkRow.holds Try.pinned (OpenSpec.ofChange fnExactIntervalOkWrong)

/-- 'laws.FnExactContains': WHATEVER THE INPUT: true; the input reads as it did. -/
def fnExactContainsSpec : ChangeSpec := { name := "fnExactContains", fn := fun _ => fun
  | [d1, d2] => { results := [.lit (.bool true)], args := [d1, d2] }
  | _ => none }
def fnExactContainsRow : OpenClaim := { program := "ytfeechnlliaocaa", sum := "80ae619607bb9eaec6b1d93ce96ce6fc0aa6398527d8c8169e8cb675d2342618", func := "loop.example/g00827/laws.FnExactContains", spec := "fnExactContains", apart := false }
def FnExactContainsSaid : Prop := fnExactContainsRow.holds Try.pinned (OpenSpec.ofChange fnExactContainsSpec)

/-- ITS FALSE NEIGHBOUR: 'it returns false'. Refute it at one input. -/
def fnExactContainsWrong : ChangeSpec := { name := "fnExactContains", fn := fun _ => fun
  | [d1, d2] => { results := [.lit (.bool false)], args := [d1, d2] }
  | _ => none }
def FnExactContainsWrongFalsely : Prop := fnExactContainsRow.holds Try.pinned (OpenSpec.ofChange fnExactContainsWrong)

/-- 'laws.FnExactClampBound': WHATEVER THE INPUT: true; the input reads as it did. -/
def fnExactClampBoundSpec : ChangeSpec := { name := "fnExactClampBound", fn := fun _ => fun
  | [d] => { results := [.lit (.bool true)], args := [d] }
  | _ => none }
def fnExactClampBoundRow : OpenClaim := { program := "ytfeechnlliaocaa", sum := "80ae619607bb9eaec6b1d93ce96ce6fc0aa6398527d8c8169e8cb675d2342618", func := "loop.example/g00827/laws.FnExactClampBound", spec := "fnExactClampBound", apart := false }
def FnExactClampBoundSaid : Prop := fnExactClampBoundRow.holds Try.pinned (OpenSpec.ofChange fnExactClampBoundSpec)

/-- ITS FALSE NEIGHBOUR: 'it returns false'. Refute it at one input. -/
def fnExactClampBoundWrong : ChangeSpec := { name := "fnExactClampBound", fn := fun _ => fun
  | [d] => { results := [.lit (.bool false)], args := [d] }
  | _ => none }
def FnExactClampBoundWrongFalsely : Prop := fnExactClampBoundRow.holds Try.pinned (OpenSpec.ofChange fnExactClampBoundWrong)

/-- 'laws.FnExactAddBounds': WHATEVER THE INPUT: true; the input reads as it did. -/
def fnExactAddBoundsSpec : ChangeSpec := { name := "fnExactAddBounds", fn := fun _ => fun
  | [d1, d2] => { results := [.lit (.bool true)], args := [d1, d2] }
  | _ => none }
def fnExactAddBoundsRow : OpenClaim := { program := "ytfeechnlliaocaa", sum := "80ae619607bb9eaec6b1d93ce96ce6fc0aa6398527d8c8169e8cb675d2342618", func := "loop.example/g00827/laws.FnExactAddBounds", spec := "fnExactAddBounds", apart := false }
def FnExactAddBoundsSaid : Prop := fnExactAddBoundsRow.holds Try.pinned (OpenSpec.ofChange fnExactAddBoundsSpec)

/-- ITS FALSE NEIGHBOUR: 'it returns false'. Refute it at one input. -/
def fnExactAddBoundsWrong : ChangeSpec := { name := "fnExactAddBounds", fn := fun _ => fun
  | [d1, d2] => { results := [.lit (.bool false)], args := [d1, d2] }
  | _ => none }
def FnExactAddBoundsWrongFalsely : Prop := fnExactAddBoundsRow.holds Try.pinned (OpenSpec.ofChange fnExactAddBoundsWrong)

/-- 'laws.FnExactAddIntervals': WHATEVER THE INPUT: true; the input reads as it did. -/
def fnExactAddIntervalsSpec : ChangeSpec := { name := "fnExactAddIntervals", fn := fun _ => fun
  | [d1, d2] => { results := [.lit (.bool true)], args := [d1, d2] }
  | _ => none }
def fnExactAddIntervalsRow : OpenClaim := { program := "ytfeechnlliaocaa", sum := "80ae619607bb9eaec6b1d93ce96ce6fc0aa6398527d8c8169e8cb675d2342618", func := "loop.example/g00827/laws.FnExactAddIntervals", spec := "fnExactAddIntervals", apart := false }
def FnExactAddIntervalsSaid : Prop := fnExactAddIntervalsRow.holds Try.pinned (OpenSpec.ofChange fnExactAddIntervalsSpec)

/-- ITS FALSE NEIGHBOUR: 'it returns false'. Refute it at one input. -/
def fnExactAddIntervalsWrong : ChangeSpec := { name := "fnExactAddIntervals", fn := fun _ => fun
  | [d1, d2] => { results := [.lit (.bool false)], args := [d1, d2] }
  | _ => none }
def FnExactAddIntervalsWrongFalsely : Prop := fnExactAddIntervalsRow.holds Try.pinned (OpenSpec.ofChange fnExactAddIntervalsWrong)

/-- 'laws.FnExactReverseInterval': WHATEVER THE INPUT: true; the input reads as it did. -/
def fnExactReverseIntervalSpec : ChangeSpec := { name := "fnExactReverseInterval", fn := fun _ => fun
  | [d] => { results := [.lit (.bool true)], args := [d] }
  | _ => none }
def fnExactReverseIntervalRow : OpenClaim := { program := "ytfeechnlliaocaa", sum := "80ae619607bb9eaec6b1d93ce96ce6fc0aa6398527d8c8169e8cb675d2342618", func := "loop.example/g00827/laws.FnExactReverseInterval", spec := "fnExactReverseInterval", apart := false }
def FnExactReverseIntervalSaid : Prop := fnExactReverseIntervalRow.holds Try.pinned (OpenSpec.ofChange fnExactReverseIntervalSpec)

/-- ITS FALSE NEIGHBOUR: 'it returns false'. Refute it at one input. -/
def fnExactReverseIntervalWrong : ChangeSpec := { name := "fnExactReverseInterval", fn := fun _ => fun
  | [d] => { results := [.lit (.bool false)], args := [d] }
  | _ => none }
def FnExactReverseIntervalWrongFalsely : Prop := fnExactReverseIntervalRow.holds Try.pinned (OpenSpec.ofChange fnExactReverseIntervalWrong)

/-- 'laws.FnExactIntersect': WHATEVER THE INPUT: true; the input reads as it did. -/
def fnExactIntersectSpec : ChangeSpec := { name := "fnExactIntersect", fn := fun _ => fun
  | [d1, d2] => { results := [.lit (.bool true)], args := [d1, d2] }
  | _ => none }
def fnExactIntersectRow : OpenClaim := { program := "ytfeechnlliaocaa", sum := "80ae619607bb9eaec6b1d93ce96ce6fc0aa6398527d8c8169e8cb675d2342618", func := "loop.example/g00827/laws.FnExactIntersect", spec := "fnExactIntersect", apart := false }
def FnExactIntersectSaid : Prop := fnExactIntersectRow.holds Try.pinned (OpenSpec.ofChange fnExactIntersectSpec)

/-- ITS FALSE NEIGHBOUR: 'it returns false'. Refute it at one input. -/
def fnExactIntersectWrong : ChangeSpec := { name := "fnExactIntersect", fn := fun _ => fun
  | [d1, d2] => { results := [.lit (.bool false)], args := [d1, d2] }
  | _ => none }
def FnExactIntersectWrongFalsely : Prop := fnExactIntersectRow.holds Try.pinned (OpenSpec.ofChange fnExactIntersectWrong)

/-- 'laws.FnExactHull': WHATEVER THE INPUT: true; the input reads as it did. -/
def fnExactHullSpec : ChangeSpec := { name := "fnExactHull", fn := fun _ => fun
  | [d1, d2] => { results := [.lit (.bool true)], args := [d1, d2] }
  | _ => none }
def fnExactHullRow : OpenClaim := { program := "ytfeechnlliaocaa", sum := "80ae619607bb9eaec6b1d93ce96ce6fc0aa6398527d8c8169e8cb675d2342618", func := "loop.example/g00827/laws.FnExactHull", spec := "fnExactHull", apart := false }
def FnExactHullSaid : Prop := fnExactHullRow.holds Try.pinned (OpenSpec.ofChange fnExactHullSpec)

/-- ITS FALSE NEIGHBOUR: 'it returns false'. Refute it at one input. -/
def fnExactHullWrong : ChangeSpec := { name := "fnExactHull", fn := fun _ => fun
  | [d1, d2] => { results := [.lit (.bool false)], args := [d1, d2] }
  | _ => none }
def FnExactHullWrongFalsely : Prop := fnExactHullRow.holds Try.pinned (OpenSpec.ofChange fnExactHullWrong)

/- THE SECOND FORM. 'bulk': how many values and letters a reading holds, each counted each time it is reached (what is shared counts as often as it is met; a slice's spare places count too). A statement '..UptoSaid' is the law's where the arguments, and the package variables that the reading takes, are together of bulk at most 1048576: NARROWER than '..Said'. Prove '..Said' where nothing that the law and all that it calls make is longer than what came in: it says more and counts as full. Else prove '..UptoSaid'. A law counts once. -/
mutual
def uptoBulk {H : Type} : DataW H → Nat
  | .lit (.string bytes) => bytes.length + 1
  | .lit _ => 1
  | .nil => 1
  | .ptr d => uptoBulk d + 1
  | .slice elems spare => uptoBulkAll elems + uptoBulkAll spare + 1
  | .agg parts => uptoBulkAll parts + 1
  | .iface _ d => uptoBulk d + 1
  | .map entries => uptoBulkEntries entries + 1
  | .held _ => 1
def uptoBulkAll {H : Type} : List (DataW H) → Nat
  | [] => 0
  | d :: r => uptoBulk d + uptoBulkAll r
def uptoBulkEntries {H : Type} : List (Lit × DataW H) → Nat
  | [] => 0
  | x :: r => uptoBulkEntry x + uptoBulkEntries r
def uptoBulkEntry {H : Type} : Lit × DataW H → Nat
  | (.string bytes, d) => bytes.length + uptoBulk d + 1
  | (_, d) => uptoBulk d + 1
 end
def uptoSmall : (H : Type) → List (DataW H) → Bool := fun _ ds => decide (uptoBulkAll ds ≤ 1048576)
def OpenSpec.upto (s : _root_.Go.ChangeSpec) : _root_.Go.OpenSpec := { _root_.Go.OpenSpec.ofChange s with cond := some uptoSmall }

/-- 'laws.FnExactIntervalOk', WHERE WHAT IT READS IS OF BULK AT MOST 1048576: true; the input reads as it did. -/
def fnExactIntervalOkUptoRow : OpenClaim := { program := "ytfeechnlliaocaa", sum := "80ae619607bb9eaec6b1d93ce96ce6fc0aa6398527d8c8169e8cb675d2342618", func := "loop.example/g00827/laws.FnExactIntervalOk", spec := "fnExactIntervalOk", apart := false, narrowed := true }
def FnExactIntervalOkUptoSaid : Prop := fnExactIntervalOkUptoRow.holds Try.pinned (OpenSpec.upto fnExactIntervalOkSpec)

/-- 'laws.FnExactContains', WHERE WHAT IT READS IS OF BULK AT MOST 1048576: true; the input reads as it did. -/
def fnExactContainsUptoRow : OpenClaim := { program := "ytfeechnlliaocaa", sum := "80ae619607bb9eaec6b1d93ce96ce6fc0aa6398527d8c8169e8cb675d2342618", func := "loop.example/g00827/laws.FnExactContains", spec := "fnExactContains", apart := false, narrowed := true }
def FnExactContainsUptoSaid : Prop := fnExactContainsUptoRow.holds Try.pinned (OpenSpec.upto fnExactContainsSpec)

/-- 'laws.FnExactClampBound', WHERE WHAT IT READS IS OF BULK AT MOST 1048576: true; the input reads as it did. -/
def fnExactClampBoundUptoRow : OpenClaim := { program := "ytfeechnlliaocaa", sum := "80ae619607bb9eaec6b1d93ce96ce6fc0aa6398527d8c8169e8cb675d2342618", func := "loop.example/g00827/laws.FnExactClampBound", spec := "fnExactClampBound", apart := false, narrowed := true }
def FnExactClampBoundUptoSaid : Prop := fnExactClampBoundUptoRow.holds Try.pinned (OpenSpec.upto fnExactClampBoundSpec)

/-- 'laws.FnExactAddBounds', WHERE WHAT IT READS IS OF BULK AT MOST 1048576: true; the input reads as it did. -/
def fnExactAddBoundsUptoRow : OpenClaim := { program := "ytfeechnlliaocaa", sum := "80ae619607bb9eaec6b1d93ce96ce6fc0aa6398527d8c8169e8cb675d2342618", func := "loop.example/g00827/laws.FnExactAddBounds", spec := "fnExactAddBounds", apart := false, narrowed := true }
def FnExactAddBoundsUptoSaid : Prop := fnExactAddBoundsUptoRow.holds Try.pinned (OpenSpec.upto fnExactAddBoundsSpec)

/-- 'laws.FnExactAddIntervals', WHERE WHAT IT READS IS OF BULK AT MOST 1048576: true; the input reads as it did. -/
def fnExactAddIntervalsUptoRow : OpenClaim := { program := "ytfeechnlliaocaa", sum := "80ae619607bb9eaec6b1d93ce96ce6fc0aa6398527d8c8169e8cb675d2342618", func := "loop.example/g00827/laws.FnExactAddIntervals", spec := "fnExactAddIntervals", apart := false, narrowed := true }
def FnExactAddIntervalsUptoSaid : Prop := fnExactAddIntervalsUptoRow.holds Try.pinned (OpenSpec.upto fnExactAddIntervalsSpec)

/-- 'laws.FnExactReverseInterval', WHERE WHAT IT READS IS OF BULK AT MOST 1048576: true; the input reads as it did. -/
def fnExactReverseIntervalUptoRow : OpenClaim := { program := "ytfeechnlliaocaa", sum := "80ae619607bb9eaec6b1d93ce96ce6fc0aa6398527d8c8169e8cb675d2342618", func := "loop.example/g00827/laws.FnExactReverseInterval", spec := "fnExactReverseInterval", apart := false, narrowed := true }
def FnExactReverseIntervalUptoSaid : Prop := fnExactReverseIntervalUptoRow.holds Try.pinned (OpenSpec.upto fnExactReverseIntervalSpec)

/-- 'laws.FnExactIntersect', WHERE WHAT IT READS IS OF BULK AT MOST 1048576: true; the input reads as it did. -/
def fnExactIntersectUptoRow : OpenClaim := { program := "ytfeechnlliaocaa", sum := "80ae619607bb9eaec6b1d93ce96ce6fc0aa6398527d8c8169e8cb675d2342618", func := "loop.example/g00827/laws.FnExactIntersect", spec := "fnExactIntersect", apart := false, narrowed := true }
def FnExactIntersectUptoSaid : Prop := fnExactIntersectUptoRow.holds Try.pinned (OpenSpec.upto fnExactIntersectSpec)

/-- 'laws.FnExactHull', WHERE WHAT IT READS IS OF BULK AT MOST 1048576: true; the input reads as it did. -/
def fnExactHullUptoRow : OpenClaim := { program := "ytfeechnlliaocaa", sum := "80ae619607bb9eaec6b1d93ce96ce6fc0aa6398527d8c8169e8cb675d2342618", func := "loop.example/g00827/laws.FnExactHull", spec := "fnExactHull", apart := false, narrowed := true }
def FnExactHullUptoSaid : Prop := fnExactHullUptoRow.holds Try.pinned (OpenSpec.upto fnExactHullSpec)

end Rows
end Go.Proofs.Ytfeechnlliaocaa
