/-
  No cell of these rows narrows 'for every input' (looked for: loops, veiled, ifaces, maps, wideKeys, modest, calm, conditions, laid).
  DERIVED. THE GIVEN ROWS OF THIS SEAT. 8 by the template 'for every input the law returns true; each argument reads behind the call as it read before'; 0 by the template 'total and deterministic' (their statements: YtgnehihnkkoneaaTotals.lean).
  GIVEN WITH THE SEED: the statements are not yours to turn. If you find one false, say at which input.
  Laid BY PROGRAM, IN A SANDBOX (cutbox-rows.mjs): the forced cells as the released guide's own fill.sh prints them over the translation b94ad6281ab91e4a… (all of the seat's roots in one cut). By AI agents, Wed Nov 11 2026. No macro, syntax, notation, axiom, sorry.
-/
import Derived.Test.YtgnehihnkkoneaaChecked
import GoSem.Claim
import GoSem.ClaimJoined
import GoSem.ClaimMapViews
import Derived.JoinedTies
import Derived.KernelRfl
namespace Go.Proofs.Ytgnehihnkkoneaa
/- THE CELL 'sum', in the pinned program and in every row, IS THE sha256 OF THE DUMP (.gsa) THAT YtgnehihnkkoneaaProg.lean LOADS. Nothing in Lean hashes anything: it is a label: what it is worth is what the hold of that sum in a sandbox is worth. -/
noncomputable def Try.pinned : Pinned := { name := "ytgnehihnkkoneaa", sum := "b94ad6281ab91e4a3e6ff1927bbb607357972716484ac94a8f320d1b48c8914f", checked := Try.checked }
namespace Rows
def none {H : Type} : Left H := { results := [], args := [] }

/-- 'laws.FnExactNodeOk': WHATEVER THE INPUT: true; the input reads as it did. -/
def fnExactNodeOkSpec : ChangeSpec := { name := "fnExactNodeOk", fn := fun _ => fun
  | [d] => { results := [.lit (.bool true)], args := [d] }
  | _ => none }
def fnExactNodeOkRow : OpenClaim := { program := "ytgnehihnkkoneaa", sum := "b94ad6281ab91e4a3e6ff1927bbb607357972716484ac94a8f320d1b48c8914f", func := "loop.example/g00827/laws.FnExactNodeOk", spec := "fnExactNodeOk", apart := false }
def FnExactNodeOkSaid : Prop := fnExactNodeOkRow.holds Try.pinned (OpenSpec.ofChange fnExactNodeOkSpec)

/-- ITS FALSE NEIGHBOUR: 'it returns false'. Refute it at one input. -/
def fnExactNodeOkWrong : ChangeSpec := { name := "fnExactNodeOk", fn := fun _ => fun
  | [d] => { results := [.lit (.bool false)], args := [d] }
  | _ => none }
def FnExactNodeOkWrongFalsely : Prop := fnExactNodeOkRow.holds Try.pinned (OpenSpec.ofChange fnExactNodeOkWrong)

/-- 'laws.FnExactShowOk': WHATEVER THE INPUT: true; the input reads as it did. -/
def fnExactShowOkSpec : ChangeSpec := { name := "fnExactShowOk", fn := fun _ => fun
  | [d] => { results := [.lit (.bool true)], args := [d] }
  | _ => none }
def fnExactShowOkRow : OpenClaim := { program := "ytgnehihnkkoneaa", sum := "b94ad6281ab91e4a3e6ff1927bbb607357972716484ac94a8f320d1b48c8914f", func := "loop.example/g00827/laws.FnExactShowOk", spec := "fnExactShowOk", unfollowed := true, recurses := true, apart := false }
def FnExactShowOkSaid : Prop := fnExactShowOkRow.holds Try.pinned (OpenSpec.ofChange fnExactShowOkSpec)

/-- ITS FALSE NEIGHBOUR: 'it returns false'. Refute it at one input. -/
def fnExactShowOkWrong : ChangeSpec := { name := "fnExactShowOk", fn := fun _ => fun
  | [d] => { results := [.lit (.bool false)], args := [d] }
  | _ => none }
def FnExactShowOkWrongFalsely : Prop := fnExactShowOkRow.holds Try.pinned (OpenSpec.ofChange fnExactShowOkWrong)

/-- 'laws.FnExactFreeTie': WHATEVER THE INPUT: true; the input reads as it did. -/
def fnExactFreeTieSpec : ChangeSpec := { name := "fnExactFreeTie", fn := fun _ => fun
  | [d1, d2] => { results := [.lit (.bool true)], args := [d1, d2] }
  | _ => none }
def fnExactFreeTieRow : OpenClaim := { program := "ytgnehihnkkoneaa", sum := "b94ad6281ab91e4a3e6ff1927bbb607357972716484ac94a8f320d1b48c8914f", func := "loop.example/g00827/laws.FnExactFreeTie", spec := "fnExactFreeTie", unfollowed := true, recurses := true, apart := false }
def FnExactFreeTieSaid : Prop := fnExactFreeTieRow.holds Try.pinned (OpenSpec.ofChange fnExactFreeTieSpec)

/-- ITS FALSE NEIGHBOUR: 'it returns false'. Refute it at one input. -/
def fnExactFreeTieWrong : ChangeSpec := { name := "fnExactFreeTie", fn := fun _ => fun
  | [d1, d2] => { results := [.lit (.bool false)], args := [d1, d2] }
  | _ => none }
def FnExactFreeTieWrongFalsely : Prop := fnExactFreeTieRow.holds Try.pinned (OpenSpec.ofChange fnExactFreeTieWrong)

/-- 'laws.FnExactIsFree': WHATEVER THE INPUT: true; the input reads as it did. -/
def fnExactIsFreeSpec : ChangeSpec := { name := "fnExactIsFree", fn := fun _ => fun
  | [d1, d2] => { results := [.lit (.bool true)], args := [d1, d2] }
  | _ => none }
def fnExactIsFreeRow : OpenClaim := { program := "ytgnehihnkkoneaa", sum := "b94ad6281ab91e4a3e6ff1927bbb607357972716484ac94a8f320d1b48c8914f", func := "loop.example/g00827/laws.FnExactIsFree", spec := "fnExactIsFree", unfollowed := true, recurses := true, apart := false }
def FnExactIsFreeSaid : Prop := fnExactIsFreeRow.holds Try.pinned (OpenSpec.ofChange fnExactIsFreeSpec)

/-- ITS FALSE NEIGHBOUR: 'it returns false'. Refute it at one input. -/
def fnExactIsFreeWrong : ChangeSpec := { name := "fnExactIsFree", fn := fun _ => fun
  | [d1, d2] => { results := [.lit (.bool false)], args := [d1, d2] }
  | _ => none }
def FnExactIsFreeWrongFalsely : Prop := fnExactIsFreeRow.holds Try.pinned (OpenSpec.ofChange fnExactIsFreeWrong)

/-- 'laws.FnExactWatcherOf': WHATEVER THE INPUT: true; the input reads as it did. -/
def fnExactWatcherOfSpec : ChangeSpec := { name := "fnExactWatcherOf", fn := fun _ => fun
  | [d1, d2] => { results := [.lit (.bool true)], args := [d1, d2] }
  | _ => none }
def fnExactWatcherOfRow : OpenClaim := { program := "ytgnehihnkkoneaa", sum := "b94ad6281ab91e4a3e6ff1927bbb607357972716484ac94a8f320d1b48c8914f", func := "loop.example/g00827/laws.FnExactWatcherOf", spec := "fnExactWatcherOf", unfollowed := true, recurses := true, apart := false }
def FnExactWatcherOfSaid : Prop := fnExactWatcherOfRow.holds Try.pinned (OpenSpec.ofChange fnExactWatcherOfSpec)

/-- ITS FALSE NEIGHBOUR: 'it returns false'. Refute it at one input. -/
def fnExactWatcherOfWrong : ChangeSpec := { name := "fnExactWatcherOf", fn := fun _ => fun
  | [d1, d2] => { results := [.lit (.bool false)], args := [d1, d2] }
  | _ => none }
def FnExactWatcherOfWrongFalsely : Prop := fnExactWatcherOfRow.holds Try.pinned (OpenSpec.ofChange fnExactWatcherOfWrong)

/-- 'laws.FnExactNodeNamed': WHATEVER THE INPUT: true; the input reads as it did. -/
def fnExactNodeNamedSpec : ChangeSpec := { name := "fnExactNodeNamed", fn := fun _ => fun
  | [d1, d2] => { results := [.lit (.bool true)], args := [d1, d2] }
  | _ => none }
def fnExactNodeNamedRow : OpenClaim := { program := "ytgnehihnkkoneaa", sum := "b94ad6281ab91e4a3e6ff1927bbb607357972716484ac94a8f320d1b48c8914f", func := "loop.example/g00827/laws.FnExactNodeNamed", spec := "fnExactNodeNamed", unfollowed := true, recurses := true, apart := false }
def FnExactNodeNamedSaid : Prop := fnExactNodeNamedRow.holds Try.pinned (OpenSpec.ofChange fnExactNodeNamedSpec)

/-- ITS FALSE NEIGHBOUR: 'it returns false'. Refute it at one input. -/
def fnExactNodeNamedWrong : ChangeSpec := { name := "fnExactNodeNamed", fn := fun _ => fun
  | [d1, d2] => { results := [.lit (.bool false)], args := [d1, d2] }
  | _ => none }
def FnExactNodeNamedWrongFalsely : Prop := fnExactNodeNamedRow.holds Try.pinned (OpenSpec.ofChange fnExactNodeNamedWrong)

/-- 'laws.FnExactChosenNodes': WHATEVER THE INPUT: true; the input reads as it did. -/
def fnExactChosenNodesSpec : ChangeSpec := { name := "fnExactChosenNodes", fn := fun _ => fun
  | [d] => { results := [.lit (.bool true)], args := [d] }
  | _ => none }
def fnExactChosenNodesRow : OpenClaim := { program := "ytgnehihnkkoneaa", sum := "b94ad6281ab91e4a3e6ff1927bbb607357972716484ac94a8f320d1b48c8914f", func := "loop.example/g00827/laws.FnExactChosenNodes", spec := "fnExactChosenNodes", unfollowed := true, recurses := true, apart := false }
def FnExactChosenNodesSaid : Prop := fnExactChosenNodesRow.holds Try.pinned (OpenSpec.ofChange fnExactChosenNodesSpec)

/-- ITS FALSE NEIGHBOUR: 'it returns false'. Refute it at one input. -/
def fnExactChosenNodesWrong : ChangeSpec := { name := "fnExactChosenNodes", fn := fun _ => fun
  | [d] => { results := [.lit (.bool false)], args := [d] }
  | _ => none }
def FnExactChosenNodesWrongFalsely : Prop := fnExactChosenNodesRow.holds Try.pinned (OpenSpec.ofChange fnExactChosenNodesWrong)

/-- 'laws.FnExactSameShows': WHATEVER THE INPUT: true; the input reads as it did. -/
def fnExactSameShowsSpec : ChangeSpec := { name := "fnExactSameShows", fn := fun _ => fun
  | [d1, d2] => { results := [.lit (.bool true)], args := [d1, d2] }
  | _ => none }
def fnExactSameShowsRow : OpenClaim := { program := "ytgnehihnkkoneaa", sum := "b94ad6281ab91e4a3e6ff1927bbb607357972716484ac94a8f320d1b48c8914f", func := "loop.example/g00827/laws.FnExactSameShows", spec := "fnExactSameShows", unfollowed := true, recurses := true, apart := false }
def FnExactSameShowsSaid : Prop := fnExactSameShowsRow.holds Try.pinned (OpenSpec.ofChange fnExactSameShowsSpec)

/-- ITS FALSE NEIGHBOUR: 'it returns false'. Refute it at one input. -/
def fnExactSameShowsWrong : ChangeSpec := { name := "fnExactSameShows", fn := fun _ => fun
  | [d1, d2] => { results := [.lit (.bool false)], args := [d1, d2] }
  | _ => none }
def FnExactSameShowsWrongFalsely : Prop := fnExactSameShowsRow.holds Try.pinned (OpenSpec.ofChange fnExactSameShowsWrong)

/- THE SECOND FORM. 'bulk': how many values and letters a reading holds, each counted each time it is reached (what is shared counts as often as it is met; a slice's spare places count too). A statement '..UptoSaid' is the law's where the arguments, and the package variables that the reading takes, are together of bulk at most 1048576: NARROWER than '..Said'. Prove '..Said' where nothing that the law and all that it calls make is longer than what came in: it says more and counts as full. Else prove '..UptoSaid'. A law counts once. -/
mutual
def uptoBulk {H : Type} : DataW H → Nat
  | .lit (.string bytes) => bytes.length + 1
  | .lit _ => 1
  | .nil => 1
  | .ptr d => uptoBulk d + 1
  | .slice elems spare => uptoBulkAll elems + uptoBulkAll spare + 1
  | .agg parts => uptoBulkAll parts + 1
  | .iface _ d => uptoBulk d + 1
  | .map entries => uptoBulkEntries entries + 1
  | .held _ => 1
def uptoBulkAll {H : Type} : List (DataW H) → Nat
  | [] => 0
  | d :: r => uptoBulk d + uptoBulkAll r
def uptoBulkEntries {H : Type} : List (Lit × DataW H) → Nat
  | [] => 0
  | x :: r => uptoBulkEntry x + uptoBulkEntries r
def uptoBulkEntry {H : Type} : Lit × DataW H → Nat
  | (.string bytes, d) => bytes.length + uptoBulk d + 1
  | (_, d) => uptoBulk d + 1
 end
def uptoSmall : (H : Type) → List (DataW H) → Bool := fun _ ds => decide (uptoBulkAll ds ≤ 1048576)
def OpenSpec.upto (s : _root_.Go.ChangeSpec) : _root_.Go.OpenSpec := { _root_.Go.OpenSpec.ofChange s with cond := some uptoSmall }

/-- 'laws.FnExactNodeOk', WHERE WHAT IT READS IS OF BULK AT MOST 1048576: true; the input reads as it did. -/
def fnExactNodeOkUptoRow : OpenClaim := { program := "ytgnehihnkkoneaa", sum := "b94ad6281ab91e4a3e6ff1927bbb607357972716484ac94a8f320d1b48c8914f", func := "loop.example/g00827/laws.FnExactNodeOk", spec := "fnExactNodeOk", apart := false, narrowed := true }
def FnExactNodeOkUptoSaid : Prop := fnExactNodeOkUptoRow.holds Try.pinned (OpenSpec.upto fnExactNodeOkSpec)

/-- 'laws.FnExactShowOk', WHERE WHAT IT READS IS OF BULK AT MOST 1048576: true; the input reads as it did. -/
def fnExactShowOkUptoRow : OpenClaim := { program := "ytgnehihnkkoneaa", sum := "b94ad6281ab91e4a3e6ff1927bbb607357972716484ac94a8f320d1b48c8914f", func := "loop.example/g00827/laws.FnExactShowOk", spec := "fnExactShowOk", unfollowed := true, recurses := true, apart := false, narrowed := true }
def FnExactShowOkUptoSaid : Prop := fnExactShowOkUptoRow.holds Try.pinned (OpenSpec.upto fnExactShowOkSpec)

/-- 'laws.FnExactFreeTie', WHERE WHAT IT READS IS OF BULK AT MOST 1048576: true; the input reads as it did. -/
def fnExactFreeTieUptoRow : OpenClaim := { program := "ytgnehihnkkoneaa", sum := "b94ad6281ab91e4a3e6ff1927bbb607357972716484ac94a8f320d1b48c8914f", func := "loop.example/g00827/laws.FnExactFreeTie", spec := "fnExactFreeTie", unfollowed := true, recurses := true, apart := false, narrowed := true }
def FnExactFreeTieUptoSaid : Prop := fnExactFreeTieUptoRow.holds Try.pinned (OpenSpec.upto fnExactFreeTieSpec)

/-- 'laws.FnExactIsFree', WHERE WHAT IT READS IS OF BULK AT MOST 1048576: true; the input reads as it did. -/
def fnExactIsFreeUptoRow : OpenClaim := { program := "ytgnehihnkkoneaa", sum := "b94ad6281ab91e4a3e6ff1927bbb607357972716484ac94a8f320d1b48c8914f", func := "loop.example/g00827/laws.FnExactIsFree", spec := "fnExactIsFree", unfollowed := true, recurses := true, apart := false, narrowed := true }
def FnExactIsFreeUptoSaid : Prop := fnExactIsFreeUptoRow.holds Try.pinned (OpenSpec.upto fnExactIsFreeSpec)

/-- 'laws.FnExactWatcherOf', WHERE WHAT IT READS IS OF BULK AT MOST 1048576: true; the input reads as it did. -/
def fnExactWatcherOfUptoRow : OpenClaim := { program := "ytgnehihnkkoneaa", sum := "b94ad6281ab91e4a3e6ff1927bbb607357972716484ac94a8f320d1b48c8914f", func := "loop.example/g00827/laws.FnExactWatcherOf", spec := "fnExactWatcherOf", unfollowed := true, recurses := true, apart := false, narrowed := true }
def FnExactWatcherOfUptoSaid : Prop := fnExactWatcherOfUptoRow.holds Try.pinned (OpenSpec.upto fnExactWatcherOfSpec)

/-- 'laws.FnExactNodeNamed', WHERE WHAT IT READS IS OF BULK AT MOST 1048576: true; the input reads as it did. -/
def fnExactNodeNamedUptoRow : OpenClaim := { program := "ytgnehihnkkoneaa", sum := "b94ad6281ab91e4a3e6ff1927bbb607357972716484ac94a8f320d1b48c8914f", func := "loop.example/g00827/laws.FnExactNodeNamed", spec := "fnExactNodeNamed", unfollowed := true, recurses := true, apart := false, narrowed := true }
def FnExactNodeNamedUptoSaid : Prop := fnExactNodeNamedUptoRow.holds Try.pinned (OpenSpec.upto fnExactNodeNamedSpec)

/-- 'laws.FnExactChosenNodes', WHERE WHAT IT READS IS OF BULK AT MOST 1048576: true; the input reads as it did. -/
def fnExactChosenNodesUptoRow : OpenClaim := { program := "ytgnehihnkkoneaa", sum := "b94ad6281ab91e4a3e6ff1927bbb607357972716484ac94a8f320d1b48c8914f", func := "loop.example/g00827/laws.FnExactChosenNodes", spec := "fnExactChosenNodes", unfollowed := true, recurses := true, apart := false, narrowed := true }
def FnExactChosenNodesUptoSaid : Prop := fnExactChosenNodesUptoRow.holds Try.pinned (OpenSpec.upto fnExactChosenNodesSpec)

/-- 'laws.FnExactSameShows', WHERE WHAT IT READS IS OF BULK AT MOST 1048576: true; the input reads as it did. -/
def fnExactSameShowsUptoRow : OpenClaim := { program := "ytgnehihnkkoneaa", sum := "b94ad6281ab91e4a3e6ff1927bbb607357972716484ac94a8f320d1b48c8914f", func := "loop.example/g00827/laws.FnExactSameShows", spec := "fnExactSameShows", unfollowed := true, recurses := true, apart := false, narrowed := true }
def FnExactSameShowsUptoSaid : Prop := fnExactSameShowsUptoRow.holds Try.pinned (OpenSpec.upto fnExactSameShowsSpec)

end Rows
end Go.Proofs.Ytgnehihnkkoneaa
