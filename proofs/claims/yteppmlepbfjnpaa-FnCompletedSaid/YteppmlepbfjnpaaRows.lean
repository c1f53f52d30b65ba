/-
  No cell of these rows narrows 'for every input' (looked for: loops, veiled, ifaces, maps, wideKeys, modest, calm, conditions, laid).
  DERIVED. THE GIVEN ROWS OF THIS SEAT. 8 by the template 'for every input the law returns true; each argument reads behind the call as it read before'; 0 by the template 'total and deterministic' (their statements: YteppmlepbfjnpaaTotals.lean).
  GIVEN WITH THE SEED: the statements are not yours to turn. If you find one false, say at which input.
  Laid BY PROGRAM, IN A SANDBOX (cutbox-rows.mjs): the forced cells as the released guide's own fill.sh prints them over the translation 12533d75ad2f3d45… (all of the seat's roots in one cut). By AI agents, Wed Nov 11 2026. No macro, syntax, notation, axiom, sorry.
-/
import Derived.Test.YteppmlepbfjnpaaChecked
import GoSem.Claim
import GoSem.ClaimJoined
import GoSem.ClaimMapViews
import Derived.JoinedTies
import Derived.KernelRfl
namespace Go.Proofs.Yteppmlepbfjnpaa
/- THE CELL 'sum', in the pinned program and in every row, IS THE sha256 OF THE DUMP (.gsa) THAT YteppmlepbfjnpaaProg.lean LOADS. Nothing in Lean hashes anything: it is a label: what it is worth is what the hold of that sum in a sandbox is worth. -/
noncomputable def Try.pinned : Pinned := { name := "yteppmlepbfjnpaa", sum := "12533d75ad2f3d4501f79e6afc65d78c0366111f407f2d264fcd155597f1110e", checked := Try.checked }
namespace Rows
def none {H : Type} : Left H := { results := [], args := [] }

/-- 'laws.FnWindows': WHATEVER THE INPUT: true; the input reads as it did. -/
def fnWindowsSpec : ChangeSpec := { name := "fnWindows", fn := fun _ => fun
  | [d] => { results := [.lit (.bool true)], args := [d] }
  | _ => none }
def fnWindowsRow : OpenClaim := { program := "yteppmlepbfjnpaa", sum := "12533d75ad2f3d4501f79e6afc65d78c0366111f407f2d264fcd155597f1110e", func := "loop.example/g00827/laws.FnWindows", spec := "fnWindows", unfollowed := true, recurses := true, apart := false }
def FnWindowsSaid : Prop := fnWindowsRow.holds Try.pinned (OpenSpec.ofChange fnWindowsSpec)

/-- ITS FALSE NEIGHBOUR: 'it returns false'. Refute it at one input. -/
def fnWindowsWrong : ChangeSpec := { name := "fnWindows", fn := fun _ => fun
  | [d] => { results := [.lit (.bool false)], args := [d] }
  | _ => none }
def FnWindowsWrongFalsely : Prop := fnWindowsRow.holds Try.pinned (OpenSpec.ofChange fnWindowsWrong)

/-- 'laws.FnCompleted': WHATEVER THE INPUT: true; the input reads as it did. -/
def fnCompletedSpec : ChangeSpec := { name := "fnCompleted", fn := fun _ => fun
  | [d] => { results := [.lit (.bool true)], args := [d] }
  | _ => none }
def fnCompletedRow : OpenClaim := { program := "yteppmlepbfjnpaa", sum := "12533d75ad2f3d4501f79e6afc65d78c0366111f407f2d264fcd155597f1110e", func := "loop.example/g00827/laws.FnCompleted", spec := "fnCompleted", unfollowed := true, recurses := true, apart := false }
def FnCompletedSaid : Prop := fnCompletedRow.holds Try.pinned (OpenSpec.ofChange fnCompletedSpec)

/-- ITS FALSE NEIGHBOUR: 'it returns false'. Refute it at one input. -/
def fnCompletedWrong : ChangeSpec := { name := "fnCompleted", fn := fun _ => fun
  | [d] => { results := [.lit (.bool false)], args := [d] }
  | _ => none }
def FnCompletedWrongFalsely : Prop := fnCompletedRow.holds Try.pinned (OpenSpec.ofChange fnCompletedWrong)

/-- 'laws.FnExactPartialOk': WHATEVER THE INPUT: true; the input reads as it did. -/
def fnExactPartialOkSpec : ChangeSpec := { name := "fnExactPartialOk", fn := fun _ => fun
  | [d1, d2] => { results := [.lit (.bool true)], args := [d1, d2] }
  | _ => none }
def fnExactPartialOkRow : OpenClaim := { program := "yteppmlepbfjnpaa", sum := "12533d75ad2f3d4501f79e6afc65d78c0366111f407f2d264fcd155597f1110e", func := "loop.example/g00827/laws.FnExactPartialOk", spec := "fnExactPartialOk", apart := false }
def FnExactPartialOkSaid : Prop := fnExactPartialOkRow.holds Try.pinned (OpenSpec.ofChange fnExactPartialOkSpec)

/-- ITS FALSE NEIGHBOUR: 'it returns false'. Refute it at one input. -/
def fnExactPartialOkWrong : ChangeSpec := { name := "fnExactPartialOk", fn := fun _ => fun
  | [d1, d2] => { results := [.lit (.bool false)], args := [d1, d2] }
  | _ => none }
def FnExactPartialOkWrongFalsely : Prop := fnExactPartialOkRow.holds Try.pinned (OpenSpec.ofChange fnExactPartialOkWrong)

/-- 'laws.FnExactFixTimes': WHATEVER THE INPUT: true; the input reads as it did. -/
def fnExactFixTimesSpec : ChangeSpec := { name := "fnExactFixTimes", fn := fun _ => fun
  | [d1, d2] => { results := [.lit (.bool true)], args := [d1, d2] }
  | _ => none }
def fnExactFixTimesRow : OpenClaim := { program := "yteppmlepbfjnpaa", sum := "12533d75ad2f3d4501f79e6afc65d78c0366111f407f2d264fcd155597f1110e", func := "loop.example/g00827/laws.FnExactFixTimes", spec := "fnExactFixTimes", apart := false }
def FnExactFixTimesSaid : Prop := fnExactFixTimesRow.holds Try.pinned (OpenSpec.ofChange fnExactFixTimesSpec)

/-- ITS FALSE NEIGHBOUR: 'it returns false'. Refute it at one input. -/
def fnExactFixTimesWrong : ChangeSpec := { name := "fnExactFixTimes", fn := fun _ => fun
  | [d1, d2] => { results := [.lit (.bool false)], args := [d1, d2] }
  | _ => none }
def FnExactFixTimesWrongFalsely : Prop := fnExactFixTimesRow.holds Try.pinned (OpenSpec.ofChange fnExactFixTimesWrong)

/-- 'laws.FnExactCanExtend': WHATEVER THE INPUT: true; the input reads as it did. -/
def fnExactCanExtendSpec : ChangeSpec := { name := "fnExactCanExtend", fn := fun _ => fun
  | [d1, d2] => { results := [.lit (.bool true)], args := [d1, d2] }
  | _ => none }
def fnExactCanExtendRow : OpenClaim := { program := "yteppmlepbfjnpaa", sum := "12533d75ad2f3d4501f79e6afc65d78c0366111f407f2d264fcd155597f1110e", func := "loop.example/g00827/laws.FnExactCanExtend", spec := "fnExactCanExtend", unfollowed := true, recurses := true, apart := false }
def FnExactCanExtendSaid : Prop := fnExactCanExtendRow.holds Try.pinned (OpenSpec.ofChange fnExactCanExtendSpec)

/-- ITS FALSE NEIGHBOUR: 'it returns false'. Refute it at one input. -/
def fnExactCanExtendWrong : ChangeSpec := { name := "fnExactCanExtend", fn := fun _ => fun
  | [d1, d2] => { results := [.lit (.bool false)], args := [d1, d2] }
  | _ => none }
def FnExactCanExtendWrongFalsely : Prop := fnExactCanExtendRow.holds Try.pinned (OpenSpec.ofChange fnExactCanExtendWrong)

/-- 'laws.FnExactNextTimes': WHATEVER THE INPUT: true; the input reads as it did. -/
def fnExactNextTimesSpec : ChangeSpec := { name := "fnExactNextTimes", fn := fun _ => fun
  | [d1, d2, d3] => { results := [.lit (.bool true)], args := [d1, d2, d3] }
  | _ => none }
def fnExactNextTimesRow : OpenClaim := { program := "yteppmlepbfjnpaa", sum := "12533d75ad2f3d4501f79e6afc65d78c0366111f407f2d264fcd155597f1110e", func := "loop.example/g00827/laws.FnExactNextTimes", spec := "fnExactNextTimes", unfollowed := true, recurses := true, apart := false }
def FnExactNextTimesSaid : Prop := fnExactNextTimesRow.holds Try.pinned (OpenSpec.ofChange fnExactNextTimesSpec)

/-- ITS FALSE NEIGHBOUR: 'it returns false'. Refute it at one input. -/
def fnExactNextTimesWrong : ChangeSpec := { name := "fnExactNextTimes", fn := fun _ => fun
  | [d1, d2, d3] => { results := [.lit (.bool false)], args := [d1, d2, d3] }
  | _ => none }
def FnExactNextTimesWrongFalsely : Prop := fnExactNextTimesRow.holds Try.pinned (OpenSpec.ofChange fnExactNextTimesWrong)

/-- 'laws.FnExactCompleteTimes': WHATEVER THE INPUT: true; the input reads as it did. -/
def fnExactCompleteTimesSpec : ChangeSpec := { name := "fnExactCompleteTimes", fn := fun _ => fun
  | [d1, d2] => { results := [.lit (.bool true)], args := [d1, d2] }
  | _ => none }
def fnExactCompleteTimesRow : OpenClaim := { program := "yteppmlepbfjnpaa", sum := "12533d75ad2f3d4501f79e6afc65d78c0366111f407f2d264fcd155597f1110e", func := "loop.example/g00827/laws.FnExactCompleteTimes", spec := "fnExactCompleteTimes", unfollowed := true, recurses := true, apart := false }
def FnExactCompleteTimesSaid : Prop := fnExactCompleteTimesRow.holds Try.pinned (OpenSpec.ofChange fnExactCompleteTimesSpec)

/-- ITS FALSE NEIGHBOUR: 'it returns false'. Refute it at one input. -/
def fnExactCompleteTimesWrong : ChangeSpec := { name := "fnExactCompleteTimes", fn := fun _ => fun
  | [d1, d2] => { results := [.lit (.bool false)], args := [d1, d2] }
  | _ => none }
def FnExactCompleteTimesWrongFalsely : Prop := fnExactCompleteTimesRow.holds Try.pinned (OpenSpec.ofChange fnExactCompleteTimesWrong)

/-- 'laws.FnExactCountOpen': WHATEVER THE INPUT: true; the input reads as it did. -/
def fnExactCountOpenSpec : ChangeSpec := { name := "fnExactCountOpen", fn := fun _ => fun
  | [d] => { results := [.lit (.bool true)], args := [d] }
  | _ => none }
def fnExactCountOpenRow : OpenClaim := { program := "yteppmlepbfjnpaa", sum := "12533d75ad2f3d4501f79e6afc65d78c0366111f407f2d264fcd155597f1110e", func := "loop.example/g00827/laws.FnExactCountOpen", spec := "fnExactCountOpen", apart := false }
def FnExactCountOpenSaid : Prop := fnExactCountOpenRow.holds Try.pinned (OpenSpec.ofChange fnExactCountOpenSpec)

/-- ITS FALSE NEIGHBOUR: 'it returns false'. Refute it at one input. -/
def fnExactCountOpenWrong : ChangeSpec := { name := "fnExactCountOpen", fn := fun _ => fun
  | [d] => { results := [.lit (.bool false)], args := [d] }
  | _ => none }
def FnExactCountOpenWrongFalsely : Prop := fnExactCountOpenRow.holds Try.pinned (OpenSpec.ofChange fnExactCountOpenWrong)

/- THE SECOND FORM. 'bulk': how many values and letters a reading holds, each counted each time it is reached (what is shared counts as often as it is met; a slice's spare places count too). A statement '..UptoSaid' is the law's where the arguments, and the package variables that the reading takes, are together of bulk at most 1048576: NARROWER than '..Said'. Prove '..Said' where nothing that the law and all that it calls make is longer than what came in: it says more and counts as full. Else prove '..UptoSaid'. A law counts once. -/
mutual
def uptoBulk {H : Type} : DataW H → Nat
  | .lit (.string bytes) => bytes.length + 1
  | .lit _ => 1
  | .nil => 1
  | .ptr d => uptoBulk d + 1
  | .slice elems spare => uptoBulkAll elems + uptoBulkAll spare + 1
  | .agg parts => uptoBulkAll parts + 1
  | .iface _ d => uptoBulk d + 1
  | .map entries => uptoBulkEntries entries + 1
  | .held _ => 1
def uptoBulkAll {H : Type} : List (DataW H) → Nat
  | [] => 0
  | d :: r => uptoBulk d + uptoBulkAll r
def uptoBulkEntries {H : Type} : List (Lit × DataW H) → Nat
  | [] => 0
  | x :: r => uptoBulkEntry x + uptoBulkEntries r
def uptoBulkEntry {H : Type} : Lit × DataW H → Nat
  | (.string bytes, d) => bytes.length + uptoBulk d + 1
  | (_, d) => uptoBulk d + 1
 end
def uptoSmall : (H : Type) → List (DataW H) → Bool := fun _ ds => decide (uptoBulkAll ds ≤ 1048576)
def OpenSpec.upto (s : _root_.Go.ChangeSpec) : _root_.Go.OpenSpec := { _root_.Go.OpenSpec.ofChange s with cond := some uptoSmall }

/-- 'laws.FnWindows', WHERE WHAT IT READS IS OF BULK AT MOST 1048576: true; the input reads as it did. -/
def fnWindowsUptoRow : OpenClaim := { program := "yteppmlepbfjnpaa", sum := "12533d75ad2f3d4501f79e6afc65d78c0366111f407f2d264fcd155597f1110e", func := "loop.example/g00827/laws.FnWindows", spec := "fnWindows", unfollowed := true, recurses := true, apart := false, narrowed := true }
def FnWindowsUptoSaid : Prop := fnWindowsUptoRow.holds Try.pinned (OpenSpec.upto fnWindowsSpec)

/-- 'laws.FnCompleted', WHERE WHAT IT READS IS OF BULK AT MOST 1048576: true; the input reads as it did. -/
def fnCompletedUptoRow : OpenClaim := { program := "yteppmlepbfjnpaa", sum := "12533d75ad2f3d4501f79e6afc65d78c0366111f407f2d264fcd155597f1110e", func := "loop.example/g00827/laws.FnCompleted", spec := "fnCompleted", unfollowed := true, recurses := true, apart := false, narrowed := true }
def FnCompletedUptoSaid : Prop := fnCompletedUptoRow.holds Try.pinned (OpenSpec.upto fnCompletedSpec)

/-- 'laws.FnExactPartialOk', WHERE WHAT IT READS IS OF BULK AT MOST 1048576: true; the input reads as it did. -/
def fnExactPartialOkUptoRow : OpenClaim := { program := "yteppmlepbfjnpaa", sum := "12533d75ad2f3d4501f79e6afc65d78c0366111f407f2d264fcd155597f1110e", func := "loop.example/g00827/laws.FnExactPartialOk", spec := "fnExactPartialOk", apart := false, narrowed := true }
def FnExactPartialOkUptoSaid : Prop := fnExactPartialOkUptoRow.holds Try.pinned (OpenSpec.upto fnExactPartialOkSpec)

/-- 'laws.FnExactFixTimes', WHERE WHAT IT READS IS OF BULK AT MOST 1048576: true; the input reads as it did. -/
def fnExactFixTimesUptoRow : OpenClaim := { program := "yteppmlepbfjnpaa", sum := "12533d75ad2f3d4501f79e6afc65d78c0366111f407f2d264fcd155597f1110e", func := "loop.example/g00827/laws.FnExactFixTimes", spec := "fnExactFixTimes", apart := false, narrowed := true }
def FnExactFixTimesUptoSaid : Prop := fnExactFixTimesUptoRow.holds Try.pinned (OpenSpec.upto fnExactFixTimesSpec)

/-- 'laws.FnExactCanExtend', WHERE WHAT IT READS IS OF BULK AT MOST 1048576: true; the input reads as it did. -/
def fnExactCanExtendUptoRow : OpenClaim := { program := "yteppmlepbfjnpaa", sum := "12533d75ad2f3d4501f79e6afc65d78c0366111f407f2d264fcd155597f1110e", func := "loop.example/g00827/laws.FnExactCanExtend", spec := "fnExactCanExtend", unfollowed := true, recurses := true, apart := false, narrowed := true }
def FnExactCanExtendUptoSaid : Prop := fnExactCanExtendUptoRow.holds Try.pinned (OpenSpec.upto fnExactCanExtendSpec)

/-- 'laws.FnExactNextTimes', WHERE WHAT IT READS IS OF BULK AT MOST 1048576: true; the input reads as it did. -/
def fnExactNextTimesUptoRow : OpenClaim := { program := "yteppmlepbfjnpaa", sum := "12533d75ad2f3d4501f79e6afc65d78c0366111f407f2d264fcd155597f1110e", func := "loop.example/g00827/laws.FnExactNextTimes", spec := "fnExactNextTimes", unfollowed := true, recurses := true, apart := false, narrowed := true }
def FnExactNextTimesUptoSaid : Prop := fnExactNextTimesUptoRow.holds Try.pinned (OpenSpec.upto fnExactNextTimesSpec)

/-- 'laws.FnExactCompleteTimes', WHERE WHAT IT READS IS OF BULK AT MOST 1048576: true; the input reads as it did. -/
def fnExactCompleteTimesUptoRow : OpenClaim := { program := "yteppmlepbfjnpaa", sum := "12533d75ad2f3d4501f79e6afc65d78c0366111f407f2d264fcd155597f1110e", func := "loop.example/g00827/laws.FnExactCompleteTimes", spec := "fnExactCompleteTimes", unfollowed := true, recurses := true, apart := false, narrowed := true }
def FnExactCompleteTimesUptoSaid : Prop := fnExactCompleteTimesUptoRow.holds Try.pinned (OpenSpec.upto fnExactCompleteTimesSpec)

/-- 'laws.FnExactCountOpen', WHERE WHAT IT READS IS OF BULK AT MOST 1048576: true; the input reads as it did. -/
def fnExactCountOpenUptoRow : OpenClaim := { program := "yteppmlepbfjnpaa", sum := "12533d75ad2f3d4501f79e6afc65d78c0366111f407f2d264fcd155597f1110e", func := "loop.example/g00827/laws.FnExactCountOpen", spec := "fnExactCountOpen", apart := false, narrowed := true }
def FnExactCountOpenUptoSaid : Prop := fnExactCountOpenUptoRow.holds Try.pinned (OpenSpec.upto fnExactCountOpenSpec)

end Rows
end Go.Proofs.Yteppmlepbfjnpaa
