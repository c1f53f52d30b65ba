/-
  DERIVED. GIVEN WITH THE SEED: THE CARDS: each row of YtgajodcgedhikaaGreatDoorRows.lean that lists a variable, with what it lists TIED to the program's text (the seventh form; the later family's looks); each row that meets fmt, with fmt's text TOLD by the authors' own Lean function (tested against real Go, not proved from fmt's source: count such statements apart). THE CARD IS WHAT COUNTS. Prove the row's statement (the work); the ties are given (YtgajodcgedhikaaGreatDoorTie.lean); close each card by the builder's one call (the guide's Derived/Test/ToyasCard.lean, 'card_holds'). Laid BY PROGRAM, IN A SANDBOX (cutbox-door.mjs). By AI agents, Wed Nov 11 2026. No macro, syntax, notation, axiom, sorry.
-/
import Derived.Test.YtgajodcgedhikaaGreatDoorRows
import GoSem.ClaimSeven
namespace Go.Proofs.YtgajodcgedhikaaGreatDoor
namespace Rows

/-- THE TIED CARD OF 'laws.FnExactParseShow'. -/
def fnExactParseShowCard : Claim7 := { stood := { row := fnExactParseShowRow, standIns := [], harness := (true, "0776fa25de0fc0d7f5c081072a9053325350c4c556beef63a814b9d7911aeb16"), looks := true }, kinds := [], alts := [], laidByText := true, laidKinds := [.data, .data, .data, .sentinel, .sentinel], laidTests := true, laidLooks := .later }
def FnExactParseShowCardSaid : Prop := Claim7.holds Tryz.pinned (.plain (OpenSpec.ofChange fnExactParseShowSpec)) fnExactParseShowCard

/-- THE SECOND FORM's CARD OF 'laws.FnExactParseShow'. -/
def fnExactParseShowUptoCard : Claim7 := { stood := { row := fnExactParseShowUptoRow, standIns := [], harness := (true, "0776fa25de0fc0d7f5c081072a9053325350c4c556beef63a814b9d7911aeb16"), looks := true }, kinds := [], alts := [], laidByText := true, laidKinds := [.data, .data, .data, .sentinel, .sentinel], laidTests := true, laidLooks := .later }
def FnExactParseShowUptoCardSaid : Prop := Claim7.holds Tryz.pinned (.plain (OpenSpec.upto fnExactParseShowSpec)) fnExactParseShowUptoCard
end Rows
end Go.Proofs.YtgajodcgedhikaaGreatDoor
