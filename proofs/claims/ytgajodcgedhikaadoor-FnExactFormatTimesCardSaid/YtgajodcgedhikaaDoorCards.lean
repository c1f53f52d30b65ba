/-
  DERIVED. GIVEN WITH THE SEED: THE CARDS: each row of YtgajodcgedhikaaDoorRows.lean that lists a variable, with what it lists TIED to the program's text (the seventh form; the later family's looks); each row that meets fmt, with fmt's text TOLD by the authors' own Lean function (tested against real Go, not proved from fmt's source: count such statements apart). THE CARD IS WHAT COUNTS. Prove the row's statement (the work); the ties are given (YtgajodcgedhikaaDoorTie.lean); close each card by the builder's one call (the guide's Derived/Test/ToyasCard.lean, 'card_holds'). Laid BY PROGRAM, IN A SANDBOX (cutbox-door.mjs). By AI agents, Wed Nov 11 2026. No macro, syntax, notation, axiom, sorry.
-/
import Derived.Test.YtgajodcgedhikaaDoorRows
import GoSem.ClaimSeven
namespace Go.Proofs.YtgajodcgedhikaaDoor
namespace Rows

/-- THE TIED CARD OF 'laws.FnExactFormatTie'. -/
def fnExactFormatTieCard : Claim7 := { stood := { row := fnExactFormatTieRow, standIns := [], harness := (true, "22bde3ee74848ba7858fd449de65e35bdae132ea0b7982cb36eb0978297e5c0b"), looks := false }, kinds := [], alts := [], laidByText := true, laidKinds := [.data, .data, .data], laidTests := true, laidLooks := .later }
def FnExactFormatTieCardSaid : Prop := Claim7.holds Tryd.pinned (.plain (OpenSpec.ofChange fnExactFormatTieSpec)) fnExactFormatTieCard

/-- THE TIED CARD OF 'laws.FnExactFormatShow'. -/
def fnExactFormatShowCard : Claim7 := { stood := { row := fnExactFormatShowRow, standIns := [], harness := (true, "22bde3ee74848ba7858fd449de65e35bdae132ea0b7982cb36eb0978297e5c0b"), looks := false }, kinds := [], alts := [], laidByText := true, laidKinds := [.data, .data, .data], laidTests := true, laidLooks := .later }
def FnExactFormatShowCardSaid : Prop := Claim7.holds Tryd.pinned (.plain (OpenSpec.ofChange fnExactFormatShowSpec)) fnExactFormatShowCard

/-- THE TIED CARD OF 'laws.FnExactFormatTimes'. -/
def fnExactFormatTimesCard : Claim7 := { stood := { row := fnExactFormatTimesRow, standIns := [], harness := (true, "22bde3ee74848ba7858fd449de65e35bdae132ea0b7982cb36eb0978297e5c0b"), looks := false }, kinds := [], alts := [], laidByText := true, laidKinds := [.data, .data, .data], laidTests := true, laidLooks := .later }
def FnExactFormatTimesCardSaid : Prop := Claim7.holds Tryd.pinned (.plain (OpenSpec.ofChange fnExactFormatTimesSpec)) fnExactFormatTimesCard

/-- THE SECOND FORM's CARD OF 'laws.FnExactFormatTie'. -/
def fnExactFormatTieUptoCard : Claim7 := { stood := { row := fnExactFormatTieUptoRow, standIns := [], harness := (true, "22bde3ee74848ba7858fd449de65e35bdae132ea0b7982cb36eb0978297e5c0b"), looks := false }, kinds := [], alts := [], laidByText := true, laidKinds := [.data, .data, .data], laidTests := true, laidLooks := .later }
def FnExactFormatTieUptoCardSaid : Prop := Claim7.holds Tryd.pinned (.plain (OpenSpec.upto fnExactFormatTieSpec)) fnExactFormatTieUptoCard

/-- THE SECOND FORM's CARD OF 'laws.FnExactFormatShow'. -/
def fnExactFormatShowUptoCard : Claim7 := { stood := { row := fnExactFormatShowUptoRow, standIns := [], harness := (true, "22bde3ee74848ba7858fd449de65e35bdae132ea0b7982cb36eb0978297e5c0b"), looks := false }, kinds := [], alts := [], laidByText := true, laidKinds := [.data, .data, .data], laidTests := true, laidLooks := .later }
def FnExactFormatShowUptoCardSaid : Prop := Claim7.holds Tryd.pinned (.plain (OpenSpec.upto fnExactFormatShowSpec)) fnExactFormatShowUptoCard

/-- THE SECOND FORM's CARD OF 'laws.FnExactFormatTimes'. -/
def fnExactFormatTimesUptoCard : Claim7 := { stood := { row := fnExactFormatTimesUptoRow, standIns := [], harness := (true, "22bde3ee74848ba7858fd449de65e35bdae132ea0b7982cb36eb0978297e5c0b"), looks := false }, kinds := [], alts := [], laidByText := true, laidKinds := [.data, .data, .data], laidTests := true, laidLooks := .later }
def FnExactFormatTimesUptoCardSaid : Prop := Claim7.holds Tryd.pinned (.plain (OpenSpec.upto fnExactFormatTimesSpec)) fnExactFormatTimesUptoCard
end Rows
end Go.Proofs.YtgajodcgedhikaaDoor
