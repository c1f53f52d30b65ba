/-
  DERIVED. GIVEN WITH THE SEED: THE CARDS: each row of YtaokabkffnjbjaaDoorRows.lean that lists a variable, with what it lists TIED to the program's text (the seventh form; the later family's looks); each row that meets fmt, with fmt's text TOLD by the authors' own Lean function (tested against real Go, not proved from fmt's source: count such statements apart). THE CARD IS WHAT COUNTS. Prove the row's statement (the work); the ties are given (YtaokabkffnjbjaaDoorTie.lean); close each card by the builder's one call (the guide's Derived/Test/ToyasCard.lean, 'card_holds'). Laid BY PROGRAM, IN A SANDBOX (cutbox-door.mjs). By AI agents, Wed Nov 11 2026. No macro, syntax, notation, axiom, sorry.
-/
import Derived.Test.YtaokabkffnjbjaaDoorRows
import GoSem.ClaimSeven
namespace Go.Proofs.YtaokabkffnjbjaaDoor
namespace Rows

/-- THE TIED CARD OF 'laws.FnLabels'. -/
def fnLabelsCard : Claim7 := { stood := { row := fnLabelsRow, standIns := [], harness := (true, "a51ed54787d7168ffc841790c1810806b9117830f20d492000a1c39a6ffede5e"), looks := true }, kinds := [], alts := [], laidByText := true, laidKinds := [.data, .data, .data, .sentinel, .sentinel], laidTests := true, laidLooks := .later }
def FnLabelsCardSaid : Prop := Claim7.holds Tryd.pinned (.plain (OpenSpec.ofChange fnLabelsSpec)) fnLabelsCard

/-- THE TIED CARD OF 'laws.FnExactFormatLabel'. -/
def fnExactFormatLabelCard : Claim7 := { stood := { row := fnExactFormatLabelRow, standIns := [], harness := (true, "a51ed54787d7168ffc841790c1810806b9117830f20d492000a1c39a6ffede5e"), looks := true }, kinds := [], alts := [], laidByText := true, laidKinds := [.data, .data, .data], laidTests := true, laidLooks := .later }
def FnExactFormatLabelCardSaid : Prop := Claim7.holds Tryd.pinned (.plain (OpenSpec.ofChange fnExactFormatLabelSpec)) fnExactFormatLabelCard

/-- THE TIED CARD OF 'laws.FnExactParseLabel'. -/
def fnExactParseLabelCard : Claim7 := { stood := { row := fnExactParseLabelRow, standIns := [], harness := (true, "a51ed54787d7168ffc841790c1810806b9117830f20d492000a1c39a6ffede5e"), looks := true }, kinds := [], alts := [], laidByText := true, laidKinds := [.data, .data, .data, .sentinel, .sentinel], laidTests := true, laidLooks := .later }
def FnExactParseLabelCardSaid : Prop := Claim7.holds Tryd.pinned (.plain (OpenSpec.ofChange fnExactParseLabelSpec)) fnExactParseLabelCard

/-- THE SECOND FORM's CARD OF 'laws.FnLabels'. -/
def fnLabelsUptoCard : Claim7 := { stood := { row := fnLabelsUptoRow, standIns := [], harness := (true, "a51ed54787d7168ffc841790c1810806b9117830f20d492000a1c39a6ffede5e"), looks := true }, kinds := [], alts := [], laidByText := true, laidKinds := [.data, .data, .data, .sentinel, .sentinel], laidTests := true, laidLooks := .later }
def FnLabelsUptoCardSaid : Prop := Claim7.holds Tryd.pinned (.plain (OpenSpec.upto fnLabelsSpec)) fnLabelsUptoCard

/-- THE SECOND FORM's CARD OF 'laws.FnExactFormatLabel'. -/
def fnExactFormatLabelUptoCard : Claim7 := { stood := { row := fnExactFormatLabelUptoRow, standIns := [], harness := (true, "a51ed54787d7168ffc841790c1810806b9117830f20d492000a1c39a6ffede5e"), looks := true }, kinds := [], alts := [], laidByText := true, laidKinds := [.data, .data, .data], laidTests := true, laidLooks := .later }
def FnExactFormatLabelUptoCardSaid : Prop := Claim7.holds Tryd.pinned (.plain (OpenSpec.upto fnExactFormatLabelSpec)) fnExactFormatLabelUptoCard

/-- THE SECOND FORM's CARD OF 'laws.FnExactParseLabel'. -/
def fnExactParseLabelUptoCard : Claim7 := { stood := { row := fnExactParseLabelUptoRow, standIns := [], harness := (true, "a51ed54787d7168ffc841790c1810806b9117830f20d492000a1c39a6ffede5e"), looks := true }, kinds := [], alts := [], laidByText := true, laidKinds := [.data, .data, .data, .sentinel, .sentinel], laidTests := true, laidLooks := .later }
def FnExactParseLabelUptoCardSaid : Prop := Claim7.holds Tryd.pinned (.plain (OpenSpec.upto fnExactParseLabelSpec)) fnExactParseLabelUptoCard
end Rows
end Go.Proofs.YtaokabkffnjbjaaDoor
