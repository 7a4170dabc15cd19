/-
  DERIVED. GIVEN WITH THE SEED: THE CARDS: each row of YthlabofegjfmfabDoorRows.lean that lists a variable, with what it lists TIED to the program's text (the seventh form; the later family's looks); each row that meets fmt, with fmt's text TOLD by the authors' own Lean function (tested against real Go, not proved from fmt's source: count such statements apart). THE CARD IS WHAT COUNTS. Prove the row's statement (the work); the ties are given (YthlabofegjfmfabDoorTie.lean); close each card by the builder's one call (the guide's Derived/Test/ToyasCard.lean, 'card_holds'). Laid BY PROGRAM, IN A SANDBOX (cutbox-door.mjs). By AI agents, Wed Nov 11 2026. No macro, syntax, notation, axiom, sorry.
-/
import Derived.Test.YthlabofegjfmfabDoorRows
import GoSem.ClaimSeven
namespace Go.Proofs.YthlabofegjfmfabDoor
namespace Rows

/-- THE TIED CARD OF 'laws.FnReportText'. -/
def fnReportTextCard : Claim7 := { stood := { row := fnReportTextRow, standIns := [], harness := (true, "1fa305ec48529c3af33a66fe24ee649ce0b32b9bb136419225c1cb6fbb859dc8"), looks := false }, kinds := [], alts := [], laidByText := true, laidKinds := [.data, .data, .data], laidTests := true, laidLooks := .later }
def FnReportTextCardSaid : Prop := Claim7.holds Tryd.pinned (.plain (OpenSpec.ofChange fnReportTextSpec)) fnReportTextCard

/-- THE TIED CARD OF 'laws.FnReportTextBad'. -/
def fnReportTextBadCard : Claim7 := { stood := { row := fnReportTextBadRow, standIns := [], harness := (true, "1fa305ec48529c3af33a66fe24ee649ce0b32b9bb136419225c1cb6fbb859dc8"), looks := false }, kinds := [], alts := [], laidByText := true, laidKinds := [.data, .data, .data], laidTests := true, laidLooks := .later }
def FnReportTextBadCardSaid : Prop := Claim7.holds Tryd.pinned (.plain (OpenSpec.ofChange fnReportTextBadSpec)) fnReportTextBadCard

/-- THE TIED CARD OF 'laws.FnReportParse'. -/
def fnReportParseCard : Claim7 := { stood := { row := fnReportParseRow, standIns := [], harness := (true, "1fa305ec48529c3af33a66fe24ee649ce0b32b9bb136419225c1cb6fbb859dc8"), looks := false }, kinds := [], alts := [], laidByText := true, laidKinds := [.data, .data, .data], laidTests := true, laidLooks := .later }
def FnReportParseCardSaid : Prop := Claim7.holds Tryd.pinned (.plain (OpenSpec.ofChange fnReportParseSpec)) fnReportParseCard

/-- THE TIED CARD OF 'laws.FnExactReportText'. -/
def fnExactReportTextCard : Claim7 := { stood := { row := fnExactReportTextRow, standIns := [], harness := (true, "1fa305ec48529c3af33a66fe24ee649ce0b32b9bb136419225c1cb6fbb859dc8"), looks := false }, kinds := [], alts := [], laidByText := true, laidKinds := [.data, .data, .data], laidTests := true, laidLooks := .later }
def FnExactReportTextCardSaid : Prop := Claim7.holds Tryd.pinned (.plain (OpenSpec.ofChange fnExactReportTextSpec)) fnExactReportTextCard

/-- THE SECOND FORM's CARD OF 'laws.FnReportText'. -/
def fnReportTextUptoCard : Claim7 := { stood := { row := fnReportTextUptoRow, standIns := [], harness := (true, "1fa305ec48529c3af33a66fe24ee649ce0b32b9bb136419225c1cb6fbb859dc8"), looks := false }, kinds := [], alts := [], laidByText := true, laidKinds := [.data, .data, .data], laidTests := true, laidLooks := .later }
def FnReportTextUptoCardSaid : Prop := Claim7.holds Tryd.pinned (.plain (OpenSpec.upto fnReportTextSpec)) fnReportTextUptoCard

/-- THE SECOND FORM's CARD OF 'laws.FnReportTextBad'. -/
def fnReportTextBadUptoCard : Claim7 := { stood := { row := fnReportTextBadUptoRow, standIns := [], harness := (true, "1fa305ec48529c3af33a66fe24ee649ce0b32b9bb136419225c1cb6fbb859dc8"), looks := false }, kinds := [], alts := [], laidByText := true, laidKinds := [.data, .data, .data], laidTests := true, laidLooks := .later }
def FnReportTextBadUptoCardSaid : Prop := Claim7.holds Tryd.pinned (.plain (OpenSpec.upto fnReportTextBadSpec)) fnReportTextBadUptoCard

/-- THE SECOND FORM's CARD OF 'laws.FnReportParse'. -/
def fnReportParseUptoCard : Claim7 := { stood := { row := fnReportParseUptoRow, standIns := [], harness := (true, "1fa305ec48529c3af33a66fe24ee649ce0b32b9bb136419225c1cb6fbb859dc8"), looks := false }, kinds := [], alts := [], laidByText := true, laidKinds := [.data, .data, .data], laidTests := true, laidLooks := .later }
def FnReportParseUptoCardSaid : Prop := Claim7.holds Tryd.pinned (.plain (OpenSpec.upto fnReportParseSpec)) fnReportParseUptoCard

/-- THE SECOND FORM's CARD OF 'laws.FnExactReportText'. -/
def fnExactReportTextUptoCard : Claim7 := { stood := { row := fnExactReportTextUptoRow, standIns := [], harness := (true, "1fa305ec48529c3af33a66fe24ee649ce0b32b9bb136419225c1cb6fbb859dc8"), looks := false }, kinds := [], alts := [], laidByText := true, laidKinds := [.data, .data, .data], laidTests := true, laidLooks := .later }
def FnExactReportTextUptoCardSaid : Prop := Claim7.holds Tryd.pinned (.plain (OpenSpec.upto fnExactReportTextSpec)) fnExactReportTextUptoCard
end Rows
end Go.Proofs.YthlabofegjfmfabDoor
