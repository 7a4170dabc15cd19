/-
  DERIVED. GIVEN WITH THE SEED: THE CARDS: each row of YthlabofegjfmfaaDoorRows.lean that lists a variable, with what it lists TIED to the program's text (the seventh form; the later family's looks); each row that meets fmt, with fmt's text TOLD by the authors' own Lean function (tested against real Go, not proved from fmt's source: count such statements apart). THE CARD IS WHAT COUNTS. Prove the row's statement (the work); the ties are given (YthlabofegjfmfaaDoorTie.lean); close each card by the builder's one call (the guide's Derived/Test/ToyasCard.lean, 'card_holds'). Laid BY PROGRAM, IN A SANDBOX (cutbox-door.mjs). By AI agents, Wed Nov 11 2026. No macro, syntax, notation, axiom, sorry.
-/
import Derived.Test.YthlabofegjfmfaaDoorRows
import GoSem.ClaimSeven
namespace Go.Proofs.YthlabofegjfmfaaDoor
namespace Rows

/-- THE TIED CARD OF 'laws.FnDayOf'. -/
def fnDayOfCard : Claim7 := { stood := { row := fnDayOfRow, standIns := [], harness := (true, "e4c85676995574eaf75c8f33bc61f11ffd2f1cc4c6bb6d3eda54a2aa5e04218a"), looks := false }, kinds := [], alts := [], laidByText := true, laidKinds := [.data], laidTests := true, laidLooks := .later }
def FnDayOfCardSaid : Prop := Claim7.holds Tryd.pinned (.plain (OpenSpec.ofChange fnDayOfSpec)) fnDayOfCard

/-- THE TIED CARD OF 'laws.FnDateOf'. -/
def fnDateOfCard : Claim7 := { stood := { row := fnDateOfRow, standIns := [], harness := (true, "e4c85676995574eaf75c8f33bc61f11ffd2f1cc4c6bb6d3eda54a2aa5e04218a"), looks := false }, kinds := [], alts := [], laidByText := true, laidKinds := [.data], laidTests := true, laidLooks := .later }
def FnDateOfCardSaid : Prop := Claim7.holds Tryd.pinned (.plain (OpenSpec.ofChange fnDateOfSpec)) fnDateOfCard

/-- THE TIED CARD OF 'laws.FnDateNext'. -/
def fnDateNextCard : Claim7 := { stood := { row := fnDateNextRow, standIns := [], harness := (true, "e4c85676995574eaf75c8f33bc61f11ffd2f1cc4c6bb6d3eda54a2aa5e04218a"), looks := false }, kinds := [], alts := [], laidByText := true, laidKinds := [.data], laidTests := true, laidLooks := .later }
def FnDateNextCardSaid : Prop := Claim7.holds Tryd.pinned (.plain (OpenSpec.ofChange fnDateNextSpec)) fnDateNextCard

/-- THE TIED CARD OF 'laws.FnYearLong'. -/
def fnYearLongCard : Claim7 := { stood := { row := fnYearLongRow, standIns := [], harness := (true, "e4c85676995574eaf75c8f33bc61f11ffd2f1cc4c6bb6d3eda54a2aa5e04218a"), looks := false }, kinds := [], alts := [], laidByText := true, laidKinds := [.data], laidTests := true, laidLooks := .later }
def FnYearLongCardSaid : Prop := Claim7.holds Tryd.pinned (.plain (OpenSpec.ofChange fnYearLongSpec)) fnYearLongCard

/-- THE TIED CARD OF 'laws.FnYearLeap'. -/
def fnYearLeapCard : Claim7 := { stood := { row := fnYearLeapRow, standIns := [], harness := (true, "e4c85676995574eaf75c8f33bc61f11ffd2f1cc4c6bb6d3eda54a2aa5e04218a"), looks := false }, kinds := [], alts := [], laidByText := true, laidKinds := [.data], laidTests := true, laidLooks := .later }
def FnYearLeapCardSaid : Prop := Claim7.holds Tryd.pinned (.plain (OpenSpec.ofChange fnYearLeapSpec)) fnYearLeapCard

/-- THE TIED CARD OF 'laws.FnDateValid'. -/
def fnDateValidCard : Claim7 := { stood := { row := fnDateValidRow, standIns := [], harness := (true, "e4c85676995574eaf75c8f33bc61f11ffd2f1cc4c6bb6d3eda54a2aa5e04218a"), looks := false }, kinds := [], alts := [], laidByText := true, laidKinds := [.data], laidTests := true, laidLooks := .later }
def FnDateValidCardSaid : Prop := Claim7.holds Tryd.pinned (.plain (OpenSpec.ofChange fnDateValidSpec)) fnDateValidCard

/-- THE TIED CARD OF 'laws.FnDateTurn'. -/
def fnDateTurnCard : Claim7 := { stood := { row := fnDateTurnRow, standIns := [], harness := (true, "e4c85676995574eaf75c8f33bc61f11ffd2f1cc4c6bb6d3eda54a2aa5e04218a"), looks := false }, kinds := [], alts := [], laidByText := true, laidKinds := [.data], laidTests := true, laidLooks := .later }
def FnDateTurnCardSaid : Prop := Claim7.holds Tryd.pinned (.plain (OpenSpec.ofChange fnDateTurnSpec)) fnDateTurnCard

/-- THE TIED CARD OF 'laws.FnDateTurnGap'. -/
def fnDateTurnGapCard : Claim7 := { stood := { row := fnDateTurnGapRow, standIns := [], harness := (true, "e4c85676995574eaf75c8f33bc61f11ffd2f1cc4c6bb6d3eda54a2aa5e04218a"), looks := false }, kinds := [], alts := [], laidByText := true, laidKinds := [.data], laidTests := true, laidLooks := .later }
def FnDateTurnGapCardSaid : Prop := Claim7.holds Tryd.pinned (.plain (OpenSpec.ofChange fnDateTurnGapSpec)) fnDateTurnGapCard

/-- THE TIED CARD OF 'laws.FnDateWeek'. -/
def fnDateWeekCard : Claim7 := { stood := { row := fnDateWeekRow, standIns := [], harness := (true, "e4c85676995574eaf75c8f33bc61f11ffd2f1cc4c6bb6d3eda54a2aa5e04218a"), looks := false }, kinds := [], alts := [], laidByText := true, laidKinds := [.data], laidTests := true, laidLooks := .later }
def FnDateWeekCardSaid : Prop := Claim7.holds Tryd.pinned (.plain (OpenSpec.ofChange fnDateWeekSpec)) fnDateWeekCard

/-- THE TIED CARD OF 'laws.FnExactDateValid'. -/
def fnExactDateValidCard : Claim7 := { stood := { row := fnExactDateValidRow, standIns := [], harness := (true, "e4c85676995574eaf75c8f33bc61f11ffd2f1cc4c6bb6d3eda54a2aa5e04218a"), looks := false }, kinds := [], alts := [], laidByText := true, laidKinds := [.data], laidTests := true, laidLooks := .later }
def FnExactDateValidCardSaid : Prop := Claim7.holds Tryd.pinned (.plain (OpenSpec.ofChange fnExactDateValidSpec)) fnExactDateValidCard

/-- THE TIED CARD OF 'laws.FnExactDayOf'. -/
def fnExactDayOfCard : Claim7 := { stood := { row := fnExactDayOfRow, standIns := [], harness := (true, "e4c85676995574eaf75c8f33bc61f11ffd2f1cc4c6bb6d3eda54a2aa5e04218a"), looks := false }, kinds := [], alts := [], laidByText := true, laidKinds := [.data], laidTests := true, laidLooks := .later }
def FnExactDayOfCardSaid : Prop := Claim7.holds Tryd.pinned (.plain (OpenSpec.ofChange fnExactDayOfSpec)) fnExactDayOfCard

/-- THE TIED CARD OF 'laws.FnExactDateOf'. -/
def fnExactDateOfCard : Claim7 := { stood := { row := fnExactDateOfRow, standIns := [], harness := (true, "e4c85676995574eaf75c8f33bc61f11ffd2f1cc4c6bb6d3eda54a2aa5e04218a"), looks := false }, kinds := [], alts := [], laidByText := true, laidKinds := [.data], laidTests := true, laidLooks := .later }
def FnExactDateOfCardSaid : Prop := Claim7.holds Tryd.pinned (.plain (OpenSpec.ofChange fnExactDateOfSpec)) fnExactDateOfCard

/-- THE TIED CARD OF 'laws.FnExactDateTurn'. -/
def fnExactDateTurnCard : Claim7 := { stood := { row := fnExactDateTurnRow, standIns := [], harness := (true, "e4c85676995574eaf75c8f33bc61f11ffd2f1cc4c6bb6d3eda54a2aa5e04218a"), looks := false }, kinds := [], alts := [], laidByText := true, laidKinds := [.data], laidTests := true, laidLooks := .later }
def FnExactDateTurnCardSaid : Prop := Claim7.holds Tryd.pinned (.plain (OpenSpec.ofChange fnExactDateTurnSpec)) fnExactDateTurnCard

/-- THE SECOND FORM's CARD OF 'laws.FnDayOf'. -/
def fnDayOfUptoCard : Claim7 := { stood := { row := fnDayOfUptoRow, standIns := [], harness := (true, "e4c85676995574eaf75c8f33bc61f11ffd2f1cc4c6bb6d3eda54a2aa5e04218a"), looks := false }, kinds := [], alts := [], laidByText := true, laidKinds := [.data], laidTests := true, laidLooks := .later }
def FnDayOfUptoCardSaid : Prop := Claim7.holds Tryd.pinned (.plain (OpenSpec.upto fnDayOfSpec)) fnDayOfUptoCard

/-- THE SECOND FORM's CARD OF 'laws.FnDateOf'. -/
def fnDateOfUptoCard : Claim7 := { stood := { row := fnDateOfUptoRow, standIns := [], harness := (true, "e4c85676995574eaf75c8f33bc61f11ffd2f1cc4c6bb6d3eda54a2aa5e04218a"), looks := false }, kinds := [], alts := [], laidByText := true, laidKinds := [.data], laidTests := true, laidLooks := .later }
def FnDateOfUptoCardSaid : Prop := Claim7.holds Tryd.pinned (.plain (OpenSpec.upto fnDateOfSpec)) fnDateOfUptoCard

/-- THE SECOND FORM's CARD OF 'laws.FnDateNext'. -/
def fnDateNextUptoCard : Claim7 := { stood := { row := fnDateNextUptoRow, standIns := [], harness := (true, "e4c85676995574eaf75c8f33bc61f11ffd2f1cc4c6bb6d3eda54a2aa5e04218a"), looks := false }, kinds := [], alts := [], laidByText := true, laidKinds := [.data], laidTests := true, laidLooks := .later }
def FnDateNextUptoCardSaid : Prop := Claim7.holds Tryd.pinned (.plain (OpenSpec.upto fnDateNextSpec)) fnDateNextUptoCard

/-- THE SECOND FORM's CARD OF 'laws.FnYearLong'. -/
def fnYearLongUptoCard : Claim7 := { stood := { row := fnYearLongUptoRow, standIns := [], harness := (true, "e4c85676995574eaf75c8f33bc61f11ffd2f1cc4c6bb6d3eda54a2aa5e04218a"), looks := false }, kinds := [], alts := [], laidByText := true, laidKinds := [.data], laidTests := true, laidLooks := .later }
def FnYearLongUptoCardSaid : Prop := Claim7.holds Tryd.pinned (.plain (OpenSpec.upto fnYearLongSpec)) fnYearLongUptoCard

/-- THE SECOND FORM's CARD OF 'laws.FnYearLeap'. -/
def fnYearLeapUptoCard : Claim7 := { stood := { row := fnYearLeapUptoRow, standIns := [], harness := (true, "e4c85676995574eaf75c8f33bc61f11ffd2f1cc4c6bb6d3eda54a2aa5e04218a"), looks := false }, kinds := [], alts := [], laidByText := true, laidKinds := [.data], laidTests := true, laidLooks := .later }
def FnYearLeapUptoCardSaid : Prop := Claim7.holds Tryd.pinned (.plain (OpenSpec.upto fnYearLeapSpec)) fnYearLeapUptoCard

/-- THE SECOND FORM's CARD OF 'laws.FnDateValid'. -/
def fnDateValidUptoCard : Claim7 := { stood := { row := fnDateValidUptoRow, standIns := [], harness := (true, "e4c85676995574eaf75c8f33bc61f11ffd2f1cc4c6bb6d3eda54a2aa5e04218a"), looks := false }, kinds := [], alts := [], laidByText := true, laidKinds := [.data], laidTests := true, laidLooks := .later }
def FnDateValidUptoCardSaid : Prop := Claim7.holds Tryd.pinned (.plain (OpenSpec.upto fnDateValidSpec)) fnDateValidUptoCard

/-- THE SECOND FORM's CARD OF 'laws.FnDateTurn'. -/
def fnDateTurnUptoCard : Claim7 := { stood := { row := fnDateTurnUptoRow, standIns := [], harness := (true, "e4c85676995574eaf75c8f33bc61f11ffd2f1cc4c6bb6d3eda54a2aa5e04218a"), looks := false }, kinds := [], alts := [], laidByText := true, laidKinds := [.data], laidTests := true, laidLooks := .later }
def FnDateTurnUptoCardSaid : Prop := Claim7.holds Tryd.pinned (.plain (OpenSpec.upto fnDateTurnSpec)) fnDateTurnUptoCard

/-- THE SECOND FORM's CARD OF 'laws.FnDateTurnGap'. -/
def fnDateTurnGapUptoCard : Claim7 := { stood := { row := fnDateTurnGapUptoRow, standIns := [], harness := (true, "e4c85676995574eaf75c8f33bc61f11ffd2f1cc4c6bb6d3eda54a2aa5e04218a"), looks := false }, kinds := [], alts := [], laidByText := true, laidKinds := [.data], laidTests := true, laidLooks := .later }
def FnDateTurnGapUptoCardSaid : Prop := Claim7.holds Tryd.pinned (.plain (OpenSpec.upto fnDateTurnGapSpec)) fnDateTurnGapUptoCard

/-- THE SECOND FORM's CARD OF 'laws.FnDateWeek'. -/
def fnDateWeekUptoCard : Claim7 := { stood := { row := fnDateWeekUptoRow, standIns := [], harness := (true, "e4c85676995574eaf75c8f33bc61f11ffd2f1cc4c6bb6d3eda54a2aa5e04218a"), looks := false }, kinds := [], alts := [], laidByText := true, laidKinds := [.data], laidTests := true, laidLooks := .later }
def FnDateWeekUptoCardSaid : Prop := Claim7.holds Tryd.pinned (.plain (OpenSpec.upto fnDateWeekSpec)) fnDateWeekUptoCard

/-- THE SECOND FORM's CARD OF 'laws.FnExactDateValid'. -/
def fnExactDateValidUptoCard : Claim7 := { stood := { row := fnExactDateValidUptoRow, standIns := [], harness := (true, "e4c85676995574eaf75c8f33bc61f11ffd2f1cc4c6bb6d3eda54a2aa5e04218a"), looks := false }, kinds := [], alts := [], laidByText := true, laidKinds := [.data], laidTests := true, laidLooks := .later }
def FnExactDateValidUptoCardSaid : Prop := Claim7.holds Tryd.pinned (.plain (OpenSpec.upto fnExactDateValidSpec)) fnExactDateValidUptoCard

/-- THE SECOND FORM's CARD OF 'laws.FnExactDayOf'. -/
def fnExactDayOfUptoCard : Claim7 := { stood := { row := fnExactDayOfUptoRow, standIns := [], harness := (true, "e4c85676995574eaf75c8f33bc61f11ffd2f1cc4c6bb6d3eda54a2aa5e04218a"), looks := false }, kinds := [], alts := [], laidByText := true, laidKinds := [.data], laidTests := true, laidLooks := .later }
def FnExactDayOfUptoCardSaid : Prop := Claim7.holds Tryd.pinned (.plain (OpenSpec.upto fnExactDayOfSpec)) fnExactDayOfUptoCard

/-- THE SECOND FORM's CARD OF 'laws.FnExactDateOf'. -/
def fnExactDateOfUptoCard : Claim7 := { stood := { row := fnExactDateOfUptoRow, standIns := [], harness := (true, "e4c85676995574eaf75c8f33bc61f11ffd2f1cc4c6bb6d3eda54a2aa5e04218a"), looks := false }, kinds := [], alts := [], laidByText := true, laidKinds := [.data], laidTests := true, laidLooks := .later }
def FnExactDateOfUptoCardSaid : Prop := Claim7.holds Tryd.pinned (.plain (OpenSpec.upto fnExactDateOfSpec)) fnExactDateOfUptoCard

/-- THE SECOND FORM's CARD OF 'laws.FnExactDateTurn'. -/
def fnExactDateTurnUptoCard : Claim7 := { stood := { row := fnExactDateTurnUptoRow, standIns := [], harness := (true, "e4c85676995574eaf75c8f33bc61f11ffd2f1cc4c6bb6d3eda54a2aa5e04218a"), looks := false }, kinds := [], alts := [], laidByText := true, laidKinds := [.data], laidTests := true, laidLooks := .later }
def FnExactDateTurnUptoCardSaid : Prop := Claim7.holds Tryd.pinned (.plain (OpenSpec.upto fnExactDateTurnSpec)) fnExactDateTurnUptoCard
end Rows
end Go.Proofs.YthlabofegjfmfaaDoor
