/-
  DERIVED. GIVEN WITH THE SEED: THE CARDS: each row of YtohoeonfoolpdaaDoorRows.lean that lists a variable, with what it lists TIED to the program's text (the seventh form; the later family's looks); each row that meets fmt, with fmt's text TOLD by the authors' own Lean function (tested against real Go, not proved from fmt's source: count such statements apart). THE CARD IS WHAT COUNTS. Prove the row's statement (the work); the ties are given (YtohoeonfoolpdaaDoorTie.lean); close each card by the builder's one call (the guide's Derived/Test/ToyasCard.lean, 'card_holds'). Laid BY PROGRAM, IN A SANDBOX (cutbox-door.mjs). By AI agents, Wed Nov 11 2026. No macro, syntax, notation, axiom, sorry.
-/
import Derived.Test.YtohoeonfoolpdaaDoorRows
import GoSem.ClaimSeven
namespace Go.Proofs.YtohoeonfoolpdaaDoor
namespace Rows

/-- THE TIED CARD OF 'laws.FnMonths'. -/
def fnMonthsCard : Claim7 := { stood := { row := fnMonthsRow, standIns := [], harness := (true, "fea3be5d08d56b7cefe16cdc94f68be2dce9f4213254eb7e2e1b8d279ab5d859"), looks := false }, kinds := [], alts := [], laidByText := true, laidKinds := [.data], laidTests := true, laidLooks := .later }
def FnMonthsCardSaid : Prop := Claim7.holds Tryd.pinned (.plain (OpenSpec.ofChange fnMonthsSpec)) fnMonthsCard

/-- THE TIED CARD OF 'laws.FnMonthsDays'. -/
def fnMonthsDaysCard : Claim7 := { stood := { row := fnMonthsDaysRow, standIns := [], harness := (true, "fea3be5d08d56b7cefe16cdc94f68be2dce9f4213254eb7e2e1b8d279ab5d859"), looks := false }, kinds := [], alts := [], laidByText := true, laidKinds := [.data], laidTests := true, laidLooks := .later }
def FnMonthsDaysCardSaid : Prop := Claim7.holds Tryd.pinned (.plain (OpenSpec.ofChange fnMonthsDaysSpec)) fnMonthsDaysCard

/-- THE TIED CARD OF 'laws.FnMonthsTwo'. -/
def fnMonthsTwoCard : Claim7 := { stood := { row := fnMonthsTwoRow, standIns := [], harness := (true, "fea3be5d08d56b7cefe16cdc94f68be2dce9f4213254eb7e2e1b8d279ab5d859"), looks := false }, kinds := [], alts := [], laidByText := true, laidKinds := [.data], laidTests := true, laidLooks := .later }
def FnMonthsTwoCardSaid : Prop := Claim7.holds Tryd.pinned (.plain (OpenSpec.ofChange fnMonthsTwoSpec)) fnMonthsTwoCard

/-- THE TIED CARD OF 'laws.FnExactMonthsOf'. -/
def fnExactMonthsOfCard : Claim7 := { stood := { row := fnExactMonthsOfRow, standIns := [], harness := (true, "fea3be5d08d56b7cefe16cdc94f68be2dce9f4213254eb7e2e1b8d279ab5d859"), looks := false }, kinds := [], alts := [], laidByText := true, laidKinds := [.data], laidTests := true, laidLooks := .later }
def FnExactMonthsOfCardSaid : Prop := Claim7.holds Tryd.pinned (.plain (OpenSpec.ofChange fnExactMonthsOfSpec)) fnExactMonthsOfCard

/-- THE SECOND FORM's CARD OF 'laws.FnMonths'. -/
def fnMonthsUptoCard : Claim7 := { stood := { row := fnMonthsUptoRow, standIns := [], harness := (true, "fea3be5d08d56b7cefe16cdc94f68be2dce9f4213254eb7e2e1b8d279ab5d859"), looks := false }, kinds := [], alts := [], laidByText := true, laidKinds := [.data], laidTests := true, laidLooks := .later }
def FnMonthsUptoCardSaid : Prop := Claim7.holds Tryd.pinned (.plain (OpenSpec.upto fnMonthsSpec)) fnMonthsUptoCard

/-- THE SECOND FORM's CARD OF 'laws.FnMonthsDays'. -/
def fnMonthsDaysUptoCard : Claim7 := { stood := { row := fnMonthsDaysUptoRow, standIns := [], harness := (true, "fea3be5d08d56b7cefe16cdc94f68be2dce9f4213254eb7e2e1b8d279ab5d859"), looks := false }, kinds := [], alts := [], laidByText := true, laidKinds := [.data], laidTests := true, laidLooks := .later }
def FnMonthsDaysUptoCardSaid : Prop := Claim7.holds Tryd.pinned (.plain (OpenSpec.upto fnMonthsDaysSpec)) fnMonthsDaysUptoCard

/-- THE SECOND FORM's CARD OF 'laws.FnMonthsTwo'. -/
def fnMonthsTwoUptoCard : Claim7 := { stood := { row := fnMonthsTwoUptoRow, standIns := [], harness := (true, "fea3be5d08d56b7cefe16cdc94f68be2dce9f4213254eb7e2e1b8d279ab5d859"), looks := false }, kinds := [], alts := [], laidByText := true, laidKinds := [.data], laidTests := true, laidLooks := .later }
def FnMonthsTwoUptoCardSaid : Prop := Claim7.holds Tryd.pinned (.plain (OpenSpec.upto fnMonthsTwoSpec)) fnMonthsTwoUptoCard

/-- THE SECOND FORM's CARD OF 'laws.FnExactMonthsOf'. -/
def fnExactMonthsOfUptoCard : Claim7 := { stood := { row := fnExactMonthsOfUptoRow, standIns := [], harness := (true, "fea3be5d08d56b7cefe16cdc94f68be2dce9f4213254eb7e2e1b8d279ab5d859"), looks := false }, kinds := [], alts := [], laidByText := true, laidKinds := [.data], laidTests := true, laidLooks := .later }
def FnExactMonthsOfUptoCardSaid : Prop := Claim7.holds Tryd.pinned (.plain (OpenSpec.upto fnExactMonthsOfSpec)) fnExactMonthsOfUptoCard
end Rows
end Go.Proofs.YtohoeonfoolpdaaDoor
