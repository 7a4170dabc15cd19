/-
  DERIVED. GIVEN WITH THE SEED: THE CARDS: each row of YtpdpcnblpcalaaaDoorRows.lean that lists a variable, with what it lists TIED to the program's text (the seventh form; the later family's looks); each row that meets fmt, with fmt's text TOLD by the authors' own Lean function (tested against real Go, not proved from fmt's source: count such statements apart). THE CARD IS WHAT COUNTS. Prove the row's statement (the work); the ties are given (YtpdpcnblpcalaaaDoorTie.lean); close each card by the builder's one call (the guide's Derived/Test/ToyasCard.lean, 'card_holds'). Laid BY PROGRAM, IN A SANDBOX (cutbox-door.mjs). By AI agents, Wed Nov 11 2026. No macro, syntax, notation, axiom, sorry.
-/
import Derived.Test.YtpdpcnblpcalaaaDoorRows
import GoSem.ClaimSeven
namespace Go.Proofs.YtpdpcnblpcalaaaDoor
namespace Rows

/-- THE TIED CARD OF 'laws.FnBulletin'. -/
def fnBulletinCard : Claim7 := { stood := { row := fnBulletinRow, standIns := [], harness := (true, "e9f919dd89fc06e729e95fd7aec2a5d9901ef24e141dbefd46fa8b296c038f3a"), looks := true }, kinds := [], alts := [], laidByText := true, laidKinds := [.data, .data, .data, .sentinel], laidTests := true, laidLooks := .later }
def FnBulletinCardSaid : Prop := Claim7.holds Tryd.pinned (.plain (OpenSpec.ofChange fnBulletinSpec)) fnBulletinCard

/-- THE TIED CARD OF 'laws.FnBulletinParse'. -/
def fnBulletinParseCard : Claim7 := { stood := { row := fnBulletinParseRow, standIns := [], harness := (true, "e9f919dd89fc06e729e95fd7aec2a5d9901ef24e141dbefd46fa8b296c038f3a"), looks := true }, kinds := [], alts := [], laidByText := true, laidKinds := [.data, .data, .data, .sentinel], laidTests := true, laidLooks := .later }
def FnBulletinParseCardSaid : Prop := Claim7.holds Tryd.pinned (.plain (OpenSpec.ofChange fnBulletinParseSpec)) fnBulletinParseCard

/-- THE TIED CARD OF 'laws.FnExactBulletinParse'. -/
def fnExactBulletinParseCard : Claim7 := { stood := { row := fnExactBulletinParseRow, standIns := [], harness := (true, "e9f919dd89fc06e729e95fd7aec2a5d9901ef24e141dbefd46fa8b296c038f3a"), looks := true }, kinds := [], alts := [], laidByText := true, laidKinds := [.data, .data, .data, .sentinel], laidTests := true, laidLooks := .later }
def FnExactBulletinParseCardSaid : Prop := Claim7.holds Tryd.pinned (.plain (OpenSpec.ofChange fnExactBulletinParseSpec)) fnExactBulletinParseCard

/-- THE SECOND FORM's CARD OF 'laws.FnBulletin'. -/
def fnBulletinUptoCard : Claim7 := { stood := { row := fnBulletinUptoRow, standIns := [], harness := (true, "e9f919dd89fc06e729e95fd7aec2a5d9901ef24e141dbefd46fa8b296c038f3a"), looks := true }, kinds := [], alts := [], laidByText := true, laidKinds := [.data, .data, .data, .sentinel], laidTests := true, laidLooks := .later }
def FnBulletinUptoCardSaid : Prop := Claim7.holds Tryd.pinned (.plain (OpenSpec.upto fnBulletinSpec)) fnBulletinUptoCard

/-- THE SECOND FORM's CARD OF 'laws.FnBulletinParse'. -/
def fnBulletinParseUptoCard : Claim7 := { stood := { row := fnBulletinParseUptoRow, standIns := [], harness := (true, "e9f919dd89fc06e729e95fd7aec2a5d9901ef24e141dbefd46fa8b296c038f3a"), looks := true }, kinds := [], alts := [], laidByText := true, laidKinds := [.data, .data, .data, .sentinel], laidTests := true, laidLooks := .later }
def FnBulletinParseUptoCardSaid : Prop := Claim7.holds Tryd.pinned (.plain (OpenSpec.upto fnBulletinParseSpec)) fnBulletinParseUptoCard

/-- THE SECOND FORM's CARD OF 'laws.FnExactBulletinParse'. -/
def fnExactBulletinParseUptoCard : Claim7 := { stood := { row := fnExactBulletinParseUptoRow, standIns := [], harness := (true, "e9f919dd89fc06e729e95fd7aec2a5d9901ef24e141dbefd46fa8b296c038f3a"), looks := true }, kinds := [], alts := [], laidByText := true, laidKinds := [.data, .data, .data, .sentinel], laidTests := true, laidLooks := .later }
def FnExactBulletinParseUptoCardSaid : Prop := Claim7.holds Tryd.pinned (.plain (OpenSpec.upto fnExactBulletinParseSpec)) fnExactBulletinParseUptoCard
end Rows
end Go.Proofs.YtpdpcnblpcalaaaDoor
