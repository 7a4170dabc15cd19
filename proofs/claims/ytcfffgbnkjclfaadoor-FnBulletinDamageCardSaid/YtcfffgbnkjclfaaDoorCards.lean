/-
  DERIVED. GIVEN WITH THE SEED: THE CARDS: each row of YtcfffgbnkjclfaaDoorRows.lean that lists a variable, with what it lists TIED to the program's text (the seventh form; the later family's looks); each row that meets fmt, with fmt's text TOLD by the authors' own Lean function (tested against real Go, not proved from fmt's source: count such statements apart). THE CARD IS WHAT COUNTS. Prove the row's statement (the work); the ties are given (YtcfffgbnkjclfaaDoorTie.lean); close each card by the builder's one call (the guide's Derived/Test/ToyasCard.lean, 'card_holds'). Laid BY PROGRAM, IN A SANDBOX (cutbox-door.mjs). By AI agents, Wed Nov 11 2026. No macro, syntax, notation, axiom, sorry.
-/
import Derived.Test.YtcfffgbnkjclfaaDoorRows
import GoSem.ClaimSeven
namespace Go.Proofs.YtcfffgbnkjclfaaDoor
namespace Rows

/-- THE TIED CARD OF 'laws.FnBulletin'. -/
def fnBulletinCard : Claim7 := { stood := { row := fnBulletinRow, standIns := [], harness := (true, "7e428820502ba848b4bdf9ec8bda8192fbdf3cc123e971949ee8a86b8a31712b"), looks := true }, kinds := [], alts := [], laidByText := true, laidKinds := [.data, .data, .data, .sentinel], laidTests := true, laidLooks := .later }
def FnBulletinCardSaid : Prop := Claim7.holds Tryd.pinned (.plain (OpenSpec.ofChange fnBulletinSpec)) fnBulletinCard

/-- THE TIED CARD OF 'laws.FnBulletinBad'. -/
def fnBulletinBadCard : Claim7 := { stood := { row := fnBulletinBadRow, standIns := [], harness := (true, "7e428820502ba848b4bdf9ec8bda8192fbdf3cc123e971949ee8a86b8a31712b"), looks := true }, kinds := [], alts := [], laidByText := true, laidKinds := [.data, .data, .data], laidTests := true, laidLooks := .later }
def FnBulletinBadCardSaid : Prop := Claim7.holds Tryd.pinned (.plain (OpenSpec.ofChange fnBulletinBadSpec)) fnBulletinBadCard

/-- THE TIED CARD OF 'laws.FnBulletinParse'. -/
def fnBulletinParseCard : Claim7 := { stood := { row := fnBulletinParseRow, standIns := [], harness := (true, "7e428820502ba848b4bdf9ec8bda8192fbdf3cc123e971949ee8a86b8a31712b"), looks := true }, kinds := [], alts := [], laidByText := true, laidKinds := [.data, .data, .data, .sentinel], laidTests := true, laidLooks := .later }
def FnBulletinParseCardSaid : Prop := Claim7.holds Tryd.pinned (.plain (OpenSpec.ofChange fnBulletinParseSpec)) fnBulletinParseCard

/-- THE TIED CARD OF 'laws.FnBulletinDamage'. -/
def fnBulletinDamageCard : Claim7 := { stood := { row := fnBulletinDamageRow, standIns := [], harness := (true, "7e428820502ba848b4bdf9ec8bda8192fbdf3cc123e971949ee8a86b8a31712b"), looks := true }, kinds := [], alts := [], laidByText := true, laidKinds := [.data, .data, .data, .sentinel], laidTests := true, laidLooks := .later }
def FnBulletinDamageCardSaid : Prop := Claim7.holds Tryd.pinned (.plain (OpenSpec.ofChange fnBulletinDamageSpec)) fnBulletinDamageCard

/-- THE TIED CARD OF 'laws.FnBulletinGood'. -/
def fnBulletinGoodCard : Claim7 := { stood := { row := fnBulletinGoodRow, standIns := [], harness := (true, "7e428820502ba848b4bdf9ec8bda8192fbdf3cc123e971949ee8a86b8a31712b"), looks := true }, kinds := [], alts := [], laidByText := true, laidKinds := [.data, .data, .data, .sentinel], laidTests := true, laidLooks := .later }
def FnBulletinGoodCardSaid : Prop := Claim7.holds Tryd.pinned (.plain (OpenSpec.ofChange fnBulletinGoodSpec)) fnBulletinGoodCard

/-- THE TIED CARD OF 'laws.FnExactBulletinText'. -/
def fnExactBulletinTextCard : Claim7 := { stood := { row := fnExactBulletinTextRow, standIns := [], harness := (true, "7e428820502ba848b4bdf9ec8bda8192fbdf3cc123e971949ee8a86b8a31712b"), looks := true }, kinds := [], alts := [], laidByText := true, laidKinds := [.data, .data, .data], laidTests := true, laidLooks := .later }
def FnExactBulletinTextCardSaid : Prop := Claim7.holds Tryd.pinned (.plain (OpenSpec.ofChange fnExactBulletinTextSpec)) fnExactBulletinTextCard

/-- THE TIED CARD OF 'laws.FnExactBulletinParse'. -/
def fnExactBulletinParseCard : Claim7 := { stood := { row := fnExactBulletinParseRow, standIns := [], harness := (true, "7e428820502ba848b4bdf9ec8bda8192fbdf3cc123e971949ee8a86b8a31712b"), looks := true }, kinds := [], alts := [], laidByText := true, laidKinds := [.data, .data, .data, .sentinel], laidTests := true, laidLooks := .later }
def FnExactBulletinParseCardSaid : Prop := Claim7.holds Tryd.pinned (.plain (OpenSpec.ofChange fnExactBulletinParseSpec)) fnExactBulletinParseCard

/-- THE TIED CARD OF 'laws.FnExactBulletinGood'. -/
def fnExactBulletinGoodCard : Claim7 := { stood := { row := fnExactBulletinGoodRow, standIns := [], harness := (true, "7e428820502ba848b4bdf9ec8bda8192fbdf3cc123e971949ee8a86b8a31712b"), looks := true }, kinds := [], alts := [], laidByText := true, laidKinds := [.data, .data, .data, .sentinel], laidTests := true, laidLooks := .later }
def FnExactBulletinGoodCardSaid : Prop := Claim7.holds Tryd.pinned (.plain (OpenSpec.ofChange fnExactBulletinGoodSpec)) fnExactBulletinGoodCard

/-- THE SECOND FORM's CARD OF 'laws.FnBulletin'. -/
def fnBulletinUptoCard : Claim7 := { stood := { row := fnBulletinUptoRow, standIns := [], harness := (true, "7e428820502ba848b4bdf9ec8bda8192fbdf3cc123e971949ee8a86b8a31712b"), looks := true }, kinds := [], alts := [], laidByText := true, laidKinds := [.data, .data, .data, .sentinel], laidTests := true, laidLooks := .later }
def FnBulletinUptoCardSaid : Prop := Claim7.holds Tryd.pinned (.plain (OpenSpec.upto fnBulletinSpec)) fnBulletinUptoCard

/-- THE SECOND FORM's CARD OF 'laws.FnBulletinBad'. -/
def fnBulletinBadUptoCard : Claim7 := { stood := { row := fnBulletinBadUptoRow, standIns := [], harness := (true, "7e428820502ba848b4bdf9ec8bda8192fbdf3cc123e971949ee8a86b8a31712b"), looks := true }, kinds := [], alts := [], laidByText := true, laidKinds := [.data, .data, .data], laidTests := true, laidLooks := .later }
def FnBulletinBadUptoCardSaid : Prop := Claim7.holds Tryd.pinned (.plain (OpenSpec.upto fnBulletinBadSpec)) fnBulletinBadUptoCard

/-- THE SECOND FORM's CARD OF 'laws.FnBulletinParse'. -/
def fnBulletinParseUptoCard : Claim7 := { stood := { row := fnBulletinParseUptoRow, standIns := [], harness := (true, "7e428820502ba848b4bdf9ec8bda8192fbdf3cc123e971949ee8a86b8a31712b"), looks := true }, kinds := [], alts := [], laidByText := true, laidKinds := [.data, .data, .data, .sentinel], laidTests := true, laidLooks := .later }
def FnBulletinParseUptoCardSaid : Prop := Claim7.holds Tryd.pinned (.plain (OpenSpec.upto fnBulletinParseSpec)) fnBulletinParseUptoCard

/-- THE SECOND FORM's CARD OF 'laws.FnBulletinDamage'. -/
def fnBulletinDamageUptoCard : Claim7 := { stood := { row := fnBulletinDamageUptoRow, standIns := [], harness := (true, "7e428820502ba848b4bdf9ec8bda8192fbdf3cc123e971949ee8a86b8a31712b"), looks := true }, kinds := [], alts := [], laidByText := true, laidKinds := [.data, .data, .data, .sentinel], laidTests := true, laidLooks := .later }
def FnBulletinDamageUptoCardSaid : Prop := Claim7.holds Tryd.pinned (.plain (OpenSpec.upto fnBulletinDamageSpec)) fnBulletinDamageUptoCard

/-- THE SECOND FORM's CARD OF 'laws.FnBulletinGood'. -/
def fnBulletinGoodUptoCard : Claim7 := { stood := { row := fnBulletinGoodUptoRow, standIns := [], harness := (true, "7e428820502ba848b4bdf9ec8bda8192fbdf3cc123e971949ee8a86b8a31712b"), looks := true }, kinds := [], alts := [], laidByText := true, laidKinds := [.data, .data, .data, .sentinel], laidTests := true, laidLooks := .later }
def FnBulletinGoodUptoCardSaid : Prop := Claim7.holds Tryd.pinned (.plain (OpenSpec.upto fnBulletinGoodSpec)) fnBulletinGoodUptoCard

/-- THE SECOND FORM's CARD OF 'laws.FnExactBulletinText'. -/
def fnExactBulletinTextUptoCard : Claim7 := { stood := { row := fnExactBulletinTextUptoRow, standIns := [], harness := (true, "7e428820502ba848b4bdf9ec8bda8192fbdf3cc123e971949ee8a86b8a31712b"), looks := true }, kinds := [], alts := [], laidByText := true, laidKinds := [.data, .data, .data], laidTests := true, laidLooks := .later }
def FnExactBulletinTextUptoCardSaid : Prop := Claim7.holds Tryd.pinned (.plain (OpenSpec.upto fnExactBulletinTextSpec)) fnExactBulletinTextUptoCard

/-- THE SECOND FORM's CARD OF 'laws.FnExactBulletinParse'. -/
def fnExactBulletinParseUptoCard : Claim7 := { stood := { row := fnExactBulletinParseUptoRow, standIns := [], harness := (true, "7e428820502ba848b4bdf9ec8bda8192fbdf3cc123e971949ee8a86b8a31712b"), looks := true }, kinds := [], alts := [], laidByText := true, laidKinds := [.data, .data, .data, .sentinel], laidTests := true, laidLooks := .later }
def FnExactBulletinParseUptoCardSaid : Prop := Claim7.holds Tryd.pinned (.plain (OpenSpec.upto fnExactBulletinParseSpec)) fnExactBulletinParseUptoCard

/-- THE SECOND FORM's CARD OF 'laws.FnExactBulletinGood'. -/
def fnExactBulletinGoodUptoCard : Claim7 := { stood := { row := fnExactBulletinGoodUptoRow, standIns := [], harness := (true, "7e428820502ba848b4bdf9ec8bda8192fbdf3cc123e971949ee8a86b8a31712b"), looks := true }, kinds := [], alts := [], laidByText := true, laidKinds := [.data, .data, .data, .sentinel], laidTests := true, laidLooks := .later }
def FnExactBulletinGoodUptoCardSaid : Prop := Claim7.holds Tryd.pinned (.plain (OpenSpec.upto fnExactBulletinGoodSpec)) fnExactBulletinGoodUptoCard
end Rows
end Go.Proofs.YtcfffgbnkjclfaaDoor
