/-
  DERIVED. GIVEN WITH THE SEED: THE CARDS: each row of YtaggciojccoidaaDoorRows.lean that lists a variable, with what it lists TIED to the program's text (the seventh form; the later family's looks); each row that meets fmt, with fmt's text TOLD by the authors' own Lean function (tested against real Go, not proved from fmt's source: count such statements apart). THE CARD IS WHAT COUNTS. Prove the row's statement (the work); the ties are given (YtaggciojccoidaaDoorTie.lean); close each card by the builder's one call (the guide's Derived/Test/ToyasCard.lean, 'card_holds'). Laid BY PROGRAM, IN A SANDBOX (cutbox-door.mjs). By AI agents, Wed Nov 11 2026. No macro, syntax, notation, axiom, sorry.
-/
import Derived.Test.YtaggciojccoidaaDoorRows
import GoSem.ClaimSeven
namespace Go.Proofs.YtaggciojccoidaaDoor
namespace Rows

/-- THE TIED CARD OF 'laws.FnChain'. -/
def fnChainCard : Claim7 := { stood := { row := fnChainRow, standIns := [], harness := (true, "13d10f65013a766c4307580c3ba138d478bb70eaf1e5b311472b05edfbf779cf"), looks := true }, kinds := [], alts := [], laidByText := true, laidKinds := [.data, .data, .data], laidTests := true, laidLooks := .later }
def FnChainCardSaid : Prop := Claim7.holds Tryd.pinned (.plain (OpenSpec.ofChange fnChainSpec)) fnChainCard

/-- THE TIED CARD OF 'laws.FnChainText'. -/
def fnChainTextCard : Claim7 := { stood := { row := fnChainTextRow, standIns := [], harness := (true, "13d10f65013a766c4307580c3ba138d478bb70eaf1e5b311472b05edfbf779cf"), looks := true }, kinds := [], alts := [], laidByText := true, laidKinds := [.data, .data, .data], laidTests := true, laidLooks := .later }
def FnChainTextCardSaid : Prop := Claim7.holds Tryd.pinned (.plain (OpenSpec.ofChange fnChainTextSpec)) fnChainTextCard

/-- THE TIED CARD OF 'laws.FnChainCheck'. -/
def fnChainCheckCard : Claim7 := { stood := { row := fnChainCheckRow, standIns := [], harness := (true, "13d10f65013a766c4307580c3ba138d478bb70eaf1e5b311472b05edfbf779cf"), looks := true }, kinds := [], alts := [], laidByText := true, laidKinds := [.data, .data, .data, .handle], laidTests := true, laidLooks := .later }
def FnChainCheckCardSaid : Prop := Claim7.holds Tryd.pinned (.plain (OpenSpec.ofChange fnChainCheckSpec)) fnChainCheckCard

/-- THE TIED CARD OF 'laws.FnChainDamage'. -/
def fnChainDamageCard : Claim7 := { stood := { row := fnChainDamageRow, standIns := [], harness := (true, "13d10f65013a766c4307580c3ba138d478bb70eaf1e5b311472b05edfbf779cf"), looks := true }, kinds := [], alts := [], laidByText := true, laidKinds := [.data, .data, .data, .handle], laidTests := true, laidLooks := .later }
def FnChainDamageCardSaid : Prop := Claim7.holds Tryd.pinned (.plain (OpenSpec.ofChange fnChainDamageSpec)) fnChainDamageCard

/-- THE TIED CARD OF 'laws.FnExactChainOf'. -/
def fnExactChainOfCard : Claim7 := { stood := { row := fnExactChainOfRow, standIns := [], harness := (true, "13d10f65013a766c4307580c3ba138d478bb70eaf1e5b311472b05edfbf779cf"), looks := true }, kinds := [], alts := [], laidByText := true, laidKinds := [.data, .data, .data], laidTests := true, laidLooks := .later }
def FnExactChainOfCardSaid : Prop := Claim7.holds Tryd.pinned (.plain (OpenSpec.ofChange fnExactChainOfSpec)) fnExactChainOfCard

/-- THE TIED CARD OF 'laws.FnExactChainCheck'. -/
def fnExactChainCheckCard : Claim7 := { stood := { row := fnExactChainCheckRow, standIns := [], harness := (true, "13d10f65013a766c4307580c3ba138d478bb70eaf1e5b311472b05edfbf779cf"), looks := true }, kinds := [], alts := [], laidByText := true, laidKinds := [.data, .data, .data, .handle], laidTests := true, laidLooks := .later }
def FnExactChainCheckCardSaid : Prop := Claim7.holds Tryd.pinned (.plain (OpenSpec.ofChange fnExactChainCheckSpec)) fnExactChainCheckCard

/-- THE SECOND FORM's CARD OF 'laws.FnChain'. -/
def fnChainUptoCard : Claim7 := { stood := { row := fnChainUptoRow, standIns := [], harness := (true, "13d10f65013a766c4307580c3ba138d478bb70eaf1e5b311472b05edfbf779cf"), looks := true }, kinds := [], alts := [], laidByText := true, laidKinds := [.data, .data, .data], laidTests := true, laidLooks := .later }
def FnChainUptoCardSaid : Prop := Claim7.holds Tryd.pinned (.plain (OpenSpec.upto fnChainSpec)) fnChainUptoCard

/-- THE SECOND FORM's CARD OF 'laws.FnChainText'. -/
def fnChainTextUptoCard : Claim7 := { stood := { row := fnChainTextUptoRow, standIns := [], harness := (true, "13d10f65013a766c4307580c3ba138d478bb70eaf1e5b311472b05edfbf779cf"), looks := true }, kinds := [], alts := [], laidByText := true, laidKinds := [.data, .data, .data], laidTests := true, laidLooks := .later }
def FnChainTextUptoCardSaid : Prop := Claim7.holds Tryd.pinned (.plain (OpenSpec.upto fnChainTextSpec)) fnChainTextUptoCard

/-- THE SECOND FORM's CARD OF 'laws.FnChainCheck'. -/
def fnChainCheckUptoCard : Claim7 := { stood := { row := fnChainCheckUptoRow, standIns := [], harness := (true, "13d10f65013a766c4307580c3ba138d478bb70eaf1e5b311472b05edfbf779cf"), looks := true }, kinds := [], alts := [], laidByText := true, laidKinds := [.data, .data, .data, .handle], laidTests := true, laidLooks := .later }
def FnChainCheckUptoCardSaid : Prop := Claim7.holds Tryd.pinned (.plain (OpenSpec.upto fnChainCheckSpec)) fnChainCheckUptoCard

/-- THE SECOND FORM's CARD OF 'laws.FnChainDamage'. -/
def fnChainDamageUptoCard : Claim7 := { stood := { row := fnChainDamageUptoRow, standIns := [], harness := (true, "13d10f65013a766c4307580c3ba138d478bb70eaf1e5b311472b05edfbf779cf"), looks := true }, kinds := [], alts := [], laidByText := true, laidKinds := [.data, .data, .data, .handle], laidTests := true, laidLooks := .later }
def FnChainDamageUptoCardSaid : Prop := Claim7.holds Tryd.pinned (.plain (OpenSpec.upto fnChainDamageSpec)) fnChainDamageUptoCard

/-- THE SECOND FORM's CARD OF 'laws.FnExactChainOf'. -/
def fnExactChainOfUptoCard : Claim7 := { stood := { row := fnExactChainOfUptoRow, standIns := [], harness := (true, "13d10f65013a766c4307580c3ba138d478bb70eaf1e5b311472b05edfbf779cf"), looks := true }, kinds := [], alts := [], laidByText := true, laidKinds := [.data, .data, .data], laidTests := true, laidLooks := .later }
def FnExactChainOfUptoCardSaid : Prop := Claim7.holds Tryd.pinned (.plain (OpenSpec.upto fnExactChainOfSpec)) fnExactChainOfUptoCard

/-- THE SECOND FORM's CARD OF 'laws.FnExactChainCheck'. -/
def fnExactChainCheckUptoCard : Claim7 := { stood := { row := fnExactChainCheckUptoRow, standIns := [], harness := (true, "13d10f65013a766c4307580c3ba138d478bb70eaf1e5b311472b05edfbf779cf"), looks := true }, kinds := [], alts := [], laidByText := true, laidKinds := [.data, .data, .data, .handle], laidTests := true, laidLooks := .later }
def FnExactChainCheckUptoCardSaid : Prop := Claim7.holds Tryd.pinned (.plain (OpenSpec.upto fnExactChainCheckSpec)) fnExactChainCheckUptoCard
end Rows
end Go.Proofs.YtaggciojccoidaaDoor
