/-
  No cell of these rows narrows 'for every input' (looked for: loops, veiled, ifaces, maps, wideKeys, modest, calm, conditions, laid).
  DERIVED. THE GIVEN ROWS OF THIS SEAT. 14 by the template 'for every input the law returns true; each argument reads behind the call as it read before'; 0 by the template 'total and deterministic' (their statements: YtkapnbfjpglblabTotals.lean).
  GIVEN WITH THE SEED: the statements are not yours to turn. If you find one false, say at which input.
  Laid BY PROGRAM, IN A SANDBOX (cutbox-rows.mjs): the forced cells as the released guide's own fill.sh prints them over the translation ca0da14c14a3df20… (all of the seat's roots in one cut). By AI agents, Wed Nov 11 2026. No macro, syntax, notation, axiom, sorry.
-/
import Derived.Test.YtkapnbfjpglblabChecked
import GoSem.Claim
import GoSem.ClaimJoined
import GoSem.ClaimMapViews
import Derived.JoinedTies
import Derived.KernelRfl
namespace Go.Proofs.Ytkapnbfjpglblab
/- THE CELL 'sum', in the pinned program and in every row, IS THE sha256 OF THE DUMP (.gsa) THAT YtkapnbfjpglblabProg.lean LOADS. Nothing in Lean hashes anything: it is a label: what it is worth is what the hold of that sum in a sandbox is worth. -/
noncomputable def Try.pinned : Pinned := { name := "ytkapnbfjpglblab", sum := "ca0da14c14a3df20664be1de4308c41f83e53083393af8ecb5f166d16975cdc5", checked := Try.checked }
namespace Rows
def none {H : Type} : Left H := { results := [], args := [] }

/-- 'laws.FnStoreAdd': WHATEVER THE INPUT: true; the input reads as it did. -/
def fnStoreAddSpec : ChangeSpec := { name := "fnStoreAdd", fn := fun _ => fun
  | [d] => { results := [.lit (.bool true)], args := [d] }
  | _ => none }
def fnStoreAddRow : OpenClaim := { program := "ytkapnbfjpglblab", sum := "ca0da14c14a3df20664be1de4308c41f83e53083393af8ecb5f166d16975cdc5", func := "loop.example/weatherarchive/laws.FnStoreAdd", spec := "fnStoreAdd", apart := false }
def FnStoreAddSaid : Prop := fnStoreAddRow.holds Try.pinned (OpenSpec.ofChange fnStoreAddSpec)

/-- ITS FALSE NEIGHBOUR: 'it returns false'. Refute it at one input. -/
def fnStoreAddWrong : ChangeSpec := { name := "fnStoreAdd", fn := fun _ => fun
  | [d] => { results := [.lit (.bool false)], args := [d] }
  | _ => none }
def FnStoreAddWrongFalsely : Prop := fnStoreAddRow.holds Try.pinned (OpenSpec.ofChange fnStoreAddWrong)

/-- 'laws.FnStoreOld': WHATEVER THE INPUT: true; the input reads as it did. -/
def fnStoreOldSpec : ChangeSpec := { name := "fnStoreOld", fn := fun _ => fun
  | [d1, d2] => { results := [.lit (.bool true)], args := [d1, d2] }
  | _ => none }
def fnStoreOldRow : OpenClaim := { program := "ytkapnbfjpglblab", sum := "ca0da14c14a3df20664be1de4308c41f83e53083393af8ecb5f166d16975cdc5", func := "loop.example/weatherarchive/laws.FnStoreOld", spec := "fnStoreOld", apart := false }
def FnStoreOldSaid : Prop := fnStoreOldRow.holds Try.pinned (OpenSpec.ofChange fnStoreOldSpec)

/-- ITS FALSE NEIGHBOUR: 'it returns false'. Refute it at one input. -/
def fnStoreOldWrong : ChangeSpec := { name := "fnStoreOld", fn := fun _ => fun
  | [d1, d2] => { results := [.lit (.bool false)], args := [d1, d2] }
  | _ => none }
def FnStoreOldWrongFalsely : Prop := fnStoreOldRow.holds Try.pinned (OpenSpec.ofChange fnStoreOldWrong)

/-- 'laws.FnStoreFull': WHATEVER THE INPUT: true; the input reads as it did. -/
def fnStoreFullSpec : ChangeSpec := { name := "fnStoreFull", fn := fun _ => fun
  | [d] => { results := [.lit (.bool true)], args := [d] }
  | _ => none }
def fnStoreFullRow : OpenClaim := { program := "ytkapnbfjpglblab", sum := "ca0da14c14a3df20664be1de4308c41f83e53083393af8ecb5f166d16975cdc5", func := "loop.example/weatherarchive/laws.FnStoreFull", spec := "fnStoreFull", apart := false }
def FnStoreFullSaid : Prop := fnStoreFullRow.holds Try.pinned (OpenSpec.ofChange fnStoreFullSpec)

/-- ITS FALSE NEIGHBOUR: 'it returns false'. Refute it at one input. -/
def fnStoreFullWrong : ChangeSpec := { name := "fnStoreFull", fn := fun _ => fun
  | [d] => { results := [.lit (.bool false)], args := [d] }
  | _ => none }
def FnStoreFullWrongFalsely : Prop := fnStoreFullRow.holds Try.pinned (OpenSpec.ofChange fnStoreFullWrong)

/-- 'laws.FnStoreValue': WHATEVER THE INPUT: true; the input reads as it did. -/
def fnStoreValueSpec : ChangeSpec := { name := "fnStoreValue", fn := fun _ => fun
  | [d] => { results := [.lit (.bool true)], args := [d] }
  | _ => none }
def fnStoreValueRow : OpenClaim := { program := "ytkapnbfjpglblab", sum := "ca0da14c14a3df20664be1de4308c41f83e53083393af8ecb5f166d16975cdc5", func := "loop.example/weatherarchive/laws.FnStoreValue", spec := "fnStoreValue", apart := false }
def FnStoreValueSaid : Prop := fnStoreValueRow.holds Try.pinned (OpenSpec.ofChange fnStoreValueSpec)

/-- ITS FALSE NEIGHBOUR: 'it returns false'. Refute it at one input. -/
def fnStoreValueWrong : ChangeSpec := { name := "fnStoreValue", fn := fun _ => fun
  | [d] => { results := [.lit (.bool false)], args := [d] }
  | _ => none }
def FnStoreValueWrongFalsely : Prop := fnStoreValueRow.holds Try.pinned (OpenSpec.ofChange fnStoreValueWrong)

/-- 'laws.FnStoreSeries': WHATEVER THE INPUT: true; the input reads as it did. -/
def fnStoreSeriesSpec : ChangeSpec := { name := "fnStoreSeries", fn := fun _ => fun
  | [d] => { results := [.lit (.bool true)], args := [d] }
  | _ => none }
def fnStoreSeriesRow : OpenClaim := { program := "ytkapnbfjpglblab", sum := "ca0da14c14a3df20664be1de4308c41f83e53083393af8ecb5f166d16975cdc5", func := "loop.example/weatherarchive/laws.FnStoreSeries", spec := "fnStoreSeries", apart := false }
def FnStoreSeriesSaid : Prop := fnStoreSeriesRow.holds Try.pinned (OpenSpec.ofChange fnStoreSeriesSpec)

/-- ITS FALSE NEIGHBOUR: 'it returns false'. Refute it at one input. -/
def fnStoreSeriesWrong : ChangeSpec := { name := "fnStoreSeries", fn := fun _ => fun
  | [d] => { results := [.lit (.bool false)], args := [d] }
  | _ => none }
def FnStoreSeriesWrongFalsely : Prop := fnStoreSeriesRow.holds Try.pinned (OpenSpec.ofChange fnStoreSeriesWrong)

/-- 'laws.FnStoreSeriesPart': WHATEVER THE INPUT: true; the input reads as it did. -/
def fnStoreSeriesPartSpec : ChangeSpec := { name := "fnStoreSeriesPart", fn := fun _ => fun
  | [d] => { results := [.lit (.bool true)], args := [d] }
  | _ => none }
def fnStoreSeriesPartRow : OpenClaim := { program := "ytkapnbfjpglblab", sum := "ca0da14c14a3df20664be1de4308c41f83e53083393af8ecb5f166d16975cdc5", func := "loop.example/weatherarchive/laws.FnStoreSeriesPart", spec := "fnStoreSeriesPart", apart := false }
def FnStoreSeriesPartSaid : Prop := fnStoreSeriesPartRow.holds Try.pinned (OpenSpec.ofChange fnStoreSeriesPartSpec)

/-- ITS FALSE NEIGHBOUR: 'it returns false'. Refute it at one input. -/
def fnStoreSeriesPartWrong : ChangeSpec := { name := "fnStoreSeriesPart", fn := fun _ => fun
  | [d] => { results := [.lit (.bool false)], args := [d] }
  | _ => none }
def FnStoreSeriesPartWrongFalsely : Prop := fnStoreSeriesPartRow.holds Try.pinned (OpenSpec.ofChange fnStoreSeriesPartWrong)

/-- 'laws.FnStoreChanges': WHATEVER THE INPUT: true; the input reads as it did. -/
def fnStoreChangesSpec : ChangeSpec := { name := "fnStoreChanges", fn := fun _ => fun
  | [d] => { results := [.lit (.bool true)], args := [d] }
  | _ => none }
def fnStoreChangesRow : OpenClaim := { program := "ytkapnbfjpglblab", sum := "ca0da14c14a3df20664be1de4308c41f83e53083393af8ecb5f166d16975cdc5", func := "loop.example/weatherarchive/laws.FnStoreChanges", spec := "fnStoreChanges", apart := false }
def FnStoreChangesSaid : Prop := fnStoreChangesRow.holds Try.pinned (OpenSpec.ofChange fnStoreChangesSpec)

/-- ITS FALSE NEIGHBOUR: 'it returns false'. Refute it at one input. -/
def fnStoreChangesWrong : ChangeSpec := { name := "fnStoreChanges", fn := fun _ => fun
  | [d] => { results := [.lit (.bool false)], args := [d] }
  | _ => none }
def FnStoreChangesWrongFalsely : Prop := fnStoreChangesRow.holds Try.pinned (OpenSpec.ofChange fnStoreChangesWrong)

/-- 'laws.FnStorePart': WHATEVER THE INPUT: true; the input reads as it did. -/
def fnStorePartSpec : ChangeSpec := { name := "fnStorePart", fn := fun _ => fun
  | [d1, d2] => { results := [.lit (.bool true)], args := [d1, d2] }
  | _ => none }
def fnStorePartRow : OpenClaim := { program := "ytkapnbfjpglblab", sum := "ca0da14c14a3df20664be1de4308c41f83e53083393af8ecb5f166d16975cdc5", func := "loop.example/weatherarchive/laws.FnStorePart", spec := "fnStorePart", apart := false }
def FnStorePartSaid : Prop := fnStorePartRow.holds Try.pinned (OpenSpec.ofChange fnStorePartSpec)

/-- ITS FALSE NEIGHBOUR: 'it returns false'. Refute it at one input. -/
def fnStorePartWrong : ChangeSpec := { name := "fnStorePart", fn := fun _ => fun
  | [d1, d2] => { results := [.lit (.bool false)], args := [d1, d2] }
  | _ => none }
def FnStorePartWrongFalsely : Prop := fnStorePartRow.holds Try.pinned (OpenSpec.ofChange fnStorePartWrong)

/-- 'laws.FnStoreSame': WHATEVER THE INPUT: true; the input reads as it did. -/
def fnStoreSameSpec : ChangeSpec := { name := "fnStoreSame", fn := fun _ => fun
  | [d] => { results := [.lit (.bool true)], args := [d] }
  | _ => none }
def fnStoreSameRow : OpenClaim := { program := "ytkapnbfjpglblab", sum := "ca0da14c14a3df20664be1de4308c41f83e53083393af8ecb5f166d16975cdc5", func := "loop.example/weatherarchive/laws.FnStoreSame", spec := "fnStoreSame", apart := false }
def FnStoreSameSaid : Prop := fnStoreSameRow.holds Try.pinned (OpenSpec.ofChange fnStoreSameSpec)

/-- ITS FALSE NEIGHBOUR: 'it returns false'. Refute it at one input. -/
def fnStoreSameWrong : ChangeSpec := { name := "fnStoreSame", fn := fun _ => fun
  | [d] => { results := [.lit (.bool false)], args := [d] }
  | _ => none }
def FnStoreSameWrongFalsely : Prop := fnStoreSameRow.holds Try.pinned (OpenSpec.ofChange fnStoreSameWrong)

/-- 'laws.FnExactStoreValid': WHATEVER THE INPUT: true; the input reads as it did. -/
def fnExactStoreValidSpec : ChangeSpec := { name := "fnExactStoreValid", fn := fun _ => fun
  | [d] => { results := [.lit (.bool true)], args := [d] }
  | _ => none }
def fnExactStoreValidRow : OpenClaim := { program := "ytkapnbfjpglblab", sum := "ca0da14c14a3df20664be1de4308c41f83e53083393af8ecb5f166d16975cdc5", func := "loop.example/weatherarchive/laws.FnExactStoreValid", spec := "fnExactStoreValid", apart := false }
def FnExactStoreValidSaid : Prop := fnExactStoreValidRow.holds Try.pinned (OpenSpec.ofChange fnExactStoreValidSpec)

/-- ITS FALSE NEIGHBOUR: 'it returns false'. Refute it at one input. -/
def fnExactStoreValidWrong : ChangeSpec := { name := "fnExactStoreValid", fn := fun _ => fun
  | [d] => { results := [.lit (.bool false)], args := [d] }
  | _ => none }
def FnExactStoreValidWrongFalsely : Prop := fnExactStoreValidRow.holds Try.pinned (OpenSpec.ofChange fnExactStoreValidWrong)

/-- 'laws.FnExactStoreAdd': WHATEVER THE INPUT: true; the input reads as it did. -/
def fnExactStoreAddSpec : ChangeSpec := { name := "fnExactStoreAdd", fn := fun _ => fun
  | [d1, d2] => { results := [.lit (.bool true)], args := [d1, d2] }
  | _ => none }
def fnExactStoreAddRow : OpenClaim := { program := "ytkapnbfjpglblab", sum := "ca0da14c14a3df20664be1de4308c41f83e53083393af8ecb5f166d16975cdc5", func := "loop.example/weatherarchive/laws.FnExactStoreAdd", spec := "fnExactStoreAdd", apart := false }
def FnExactStoreAddSaid : Prop := fnExactStoreAddRow.holds Try.pinned (OpenSpec.ofChange fnExactStoreAddSpec)

/-- ITS FALSE NEIGHBOUR: 'it returns false'. Refute it at one input. -/
def fnExactStoreAddWrong : ChangeSpec := { name := "fnExactStoreAdd", fn := fun _ => fun
  | [d1, d2] => { results := [.lit (.bool false)], args := [d1, d2] }
  | _ => none }
def FnExactStoreAddWrongFalsely : Prop := fnExactStoreAddRow.holds Try.pinned (OpenSpec.ofChange fnExactStoreAddWrong)

/-- 'laws.FnExactStoreValue': WHATEVER THE INPUT: true; the input reads as it did. -/
def fnExactStoreValueSpec : ChangeSpec := { name := "fnExactStoreValue", fn := fun _ => fun
  | [d1, d2, d3, d4, d5] => { results := [.lit (.bool true)], args := [d1, d2, d3, d4, d5] }
  | _ => none }
def fnExactStoreValueRow : OpenClaim := { program := "ytkapnbfjpglblab", sum := "ca0da14c14a3df20664be1de4308c41f83e53083393af8ecb5f166d16975cdc5", func := "loop.example/weatherarchive/laws.FnExactStoreValue", spec := "fnExactStoreValue", apart := false }
def FnExactStoreValueSaid : Prop := fnExactStoreValueRow.holds Try.pinned (OpenSpec.ofChange fnExactStoreValueSpec)

/-- ITS FALSE NEIGHBOUR: 'it returns false'. Refute it at one input. -/
def fnExactStoreValueWrong : ChangeSpec := { name := "fnExactStoreValue", fn := fun _ => fun
  | [d1, d2, d3, d4, d5] => { results := [.lit (.bool false)], args := [d1, d2, d3, d4, d5] }
  | _ => none }
def FnExactStoreValueWrongFalsely : Prop := fnExactStoreValueRow.holds Try.pinned (OpenSpec.ofChange fnExactStoreValueWrong)

/-- 'laws.FnExactStoreSeries': WHATEVER THE INPUT: true; the input reads as it did. -/
def fnExactStoreSeriesSpec : ChangeSpec := { name := "fnExactStoreSeries", fn := fun _ => fun
  | [d1, d2, d3, d4, d5, d6] => { results := [.lit (.bool true)], args := [d1, d2, d3, d4, d5, d6] }
  | _ => none }
def fnExactStoreSeriesRow : OpenClaim := { program := "ytkapnbfjpglblab", sum := "ca0da14c14a3df20664be1de4308c41f83e53083393af8ecb5f166d16975cdc5", func := "loop.example/weatherarchive/laws.FnExactStoreSeries", spec := "fnExactStoreSeries", apart := false }
def FnExactStoreSeriesSaid : Prop := fnExactStoreSeriesRow.holds Try.pinned (OpenSpec.ofChange fnExactStoreSeriesSpec)

/-- ITS FALSE NEIGHBOUR: 'it returns false'. Refute it at one input. -/
def fnExactStoreSeriesWrong : ChangeSpec := { name := "fnExactStoreSeries", fn := fun _ => fun
  | [d1, d2, d3, d4, d5, d6] => { results := [.lit (.bool false)], args := [d1, d2, d3, d4, d5, d6] }
  | _ => none }
def FnExactStoreSeriesWrongFalsely : Prop := fnExactStoreSeriesRow.holds Try.pinned (OpenSpec.ofChange fnExactStoreSeriesWrong)

/-- 'laws.FnExactStoreChanges': WHATEVER THE INPUT: true; the input reads as it did. -/
def fnExactStoreChangesSpec : ChangeSpec := { name := "fnExactStoreChanges", fn := fun _ => fun
  | [d] => { results := [.lit (.bool true)], args := [d] }
  | _ => none }
def fnExactStoreChangesRow : OpenClaim := { program := "ytkapnbfjpglblab", sum := "ca0da14c14a3df20664be1de4308c41f83e53083393af8ecb5f166d16975cdc5", func := "loop.example/weatherarchive/laws.FnExactStoreChanges", spec := "fnExactStoreChanges", apart := false }
def FnExactStoreChangesSaid : Prop := fnExactStoreChangesRow.holds Try.pinned (OpenSpec.ofChange fnExactStoreChangesSpec)

/-- ITS FALSE NEIGHBOUR: 'it returns false'. Refute it at one input. -/
def fnExactStoreChangesWrong : ChangeSpec := { name := "fnExactStoreChanges", fn := fun _ => fun
  | [d] => { results := [.lit (.bool false)], args := [d] }
  | _ => none }
def FnExactStoreChangesWrongFalsely : Prop := fnExactStoreChangesRow.holds Try.pinned (OpenSpec.ofChange fnExactStoreChangesWrong)

/- THE SECOND FORM. 'bulk': how many values and letters a reading holds, each counted each time it is reached (what is shared counts as often as it is met; a slice's spare places count too). A statement '..UptoSaid' is the law's where the arguments, and the package variables that the reading takes, are together of bulk at most 1048576: NARROWER than '..Said'. Prove '..Said' where nothing that the law and all that it calls make is longer than what came in: it says more and counts as full. Else prove '..UptoSaid'. A law counts once. -/
mutual
def uptoBulk {H : Type} : DataW H → Nat
  | .lit (.string bytes) => bytes.length + 1
  | .lit _ => 1
  | .nil => 1
  | .ptr d => uptoBulk d + 1
  | .slice elems spare => uptoBulkAll elems + uptoBulkAll spare + 1
  | .agg parts => uptoBulkAll parts + 1
  | .iface _ d => uptoBulk d + 1
  | .map entries => uptoBulkEntries entries + 1
  | .held _ => 1
def uptoBulkAll {H : Type} : List (DataW H) → Nat
  | [] => 0
  | d :: r => uptoBulk d + uptoBulkAll r
def uptoBulkEntries {H : Type} : List (Lit × DataW H) → Nat
  | [] => 0
  | x :: r => uptoBulkEntry x + uptoBulkEntries r
def uptoBulkEntry {H : Type} : Lit × DataW H → Nat
  | (.string bytes, d) => bytes.length + uptoBulk d + 1
  | (_, d) => uptoBulk d + 1
 end
def uptoSmall : (H : Type) → List (DataW H) → Bool := fun _ ds => decide (uptoBulkAll ds ≤ 1048576)
def OpenSpec.upto (s : _root_.Go.ChangeSpec) : _root_.Go.OpenSpec := { _root_.Go.OpenSpec.ofChange s with cond := some uptoSmall }

/-- 'laws.FnStoreAdd', WHERE WHAT IT READS IS OF BULK AT MOST 1048576: true; the input reads as it did. -/
def fnStoreAddUptoRow : OpenClaim := { program := "ytkapnbfjpglblab", sum := "ca0da14c14a3df20664be1de4308c41f83e53083393af8ecb5f166d16975cdc5", func := "loop.example/weatherarchive/laws.FnStoreAdd", spec := "fnStoreAdd", apart := false, narrowed := true }
def FnStoreAddUptoSaid : Prop := fnStoreAddUptoRow.holds Try.pinned (OpenSpec.upto fnStoreAddSpec)

/-- 'laws.FnStoreOld', WHERE WHAT IT READS IS OF BULK AT MOST 1048576: true; the input reads as it did. -/
def fnStoreOldUptoRow : OpenClaim := { program := "ytkapnbfjpglblab", sum := "ca0da14c14a3df20664be1de4308c41f83e53083393af8ecb5f166d16975cdc5", func := "loop.example/weatherarchive/laws.FnStoreOld", spec := "fnStoreOld", apart := false, narrowed := true }
def FnStoreOldUptoSaid : Prop := fnStoreOldUptoRow.holds Try.pinned (OpenSpec.upto fnStoreOldSpec)

/-- 'laws.FnStoreFull', WHERE WHAT IT READS IS OF BULK AT MOST 1048576: true; the input reads as it did. -/
def fnStoreFullUptoRow : OpenClaim := { program := "ytkapnbfjpglblab", sum := "ca0da14c14a3df20664be1de4308c41f83e53083393af8ecb5f166d16975cdc5", func := "loop.example/weatherarchive/laws.FnStoreFull", spec := "fnStoreFull", apart := false, narrowed := true }
def FnStoreFullUptoSaid : Prop := fnStoreFullUptoRow.holds Try.pinned (OpenSpec.upto fnStoreFullSpec)

/-- 'laws.FnStoreValue', WHERE WHAT IT READS IS OF BULK AT MOST 1048576: true; the input reads as it did. -/
def fnStoreValueUptoRow : OpenClaim := { program := "ytkapnbfjpglblab", sum := "ca0da14c14a3df20664be1de4308c41f83e53083393af8ecb5f166d16975cdc5", func := "loop.example/weatherarchive/laws.FnStoreValue", spec := "fnStoreValue", apart := false, narrowed := true }
def FnStoreValueUptoSaid : Prop := fnStoreValueUptoRow.holds Try.pinned (OpenSpec.upto fnStoreValueSpec)

/-- 'laws.FnStoreSeries', WHERE WHAT IT READS IS OF BULK AT MOST 1048576: true; the input reads as it did. -/
def fnStoreSeriesUptoRow : OpenClaim := { program := "ytkapnbfjpglblab", sum := "ca0da14c14a3df20664be1de4308c41f83e53083393af8ecb5f166d16975cdc5", func := "loop.example/weatherarchive/laws.FnStoreSeries", spec := "fnStoreSeries", apart := false, narrowed := true }
def FnStoreSeriesUptoSaid : Prop := fnStoreSeriesUptoRow.holds Try.pinned (OpenSpec.upto fnStoreSeriesSpec)

/-- 'laws.FnStoreSeriesPart', WHERE WHAT IT READS IS OF BULK AT MOST 1048576: true; the input reads as it did. -/
def fnStoreSeriesPartUptoRow : OpenClaim := { program := "ytkapnbfjpglblab", sum := "ca0da14c14a3df20664be1de4308c41f83e53083393af8ecb5f166d16975cdc5", func := "loop.example/weatherarchive/laws.FnStoreSeriesPart", spec := "fnStoreSeriesPart", apart := false, narrowed := true }
def FnStoreSeriesPartUptoSaid : Prop := fnStoreSeriesPartUptoRow.holds Try.pinned (OpenSpec.upto fnStoreSeriesPartSpec)

/-- 'laws.FnStoreChanges', WHERE WHAT IT READS IS OF BULK AT MOST 1048576: true; the input reads as it did. -/
def fnStoreChangesUptoRow : OpenClaim := { program := "ytkapnbfjpglblab", sum := "ca0da14c14a3df20664be1de4308c41f83e53083393af8ecb5f166d16975cdc5", func := "loop.example/weatherarchive/laws.FnStoreChanges", spec := "fnStoreChanges", apart := false, narrowed := true }
def FnStoreChangesUptoSaid : Prop := fnStoreChangesUptoRow.holds Try.pinned (OpenSpec.upto fnStoreChangesSpec)

/-- 'laws.FnStorePart', WHERE WHAT IT READS IS OF BULK AT MOST 1048576: true; the input reads as it did. -/
def fnStorePartUptoRow : OpenClaim := { program := "ytkapnbfjpglblab", sum := "ca0da14c14a3df20664be1de4308c41f83e53083393af8ecb5f166d16975cdc5", func := "loop.example/weatherarchive/laws.FnStorePart", spec := "fnStorePart", apart := false, narrowed := true }
def FnStorePartUptoSaid : Prop := fnStorePartUptoRow.holds Try.pinned (OpenSpec.upto fnStorePartSpec)

/-- 'laws.FnStoreSame', WHERE WHAT IT READS IS OF BULK AT MOST 1048576: true; the input reads as it did. -/
def fnStoreSameUptoRow : OpenClaim := { program := "ytkapnbfjpglblab", sum := "ca0da14c14a3df20664be1de4308c41f83e53083393af8ecb5f166d16975cdc5", func := "loop.example/weatherarchive/laws.FnStoreSame", spec := "fnStoreSame", apart := false, narrowed := true }
def FnStoreSameUptoSaid : Prop := fnStoreSameUptoRow.holds Try.pinned (OpenSpec.upto fnStoreSameSpec)

/-- 'laws.FnExactStoreValid', WHERE WHAT IT READS IS OF BULK AT MOST 1048576: true; the input reads as it did. -/
def fnExactStoreValidUptoRow : OpenClaim := { program := "ytkapnbfjpglblab", sum := "ca0da14c14a3df20664be1de4308c41f83e53083393af8ecb5f166d16975cdc5", func := "loop.example/weatherarchive/laws.FnExactStoreValid", spec := "fnExactStoreValid", apart := false, narrowed := true }
def FnExactStoreValidUptoSaid : Prop := fnExactStoreValidUptoRow.holds Try.pinned (OpenSpec.upto fnExactStoreValidSpec)

/-- 'laws.FnExactStoreAdd', WHERE WHAT IT READS IS OF BULK AT MOST 1048576: true; the input reads as it did. -/
def fnExactStoreAddUptoRow : OpenClaim := { program := "ytkapnbfjpglblab", sum := "ca0da14c14a3df20664be1de4308c41f83e53083393af8ecb5f166d16975cdc5", func := "loop.example/weatherarchive/laws.FnExactStoreAdd", spec := "fnExactStoreAdd", apart := false, narrowed := true }
def FnExactStoreAddUptoSaid : Prop := fnExactStoreAddUptoRow.holds Try.pinned (OpenSpec.upto fnExactStoreAddSpec)

/-- 'laws.FnExactStoreValue', WHERE WHAT IT READS IS OF BULK AT MOST 1048576: true; the input reads as it did. -/
def fnExactStoreValueUptoRow : OpenClaim := { program := "ytkapnbfjpglblab", sum := "ca0da14c14a3df20664be1de4308c41f83e53083393af8ecb5f166d16975cdc5", func := "loop.example/weatherarchive/laws.FnExactStoreValue", spec := "fnExactStoreValue", apart := false, narrowed := true }
def FnExactStoreValueUptoSaid : Prop := fnExactStoreValueUptoRow.holds Try.pinned (OpenSpec.upto fnExactStoreValueSpec)

/-- 'laws.FnExactStoreSeries', WHERE WHAT IT READS IS OF BULK AT MOST 1048576: true; the input reads as it did. -/
def fnExactStoreSeriesUptoRow : OpenClaim := { program := "ytkapnbfjpglblab", sum := "ca0da14c14a3df20664be1de4308c41f83e53083393af8ecb5f166d16975cdc5", func := "loop.example/weatherarchive/laws.FnExactStoreSeries", spec := "fnExactStoreSeries", apart := false, narrowed := true }
def FnExactStoreSeriesUptoSaid : Prop := fnExactStoreSeriesUptoRow.holds Try.pinned (OpenSpec.upto fnExactStoreSeriesSpec)

/-- 'laws.FnExactStoreChanges', WHERE WHAT IT READS IS OF BULK AT MOST 1048576: true; the input reads as it did. -/
def fnExactStoreChangesUptoRow : OpenClaim := { program := "ytkapnbfjpglblab", sum := "ca0da14c14a3df20664be1de4308c41f83e53083393af8ecb5f166d16975cdc5", func := "loop.example/weatherarchive/laws.FnExactStoreChanges", spec := "fnExactStoreChanges", apart := false, narrowed := true }
def FnExactStoreChangesUptoSaid : Prop := fnExactStoreChangesUptoRow.holds Try.pinned (OpenSpec.upto fnExactStoreChangesSpec)

end Rows
end Go.Proofs.Ytkapnbfjpglblab
