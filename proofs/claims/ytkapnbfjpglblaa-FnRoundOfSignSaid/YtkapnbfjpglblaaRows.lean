/-
  No cell of these rows narrows 'for every input' (looked for: loops, veiled, ifaces, maps, wideKeys, modest, calm, conditions, laid).
  DERIVED. THE GIVEN ROWS OF THIS SEAT. 14 by the template 'for every input the law returns true; each argument reads behind the call as it read before'; 0 by the template 'total and deterministic' (their statements: YtkapnbfjpglblaaTotals.lean).
  GIVEN WITH THE SEED: the statements are not yours to turn. If you find one false, say at which input.
  Laid BY PROGRAM, IN A SANDBOX (cutbox-rows.mjs): the forced cells as the released guide's own fill.sh prints them over the translation e4a03cc29c46b607… (all of the seat's roots in one cut). By AI agents, Wed Nov 11 2026. No macro, syntax, notation, axiom, sorry.
-/
import Derived.Test.YtkapnbfjpglblaaChecked
import GoSem.Claim
import GoSem.ClaimJoined
import GoSem.ClaimMapViews
import Derived.JoinedTies
import Derived.KernelRfl
namespace Go.Proofs.Ytkapnbfjpglblaa
/- THE CELL 'sum', in the pinned program and in every row, IS THE sha256 OF THE DUMP (.gsa) THAT YtkapnbfjpglblaaProg.lean LOADS. Nothing in Lean hashes anything: it is a label: what it is worth is what the hold of that sum in a sandbox is worth. -/
noncomputable def Try.pinned : Pinned := { name := "ytkapnbfjpglblaa", sum := "e4a03cc29c46b6072f58197c08b061ed2e120820018d6932757b8a1ff4de38c8", checked := Try.checked }
namespace Rows
def none {H : Type} : Left H := { results := [], args := [] }

/-- 'laws.FnHourTurn': WHATEVER THE INPUT: true; the input reads as it did. -/
def fnHourTurnSpec : ChangeSpec := { name := "fnHourTurn", fn := fun _ => fun
  | [d] => { results := [.lit (.bool true)], args := [d] }
  | _ => none }
def fnHourTurnRow : OpenClaim := { program := "ytkapnbfjpglblaa", sum := "e4a03cc29c46b6072f58197c08b061ed2e120820018d6932757b8a1ff4de38c8", func := "loop.example/weatherarchive/laws.FnHourTurn", spec := "fnHourTurn", apart := false }
def FnHourTurnSaid : Prop := fnHourTurnRow.holds Try.pinned (OpenSpec.ofChange fnHourTurnSpec)

/-- ITS FALSE NEIGHBOUR: 'it returns false'. Refute it at one input. -/
def fnHourTurnWrong : ChangeSpec := { name := "fnHourTurn", fn := fun _ => fun
  | [d] => { results := [.lit (.bool false)], args := [d] }
  | _ => none }
def FnHourTurnWrongFalsely : Prop := fnHourTurnRow.holds Try.pinned (OpenSpec.ofChange fnHourTurnWrong)

/-- 'laws.FnHourTurnDay': WHATEVER THE INPUT: true; the input reads as it did. -/
def fnHourTurnDaySpec : ChangeSpec := { name := "fnHourTurnDay", fn := fun _ => fun
  | [d] => { results := [.lit (.bool true)], args := [d] }
  | _ => none }
def fnHourTurnDayRow : OpenClaim := { program := "ytkapnbfjpglblaa", sum := "e4a03cc29c46b6072f58197c08b061ed2e120820018d6932757b8a1ff4de38c8", func := "loop.example/weatherarchive/laws.FnHourTurnDay", spec := "fnHourTurnDay", apart := false }
def FnHourTurnDaySaid : Prop := fnHourTurnDayRow.holds Try.pinned (OpenSpec.ofChange fnHourTurnDaySpec)

/-- ITS FALSE NEIGHBOUR: 'it returns false'. Refute it at one input. -/
def fnHourTurnDayWrong : ChangeSpec := { name := "fnHourTurnDay", fn := fun _ => fun
  | [d] => { results := [.lit (.bool false)], args := [d] }
  | _ => none }
def FnHourTurnDayWrongFalsely : Prop := fnHourTurnDayRow.holds Try.pinned (OpenSpec.ofChange fnHourTurnDayWrong)

/-- 'laws.FnRoundOf': WHATEVER THE INPUT: true; the input reads as it did. -/
def fnRoundOfSpec : ChangeSpec := { name := "fnRoundOf", fn := fun _ => fun
  | [d] => { results := [.lit (.bool true)], args := [d] }
  | _ => none }
def fnRoundOfRow : OpenClaim := { program := "ytkapnbfjpglblaa", sum := "e4a03cc29c46b6072f58197c08b061ed2e120820018d6932757b8a1ff4de38c8", func := "loop.example/weatherarchive/laws.FnRoundOf", spec := "fnRoundOf", apart := false }
def FnRoundOfSaid : Prop := fnRoundOfRow.holds Try.pinned (OpenSpec.ofChange fnRoundOfSpec)

/-- ITS FALSE NEIGHBOUR: 'it returns false'. Refute it at one input. -/
def fnRoundOfWrong : ChangeSpec := { name := "fnRoundOf", fn := fun _ => fun
  | [d] => { results := [.lit (.bool false)], args := [d] }
  | _ => none }
def FnRoundOfWrongFalsely : Prop := fnRoundOfRow.holds Try.pinned (OpenSpec.ofChange fnRoundOfWrong)

/-- 'laws.FnRoundOfSign': WHATEVER THE INPUT: true; the input reads as it did. -/
def fnRoundOfSignSpec : ChangeSpec := { name := "fnRoundOfSign", fn := fun _ => fun
  | [d] => { results := [.lit (.bool true)], args := [d] }
  | _ => none }
def fnRoundOfSignRow : OpenClaim := { program := "ytkapnbfjpglblaa", sum := "e4a03cc29c46b6072f58197c08b061ed2e120820018d6932757b8a1ff4de38c8", func := "loop.example/weatherarchive/laws.FnRoundOfSign", spec := "fnRoundOfSign", apart := false }
def FnRoundOfSignSaid : Prop := fnRoundOfSignRow.holds Try.pinned (OpenSpec.ofChange fnRoundOfSignSpec)

/-- ITS FALSE NEIGHBOUR: 'it returns false'. Refute it at one input. -/
def fnRoundOfSignWrong : ChangeSpec := { name := "fnRoundOfSign", fn := fun _ => fun
  | [d] => { results := [.lit (.bool false)], args := [d] }
  | _ => none }
def FnRoundOfSignWrongFalsely : Prop := fnRoundOfSignRow.holds Try.pinned (OpenSpec.ofChange fnRoundOfSignWrong)

/-- 'laws.FnHourMean': WHATEVER THE INPUT: true; the input reads as it did. -/
def fnHourMeanSpec : ChangeSpec := { name := "fnHourMean", fn := fun _ => fun
  | [d] => { results := [.lit (.bool true)], args := [d] }
  | _ => none }
def fnHourMeanRow : OpenClaim := { program := "ytkapnbfjpglblaa", sum := "e4a03cc29c46b6072f58197c08b061ed2e120820018d6932757b8a1ff4de38c8", func := "loop.example/weatherarchive/laws.FnHourMean", spec := "fnHourMean", unfollowed := true, recurses := true, apart := false }
def FnHourMeanSaid : Prop := fnHourMeanRow.holds Try.pinned (OpenSpec.ofChange fnHourMeanSpec)

/-- ITS FALSE NEIGHBOUR: 'it returns false'. Refute it at one input. -/
def fnHourMeanWrong : ChangeSpec := { name := "fnHourMean", fn := fun _ => fun
  | [d] => { results := [.lit (.bool false)], args := [d] }
  | _ => none }
def FnHourMeanWrongFalsely : Prop := fnHourMeanRow.holds Try.pinned (OpenSpec.ofChange fnHourMeanWrong)

/-- 'laws.FnHourMeanTurn': WHATEVER THE INPUT: true; the input reads as it did. -/
def fnHourMeanTurnSpec : ChangeSpec := { name := "fnHourMeanTurn", fn := fun _ => fun
  | [d] => { results := [.lit (.bool true)], args := [d] }
  | _ => none }
def fnHourMeanTurnRow : OpenClaim := { program := "ytkapnbfjpglblaa", sum := "e4a03cc29c46b6072f58197c08b061ed2e120820018d6932757b8a1ff4de38c8", func := "loop.example/weatherarchive/laws.FnHourMeanTurn", spec := "fnHourMeanTurn", unfollowed := true, recurses := true, apart := false }
def FnHourMeanTurnSaid : Prop := fnHourMeanTurnRow.holds Try.pinned (OpenSpec.ofChange fnHourMeanTurnSpec)

/-- ITS FALSE NEIGHBOUR: 'it returns false'. Refute it at one input. -/
def fnHourMeanTurnWrong : ChangeSpec := { name := "fnHourMeanTurn", fn := fun _ => fun
  | [d] => { results := [.lit (.bool false)], args := [d] }
  | _ => none }
def FnHourMeanTurnWrongFalsely : Prop := fnHourMeanTurnRow.holds Try.pinned (OpenSpec.ofChange fnHourMeanTurnWrong)

/-- 'laws.FnHourMiddle': WHATEVER THE INPUT: true; the input reads as it did. -/
def fnHourMiddleSpec : ChangeSpec := { name := "fnHourMiddle", fn := fun _ => fun
  | [d] => { results := [.lit (.bool true)], args := [d] }
  | _ => none }
def fnHourMiddleRow : OpenClaim := { program := "ytkapnbfjpglblaa", sum := "e4a03cc29c46b6072f58197c08b061ed2e120820018d6932757b8a1ff4de38c8", func := "loop.example/weatherarchive/laws.FnHourMiddle", spec := "fnHourMiddle", unfollowed := true, recurses := true, apart := false }
def FnHourMiddleSaid : Prop := fnHourMiddleRow.holds Try.pinned (OpenSpec.ofChange fnHourMiddleSpec)

/-- ITS FALSE NEIGHBOUR: 'it returns false'. Refute it at one input. -/
def fnHourMiddleWrong : ChangeSpec := { name := "fnHourMiddle", fn := fun _ => fun
  | [d] => { results := [.lit (.bool false)], args := [d] }
  | _ => none }
def FnHourMiddleWrongFalsely : Prop := fnHourMiddleRow.holds Try.pinned (OpenSpec.ofChange fnHourMiddleWrong)

/-- 'laws.FnHourWeights': WHATEVER THE INPUT: true; the input reads as it did. -/
def fnHourWeightsSpec : ChangeSpec := { name := "fnHourWeights", fn := fun _ => fun
  | [d] => { results := [.lit (.bool true)], args := [d] }
  | _ => none }
def fnHourWeightsRow : OpenClaim := { program := "ytkapnbfjpglblaa", sum := "e4a03cc29c46b6072f58197c08b061ed2e120820018d6932757b8a1ff4de38c8", func := "loop.example/weatherarchive/laws.FnHourWeights", spec := "fnHourWeights", unfollowed := true, recurses := true, apart := false }
def FnHourWeightsSaid : Prop := fnHourWeightsRow.holds Try.pinned (OpenSpec.ofChange fnHourWeightsSpec)

/-- ITS FALSE NEIGHBOUR: 'it returns false'. Refute it at one input. -/
def fnHourWeightsWrong : ChangeSpec := { name := "fnHourWeights", fn := fun _ => fun
  | [d] => { results := [.lit (.bool false)], args := [d] }
  | _ => none }
def FnHourWeightsWrongFalsely : Prop := fnHourWeightsRow.holds Try.pinned (OpenSpec.ofChange fnHourWeightsWrong)

/-- 'laws.FnHourWeightsMean': WHATEVER THE INPUT: true; the input reads as it did. -/
def fnHourWeightsMeanSpec : ChangeSpec := { name := "fnHourWeightsMean", fn := fun _ => fun
  | [d] => { results := [.lit (.bool true)], args := [d] }
  | _ => none }
def fnHourWeightsMeanRow : OpenClaim := { program := "ytkapnbfjpglblaa", sum := "e4a03cc29c46b6072f58197c08b061ed2e120820018d6932757b8a1ff4de38c8", func := "loop.example/weatherarchive/laws.FnHourWeightsMean", spec := "fnHourWeightsMean", unfollowed := true, recurses := true, apart := false }
def FnHourWeightsMeanSaid : Prop := fnHourWeightsMeanRow.holds Try.pinned (OpenSpec.ofChange fnHourWeightsMeanSpec)

/-- ITS FALSE NEIGHBOUR: 'it returns false'. Refute it at one input. -/
def fnHourWeightsMeanWrong : ChangeSpec := { name := "fnHourWeightsMean", fn := fun _ => fun
  | [d] => { results := [.lit (.bool false)], args := [d] }
  | _ => none }
def FnHourWeightsMeanWrongFalsely : Prop := fnHourWeightsMeanRow.holds Try.pinned (OpenSpec.ofChange fnHourWeightsMeanWrong)

/-- 'laws.FnExactHourTurn': WHATEVER THE INPUT: true; the input reads as it did. -/
def fnExactHourTurnSpec : ChangeSpec := { name := "fnExactHourTurn", fn := fun _ => fun
  | [d1, d2, d3] => { results := [.lit (.bool true)], args := [d1, d2, d3] }
  | _ => none }
def fnExactHourTurnRow : OpenClaim := { program := "ytkapnbfjpglblaa", sum := "e4a03cc29c46b6072f58197c08b061ed2e120820018d6932757b8a1ff4de38c8", func := "loop.example/weatherarchive/laws.FnExactHourTurn", spec := "fnExactHourTurn", apart := false }
def FnExactHourTurnSaid : Prop := fnExactHourTurnRow.holds Try.pinned (OpenSpec.ofChange fnExactHourTurnSpec)

/-- ITS FALSE NEIGHBOUR: 'it returns false'. Refute it at one input. -/
def fnExactHourTurnWrong : ChangeSpec := { name := "fnExactHourTurn", fn := fun _ => fun
  | [d1, d2, d3] => { results := [.lit (.bool false)], args := [d1, d2, d3] }
  | _ => none }
def FnExactHourTurnWrongFalsely : Prop := fnExactHourTurnRow.holds Try.pinned (OpenSpec.ofChange fnExactHourTurnWrong)

/-- 'laws.FnExactHourMean': WHATEVER THE INPUT: true; the input reads as it did. -/
def fnExactHourMeanSpec : ChangeSpec := { name := "fnExactHourMean", fn := fun _ => fun
  | [d] => { results := [.lit (.bool true)], args := [d] }
  | _ => none }
def fnExactHourMeanRow : OpenClaim := { program := "ytkapnbfjpglblaa", sum := "e4a03cc29c46b6072f58197c08b061ed2e120820018d6932757b8a1ff4de38c8", func := "loop.example/weatherarchive/laws.FnExactHourMean", spec := "fnExactHourMean", unfollowed := true, recurses := true, apart := false }
def FnExactHourMeanSaid : Prop := fnExactHourMeanRow.holds Try.pinned (OpenSpec.ofChange fnExactHourMeanSpec)

/-- ITS FALSE NEIGHBOUR: 'it returns false'. Refute it at one input. -/
def fnExactHourMeanWrong : ChangeSpec := { name := "fnExactHourMean", fn := fun _ => fun
  | [d] => { results := [.lit (.bool false)], args := [d] }
  | _ => none }
def FnExactHourMeanWrongFalsely : Prop := fnExactHourMeanRow.holds Try.pinned (OpenSpec.ofChange fnExactHourMeanWrong)

/-- 'laws.FnExactHourMiddle': WHATEVER THE INPUT: true; the input reads as it did. -/
def fnExactHourMiddleSpec : ChangeSpec := { name := "fnExactHourMiddle", fn := fun _ => fun
  | [d] => { results := [.lit (.bool true)], args := [d] }
  | _ => none }
def fnExactHourMiddleRow : OpenClaim := { program := "ytkapnbfjpglblaa", sum := "e4a03cc29c46b6072f58197c08b061ed2e120820018d6932757b8a1ff4de38c8", func := "loop.example/weatherarchive/laws.FnExactHourMiddle", spec := "fnExactHourMiddle", unfollowed := true, recurses := true, apart := false }
def FnExactHourMiddleSaid : Prop := fnExactHourMiddleRow.holds Try.pinned (OpenSpec.ofChange fnExactHourMiddleSpec)

/-- ITS FALSE NEIGHBOUR: 'it returns false'. Refute it at one input. -/
def fnExactHourMiddleWrong : ChangeSpec := { name := "fnExactHourMiddle", fn := fun _ => fun
  | [d] => { results := [.lit (.bool false)], args := [d] }
  | _ => none }
def FnExactHourMiddleWrongFalsely : Prop := fnExactHourMiddleRow.holds Try.pinned (OpenSpec.ofChange fnExactHourMiddleWrong)

/-- 'laws.FnExactHourWeights': WHATEVER THE INPUT: true; the input reads as it did. -/
def fnExactHourWeightsSpec : ChangeSpec := { name := "fnExactHourWeights", fn := fun _ => fun
  | [d1, d2] => { results := [.lit (.bool true)], args := [d1, d2] }
  | _ => none }
def fnExactHourWeightsRow : OpenClaim := { program := "ytkapnbfjpglblaa", sum := "e4a03cc29c46b6072f58197c08b061ed2e120820018d6932757b8a1ff4de38c8", func := "loop.example/weatherarchive/laws.FnExactHourWeights", spec := "fnExactHourWeights", unfollowed := true, recurses := true, apart := false }
def FnExactHourWeightsSaid : Prop := fnExactHourWeightsRow.holds Try.pinned (OpenSpec.ofChange fnExactHourWeightsSpec)

/-- ITS FALSE NEIGHBOUR: 'it returns false'. Refute it at one input. -/
def fnExactHourWeightsWrong : ChangeSpec := { name := "fnExactHourWeights", fn := fun _ => fun
  | [d1, d2] => { results := [.lit (.bool false)], args := [d1, d2] }
  | _ => none }
def FnExactHourWeightsWrongFalsely : Prop := fnExactHourWeightsRow.holds Try.pinned (OpenSpec.ofChange fnExactHourWeightsWrong)

/-- 'laws.FnExactRoundOf': WHATEVER THE INPUT: true; the input reads as it did. -/
def fnExactRoundOfSpec : ChangeSpec := { name := "fnExactRoundOf", fn := fun _ => fun
  | [d1, d2] => { results := [.lit (.bool true)], args := [d1, d2] }
  | _ => none }
def fnExactRoundOfRow : OpenClaim := { program := "ytkapnbfjpglblaa", sum := "e4a03cc29c46b6072f58197c08b061ed2e120820018d6932757b8a1ff4de38c8", func := "loop.example/weatherarchive/laws.FnExactRoundOf", spec := "fnExactRoundOf", apart := false }
def FnExactRoundOfSaid : Prop := fnExactRoundOfRow.holds Try.pinned (OpenSpec.ofChange fnExactRoundOfSpec)

/-- ITS FALSE NEIGHBOUR: 'it returns false'. Refute it at one input. -/
def fnExactRoundOfWrong : ChangeSpec := { name := "fnExactRoundOf", fn := fun _ => fun
  | [d1, d2] => { results := [.lit (.bool false)], args := [d1, d2] }
  | _ => none }
def FnExactRoundOfWrongFalsely : Prop := fnExactRoundOfRow.holds Try.pinned (OpenSpec.ofChange fnExactRoundOfWrong)

/- THE SECOND FORM. 'bulk': how many values and letters a reading holds, each counted each time it is reached (what is shared counts as often as it is met; a slice's spare places count too). A statement '..UptoSaid' is the law's where the arguments, and the package variables that the reading takes, are together of bulk at most 1048576: NARROWER than '..Said'. Prove '..Said' where nothing that the law and all that it calls make is longer than what came in: it says more and counts as full. Else prove '..UptoSaid'. A law counts once. -/
mutual
def uptoBulk {H : Type} : DataW H → Nat
  | .lit (.string bytes) => bytes.length + 1
  | .lit _ => 1
  | .nil => 1
  | .ptr d => uptoBulk d + 1
  | .slice elems spare => uptoBulkAll elems + uptoBulkAll spare + 1
  | .agg parts => uptoBulkAll parts + 1
  | .iface _ d => uptoBulk d + 1
  | .map entries => uptoBulkEntries entries + 1
  | .held _ => 1
def uptoBulkAll {H : Type} : List (DataW H) → Nat
  | [] => 0
  | d :: r => uptoBulk d + uptoBulkAll r
def uptoBulkEntries {H : Type} : List (Lit × DataW H) → Nat
  | [] => 0
  | x :: r => uptoBulkEntry x + uptoBulkEntries r
def uptoBulkEntry {H : Type} : Lit × DataW H → Nat
  | (.string bytes, d) => bytes.length + uptoBulk d + 1
  | (_, d) => uptoBulk d + 1
 end
def uptoSmall : (H : Type) → List (DataW H) → Bool := fun _ ds => decide (uptoBulkAll ds ≤ 1048576)
def OpenSpec.upto (s : _root_.Go.ChangeSpec) : _root_.Go.OpenSpec := { _root_.Go.OpenSpec.ofChange s with cond := some uptoSmall }

/-- 'laws.FnHourTurn', WHERE WHAT IT READS IS OF BULK AT MOST 1048576: true; the input reads as it did. -/
def fnHourTurnUptoRow : OpenClaim := { program := "ytkapnbfjpglblaa", sum := "e4a03cc29c46b6072f58197c08b061ed2e120820018d6932757b8a1ff4de38c8", func := "loop.example/weatherarchive/laws.FnHourTurn", spec := "fnHourTurn", apart := false, narrowed := true }
def FnHourTurnUptoSaid : Prop := fnHourTurnUptoRow.holds Try.pinned (OpenSpec.upto fnHourTurnSpec)

/-- 'laws.FnHourTurnDay', WHERE WHAT IT READS IS OF BULK AT MOST 1048576: true; the input reads as it did. -/
def fnHourTurnDayUptoRow : OpenClaim := { program := "ytkapnbfjpglblaa", sum := "e4a03cc29c46b6072f58197c08b061ed2e120820018d6932757b8a1ff4de38c8", func := "loop.example/weatherarchive/laws.FnHourTurnDay", spec := "fnHourTurnDay", apart := false, narrowed := true }
def FnHourTurnDayUptoSaid : Prop := fnHourTurnDayUptoRow.holds Try.pinned (OpenSpec.upto fnHourTurnDaySpec)

/-- 'laws.FnRoundOf', WHERE WHAT IT READS IS OF BULK AT MOST 1048576: true; the input reads as it did. -/
def fnRoundOfUptoRow : OpenClaim := { program := "ytkapnbfjpglblaa", sum := "e4a03cc29c46b6072f58197c08b061ed2e120820018d6932757b8a1ff4de38c8", func := "loop.example/weatherarchive/laws.FnRoundOf", spec := "fnRoundOf", apart := false, narrowed := true }
def FnRoundOfUptoSaid : Prop := fnRoundOfUptoRow.holds Try.pinned (OpenSpec.upto fnRoundOfSpec)

/-- 'laws.FnRoundOfSign', WHERE WHAT IT READS IS OF BULK AT MOST 1048576: true; the input reads as it did. -/
def fnRoundOfSignUptoRow : OpenClaim := { program := "ytkapnbfjpglblaa", sum := "e4a03cc29c46b6072f58197c08b061ed2e120820018d6932757b8a1ff4de38c8", func := "loop.example/weatherarchive/laws.FnRoundOfSign", spec := "fnRoundOfSign", apart := false, narrowed := true }
def FnRoundOfSignUptoSaid : Prop := fnRoundOfSignUptoRow.holds Try.pinned (OpenSpec.upto fnRoundOfSignSpec)

/-- 'laws.FnHourMean', WHERE WHAT IT READS IS OF BULK AT MOST 1048576: true; the input reads as it did. -/
def fnHourMeanUptoRow : OpenClaim := { program := "ytkapnbfjpglblaa", sum := "e4a03cc29c46b6072f58197c08b061ed2e120820018d6932757b8a1ff4de38c8", func := "loop.example/weatherarchive/laws.FnHourMean", spec := "fnHourMean", unfollowed := true, recurses := true, apart := false, narrowed := true }
def FnHourMeanUptoSaid : Prop := fnHourMeanUptoRow.holds Try.pinned (OpenSpec.upto fnHourMeanSpec)

/-- 'laws.FnHourMeanTurn', WHERE WHAT IT READS IS OF BULK AT MOST 1048576: true; the input reads as it did. -/
def fnHourMeanTurnUptoRow : OpenClaim := { program := "ytkapnbfjpglblaa", sum := "e4a03cc29c46b6072f58197c08b061ed2e120820018d6932757b8a1ff4de38c8", func := "loop.example/weatherarchive/laws.FnHourMeanTurn", spec := "fnHourMeanTurn", unfollowed := true, recurses := true, apart := false, narrowed := true }
def FnHourMeanTurnUptoSaid : Prop := fnHourMeanTurnUptoRow.holds Try.pinned (OpenSpec.upto fnHourMeanTurnSpec)

/-- 'laws.FnHourMiddle', WHERE WHAT IT READS IS OF BULK AT MOST 1048576: true; the input reads as it did. -/
def fnHourMiddleUptoRow : OpenClaim := { program := "ytkapnbfjpglblaa", sum := "e4a03cc29c46b6072f58197c08b061ed2e120820018d6932757b8a1ff4de38c8", func := "loop.example/weatherarchive/laws.FnHourMiddle", spec := "fnHourMiddle", unfollowed := true, recurses := true, apart := false, narrowed := true }
def FnHourMiddleUptoSaid : Prop := fnHourMiddleUptoRow.holds Try.pinned (OpenSpec.upto fnHourMiddleSpec)

/-- 'laws.FnHourWeights', WHERE WHAT IT READS IS OF BULK AT MOST 1048576: true; the input reads as it did. -/
def fnHourWeightsUptoRow : OpenClaim := { program := "ytkapnbfjpglblaa", sum := "e4a03cc29c46b6072f58197c08b061ed2e120820018d6932757b8a1ff4de38c8", func := "loop.example/weatherarchive/laws.FnHourWeights", spec := "fnHourWeights", unfollowed := true, recurses := true, apart := false, narrowed := true }
def FnHourWeightsUptoSaid : Prop := fnHourWeightsUptoRow.holds Try.pinned (OpenSpec.upto fnHourWeightsSpec)

/-- 'laws.FnHourWeightsMean', WHERE WHAT IT READS IS OF BULK AT MOST 1048576: true; the input reads as it did. -/
def fnHourWeightsMeanUptoRow : OpenClaim := { program := "ytkapnbfjpglblaa", sum := "e4a03cc29c46b6072f58197c08b061ed2e120820018d6932757b8a1ff4de38c8", func := "loop.example/weatherarchive/laws.FnHourWeightsMean", spec := "fnHourWeightsMean", unfollowed := true, recurses := true, apart := false, narrowed := true }
def FnHourWeightsMeanUptoSaid : Prop := fnHourWeightsMeanUptoRow.holds Try.pinned (OpenSpec.upto fnHourWeightsMeanSpec)

/-- 'laws.FnExactHourTurn', WHERE WHAT IT READS IS OF BULK AT MOST 1048576: true; the input reads as it did. -/
def fnExactHourTurnUptoRow : OpenClaim := { program := "ytkapnbfjpglblaa", sum := "e4a03cc29c46b6072f58197c08b061ed2e120820018d6932757b8a1ff4de38c8", func := "loop.example/weatherarchive/laws.FnExactHourTurn", spec := "fnExactHourTurn", apart := false, narrowed := true }
def FnExactHourTurnUptoSaid : Prop := fnExactHourTurnUptoRow.holds Try.pinned (OpenSpec.upto fnExactHourTurnSpec)

/-- 'laws.FnExactHourMean', WHERE WHAT IT READS IS OF BULK AT MOST 1048576: true; the input reads as it did. -/
def fnExactHourMeanUptoRow : OpenClaim := { program := "ytkapnbfjpglblaa", sum := "e4a03cc29c46b6072f58197c08b061ed2e120820018d6932757b8a1ff4de38c8", func := "loop.example/weatherarchive/laws.FnExactHourMean", spec := "fnExactHourMean", unfollowed := true, recurses := true, apart := false, narrowed := true }
def FnExactHourMeanUptoSaid : Prop := fnExactHourMeanUptoRow.holds Try.pinned (OpenSpec.upto fnExactHourMeanSpec)

/-- 'laws.FnExactHourMiddle', WHERE WHAT IT READS IS OF BULK AT MOST 1048576: true; the input reads as it did. -/
def fnExactHourMiddleUptoRow : OpenClaim := { program := "ytkapnbfjpglblaa", sum := "e4a03cc29c46b6072f58197c08b061ed2e120820018d6932757b8a1ff4de38c8", func := "loop.example/weatherarchive/laws.FnExactHourMiddle", spec := "fnExactHourMiddle", unfollowed := true, recurses := true, apart := false, narrowed := true }
def FnExactHourMiddleUptoSaid : Prop := fnExactHourMiddleUptoRow.holds Try.pinned (OpenSpec.upto fnExactHourMiddleSpec)

/-- 'laws.FnExactHourWeights', WHERE WHAT IT READS IS OF BULK AT MOST 1048576: true; the input reads as it did. -/
def fnExactHourWeightsUptoRow : OpenClaim := { program := "ytkapnbfjpglblaa", sum := "e4a03cc29c46b6072f58197c08b061ed2e120820018d6932757b8a1ff4de38c8", func := "loop.example/weatherarchive/laws.FnExactHourWeights", spec := "fnExactHourWeights", unfollowed := true, recurses := true, apart := false, narrowed := true }
def FnExactHourWeightsUptoSaid : Prop := fnExactHourWeightsUptoRow.holds Try.pinned (OpenSpec.upto fnExactHourWeightsSpec)

/-- 'laws.FnExactRoundOf', WHERE WHAT IT READS IS OF BULK AT MOST 1048576: true; the input reads as it did. -/
def fnExactRoundOfUptoRow : OpenClaim := { program := "ytkapnbfjpglblaa", sum := "e4a03cc29c46b6072f58197c08b061ed2e120820018d6932757b8a1ff4de38c8", func := "loop.example/weatherarchive/laws.FnExactRoundOf", spec := "fnExactRoundOf", apart := false, narrowed := true }
def FnExactRoundOfUptoSaid : Prop := fnExactRoundOfUptoRow.holds Try.pinned (OpenSpec.upto fnExactRoundOfSpec)

end Rows
end Go.Proofs.Ytkapnbfjpglblaa
