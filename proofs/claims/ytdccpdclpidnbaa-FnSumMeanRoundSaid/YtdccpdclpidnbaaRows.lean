/-
  No cell of these rows narrows 'for every input' (looked for: loops, veiled, ifaces, maps, wideKeys, modest, calm, conditions, laid).
  DERIVED. THE GIVEN ROWS OF THIS SEAT. 15 by the template 'for every input the law returns true; each argument reads behind the call as it read before'; 0 by the template 'total and deterministic' (their statements: YtdccpdclpidnbaaTotals.lean).
  GIVEN WITH THE SEED: the statements are not yours to turn. If you find one false, say at which input.
  Laid BY PROGRAM, IN A SANDBOX (cutbox-rows.mjs): the forced cells as the released guide's own fill.sh prints them over the translation 94161ba26fd78c21… (all of the seat's roots in one cut). By AI agents, Wed Nov 11 2026. No macro, syntax, notation, axiom, sorry.
-/
import Derived.Test.YtdccpdclpidnbaaChecked
import GoSem.Claim
import GoSem.ClaimJoined
import GoSem.ClaimMapViews
import Derived.JoinedTies
import Derived.KernelRfl
namespace Go.Proofs.Ytdccpdclpidnbaa
/- THE CELL 'sum', in the pinned program and in every row, IS THE sha256 OF THE DUMP (.gsa) THAT YtdccpdclpidnbaaProg.lean LOADS. Nothing in Lean hashes anything: it is a label: what it is worth is what the hold of that sum in a sandbox is worth. -/
noncomputable def Try.pinned : Pinned := { name := "ytdccpdclpidnbaa", sum := "94161ba26fd78c2106de9878783b59f3fb726e889d75c0c2ee43284f25bb2fc9", checked := Try.checked }
namespace Rows
def none {H : Type} : Left H := { results := [], args := [] }

/-- 'laws.FnMean': WHATEVER THE INPUT: true; the input reads as it did. -/
def fnMeanSpec : ChangeSpec := { name := "fnMean", fn := fun _ => fun
  | [d] => { results := [.lit (.bool true)], args := [d] }
  | _ => none }
def fnMeanRow : OpenClaim := { program := "ytdccpdclpidnbaa", sum := "94161ba26fd78c2106de9878783b59f3fb726e889d75c0c2ee43284f25bb2fc9", func := "loop.example/weatherarchive/laws.FnMean", spec := "fnMean", inPlace := ["slices.overlaps[int]"], unfollowed := true, recurses := true, apart := false }
def FnMeanSaid : Prop := fnMeanRow.holds Try.pinned (OpenSpec.ofChange fnMeanSpec)

/-- ITS FALSE NEIGHBOUR: 'it returns false'. Refute it at one input. -/
def fnMeanWrong : ChangeSpec := { name := "fnMean", fn := fun _ => fun
  | [d] => { results := [.lit (.bool false)], args := [d] }
  | _ => none }
def FnMeanWrongFalsely : Prop := fnMeanRow.holds Try.pinned (OpenSpec.ofChange fnMeanWrong)

/-- 'laws.FnMeanGaps': WHATEVER THE INPUT: true; the input reads as it did. -/
def fnMeanGapsSpec : ChangeSpec := { name := "fnMeanGaps", fn := fun _ => fun
  | [d] => { results := [.lit (.bool true)], args := [d] }
  | _ => none }
def fnMeanGapsRow : OpenClaim := { program := "ytdccpdclpidnbaa", sum := "94161ba26fd78c2106de9878783b59f3fb726e889d75c0c2ee43284f25bb2fc9", func := "loop.example/weatherarchive/laws.FnMeanGaps", spec := "fnMeanGaps", unfollowed := true, recurses := true, apart := false }
def FnMeanGapsSaid : Prop := fnMeanGapsRow.holds Try.pinned (OpenSpec.ofChange fnMeanGapsSpec)

/-- ITS FALSE NEIGHBOUR: 'it returns false'. Refute it at one input. -/
def fnMeanGapsWrong : ChangeSpec := { name := "fnMeanGaps", fn := fun _ => fun
  | [d] => { results := [.lit (.bool false)], args := [d] }
  | _ => none }
def FnMeanGapsWrongFalsely : Prop := fnMeanGapsRow.holds Try.pinned (OpenSpec.ofChange fnMeanGapsWrong)

/-- 'laws.FnMeanAdded': WHATEVER THE INPUT: true; the input reads as it did. -/
def fnMeanAddedSpec : ChangeSpec := { name := "fnMeanAdded", fn := fun _ => fun
  | [d] => { results := [.lit (.bool true)], args := [d] }
  | _ => none }
def fnMeanAddedRow : OpenClaim := { program := "ytdccpdclpidnbaa", sum := "94161ba26fd78c2106de9878783b59f3fb726e889d75c0c2ee43284f25bb2fc9", func := "loop.example/weatherarchive/laws.FnMeanAdded", spec := "fnMeanAdded", unfollowed := true, recurses := true, apart := false }
def FnMeanAddedSaid : Prop := fnMeanAddedRow.holds Try.pinned (OpenSpec.ofChange fnMeanAddedSpec)

/-- ITS FALSE NEIGHBOUR: 'it returns false'. Refute it at one input. -/
def fnMeanAddedWrong : ChangeSpec := { name := "fnMeanAdded", fn := fun _ => fun
  | [d] => { results := [.lit (.bool false)], args := [d] }
  | _ => none }
def FnMeanAddedWrongFalsely : Prop := fnMeanAddedRow.holds Try.pinned (OpenSpec.ofChange fnMeanAddedWrong)

/-- 'laws.FnExtremes': WHATEVER THE INPUT: true; the input reads as it did. -/
def fnExtremesSpec : ChangeSpec := { name := "fnExtremes", fn := fun _ => fun
  | [d] => { results := [.lit (.bool true)], args := [d] }
  | _ => none }
def fnExtremesRow : OpenClaim := { program := "ytdccpdclpidnbaa", sum := "94161ba26fd78c2106de9878783b59f3fb726e889d75c0c2ee43284f25bb2fc9", func := "loop.example/weatherarchive/laws.FnExtremes", spec := "fnExtremes", unfollowed := true, recurses := true, apart := false }
def FnExtremesSaid : Prop := fnExtremesRow.holds Try.pinned (OpenSpec.ofChange fnExtremesSpec)

/-- ITS FALSE NEIGHBOUR: 'it returns false'. Refute it at one input. -/
def fnExtremesWrong : ChangeSpec := { name := "fnExtremes", fn := fun _ => fun
  | [d] => { results := [.lit (.bool false)], args := [d] }
  | _ => none }
def FnExtremesWrongFalsely : Prop := fnExtremesRow.holds Try.pinned (OpenSpec.ofChange fnExtremesWrong)

/-- 'laws.FnExtremesRank': WHATEVER THE INPUT: true; the input reads as it did. -/
def fnExtremesRankSpec : ChangeSpec := { name := "fnExtremesRank", fn := fun _ => fun
  | [d] => { results := [.lit (.bool true)], args := [d] }
  | _ => none }
def fnExtremesRankRow : OpenClaim := { program := "ytdccpdclpidnbaa", sum := "94161ba26fd78c2106de9878783b59f3fb726e889d75c0c2ee43284f25bb2fc9", func := "loop.example/weatherarchive/laws.FnExtremesRank", spec := "fnExtremesRank", unfollowed := true, recurses := true, apart := false }
def FnExtremesRankSaid : Prop := fnExtremesRankRow.holds Try.pinned (OpenSpec.ofChange fnExtremesRankSpec)

/-- ITS FALSE NEIGHBOUR: 'it returns false'. Refute it at one input. -/
def fnExtremesRankWrong : ChangeSpec := { name := "fnExtremesRank", fn := fun _ => fun
  | [d] => { results := [.lit (.bool false)], args := [d] }
  | _ => none }
def FnExtremesRankWrongFalsely : Prop := fnExtremesRankRow.holds Try.pinned (OpenSpec.ofChange fnExtremesRankWrong)

/-- 'laws.FnDegrees': WHATEVER THE INPUT: true; the input reads as it did. -/
def fnDegreesSpec : ChangeSpec := { name := "fnDegrees", fn := fun _ => fun
  | [d] => { results := [.lit (.bool true)], args := [d] }
  | _ => none }
def fnDegreesRow : OpenClaim := { program := "ytdccpdclpidnbaa", sum := "94161ba26fd78c2106de9878783b59f3fb726e889d75c0c2ee43284f25bb2fc9", func := "loop.example/weatherarchive/laws.FnDegrees", spec := "fnDegrees", unfollowed := true, recurses := true, apart := false }
def FnDegreesSaid : Prop := fnDegreesRow.holds Try.pinned (OpenSpec.ofChange fnDegreesSpec)

/-- ITS FALSE NEIGHBOUR: 'it returns false'. Refute it at one input. -/
def fnDegreesWrong : ChangeSpec := { name := "fnDegrees", fn := fun _ => fun
  | [d] => { results := [.lit (.bool false)], args := [d] }
  | _ => none }
def FnDegreesWrongFalsely : Prop := fnDegreesRow.holds Try.pinned (OpenSpec.ofChange fnDegreesWrong)

/-- 'laws.FnRank': WHATEVER THE INPUT: true; the input reads as it did. -/
def fnRankSpec : ChangeSpec := { name := "fnRank", fn := fun _ => fun
  | [d] => { results := [.lit (.bool true)], args := [d] }
  | _ => none }
def fnRankRow : OpenClaim := { program := "ytdccpdclpidnbaa", sum := "94161ba26fd78c2106de9878783b59f3fb726e889d75c0c2ee43284f25bb2fc9", func := "loop.example/weatherarchive/laws.FnRank", spec := "fnRank", inPlace := ["slices.overlaps[int]"], unfollowed := true, recurses := true, apart := false }
def FnRankSaid : Prop := fnRankRow.holds Try.pinned (OpenSpec.ofChange fnRankSpec)

/-- ITS FALSE NEIGHBOUR: 'it returns false'. Refute it at one input. -/
def fnRankWrong : ChangeSpec := { name := "fnRank", fn := fun _ => fun
  | [d] => { results := [.lit (.bool false)], args := [d] }
  | _ => none }
def FnRankWrongFalsely : Prop := fnRankRow.holds Try.pinned (OpenSpec.ofChange fnRankWrong)

/-- 'laws.FnRankNone': WHATEVER THE INPUT: true; the input reads as it did. -/
def fnRankNoneSpec : ChangeSpec := { name := "fnRankNone", fn := fun _ => fun
  | [d] => { results := [.lit (.bool true)], args := [d] }
  | _ => none }
def fnRankNoneRow : OpenClaim := { program := "ytdccpdclpidnbaa", sum := "94161ba26fd78c2106de9878783b59f3fb726e889d75c0c2ee43284f25bb2fc9", func := "loop.example/weatherarchive/laws.FnRankNone", spec := "fnRankNone", unfollowed := true, recurses := true, apart := false }
def FnRankNoneSaid : Prop := fnRankNoneRow.holds Try.pinned (OpenSpec.ofChange fnRankNoneSpec)

/-- ITS FALSE NEIGHBOUR: 'it returns false'. Refute it at one input. -/
def fnRankNoneWrong : ChangeSpec := { name := "fnRankNone", fn := fun _ => fun
  | [d] => { results := [.lit (.bool false)], args := [d] }
  | _ => none }
def FnRankNoneWrongFalsely : Prop := fnRankNoneRow.holds Try.pinned (OpenSpec.ofChange fnRankNoneWrong)

/-- 'laws.FnExactMeanOf': WHATEVER THE INPUT: true; the input reads as it did. -/
def fnExactMeanOfSpec : ChangeSpec := { name := "fnExactMeanOf", fn := fun _ => fun
  | [d1, d2] => { results := [.lit (.bool true)], args := [d1, d2] }
  | _ => none }
def fnExactMeanOfRow : OpenClaim := { program := "ytdccpdclpidnbaa", sum := "94161ba26fd78c2106de9878783b59f3fb726e889d75c0c2ee43284f25bb2fc9", func := "loop.example/weatherarchive/laws.FnExactMeanOf", spec := "fnExactMeanOf", unfollowed := true, recurses := true, apart := false }
def FnExactMeanOfSaid : Prop := fnExactMeanOfRow.holds Try.pinned (OpenSpec.ofChange fnExactMeanOfSpec)

/-- ITS FALSE NEIGHBOUR: 'it returns false'. Refute it at one input. -/
def fnExactMeanOfWrong : ChangeSpec := { name := "fnExactMeanOf", fn := fun _ => fun
  | [d1, d2] => { results := [.lit (.bool false)], args := [d1, d2] }
  | _ => none }
def FnExactMeanOfWrongFalsely : Prop := fnExactMeanOfRow.holds Try.pinned (OpenSpec.ofChange fnExactMeanOfWrong)

/-- 'laws.FnExactExtremesOf': WHATEVER THE INPUT: true; the input reads as it did. -/
def fnExactExtremesOfSpec : ChangeSpec := { name := "fnExactExtremesOf", fn := fun _ => fun
  | [d] => { results := [.lit (.bool true)], args := [d] }
  | _ => none }
def fnExactExtremesOfRow : OpenClaim := { program := "ytdccpdclpidnbaa", sum := "94161ba26fd78c2106de9878783b59f3fb726e889d75c0c2ee43284f25bb2fc9", func := "loop.example/weatherarchive/laws.FnExactExtremesOf", spec := "fnExactExtremesOf", unfollowed := true, recurses := true, apart := false }
def FnExactExtremesOfSaid : Prop := fnExactExtremesOfRow.holds Try.pinned (OpenSpec.ofChange fnExactExtremesOfSpec)

/-- ITS FALSE NEIGHBOUR: 'it returns false'. Refute it at one input. -/
def fnExactExtremesOfWrong : ChangeSpec := { name := "fnExactExtremesOf", fn := fun _ => fun
  | [d] => { results := [.lit (.bool false)], args := [d] }
  | _ => none }
def FnExactExtremesOfWrongFalsely : Prop := fnExactExtremesOfRow.holds Try.pinned (OpenSpec.ofChange fnExactExtremesOfWrong)

/-- 'laws.FnExactDegreeDays': WHATEVER THE INPUT: true; the input reads as it did. -/
def fnExactDegreeDaysSpec : ChangeSpec := { name := "fnExactDegreeDays", fn := fun _ => fun
  | [d1, d2] => { results := [.lit (.bool true)], args := [d1, d2] }
  | _ => none }
def fnExactDegreeDaysRow : OpenClaim := { program := "ytdccpdclpidnbaa", sum := "94161ba26fd78c2106de9878783b59f3fb726e889d75c0c2ee43284f25bb2fc9", func := "loop.example/weatherarchive/laws.FnExactDegreeDays", spec := "fnExactDegreeDays", unfollowed := true, recurses := true, apart := false }
def FnExactDegreeDaysSaid : Prop := fnExactDegreeDaysRow.holds Try.pinned (OpenSpec.ofChange fnExactDegreeDaysSpec)

/-- ITS FALSE NEIGHBOUR: 'it returns false'. Refute it at one input. -/
def fnExactDegreeDaysWrong : ChangeSpec := { name := "fnExactDegreeDays", fn := fun _ => fun
  | [d1, d2] => { results := [.lit (.bool false)], args := [d1, d2] }
  | _ => none }
def FnExactDegreeDaysWrongFalsely : Prop := fnExactDegreeDaysRow.holds Try.pinned (OpenSpec.ofChange fnExactDegreeDaysWrong)

/-- 'laws.FnExactRankOf': WHATEVER THE INPUT: true; the input reads as it did. -/
def fnExactRankOfSpec : ChangeSpec := { name := "fnExactRankOf", fn := fun _ => fun
  | [d1, d2] => { results := [.lit (.bool true)], args := [d1, d2] }
  | _ => none }
def fnExactRankOfRow : OpenClaim := { program := "ytdccpdclpidnbaa", sum := "94161ba26fd78c2106de9878783b59f3fb726e889d75c0c2ee43284f25bb2fc9", func := "loop.example/weatherarchive/laws.FnExactRankOf", spec := "fnExactRankOf", unfollowed := true, recurses := true, apart := false }
def FnExactRankOfSaid : Prop := fnExactRankOfRow.holds Try.pinned (OpenSpec.ofChange fnExactRankOfSpec)

/-- ITS FALSE NEIGHBOUR: 'it returns false'. Refute it at one input. -/
def fnExactRankOfWrong : ChangeSpec := { name := "fnExactRankOf", fn := fun _ => fun
  | [d1, d2] => { results := [.lit (.bool false)], args := [d1, d2] }
  | _ => none }
def FnExactRankOfWrongFalsely : Prop := fnExactRankOfRow.holds Try.pinned (OpenSpec.ofChange fnExactRankOfWrong)

/-- 'laws.FnSumMean': WHATEVER THE INPUT: true; the input reads as it did. -/
def fnSumMeanSpec : ChangeSpec := { name := "fnSumMean", fn := fun _ => fun
  | [d] => { results := [.lit (.bool true)], args := [d] }
  | _ => none }
def fnSumMeanRow : OpenClaim := { program := "ytdccpdclpidnbaa", sum := "94161ba26fd78c2106de9878783b59f3fb726e889d75c0c2ee43284f25bb2fc9", func := "loop.example/weatherarchive/laws.FnSumMean", spec := "fnSumMean", unfollowed := true, recurses := true, apart := false }
def FnSumMeanSaid : Prop := fnSumMeanRow.holds Try.pinned (OpenSpec.ofChange fnSumMeanSpec)

/-- ITS FALSE NEIGHBOUR: 'it returns false'. Refute it at one input. -/
def fnSumMeanWrong : ChangeSpec := { name := "fnSumMean", fn := fun _ => fun
  | [d] => { results := [.lit (.bool false)], args := [d] }
  | _ => none }
def FnSumMeanWrongFalsely : Prop := fnSumMeanRow.holds Try.pinned (OpenSpec.ofChange fnSumMeanWrong)

/-- 'laws.FnSumMeanRound': WHATEVER THE INPUT: true; the input reads as it did. -/
def fnSumMeanRoundSpec : ChangeSpec := { name := "fnSumMeanRound", fn := fun _ => fun
  | [d] => { results := [.lit (.bool true)], args := [d] }
  | _ => none }
def fnSumMeanRoundRow : OpenClaim := { program := "ytdccpdclpidnbaa", sum := "94161ba26fd78c2106de9878783b59f3fb726e889d75c0c2ee43284f25bb2fc9", func := "loop.example/weatherarchive/laws.FnSumMeanRound", spec := "fnSumMeanRound", apart := false }
def FnSumMeanRoundSaid : Prop := fnSumMeanRoundRow.holds Try.pinned (OpenSpec.ofChange fnSumMeanRoundSpec)

/-- ITS FALSE NEIGHBOUR: 'it returns false'. Refute it at one input. -/
def fnSumMeanRoundWrong : ChangeSpec := { name := "fnSumMeanRound", fn := fun _ => fun
  | [d] => { results := [.lit (.bool false)], args := [d] }
  | _ => none }
def FnSumMeanRoundWrongFalsely : Prop := fnSumMeanRoundRow.holds Try.pinned (OpenSpec.ofChange fnSumMeanRoundWrong)

/-- 'laws.FnExactSumMean': WHATEVER THE INPUT: true; the input reads as it did. -/
def fnExactSumMeanSpec : ChangeSpec := { name := "fnExactSumMean", fn := fun _ => fun
  | [d] => { results := [.lit (.bool true)], args := [d] }
  | _ => none }
def fnExactSumMeanRow : OpenClaim := { program := "ytdccpdclpidnbaa", sum := "94161ba26fd78c2106de9878783b59f3fb726e889d75c0c2ee43284f25bb2fc9", func := "loop.example/weatherarchive/laws.FnExactSumMean", spec := "fnExactSumMean", apart := false }
def FnExactSumMeanSaid : Prop := fnExactSumMeanRow.holds Try.pinned (OpenSpec.ofChange fnExactSumMeanSpec)

/-- ITS FALSE NEIGHBOUR: 'it returns false'. Refute it at one input. -/
def fnExactSumMeanWrong : ChangeSpec := { name := "fnExactSumMean", fn := fun _ => fun
  | [d] => { results := [.lit (.bool false)], args := [d] }
  | _ => none }
def FnExactSumMeanWrongFalsely : Prop := fnExactSumMeanRow.holds Try.pinned (OpenSpec.ofChange fnExactSumMeanWrong)

/- THE SECOND FORM. 'bulk': how many values and letters a reading holds, each counted each time it is reached (what is shared counts as often as it is met; a slice's spare places count too). A statement '..UptoSaid' is the law's where the arguments, and the package variables that the reading takes, are together of bulk at most 1048576: NARROWER than '..Said'. Prove '..Said' where nothing that the law and all that it calls make is longer than what came in: it says more and counts as full. Else prove '..UptoSaid'. A law counts once. -/
mutual
def uptoBulk {H : Type} : DataW H → Nat
  | .lit (.string bytes) => bytes.length + 1
  | .lit _ => 1
  | .nil => 1
  | .ptr d => uptoBulk d + 1
  | .slice elems spare => uptoBulkAll elems + uptoBulkAll spare + 1
  | .agg parts => uptoBulkAll parts + 1
  | .iface _ d => uptoBulk d + 1
  | .map entries => uptoBulkEntries entries + 1
  | .held _ => 1
def uptoBulkAll {H : Type} : List (DataW H) → Nat
  | [] => 0
  | d :: r => uptoBulk d + uptoBulkAll r
def uptoBulkEntries {H : Type} : List (Lit × DataW H) → Nat
  | [] => 0
  | x :: r => uptoBulkEntry x + uptoBulkEntries r
def uptoBulkEntry {H : Type} : Lit × DataW H → Nat
  | (.string bytes, d) => bytes.length + uptoBulk d + 1
  | (_, d) => uptoBulk d + 1
 end
def uptoSmall : (H : Type) → List (DataW H) → Bool := fun _ ds => decide (uptoBulkAll ds ≤ 1048576)
def OpenSpec.upto (s : _root_.Go.ChangeSpec) : _root_.Go.OpenSpec := { _root_.Go.OpenSpec.ofChange s with cond := some uptoSmall }

/-- 'laws.FnMean', WHERE WHAT IT READS IS OF BULK AT MOST 1048576: true; the input reads as it did. -/
def fnMeanUptoRow : OpenClaim := { program := "ytdccpdclpidnbaa", sum := "94161ba26fd78c2106de9878783b59f3fb726e889d75c0c2ee43284f25bb2fc9", func := "loop.example/weatherarchive/laws.FnMean", spec := "fnMean", inPlace := ["slices.overlaps[int]"], unfollowed := true, recurses := true, apart := false, narrowed := true }
def FnMeanUptoSaid : Prop := fnMeanUptoRow.holds Try.pinned (OpenSpec.upto fnMeanSpec)

/-- 'laws.FnMeanGaps', WHERE WHAT IT READS IS OF BULK AT MOST 1048576: true; the input reads as it did. -/
def fnMeanGapsUptoRow : OpenClaim := { program := "ytdccpdclpidnbaa", sum := "94161ba26fd78c2106de9878783b59f3fb726e889d75c0c2ee43284f25bb2fc9", func := "loop.example/weatherarchive/laws.FnMeanGaps", spec := "fnMeanGaps", unfollowed := true, recurses := true, apart := false, narrowed := true }
def FnMeanGapsUptoSaid : Prop := fnMeanGapsUptoRow.holds Try.pinned (OpenSpec.upto fnMeanGapsSpec)

/-- 'laws.FnMeanAdded', WHERE WHAT IT READS IS OF BULK AT MOST 1048576: true; the input reads as it did. -/
def fnMeanAddedUptoRow : OpenClaim := { program := "ytdccpdclpidnbaa", sum := "94161ba26fd78c2106de9878783b59f3fb726e889d75c0c2ee43284f25bb2fc9", func := "loop.example/weatherarchive/laws.FnMeanAdded", spec := "fnMeanAdded", unfollowed := true, recurses := true, apart := false, narrowed := true }
def FnMeanAddedUptoSaid : Prop := fnMeanAddedUptoRow.holds Try.pinned (OpenSpec.upto fnMeanAddedSpec)

/-- 'laws.FnExtremes', WHERE WHAT IT READS IS OF BULK AT MOST 1048576: true; the input reads as it did. -/
def fnExtremesUptoRow : OpenClaim := { program := "ytdccpdclpidnbaa", sum := "94161ba26fd78c2106de9878783b59f3fb726e889d75c0c2ee43284f25bb2fc9", func := "loop.example/weatherarchive/laws.FnExtremes", spec := "fnExtremes", unfollowed := true, recurses := true, apart := false, narrowed := true }
def FnExtremesUptoSaid : Prop := fnExtremesUptoRow.holds Try.pinned (OpenSpec.upto fnExtremesSpec)

/-- 'laws.FnExtremesRank', WHERE WHAT IT READS IS OF BULK AT MOST 1048576: true; the input reads as it did. -/
def fnExtremesRankUptoRow : OpenClaim := { program := "ytdccpdclpidnbaa", sum := "94161ba26fd78c2106de9878783b59f3fb726e889d75c0c2ee43284f25bb2fc9", func := "loop.example/weatherarchive/laws.FnExtremesRank", spec := "fnExtremesRank", unfollowed := true, recurses := true, apart := false, narrowed := true }
def FnExtremesRankUptoSaid : Prop := fnExtremesRankUptoRow.holds Try.pinned (OpenSpec.upto fnExtremesRankSpec)

/-- 'laws.FnDegrees', WHERE WHAT IT READS IS OF BULK AT MOST 1048576: true; the input reads as it did. -/
def fnDegreesUptoRow : OpenClaim := { program := "ytdccpdclpidnbaa", sum := "94161ba26fd78c2106de9878783b59f3fb726e889d75c0c2ee43284f25bb2fc9", func := "loop.example/weatherarchive/laws.FnDegrees", spec := "fnDegrees", unfollowed := true, recurses := true, apart := false, narrowed := true }
def FnDegreesUptoSaid : Prop := fnDegreesUptoRow.holds Try.pinned (OpenSpec.upto fnDegreesSpec)

/-- 'laws.FnRank', WHERE WHAT IT READS IS OF BULK AT MOST 1048576: true; the input reads as it did. -/
def fnRankUptoRow : OpenClaim := { program := "ytdccpdclpidnbaa", sum := "94161ba26fd78c2106de9878783b59f3fb726e889d75c0c2ee43284f25bb2fc9", func := "loop.example/weatherarchive/laws.FnRank", spec := "fnRank", inPlace := ["slices.overlaps[int]"], unfollowed := true, recurses := true, apart := false, narrowed := true }
def FnRankUptoSaid : Prop := fnRankUptoRow.holds Try.pinned (OpenSpec.upto fnRankSpec)

/-- 'laws.FnRankNone', WHERE WHAT IT READS IS OF BULK AT MOST 1048576: true; the input reads as it did. -/
def fnRankNoneUptoRow : OpenClaim := { program := "ytdccpdclpidnbaa", sum := "94161ba26fd78c2106de9878783b59f3fb726e889d75c0c2ee43284f25bb2fc9", func := "loop.example/weatherarchive/laws.FnRankNone", spec := "fnRankNone", unfollowed := true, recurses := true, apart := false, narrowed := true }
def FnRankNoneUptoSaid : Prop := fnRankNoneUptoRow.holds Try.pinned (OpenSpec.upto fnRankNoneSpec)

/-- 'laws.FnExactMeanOf', WHERE WHAT IT READS IS OF BULK AT MOST 1048576: true; the input reads as it did. -/
def fnExactMeanOfUptoRow : OpenClaim := { program := "ytdccpdclpidnbaa", sum := "94161ba26fd78c2106de9878783b59f3fb726e889d75c0c2ee43284f25bb2fc9", func := "loop.example/weatherarchive/laws.FnExactMeanOf", spec := "fnExactMeanOf", unfollowed := true, recurses := true, apart := false, narrowed := true }
def FnExactMeanOfUptoSaid : Prop := fnExactMeanOfUptoRow.holds Try.pinned (OpenSpec.upto fnExactMeanOfSpec)

/-- 'laws.FnExactExtremesOf', WHERE WHAT IT READS IS OF BULK AT MOST 1048576: true; the input reads as it did. -/
def fnExactExtremesOfUptoRow : OpenClaim := { program := "ytdccpdclpidnbaa", sum := "94161ba26fd78c2106de9878783b59f3fb726e889d75c0c2ee43284f25bb2fc9", func := "loop.example/weatherarchive/laws.FnExactExtremesOf", spec := "fnExactExtremesOf", unfollowed := true, recurses := true, apart := false, narrowed := true }
def FnExactExtremesOfUptoSaid : Prop := fnExactExtremesOfUptoRow.holds Try.pinned (OpenSpec.upto fnExactExtremesOfSpec)

/-- 'laws.FnExactDegreeDays', WHERE WHAT IT READS IS OF BULK AT MOST 1048576: true; the input reads as it did. -/
def fnExactDegreeDaysUptoRow : OpenClaim := { program := "ytdccpdclpidnbaa", sum := "94161ba26fd78c2106de9878783b59f3fb726e889d75c0c2ee43284f25bb2fc9", func := "loop.example/weatherarchive/laws.FnExactDegreeDays", spec := "fnExactDegreeDays", unfollowed := true, recurses := true, apart := false, narrowed := true }
def FnExactDegreeDaysUptoSaid : Prop := fnExactDegreeDaysUptoRow.holds Try.pinned (OpenSpec.upto fnExactDegreeDaysSpec)

/-- 'laws.FnExactRankOf', WHERE WHAT IT READS IS OF BULK AT MOST 1048576: true; the input reads as it did. -/
def fnExactRankOfUptoRow : OpenClaim := { program := "ytdccpdclpidnbaa", sum := "94161ba26fd78c2106de9878783b59f3fb726e889d75c0c2ee43284f25bb2fc9", func := "loop.example/weatherarchive/laws.FnExactRankOf", spec := "fnExactRankOf", unfollowed := true, recurses := true, apart := false, narrowed := true }
def FnExactRankOfUptoSaid : Prop := fnExactRankOfUptoRow.holds Try.pinned (OpenSpec.upto fnExactRankOfSpec)

/-- 'laws.FnSumMean', WHERE WHAT IT READS IS OF BULK AT MOST 1048576: true; the input reads as it did. -/
def fnSumMeanUptoRow : OpenClaim := { program := "ytdccpdclpidnbaa", sum := "94161ba26fd78c2106de9878783b59f3fb726e889d75c0c2ee43284f25bb2fc9", func := "loop.example/weatherarchive/laws.FnSumMean", spec := "fnSumMean", unfollowed := true, recurses := true, apart := false, narrowed := true }
def FnSumMeanUptoSaid : Prop := fnSumMeanUptoRow.holds Try.pinned (OpenSpec.upto fnSumMeanSpec)

/-- 'laws.FnSumMeanRound', WHERE WHAT IT READS IS OF BULK AT MOST 1048576: true; the input reads as it did. -/
def fnSumMeanRoundUptoRow : OpenClaim := { program := "ytdccpdclpidnbaa", sum := "94161ba26fd78c2106de9878783b59f3fb726e889d75c0c2ee43284f25bb2fc9", func := "loop.example/weatherarchive/laws.FnSumMeanRound", spec := "fnSumMeanRound", apart := false, narrowed := true }
def FnSumMeanRoundUptoSaid : Prop := fnSumMeanRoundUptoRow.holds Try.pinned (OpenSpec.upto fnSumMeanRoundSpec)

/-- 'laws.FnExactSumMean', WHERE WHAT IT READS IS OF BULK AT MOST 1048576: true; the input reads as it did. -/
def fnExactSumMeanUptoRow : OpenClaim := { program := "ytdccpdclpidnbaa", sum := "94161ba26fd78c2106de9878783b59f3fb726e889d75c0c2ee43284f25bb2fc9", func := "loop.example/weatherarchive/laws.FnExactSumMean", spec := "fnExactSumMean", apart := false, narrowed := true }
def FnExactSumMeanUptoSaid : Prop := fnExactSumMeanUptoRow.holds Try.pinned (OpenSpec.upto fnExactSumMeanSpec)

end Rows
end Go.Proofs.Ytdccpdclpidnbaa
