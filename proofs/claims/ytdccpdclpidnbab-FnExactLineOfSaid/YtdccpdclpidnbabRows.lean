/-
  No cell of these rows narrows 'for every input' (looked for: loops, veiled, ifaces, maps, wideKeys, modest, calm, conditions, laid).
  DERIVED. THE GIVEN ROWS OF THIS SEAT. 15 by the template 'for every input the law returns true; each argument reads behind the call as it read before'; 0 by the template 'total and deterministic' (their statements: YtdccpdclpidnbabTotals.lean).
  GIVEN WITH THE SEED: the statements are not yours to turn. If you find one false, say at which input.
  Laid BY PROGRAM, IN A SANDBOX (cutbox-rows.mjs): the forced cells as the released guide's own fill.sh prints them over the translation 248723da6efd08b7… (all of the seat's roots in one cut). By AI agents, Wed Nov 11 2026. No macro, syntax, notation, axiom, sorry.
-/
import Derived.Test.YtdccpdclpidnbabChecked
import GoSem.Claim
import GoSem.ClaimJoined
import GoSem.ClaimMapViews
import Derived.JoinedTies
import Derived.KernelRfl
namespace Go.Proofs.Ytdccpdclpidnbab
/- THE CELL 'sum', in the pinned program and in every row, IS THE sha256 OF THE DUMP (.gsa) THAT YtdccpdclpidnbabProg.lean LOADS. Nothing in Lean hashes anything: it is a label: what it is worth is what the hold of that sum in a sandbox is worth. -/
noncomputable def Try.pinned : Pinned := { name := "ytdccpdclpidnbab", sum := "248723da6efd08b75d39083d10a5f355b4291ed830a958fd02c6dce9e1cff71c", checked := Try.checked }
namespace Rows
def none {H : Type} : Left H := { results := [], args := [] }

/-- 'laws.FnDiffs': WHATEVER THE INPUT: true; the input reads as it did. -/
def fnDiffsSpec : ChangeSpec := { name := "fnDiffs", fn := fun _ => fun
  | [d] => { results := [.lit (.bool true)], args := [d] }
  | _ => none }
def fnDiffsRow : OpenClaim := { program := "ytdccpdclpidnbab", sum := "248723da6efd08b75d39083d10a5f355b4291ed830a958fd02c6dce9e1cff71c", func := "loop.example/weatherarchive/laws.FnDiffs", spec := "fnDiffs", apart := false }
def FnDiffsSaid : Prop := fnDiffsRow.holds Try.pinned (OpenSpec.ofChange fnDiffsSpec)

/-- ITS FALSE NEIGHBOUR: 'it returns false'. Refute it at one input. -/
def fnDiffsWrong : ChangeSpec := { name := "fnDiffs", fn := fun _ => fun
  | [d] => { results := [.lit (.bool false)], args := [d] }
  | _ => none }
def FnDiffsWrongFalsely : Prop := fnDiffsRow.holds Try.pinned (OpenSpec.ofChange fnDiffsWrong)

/-- 'laws.FnDiffsGap': WHATEVER THE INPUT: true; the input reads as it did. -/
def fnDiffsGapSpec : ChangeSpec := { name := "fnDiffsGap", fn := fun _ => fun
  | [d] => { results := [.lit (.bool true)], args := [d] }
  | _ => none }
def fnDiffsGapRow : OpenClaim := { program := "ytdccpdclpidnbab", sum := "248723da6efd08b75d39083d10a5f355b4291ed830a958fd02c6dce9e1cff71c", func := "loop.example/weatherarchive/laws.FnDiffsGap", spec := "fnDiffsGap", apart := false }
def FnDiffsGapSaid : Prop := fnDiffsGapRow.holds Try.pinned (OpenSpec.ofChange fnDiffsGapSpec)

/-- ITS FALSE NEIGHBOUR: 'it returns false'. Refute it at one input. -/
def fnDiffsGapWrong : ChangeSpec := { name := "fnDiffsGap", fn := fun _ => fun
  | [d] => { results := [.lit (.bool false)], args := [d] }
  | _ => none }
def FnDiffsGapWrongFalsely : Prop := fnDiffsGapRow.holds Try.pinned (OpenSpec.ofChange fnDiffsGapWrong)

/-- 'laws.FnDiffsBack': WHATEVER THE INPUT: true; the input reads as it did. -/
def fnDiffsBackSpec : ChangeSpec := { name := "fnDiffsBack", fn := fun _ => fun
  | [d] => { results := [.lit (.bool true)], args := [d] }
  | _ => none }
def fnDiffsBackRow : OpenClaim := { program := "ytdccpdclpidnbab", sum := "248723da6efd08b75d39083d10a5f355b4291ed830a958fd02c6dce9e1cff71c", func := "loop.example/weatherarchive/laws.FnDiffsBack", spec := "fnDiffsBack", apart := false }
def FnDiffsBackSaid : Prop := fnDiffsBackRow.holds Try.pinned (OpenSpec.ofChange fnDiffsBackSpec)

/-- ITS FALSE NEIGHBOUR: 'it returns false'. Refute it at one input. -/
def fnDiffsBackWrong : ChangeSpec := { name := "fnDiffsBack", fn := fun _ => fun
  | [d] => { results := [.lit (.bool false)], args := [d] }
  | _ => none }
def FnDiffsBackWrongFalsely : Prop := fnDiffsBackRow.holds Try.pinned (OpenSpec.ofChange fnDiffsBackWrong)

/-- 'laws.FnRunning': WHATEVER THE INPUT: true; the input reads as it did. -/
def fnRunningSpec : ChangeSpec := { name := "fnRunning", fn := fun _ => fun
  | [d] => { results := [.lit (.bool true)], args := [d] }
  | _ => none }
def fnRunningRow : OpenClaim := { program := "ytdccpdclpidnbab", sum := "248723da6efd08b75d39083d10a5f355b4291ed830a958fd02c6dce9e1cff71c", func := "loop.example/weatherarchive/laws.FnRunning", spec := "fnRunning", unfollowed := true, recurses := true, apart := false }
def FnRunningSaid : Prop := fnRunningRow.holds Try.pinned (OpenSpec.ofChange fnRunningSpec)

/-- ITS FALSE NEIGHBOUR: 'it returns false'. Refute it at one input. -/
def fnRunningWrong : ChangeSpec := { name := "fnRunning", fn := fun _ => fun
  | [d] => { results := [.lit (.bool false)], args := [d] }
  | _ => none }
def FnRunningWrongFalsely : Prop := fnRunningRow.holds Try.pinned (OpenSpec.ofChange fnRunningWrong)

/-- 'laws.FnRunningOne': WHATEVER THE INPUT: true; the input reads as it did. -/
def fnRunningOneSpec : ChangeSpec := { name := "fnRunningOne", fn := fun _ => fun
  | [d] => { results := [.lit (.bool true)], args := [d] }
  | _ => none }
def fnRunningOneRow : OpenClaim := { program := "ytdccpdclpidnbab", sum := "248723da6efd08b75d39083d10a5f355b4291ed830a958fd02c6dce9e1cff71c", func := "loop.example/weatherarchive/laws.FnRunningOne", spec := "fnRunningOne", unfollowed := true, recurses := true, apart := false }
def FnRunningOneSaid : Prop := fnRunningOneRow.holds Try.pinned (OpenSpec.ofChange fnRunningOneSpec)

/-- ITS FALSE NEIGHBOUR: 'it returns false'. Refute it at one input. -/
def fnRunningOneWrong : ChangeSpec := { name := "fnRunningOne", fn := fun _ => fun
  | [d] => { results := [.lit (.bool false)], args := [d] }
  | _ => none }
def FnRunningOneWrongFalsely : Prop := fnRunningOneRow.holds Try.pinned (OpenSpec.ofChange fnRunningOneWrong)

/-- 'laws.FnRunningBack': WHATEVER THE INPUT: true; the input reads as it did. -/
def fnRunningBackSpec : ChangeSpec := { name := "fnRunningBack", fn := fun _ => fun
  | [d] => { results := [.lit (.bool true)], args := [d] }
  | _ => none }
def fnRunningBackRow : OpenClaim := { program := "ytdccpdclpidnbab", sum := "248723da6efd08b75d39083d10a5f355b4291ed830a958fd02c6dce9e1cff71c", func := "loop.example/weatherarchive/laws.FnRunningBack", spec := "fnRunningBack", unfollowed := true, recurses := true, apart := false }
def FnRunningBackSaid : Prop := fnRunningBackRow.holds Try.pinned (OpenSpec.ofChange fnRunningBackSpec)

/-- ITS FALSE NEIGHBOUR: 'it returns false'. Refute it at one input. -/
def fnRunningBackWrong : ChangeSpec := { name := "fnRunningBack", fn := fun _ => fun
  | [d] => { results := [.lit (.bool false)], args := [d] }
  | _ => none }
def FnRunningBackWrongFalsely : Prop := fnRunningBackRow.holds Try.pinned (OpenSpec.ofChange fnRunningBackWrong)

/-- 'laws.FnSlope': WHATEVER THE INPUT: true; the input reads as it did. -/
def fnSlopeSpec : ChangeSpec := { name := "fnSlope", fn := fun _ => fun
  | [d] => { results := [.lit (.bool true)], args := [d] }
  | _ => none }
def fnSlopeRow : OpenClaim := { program := "ytdccpdclpidnbab", sum := "248723da6efd08b75d39083d10a5f355b4291ed830a958fd02c6dce9e1cff71c", func := "loop.example/weatherarchive/laws.FnSlope", spec := "fnSlope", apart := false }
def FnSlopeSaid : Prop := fnSlopeRow.holds Try.pinned (OpenSpec.ofChange fnSlopeSpec)

/-- ITS FALSE NEIGHBOUR: 'it returns false'. Refute it at one input. -/
def fnSlopeWrong : ChangeSpec := { name := "fnSlope", fn := fun _ => fun
  | [d] => { results := [.lit (.bool false)], args := [d] }
  | _ => none }
def FnSlopeWrongFalsely : Prop := fnSlopeRow.holds Try.pinned (OpenSpec.ofChange fnSlopeWrong)

/-- 'laws.FnSlopeBack': WHATEVER THE INPUT: true; the input reads as it did. -/
def fnSlopeBackSpec : ChangeSpec := { name := "fnSlopeBack", fn := fun _ => fun
  | [d] => { results := [.lit (.bool true)], args := [d] }
  | _ => none }
def fnSlopeBackRow : OpenClaim := { program := "ytdccpdclpidnbab", sum := "248723da6efd08b75d39083d10a5f355b4291ed830a958fd02c6dce9e1cff71c", func := "loop.example/weatherarchive/laws.FnSlopeBack", spec := "fnSlopeBack", apart := false }
def FnSlopeBackSaid : Prop := fnSlopeBackRow.holds Try.pinned (OpenSpec.ofChange fnSlopeBackSpec)

/-- ITS FALSE NEIGHBOUR: 'it returns false'. Refute it at one input. -/
def fnSlopeBackWrong : ChangeSpec := { name := "fnSlopeBack", fn := fun _ => fun
  | [d] => { results := [.lit (.bool false)], args := [d] }
  | _ => none }
def FnSlopeBackWrongFalsely : Prop := fnSlopeBackRow.holds Try.pinned (OpenSpec.ofChange fnSlopeBackWrong)

/-- 'laws.FnSlopeLine': WHATEVER THE INPUT: true; the input reads as it did. -/
def fnSlopeLineSpec : ChangeSpec := { name := "fnSlopeLine", fn := fun _ => fun
  | [d] => { results := [.lit (.bool true)], args := [d] }
  | _ => none }
def fnSlopeLineRow : OpenClaim := { program := "ytdccpdclpidnbab", sum := "248723da6efd08b75d39083d10a5f355b4291ed830a958fd02c6dce9e1cff71c", func := "loop.example/weatherarchive/laws.FnSlopeLine", spec := "fnSlopeLine", apart := false }
def FnSlopeLineSaid : Prop := fnSlopeLineRow.holds Try.pinned (OpenSpec.ofChange fnSlopeLineSpec)

/-- ITS FALSE NEIGHBOUR: 'it returns false'. Refute it at one input. -/
def fnSlopeLineWrong : ChangeSpec := { name := "fnSlopeLine", fn := fun _ => fun
  | [d] => { results := [.lit (.bool false)], args := [d] }
  | _ => none }
def FnSlopeLineWrongFalsely : Prop := fnSlopeLineRow.holds Try.pinned (OpenSpec.ofChange fnSlopeLineWrong)

/-- 'laws.FnSlopeTwo': WHATEVER THE INPUT: true; the input reads as it did. -/
def fnSlopeTwoSpec : ChangeSpec := { name := "fnSlopeTwo", fn := fun _ => fun
  | [d] => { results := [.lit (.bool true)], args := [d] }
  | _ => none }
def fnSlopeTwoRow : OpenClaim := { program := "ytdccpdclpidnbab", sum := "248723da6efd08b75d39083d10a5f355b4291ed830a958fd02c6dce9e1cff71c", func := "loop.example/weatherarchive/laws.FnSlopeTwo", spec := "fnSlopeTwo", apart := false }
def FnSlopeTwoSaid : Prop := fnSlopeTwoRow.holds Try.pinned (OpenSpec.ofChange fnSlopeTwoSpec)

/-- ITS FALSE NEIGHBOUR: 'it returns false'. Refute it at one input. -/
def fnSlopeTwoWrong : ChangeSpec := { name := "fnSlopeTwo", fn := fun _ => fun
  | [d] => { results := [.lit (.bool false)], args := [d] }
  | _ => none }
def FnSlopeTwoWrongFalsely : Prop := fnSlopeTwoRow.holds Try.pinned (OpenSpec.ofChange fnSlopeTwoWrong)

/-- 'laws.FnLine': WHATEVER THE INPUT: true; the input reads as it did. -/
def fnLineSpec : ChangeSpec := { name := "fnLine", fn := fun _ => fun
  | [d] => { results := [.lit (.bool true)], args := [d] }
  | _ => none }
def fnLineRow : OpenClaim := { program := "ytdccpdclpidnbab", sum := "248723da6efd08b75d39083d10a5f355b4291ed830a958fd02c6dce9e1cff71c", func := "loop.example/weatherarchive/laws.FnLine", spec := "fnLine", recurses := true, apart := false }
def FnLineSaid : Prop := fnLineRow.holds Try.pinned (OpenSpec.ofChange fnLineSpec)

/-- ITS FALSE NEIGHBOUR: 'it returns false'. Refute it at one input. -/
def fnLineWrong : ChangeSpec := { name := "fnLine", fn := fun _ => fun
  | [d] => { results := [.lit (.bool false)], args := [d] }
  | _ => none }
def FnLineWrongFalsely : Prop := fnLineRow.holds Try.pinned (OpenSpec.ofChange fnLineWrong)

/-- 'laws.FnExactDiffsOf': WHATEVER THE INPUT: true; the input reads as it did. -/
def fnExactDiffsOfSpec : ChangeSpec := { name := "fnExactDiffsOf", fn := fun _ => fun
  | [d] => { results := [.lit (.bool true)], args := [d] }
  | _ => none }
def fnExactDiffsOfRow : OpenClaim := { program := "ytdccpdclpidnbab", sum := "248723da6efd08b75d39083d10a5f355b4291ed830a958fd02c6dce9e1cff71c", func := "loop.example/weatherarchive/laws.FnExactDiffsOf", spec := "fnExactDiffsOf", apart := false }
def FnExactDiffsOfSaid : Prop := fnExactDiffsOfRow.holds Try.pinned (OpenSpec.ofChange fnExactDiffsOfSpec)

/-- ITS FALSE NEIGHBOUR: 'it returns false'. Refute it at one input. -/
def fnExactDiffsOfWrong : ChangeSpec := { name := "fnExactDiffsOf", fn := fun _ => fun
  | [d] => { results := [.lit (.bool false)], args := [d] }
  | _ => none }
def FnExactDiffsOfWrongFalsely : Prop := fnExactDiffsOfRow.holds Try.pinned (OpenSpec.ofChange fnExactDiffsOfWrong)

/-- 'laws.FnExactRunningOf': WHATEVER THE INPUT: true; the input reads as it did. -/
def fnExactRunningOfSpec : ChangeSpec := { name := "fnExactRunningOf", fn := fun _ => fun
  | [d1, d2] => { results := [.lit (.bool true)], args := [d1, d2] }
  | _ => none }
def fnExactRunningOfRow : OpenClaim := { program := "ytdccpdclpidnbab", sum := "248723da6efd08b75d39083d10a5f355b4291ed830a958fd02c6dce9e1cff71c", func := "loop.example/weatherarchive/laws.FnExactRunningOf", spec := "fnExactRunningOf", unfollowed := true, recurses := true, apart := false }
def FnExactRunningOfSaid : Prop := fnExactRunningOfRow.holds Try.pinned (OpenSpec.ofChange fnExactRunningOfSpec)

/-- ITS FALSE NEIGHBOUR: 'it returns false'. Refute it at one input. -/
def fnExactRunningOfWrong : ChangeSpec := { name := "fnExactRunningOf", fn := fun _ => fun
  | [d1, d2] => { results := [.lit (.bool false)], args := [d1, d2] }
  | _ => none }
def FnExactRunningOfWrongFalsely : Prop := fnExactRunningOfRow.holds Try.pinned (OpenSpec.ofChange fnExactRunningOfWrong)

/-- 'laws.FnExactSlopeOf': WHATEVER THE INPUT: true; the input reads as it did. -/
def fnExactSlopeOfSpec : ChangeSpec := { name := "fnExactSlopeOf", fn := fun _ => fun
  | [d] => { results := [.lit (.bool true)], args := [d] }
  | _ => none }
def fnExactSlopeOfRow : OpenClaim := { program := "ytdccpdclpidnbab", sum := "248723da6efd08b75d39083d10a5f355b4291ed830a958fd02c6dce9e1cff71c", func := "loop.example/weatherarchive/laws.FnExactSlopeOf", spec := "fnExactSlopeOf", apart := false }
def FnExactSlopeOfSaid : Prop := fnExactSlopeOfRow.holds Try.pinned (OpenSpec.ofChange fnExactSlopeOfSpec)

/-- ITS FALSE NEIGHBOUR: 'it returns false'. Refute it at one input. -/
def fnExactSlopeOfWrong : ChangeSpec := { name := "fnExactSlopeOf", fn := fun _ => fun
  | [d] => { results := [.lit (.bool false)], args := [d] }
  | _ => none }
def FnExactSlopeOfWrongFalsely : Prop := fnExactSlopeOfRow.holds Try.pinned (OpenSpec.ofChange fnExactSlopeOfWrong)

/-- 'laws.FnExactLineOf': WHATEVER THE INPUT: true; the input reads as it did. -/
def fnExactLineOfSpec : ChangeSpec := { name := "fnExactLineOf", fn := fun _ => fun
  | [d1, d2, d3] => { results := [.lit (.bool true)], args := [d1, d2, d3] }
  | _ => none }
def fnExactLineOfRow : OpenClaim := { program := "ytdccpdclpidnbab", sum := "248723da6efd08b75d39083d10a5f355b4291ed830a958fd02c6dce9e1cff71c", func := "loop.example/weatherarchive/laws.FnExactLineOf", spec := "fnExactLineOf", apart := false }
def FnExactLineOfSaid : Prop := fnExactLineOfRow.holds Try.pinned (OpenSpec.ofChange fnExactLineOfSpec)

/-- ITS FALSE NEIGHBOUR: 'it returns false'. Refute it at one input. -/
def fnExactLineOfWrong : ChangeSpec := { name := "fnExactLineOf", fn := fun _ => fun
  | [d1, d2, d3] => { results := [.lit (.bool false)], args := [d1, d2, d3] }
  | _ => none }
def FnExactLineOfWrongFalsely : Prop := fnExactLineOfRow.holds Try.pinned (OpenSpec.ofChange fnExactLineOfWrong)

/- THE SECOND FORM. 'bulk': how many values and letters a reading holds, each counted each time it is reached (what is shared counts as often as it is met; a slice's spare places count too). A statement '..UptoSaid' is the law's where the arguments, and the package variables that the reading takes, are together of bulk at most 1048576: NARROWER than '..Said'. Prove '..Said' where nothing that the law and all that it calls make is longer than what came in: it says more and counts as full. Else prove '..UptoSaid'. A law counts once. -/
mutual
def uptoBulk {H : Type} : DataW H → Nat
  | .lit (.string bytes) => bytes.length + 1
  | .lit _ => 1
  | .nil => 1
  | .ptr d => uptoBulk d + 1
  | .slice elems spare => uptoBulkAll elems + uptoBulkAll spare + 1
  | .agg parts => uptoBulkAll parts + 1
  | .iface _ d => uptoBulk d + 1
  | .map entries => uptoBulkEntries entries + 1
  | .held _ => 1
def uptoBulkAll {H : Type} : List (DataW H) → Nat
  | [] => 0
  | d :: r => uptoBulk d + uptoBulkAll r
def uptoBulkEntries {H : Type} : List (Lit × DataW H) → Nat
  | [] => 0
  | x :: r => uptoBulkEntry x + uptoBulkEntries r
def uptoBulkEntry {H : Type} : Lit × DataW H → Nat
  | (.string bytes, d) => bytes.length + uptoBulk d + 1
  | (_, d) => uptoBulk d + 1
 end
def uptoSmall : (H : Type) → List (DataW H) → Bool := fun _ ds => decide (uptoBulkAll ds ≤ 1048576)
def OpenSpec.upto (s : _root_.Go.ChangeSpec) : _root_.Go.OpenSpec := { _root_.Go.OpenSpec.ofChange s with cond := some uptoSmall }

/-- 'laws.FnDiffs', WHERE WHAT IT READS IS OF BULK AT MOST 1048576: true; the input reads as it did. -/
def fnDiffsUptoRow : OpenClaim := { program := "ytdccpdclpidnbab", sum := "248723da6efd08b75d39083d10a5f355b4291ed830a958fd02c6dce9e1cff71c", func := "loop.example/weatherarchive/laws.FnDiffs", spec := "fnDiffs", apart := false, narrowed := true }
def FnDiffsUptoSaid : Prop := fnDiffsUptoRow.holds Try.pinned (OpenSpec.upto fnDiffsSpec)

/-- 'laws.FnDiffsGap', WHERE WHAT IT READS IS OF BULK AT MOST 1048576: true; the input reads as it did. -/
def fnDiffsGapUptoRow : OpenClaim := { program := "ytdccpdclpidnbab", sum := "248723da6efd08b75d39083d10a5f355b4291ed830a958fd02c6dce9e1cff71c", func := "loop.example/weatherarchive/laws.FnDiffsGap", spec := "fnDiffsGap", apart := false, narrowed := true }
def FnDiffsGapUptoSaid : Prop := fnDiffsGapUptoRow.holds Try.pinned (OpenSpec.upto fnDiffsGapSpec)

/-- 'laws.FnDiffsBack', WHERE WHAT IT READS IS OF BULK AT MOST 1048576: true; the input reads as it did. -/
def fnDiffsBackUptoRow : OpenClaim := { program := "ytdccpdclpidnbab", sum := "248723da6efd08b75d39083d10a5f355b4291ed830a958fd02c6dce9e1cff71c", func := "loop.example/weatherarchive/laws.FnDiffsBack", spec := "fnDiffsBack", apart := false, narrowed := true }
def FnDiffsBackUptoSaid : Prop := fnDiffsBackUptoRow.holds Try.pinned (OpenSpec.upto fnDiffsBackSpec)

/-- 'laws.FnRunning', WHERE WHAT IT READS IS OF BULK AT MOST 1048576: true; the input reads as it did. -/
def fnRunningUptoRow : OpenClaim := { program := "ytdccpdclpidnbab", sum := "248723da6efd08b75d39083d10a5f355b4291ed830a958fd02c6dce9e1cff71c", func := "loop.example/weatherarchive/laws.FnRunning", spec := "fnRunning", unfollowed := true, recurses := true, apart := false, narrowed := true }
def FnRunningUptoSaid : Prop := fnRunningUptoRow.holds Try.pinned (OpenSpec.upto fnRunningSpec)

/-- 'laws.FnRunningOne', WHERE WHAT IT READS IS OF BULK AT MOST 1048576: true; the input reads as it did. -/
def fnRunningOneUptoRow : OpenClaim := { program := "ytdccpdclpidnbab", sum := "248723da6efd08b75d39083d10a5f355b4291ed830a958fd02c6dce9e1cff71c", func := "loop.example/weatherarchive/laws.FnRunningOne", spec := "fnRunningOne", unfollowed := true, recurses := true, apart := false, narrowed := true }
def FnRunningOneUptoSaid : Prop := fnRunningOneUptoRow.holds Try.pinned (OpenSpec.upto fnRunningOneSpec)

/-- 'laws.FnRunningBack', WHERE WHAT IT READS IS OF BULK AT MOST 1048576: true; the input reads as it did. -/
def fnRunningBackUptoRow : OpenClaim := { program := "ytdccpdclpidnbab", sum := "248723da6efd08b75d39083d10a5f355b4291ed830a958fd02c6dce9e1cff71c", func := "loop.example/weatherarchive/laws.FnRunningBack", spec := "fnRunningBack", unfollowed := true, recurses := true, apart := false, narrowed := true }
def FnRunningBackUptoSaid : Prop := fnRunningBackUptoRow.holds Try.pinned (OpenSpec.upto fnRunningBackSpec)

/-- 'laws.FnSlope', WHERE WHAT IT READS IS OF BULK AT MOST 1048576: true; the input reads as it did. -/
def fnSlopeUptoRow : OpenClaim := { program := "ytdccpdclpidnbab", sum := "248723da6efd08b75d39083d10a5f355b4291ed830a958fd02c6dce9e1cff71c", func := "loop.example/weatherarchive/laws.FnSlope", spec := "fnSlope", apart := false, narrowed := true }
def FnSlopeUptoSaid : Prop := fnSlopeUptoRow.holds Try.pinned (OpenSpec.upto fnSlopeSpec)

/-- 'laws.FnSlopeBack', WHERE WHAT IT READS IS OF BULK AT MOST 1048576: true; the input reads as it did. -/
def fnSlopeBackUptoRow : OpenClaim := { program := "ytdccpdclpidnbab", sum := "248723da6efd08b75d39083d10a5f355b4291ed830a958fd02c6dce9e1cff71c", func := "loop.example/weatherarchive/laws.FnSlopeBack", spec := "fnSlopeBack", apart := false, narrowed := true }
def FnSlopeBackUptoSaid : Prop := fnSlopeBackUptoRow.holds Try.pinned (OpenSpec.upto fnSlopeBackSpec)

/-- 'laws.FnSlopeLine', WHERE WHAT IT READS IS OF BULK AT MOST 1048576: true; the input reads as it did. -/
def fnSlopeLineUptoRow : OpenClaim := { program := "ytdccpdclpidnbab", sum := "248723da6efd08b75d39083d10a5f355b4291ed830a958fd02c6dce9e1cff71c", func := "loop.example/weatherarchive/laws.FnSlopeLine", spec := "fnSlopeLine", apart := false, narrowed := true }
def FnSlopeLineUptoSaid : Prop := fnSlopeLineUptoRow.holds Try.pinned (OpenSpec.upto fnSlopeLineSpec)

/-- 'laws.FnSlopeTwo', WHERE WHAT IT READS IS OF BULK AT MOST 1048576: true; the input reads as it did. -/
def fnSlopeTwoUptoRow : OpenClaim := { program := "ytdccpdclpidnbab", sum := "248723da6efd08b75d39083d10a5f355b4291ed830a958fd02c6dce9e1cff71c", func := "loop.example/weatherarchive/laws.FnSlopeTwo", spec := "fnSlopeTwo", apart := false, narrowed := true }
def FnSlopeTwoUptoSaid : Prop := fnSlopeTwoUptoRow.holds Try.pinned (OpenSpec.upto fnSlopeTwoSpec)

/-- 'laws.FnLine', WHERE WHAT IT READS IS OF BULK AT MOST 1048576: true; the input reads as it did. -/
def fnLineUptoRow : OpenClaim := { program := "ytdccpdclpidnbab", sum := "248723da6efd08b75d39083d10a5f355b4291ed830a958fd02c6dce9e1cff71c", func := "loop.example/weatherarchive/laws.FnLine", spec := "fnLine", recurses := true, apart := false, narrowed := true }
def FnLineUptoSaid : Prop := fnLineUptoRow.holds Try.pinned (OpenSpec.upto fnLineSpec)

/-- 'laws.FnExactDiffsOf', WHERE WHAT IT READS IS OF BULK AT MOST 1048576: true; the input reads as it did. -/
def fnExactDiffsOfUptoRow : OpenClaim := { program := "ytdccpdclpidnbab", sum := "248723da6efd08b75d39083d10a5f355b4291ed830a958fd02c6dce9e1cff71c", func := "loop.example/weatherarchive/laws.FnExactDiffsOf", spec := "fnExactDiffsOf", apart := false, narrowed := true }
def FnExactDiffsOfUptoSaid : Prop := fnExactDiffsOfUptoRow.holds Try.pinned (OpenSpec.upto fnExactDiffsOfSpec)

/-- 'laws.FnExactRunningOf', WHERE WHAT IT READS IS OF BULK AT MOST 1048576: true; the input reads as it did. -/
def fnExactRunningOfUptoRow : OpenClaim := { program := "ytdccpdclpidnbab", sum := "248723da6efd08b75d39083d10a5f355b4291ed830a958fd02c6dce9e1cff71c", func := "loop.example/weatherarchive/laws.FnExactRunningOf", spec := "fnExactRunningOf", unfollowed := true, recurses := true, apart := false, narrowed := true }
def FnExactRunningOfUptoSaid : Prop := fnExactRunningOfUptoRow.holds Try.pinned (OpenSpec.upto fnExactRunningOfSpec)

/-- 'laws.FnExactSlopeOf', WHERE WHAT IT READS IS OF BULK AT MOST 1048576: true; the input reads as it did. -/
def fnExactSlopeOfUptoRow : OpenClaim := { program := "ytdccpdclpidnbab", sum := "248723da6efd08b75d39083d10a5f355b4291ed830a958fd02c6dce9e1cff71c", func := "loop.example/weatherarchive/laws.FnExactSlopeOf", spec := "fnExactSlopeOf", apart := false, narrowed := true }
def FnExactSlopeOfUptoSaid : Prop := fnExactSlopeOfUptoRow.holds Try.pinned (OpenSpec.upto fnExactSlopeOfSpec)

/-- 'laws.FnExactLineOf', WHERE WHAT IT READS IS OF BULK AT MOST 1048576: true; the input reads as it did. -/
def fnExactLineOfUptoRow : OpenClaim := { program := "ytdccpdclpidnbab", sum := "248723da6efd08b75d39083d10a5f355b4291ed830a958fd02c6dce9e1cff71c", func := "loop.example/weatherarchive/laws.FnExactLineOf", spec := "fnExactLineOf", apart := false, narrowed := true }
def FnExactLineOfUptoSaid : Prop := fnExactLineOfUptoRow.holds Try.pinned (OpenSpec.upto fnExactLineOfSpec)

end Rows
end Go.Proofs.Ytdccpdclpidnbab
