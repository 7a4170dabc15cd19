/-
  No cell of these rows narrows 'for every input' (looked for: loops, veiled, ifaces, maps, wideKeys, modest, calm, conditions, laid).
  DERIVED. THE GIVEN ROWS OF THIS SEAT. 8 by the template 'for every input the law returns true; each argument reads behind the call as it read before'; 0 by the template 'total and deterministic' (their statements: YtlaajompcbmdoacTotals.lean).
  GIVEN WITH THE SEED: the statements are not yours to turn. If you find one false, say at which input.
  Laid BY PROGRAM, IN A SANDBOX (cutbox-rows.mjs): the forced cells as the released guide's own fill.sh prints them over the translation 99488a2eef70cc06… (all of the seat's roots in one cut). By AI agents, Wed Nov 11 2026. No macro, syntax, notation, axiom, sorry.
-/
import Derived.Test.YtlaajompcbmdoacChecked
import GoSem.Claim
import GoSem.ClaimJoined
import GoSem.ClaimMapViews
import Derived.JoinedTies
import Derived.KernelRfl
namespace Go.Proofs.Ytlaajompcbmdoac
/- THE CELL 'sum', in the pinned program and in every row, IS THE sha256 OF THE DUMP (.gsa) THAT YtlaajompcbmdoacProg.lean LOADS. Nothing in Lean hashes anything: it is a label: what it is worth is what the hold of that sum in a sandbox is worth. -/
noncomputable def Try.pinned : Pinned := { name := "ytlaajompcbmdoac", sum := "99488a2eef70cc065809f4bd16689115c252a8ffbedc78a86f56c6871313a2c7", checked := Try.checked }
namespace Rows
def none {H : Type} : Left H := { results := [], args := [] }

/-- 'laws.FnSlopeLine': WHATEVER THE INPUT: true; the input reads as it did. -/
def fnSlopeLineSpec : ChangeSpec := { name := "fnSlopeLine", fn := fun _ => fun
  | [d] => { results := [.lit (.bool true)], args := [d] }
  | _ => none }
def fnSlopeLineRow : OpenClaim := { program := "ytlaajompcbmdoac", sum := "99488a2eef70cc065809f4bd16689115c252a8ffbedc78a86f56c6871313a2c7", func := "loop.example/weatherarchive/laws.FnSlopeLine", spec := "fnSlopeLine", apart := false }
def FnSlopeLineSaid : Prop := fnSlopeLineRow.holds Try.pinned (OpenSpec.ofChange fnSlopeLineSpec)

/-- ITS FALSE NEIGHBOUR: 'it returns false'. Refute it at one input. -/
def fnSlopeLineWrong : ChangeSpec := { name := "fnSlopeLine", fn := fun _ => fun
  | [d] => { results := [.lit (.bool false)], args := [d] }
  | _ => none }
def FnSlopeLineWrongFalsely : Prop := fnSlopeLineRow.holds Try.pinned (OpenSpec.ofChange fnSlopeLineWrong)

/-- 'laws.FnPairs': WHATEVER THE INPUT: true; the input reads as it did. -/
def fnPairsSpec : ChangeSpec := { name := "fnPairs", fn := fun _ => fun
  | [d] => { results := [.lit (.bool true)], args := [d] }
  | _ => none }
def fnPairsRow : OpenClaim := { program := "ytlaajompcbmdoac", sum := "99488a2eef70cc065809f4bd16689115c252a8ffbedc78a86f56c6871313a2c7", func := "loop.example/weatherarchive/laws.FnPairs", spec := "fnPairs", inPlace := ["slices.overlaps[int]"], unfollowed := true, recurses := true, apart := false }
def FnPairsSaid : Prop := fnPairsRow.holds Try.pinned (OpenSpec.ofChange fnPairsSpec)

/-- ITS FALSE NEIGHBOUR: 'it returns false'. Refute it at one input. -/
def fnPairsWrong : ChangeSpec := { name := "fnPairs", fn := fun _ => fun
  | [d] => { results := [.lit (.bool false)], args := [d] }
  | _ => none }
def FnPairsWrongFalsely : Prop := fnPairsRow.holds Try.pinned (OpenSpec.ofChange fnPairsWrong)

/-- 'laws.FnPairsBack': WHATEVER THE INPUT: true; the input reads as it did. -/
def fnPairsBackSpec : ChangeSpec := { name := "fnPairsBack", fn := fun _ => fun
  | [d] => { results := [.lit (.bool true)], args := [d] }
  | _ => none }
def fnPairsBackRow : OpenClaim := { program := "ytlaajompcbmdoac", sum := "99488a2eef70cc065809f4bd16689115c252a8ffbedc78a86f56c6871313a2c7", func := "loop.example/weatherarchive/laws.FnPairsBack", spec := "fnPairsBack", inPlace := ["slices.overlaps[int]"], unfollowed := true, recurses := true, apart := false }
def FnPairsBackSaid : Prop := fnPairsBackRow.holds Try.pinned (OpenSpec.ofChange fnPairsBackSpec)

/-- ITS FALSE NEIGHBOUR: 'it returns false'. Refute it at one input. -/
def fnPairsBackWrong : ChangeSpec := { name := "fnPairsBack", fn := fun _ => fun
  | [d] => { results := [.lit (.bool false)], args := [d] }
  | _ => none }
def FnPairsBackWrongFalsely : Prop := fnPairsBackRow.holds Try.pinned (OpenSpec.ofChange fnPairsBackWrong)

/-- 'laws.FnTrend': WHATEVER THE INPUT: true; the input reads as it did. -/
def fnTrendSpec : ChangeSpec := { name := "fnTrend", fn := fun _ => fun
  | [d] => { results := [.lit (.bool true)], args := [d] }
  | _ => none }
def fnTrendRow : OpenClaim := { program := "ytlaajompcbmdoac", sum := "99488a2eef70cc065809f4bd16689115c252a8ffbedc78a86f56c6871313a2c7", func := "loop.example/weatherarchive/laws.FnTrend", spec := "fnTrend", unfollowed := true, recurses := true, apart := false }
def FnTrendSaid : Prop := fnTrendRow.holds Try.pinned (OpenSpec.ofChange fnTrendSpec)

/-- ITS FALSE NEIGHBOUR: 'it returns false'. Refute it at one input. -/
def fnTrendWrong : ChangeSpec := { name := "fnTrend", fn := fun _ => fun
  | [d] => { results := [.lit (.bool false)], args := [d] }
  | _ => none }
def FnTrendWrongFalsely : Prop := fnTrendRow.holds Try.pinned (OpenSpec.ofChange fnTrendWrong)

/-- 'laws.FnTrendLine': WHATEVER THE INPUT: true; the input reads as it did. -/
def fnTrendLineSpec : ChangeSpec := { name := "fnTrendLine", fn := fun _ => fun
  | [d] => { results := [.lit (.bool true)], args := [d] }
  | _ => none }
def fnTrendLineRow : OpenClaim := { program := "ytlaajompcbmdoac", sum := "99488a2eef70cc065809f4bd16689115c252a8ffbedc78a86f56c6871313a2c7", func := "loop.example/weatherarchive/laws.FnTrendLine", spec := "fnTrendLine", unfollowed := true, recurses := true, apart := false }
def FnTrendLineSaid : Prop := fnTrendLineRow.holds Try.pinned (OpenSpec.ofChange fnTrendLineSpec)

/-- ITS FALSE NEIGHBOUR: 'it returns false'. Refute it at one input. -/
def fnTrendLineWrong : ChangeSpec := { name := "fnTrendLine", fn := fun _ => fun
  | [d] => { results := [.lit (.bool false)], args := [d] }
  | _ => none }
def FnTrendLineWrongFalsely : Prop := fnTrendLineRow.holds Try.pinned (OpenSpec.ofChange fnTrendLineWrong)

/-- 'laws.FnLine': WHATEVER THE INPUT: true; the input reads as it did. -/
def fnLineSpec : ChangeSpec := { name := "fnLine", fn := fun _ => fun
  | [d] => { results := [.lit (.bool true)], args := [d] }
  | _ => none }
def fnLineRow : OpenClaim := { program := "ytlaajompcbmdoac", sum := "99488a2eef70cc065809f4bd16689115c252a8ffbedc78a86f56c6871313a2c7", func := "loop.example/weatherarchive/laws.FnLine", spec := "fnLine", recurses := true, apart := false }
def FnLineSaid : Prop := fnLineRow.holds Try.pinned (OpenSpec.ofChange fnLineSpec)

/-- ITS FALSE NEIGHBOUR: 'it returns false'. Refute it at one input. -/
def fnLineWrong : ChangeSpec := { name := "fnLine", fn := fun _ => fun
  | [d] => { results := [.lit (.bool false)], args := [d] }
  | _ => none }
def FnLineWrongFalsely : Prop := fnLineRow.holds Try.pinned (OpenSpec.ofChange fnLineWrong)

/-- 'laws.FnExactPairsOf': WHATEVER THE INPUT: true; the input reads as it did. -/
def fnExactPairsOfSpec : ChangeSpec := { name := "fnExactPairsOf", fn := fun _ => fun
  | [d] => { results := [.lit (.bool true)], args := [d] }
  | _ => none }
def fnExactPairsOfRow : OpenClaim := { program := "ytlaajompcbmdoac", sum := "99488a2eef70cc065809f4bd16689115c252a8ffbedc78a86f56c6871313a2c7", func := "loop.example/weatherarchive/laws.FnExactPairsOf", spec := "fnExactPairsOf", unfollowed := true, recurses := true, apart := false }
def FnExactPairsOfSaid : Prop := fnExactPairsOfRow.holds Try.pinned (OpenSpec.ofChange fnExactPairsOfSpec)

/-- ITS FALSE NEIGHBOUR: 'it returns false'. Refute it at one input. -/
def fnExactPairsOfWrong : ChangeSpec := { name := "fnExactPairsOf", fn := fun _ => fun
  | [d] => { results := [.lit (.bool false)], args := [d] }
  | _ => none }
def FnExactPairsOfWrongFalsely : Prop := fnExactPairsOfRow.holds Try.pinned (OpenSpec.ofChange fnExactPairsOfWrong)

/-- 'laws.FnExactTrendOf': WHATEVER THE INPUT: true; the input reads as it did. -/
def fnExactTrendOfSpec : ChangeSpec := { name := "fnExactTrendOf", fn := fun _ => fun
  | [d] => { results := [.lit (.bool true)], args := [d] }
  | _ => none }
def fnExactTrendOfRow : OpenClaim := { program := "ytlaajompcbmdoac", sum := "99488a2eef70cc065809f4bd16689115c252a8ffbedc78a86f56c6871313a2c7", func := "loop.example/weatherarchive/laws.FnExactTrendOf", spec := "fnExactTrendOf", unfollowed := true, recurses := true, apart := false }
def FnExactTrendOfSaid : Prop := fnExactTrendOfRow.holds Try.pinned (OpenSpec.ofChange fnExactTrendOfSpec)

/-- ITS FALSE NEIGHBOUR: 'it returns false'. Refute it at one input. -/
def fnExactTrendOfWrong : ChangeSpec := { name := "fnExactTrendOf", fn := fun _ => fun
  | [d] => { results := [.lit (.bool false)], args := [d] }
  | _ => none }
def FnExactTrendOfWrongFalsely : Prop := fnExactTrendOfRow.holds Try.pinned (OpenSpec.ofChange fnExactTrendOfWrong)

/- THE SECOND FORM. 'bulk': how many values and letters a reading holds, each counted each time it is reached (what is shared counts as often as it is met; a slice's spare places count too). A statement '..UptoSaid' is the law's where the arguments, and the package variables that the reading takes, are together of bulk at most 1048576: NARROWER than '..Said'. Prove '..Said' where nothing that the law and all that it calls make is longer than what came in: it says more and counts as full. Else prove '..UptoSaid'. A law counts once. -/
mutual
def uptoBulk {H : Type} : DataW H → Nat
  | .lit (.string bytes) => bytes.length + 1
  | .lit _ => 1
  | .nil => 1
  | .ptr d => uptoBulk d + 1
  | .slice elems spare => uptoBulkAll elems + uptoBulkAll spare + 1
  | .agg parts => uptoBulkAll parts + 1
  | .iface _ d => uptoBulk d + 1
  | .map entries => uptoBulkEntries entries + 1
  | .held _ => 1
def uptoBulkAll {H : Type} : List (DataW H) → Nat
  | [] => 0
  | d :: r => uptoBulk d + uptoBulkAll r
def uptoBulkEntries {H : Type} : List (Lit × DataW H) → Nat
  | [] => 0
  | x :: r => uptoBulkEntry x + uptoBulkEntries r
def uptoBulkEntry {H : Type} : Lit × DataW H → Nat
  | (.string bytes, d) => bytes.length + uptoBulk d + 1
  | (_, d) => uptoBulk d + 1
 end
def uptoSmall : (H : Type) → List (DataW H) → Bool := fun _ ds => decide (uptoBulkAll ds ≤ 1048576)
def OpenSpec.upto (s : _root_.Go.ChangeSpec) : _root_.Go.OpenSpec := { _root_.Go.OpenSpec.ofChange s with cond := some uptoSmall }

/-- 'laws.FnSlopeLine', WHERE WHAT IT READS IS OF BULK AT MOST 1048576: true; the input reads as it did. -/
def fnSlopeLineUptoRow : OpenClaim := { program := "ytlaajompcbmdoac", sum := "99488a2eef70cc065809f4bd16689115c252a8ffbedc78a86f56c6871313a2c7", func := "loop.example/weatherarchive/laws.FnSlopeLine", spec := "fnSlopeLine", apart := false, narrowed := true }
def FnSlopeLineUptoSaid : Prop := fnSlopeLineUptoRow.holds Try.pinned (OpenSpec.upto fnSlopeLineSpec)

/-- 'laws.FnPairs', WHERE WHAT IT READS IS OF BULK AT MOST 1048576: true; the input reads as it did. -/
def fnPairsUptoRow : OpenClaim := { program := "ytlaajompcbmdoac", sum := "99488a2eef70cc065809f4bd16689115c252a8ffbedc78a86f56c6871313a2c7", func := "loop.example/weatherarchive/laws.FnPairs", spec := "fnPairs", inPlace := ["slices.overlaps[int]"], unfollowed := true, recurses := true, apart := false, narrowed := true }
def FnPairsUptoSaid : Prop := fnPairsUptoRow.holds Try.pinned (OpenSpec.upto fnPairsSpec)

/-- 'laws.FnPairsBack', WHERE WHAT IT READS IS OF BULK AT MOST 1048576: true; the input reads as it did. -/
def fnPairsBackUptoRow : OpenClaim := { program := "ytlaajompcbmdoac", sum := "99488a2eef70cc065809f4bd16689115c252a8ffbedc78a86f56c6871313a2c7", func := "loop.example/weatherarchive/laws.FnPairsBack", spec := "fnPairsBack", inPlace := ["slices.overlaps[int]"], unfollowed := true, recurses := true, apart := false, narrowed := true }
def FnPairsBackUptoSaid : Prop := fnPairsBackUptoRow.holds Try.pinned (OpenSpec.upto fnPairsBackSpec)

/-- 'laws.FnTrend', WHERE WHAT IT READS IS OF BULK AT MOST 1048576: true; the input reads as it did. -/
def fnTrendUptoRow : OpenClaim := { program := "ytlaajompcbmdoac", sum := "99488a2eef70cc065809f4bd16689115c252a8ffbedc78a86f56c6871313a2c7", func := "loop.example/weatherarchive/laws.FnTrend", spec := "fnTrend", unfollowed := true, recurses := true, apart := false, narrowed := true }
def FnTrendUptoSaid : Prop := fnTrendUptoRow.holds Try.pinned (OpenSpec.upto fnTrendSpec)

/-- 'laws.FnTrendLine', WHERE WHAT IT READS IS OF BULK AT MOST 1048576: true; the input reads as it did. -/
def fnTrendLineUptoRow : OpenClaim := { program := "ytlaajompcbmdoac", sum := "99488a2eef70cc065809f4bd16689115c252a8ffbedc78a86f56c6871313a2c7", func := "loop.example/weatherarchive/laws.FnTrendLine", spec := "fnTrendLine", unfollowed := true, recurses := true, apart := false, narrowed := true }
def FnTrendLineUptoSaid : Prop := fnTrendLineUptoRow.holds Try.pinned (OpenSpec.upto fnTrendLineSpec)

/-- 'laws.FnLine', WHERE WHAT IT READS IS OF BULK AT MOST 1048576: true; the input reads as it did. -/
def fnLineUptoRow : OpenClaim := { program := "ytlaajompcbmdoac", sum := "99488a2eef70cc065809f4bd16689115c252a8ffbedc78a86f56c6871313a2c7", func := "loop.example/weatherarchive/laws.FnLine", spec := "fnLine", recurses := true, apart := false, narrowed := true }
def FnLineUptoSaid : Prop := fnLineUptoRow.holds Try.pinned (OpenSpec.upto fnLineSpec)

/-- 'laws.FnExactPairsOf', WHERE WHAT IT READS IS OF BULK AT MOST 1048576: true; the input reads as it did. -/
def fnExactPairsOfUptoRow : OpenClaim := { program := "ytlaajompcbmdoac", sum := "99488a2eef70cc065809f4bd16689115c252a8ffbedc78a86f56c6871313a2c7", func := "loop.example/weatherarchive/laws.FnExactPairsOf", spec := "fnExactPairsOf", unfollowed := true, recurses := true, apart := false, narrowed := true }
def FnExactPairsOfUptoSaid : Prop := fnExactPairsOfUptoRow.holds Try.pinned (OpenSpec.upto fnExactPairsOfSpec)

/-- 'laws.FnExactTrendOf', WHERE WHAT IT READS IS OF BULK AT MOST 1048576: true; the input reads as it did. -/
def fnExactTrendOfUptoRow : OpenClaim := { program := "ytlaajompcbmdoac", sum := "99488a2eef70cc065809f4bd16689115c252a8ffbedc78a86f56c6871313a2c7", func := "loop.example/weatherarchive/laws.FnExactTrendOf", spec := "fnExactTrendOf", unfollowed := true, recurses := true, apart := false, narrowed := true }
def FnExactTrendOfUptoSaid : Prop := fnExactTrendOfUptoRow.holds Try.pinned (OpenSpec.upto fnExactTrendOfSpec)

end Rows
end Go.Proofs.Ytlaajompcbmdoac
