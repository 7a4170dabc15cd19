/-
  NARROWER THAN 'FOR EVERY INPUT', by the rows' own cells (each row's printed sentence says how): FnDayOf: laid · FnDateOf: laid · FnDateNext: laid · FnYearLong: laid · FnYearLeap: laid · FnDateValid: laid · FnDateTurn: laid · FnDateTurnGap: laid · FnDateWeek: laid · FnExactDateValid: laid · FnExactDayOf: laid · FnExactDateOf: laid · FnExactDateTurn: laid.
  DERIVED. THE GIVEN ROWS OF THIS SEAT. 13 by the template 'for every input the law returns true; each argument reads behind the call as it read before'; 0 by the template 'total and deterministic' (their statements: YthlabofegjfmfaaDoorTotals.lean).
  GIVEN WITH THE SEED: the statements are not yours to turn. If you find one false, say at which input.
  Laid BY PROGRAM, IN A SANDBOX (cutbox-rows.mjs): the forced cells as the released guide's own fill.sh prints them over the translation 42d3df9e37f11329… (all of the seat's roots in one cut). By AI agents, Wed Nov 11 2026. No macro, syntax, notation, axiom, sorry.
-/
import Derived.Test.YthlabofegjfmfaaDoorChecked
import GoSem.Claim
import GoSem.ClaimJoined
import GoSem.ClaimMapViews
import Derived.JoinedTies
import Derived.KernelRfl
namespace Go.Proofs.YthlabofegjfmfaaDoor
/- THE CELL 'sum', in the pinned program and in every row, IS THE sha256 OF THE DUMP (.gsa) THAT YthlabofegjfmfaaDoorProg.lean LOADS. Nothing in Lean hashes anything: it is a label: what it is worth is what the hold of that sum in a sandbox is worth. -/
noncomputable def Tryd.pinned : Pinned := { name := "ythlabofegjfmfaadoor", sum := "42d3df9e37f113290861bf4b99aee55e1d0de93beef7173ffa0671b03d804cbd", checked := Tryd.checked }
namespace Rows
def none {H : Type} : Left H := { results := [], args := [] }

/- WHAT THE LISTED PACKAGE-LEVEL VARIABLES READ AS WHEN THE CALL BEGINS. Each datum BY PROGRAM (the guide's laid-datum.mjs) off the statement by which the dump's own 'gosem.cut.vars' lays the variable. In a bare row this is a premise. The card (YthlabofegjfmfaaDoorCards.lean) ties it to the program's text. -/
def laid_loop_example_weatherarchive_impl_monthDays {H : Type} : DataW H := .agg [.lit (.int .i64 31), .lit (.int .i64 28), .lit (.int .i64 31), .lit (.int .i64 30), .lit (.int .i64 31), .lit (.int .i64 30), .lit (.int .i64 31), .lit (.int .i64 31), .lit (.int .i64 30), .lit (.int .i64 31), .lit (.int .i64 30), .lit (.int .i64 31)]

/-- 'laws.FnDayOf': WHATEVER THE INPUT: true; the input reads as it did. -/
def fnDayOfSpec : ChangeSpec := { name := "fnDayOf", vars := ["loop.example/weatherarchive/impl.monthDays"], fn := fun _ => fun
  | [d, g1] => { results := [.lit (.bool true)], args := [d], vars := [g1] }
  | _ => none }
def fnDayOfRow : OpenClaim := { program := "ythlabofegjfmfaadoor", sum := "42d3df9e37f113290861bf4b99aee55e1d0de93beef7173ffa0671b03d804cbd", func := "loop.example/weatherarchive/laws.FnDayOf", spec := "fnDayOf", unfollowed := true, recurses := true, named := ["loop.example/weatherarchive/impl.monthDays"], apart := false, laid := [("loop.example/weatherarchive/impl.monthDays", laid_loop_example_weatherarchive_impl_monthDays)] }
def FnDayOfSaid : Prop := fnDayOfRow.holds Tryd.pinned (OpenSpec.ofChange fnDayOfSpec)

/-- ITS FALSE NEIGHBOUR: 'it returns false'. Refute it at one input. -/
def fnDayOfWrong : ChangeSpec := { name := "fnDayOf", vars := ["loop.example/weatherarchive/impl.monthDays"], fn := fun _ => fun
  | [d, g1] => { results := [.lit (.bool false)], args := [d], vars := [g1] }
  | _ => none }
def FnDayOfWrongFalsely : Prop := fnDayOfRow.holds Tryd.pinned (OpenSpec.ofChange fnDayOfWrong)

/-- 'laws.FnDateOf': WHATEVER THE INPUT: true; the input reads as it did. -/
def fnDateOfSpec : ChangeSpec := { name := "fnDateOf", vars := ["loop.example/weatherarchive/impl.monthDays"], fn := fun _ => fun
  | [d, g1] => { results := [.lit (.bool true)], args := [d], vars := [g1] }
  | _ => none }
def fnDateOfRow : OpenClaim := { program := "ythlabofegjfmfaadoor", sum := "42d3df9e37f113290861bf4b99aee55e1d0de93beef7173ffa0671b03d804cbd", func := "loop.example/weatherarchive/laws.FnDateOf", spec := "fnDateOf", unfollowed := true, recurses := true, named := ["loop.example/weatherarchive/impl.monthDays"], apart := false, laid := [("loop.example/weatherarchive/impl.monthDays", laid_loop_example_weatherarchive_impl_monthDays)] }
def FnDateOfSaid : Prop := fnDateOfRow.holds Tryd.pinned (OpenSpec.ofChange fnDateOfSpec)

/-- ITS FALSE NEIGHBOUR: 'it returns false'. Refute it at one input. -/
def fnDateOfWrong : ChangeSpec := { name := "fnDateOf", vars := ["loop.example/weatherarchive/impl.monthDays"], fn := fun _ => fun
  | [d, g1] => { results := [.lit (.bool false)], args := [d], vars := [g1] }
  | _ => none }
def FnDateOfWrongFalsely : Prop := fnDateOfRow.holds Tryd.pinned (OpenSpec.ofChange fnDateOfWrong)

/-- 'laws.FnDateNext': WHATEVER THE INPUT: true; the input reads as it did. -/
def fnDateNextSpec : ChangeSpec := { name := "fnDateNext", vars := ["loop.example/weatherarchive/impl.monthDays"], fn := fun _ => fun
  | [d, g1] => { results := [.lit (.bool true)], args := [d], vars := [g1] }
  | _ => none }
def fnDateNextRow : OpenClaim := { program := "ythlabofegjfmfaadoor", sum := "42d3df9e37f113290861bf4b99aee55e1d0de93beef7173ffa0671b03d804cbd", func := "loop.example/weatherarchive/laws.FnDateNext", spec := "fnDateNext", unfollowed := true, recurses := true, named := ["loop.example/weatherarchive/impl.monthDays"], apart := false, laid := [("loop.example/weatherarchive/impl.monthDays", laid_loop_example_weatherarchive_impl_monthDays)] }
def FnDateNextSaid : Prop := fnDateNextRow.holds Tryd.pinned (OpenSpec.ofChange fnDateNextSpec)

/-- ITS FALSE NEIGHBOUR: 'it returns false'. Refute it at one input. -/
def fnDateNextWrong : ChangeSpec := { name := "fnDateNext", vars := ["loop.example/weatherarchive/impl.monthDays"], fn := fun _ => fun
  | [d, g1] => { results := [.lit (.bool false)], args := [d], vars := [g1] }
  | _ => none }
def FnDateNextWrongFalsely : Prop := fnDateNextRow.holds Tryd.pinned (OpenSpec.ofChange fnDateNextWrong)

/-- 'laws.FnYearLong': WHATEVER THE INPUT: true; the input reads as it did. -/
def fnYearLongSpec : ChangeSpec := { name := "fnYearLong", vars := ["loop.example/weatherarchive/impl.monthDays"], fn := fun _ => fun
  | [d, g1] => { results := [.lit (.bool true)], args := [d], vars := [g1] }
  | _ => none }
def fnYearLongRow : OpenClaim := { program := "ythlabofegjfmfaadoor", sum := "42d3df9e37f113290861bf4b99aee55e1d0de93beef7173ffa0671b03d804cbd", func := "loop.example/weatherarchive/laws.FnYearLong", spec := "fnYearLong", unfollowed := true, recurses := true, named := ["loop.example/weatherarchive/impl.monthDays"], apart := false, laid := [("loop.example/weatherarchive/impl.monthDays", laid_loop_example_weatherarchive_impl_monthDays)] }
def FnYearLongSaid : Prop := fnYearLongRow.holds Tryd.pinned (OpenSpec.ofChange fnYearLongSpec)

/-- ITS FALSE NEIGHBOUR: 'it returns false'. Refute it at one input. -/
def fnYearLongWrong : ChangeSpec := { name := "fnYearLong", vars := ["loop.example/weatherarchive/impl.monthDays"], fn := fun _ => fun
  | [d, g1] => { results := [.lit (.bool false)], args := [d], vars := [g1] }
  | _ => none }
def FnYearLongWrongFalsely : Prop := fnYearLongRow.holds Tryd.pinned (OpenSpec.ofChange fnYearLongWrong)

/-- 'laws.FnYearLeap': WHATEVER THE INPUT: true; the input reads as it did. -/
def fnYearLeapSpec : ChangeSpec := { name := "fnYearLeap", vars := ["loop.example/weatherarchive/impl.monthDays"], fn := fun _ => fun
  | [d, g1] => { results := [.lit (.bool true)], args := [d], vars := [g1] }
  | _ => none }
def fnYearLeapRow : OpenClaim := { program := "ythlabofegjfmfaadoor", sum := "42d3df9e37f113290861bf4b99aee55e1d0de93beef7173ffa0671b03d804cbd", func := "loop.example/weatherarchive/laws.FnYearLeap", spec := "fnYearLeap", named := ["loop.example/weatherarchive/impl.monthDays"], apart := false, laid := [("loop.example/weatherarchive/impl.monthDays", laid_loop_example_weatherarchive_impl_monthDays)] }
def FnYearLeapSaid : Prop := fnYearLeapRow.holds Tryd.pinned (OpenSpec.ofChange fnYearLeapSpec)

/-- ITS FALSE NEIGHBOUR: 'it returns false'. Refute it at one input. -/
def fnYearLeapWrong : ChangeSpec := { name := "fnYearLeap", vars := ["loop.example/weatherarchive/impl.monthDays"], fn := fun _ => fun
  | [d, g1] => { results := [.lit (.bool false)], args := [d], vars := [g1] }
  | _ => none }
def FnYearLeapWrongFalsely : Prop := fnYearLeapRow.holds Tryd.pinned (OpenSpec.ofChange fnYearLeapWrong)

/-- 'laws.FnDateValid': WHATEVER THE INPUT: true; the input reads as it did. -/
def fnDateValidSpec : ChangeSpec := { name := "fnDateValid", vars := ["loop.example/weatherarchive/impl.monthDays"], fn := fun _ => fun
  | [d, g1] => { results := [.lit (.bool true)], args := [d], vars := [g1] }
  | _ => none }
def fnDateValidRow : OpenClaim := { program := "ythlabofegjfmfaadoor", sum := "42d3df9e37f113290861bf4b99aee55e1d0de93beef7173ffa0671b03d804cbd", func := "loop.example/weatherarchive/laws.FnDateValid", spec := "fnDateValid", named := ["loop.example/weatherarchive/impl.monthDays"], apart := false, laid := [("loop.example/weatherarchive/impl.monthDays", laid_loop_example_weatherarchive_impl_monthDays)] }
def FnDateValidSaid : Prop := fnDateValidRow.holds Tryd.pinned (OpenSpec.ofChange fnDateValidSpec)

/-- ITS FALSE NEIGHBOUR: 'it returns false'. Refute it at one input. -/
def fnDateValidWrong : ChangeSpec := { name := "fnDateValid", vars := ["loop.example/weatherarchive/impl.monthDays"], fn := fun _ => fun
  | [d, g1] => { results := [.lit (.bool false)], args := [d], vars := [g1] }
  | _ => none }
def FnDateValidWrongFalsely : Prop := fnDateValidRow.holds Tryd.pinned (OpenSpec.ofChange fnDateValidWrong)

/-- 'laws.FnDateTurn': WHATEVER THE INPUT: true; the input reads as it did. -/
def fnDateTurnSpec : ChangeSpec := { name := "fnDateTurn", vars := ["loop.example/weatherarchive/impl.monthDays"], fn := fun _ => fun
  | [d, g1] => { results := [.lit (.bool true)], args := [d], vars := [g1] }
  | _ => none }
def fnDateTurnRow : OpenClaim := { program := "ythlabofegjfmfaadoor", sum := "42d3df9e37f113290861bf4b99aee55e1d0de93beef7173ffa0671b03d804cbd", func := "loop.example/weatherarchive/laws.FnDateTurn", spec := "fnDateTurn", unfollowed := true, recurses := true, named := ["loop.example/weatherarchive/impl.monthDays"], apart := false, laid := [("loop.example/weatherarchive/impl.monthDays", laid_loop_example_weatherarchive_impl_monthDays)] }
def FnDateTurnSaid : Prop := fnDateTurnRow.holds Tryd.pinned (OpenSpec.ofChange fnDateTurnSpec)

/-- ITS FALSE NEIGHBOUR: 'it returns false'. Refute it at one input. -/
def fnDateTurnWrong : ChangeSpec := { name := "fnDateTurn", vars := ["loop.example/weatherarchive/impl.monthDays"], fn := fun _ => fun
  | [d, g1] => { results := [.lit (.bool false)], args := [d], vars := [g1] }
  | _ => none }
def FnDateTurnWrongFalsely : Prop := fnDateTurnRow.holds Tryd.pinned (OpenSpec.ofChange fnDateTurnWrong)

/-- 'laws.FnDateTurnGap': WHATEVER THE INPUT: true; the input reads as it did. -/
def fnDateTurnGapSpec : ChangeSpec := { name := "fnDateTurnGap", vars := ["loop.example/weatherarchive/impl.monthDays"], fn := fun _ => fun
  | [d, g1] => { results := [.lit (.bool true)], args := [d], vars := [g1] }
  | _ => none }
def fnDateTurnGapRow : OpenClaim := { program := "ythlabofegjfmfaadoor", sum := "42d3df9e37f113290861bf4b99aee55e1d0de93beef7173ffa0671b03d804cbd", func := "loop.example/weatherarchive/laws.FnDateTurnGap", spec := "fnDateTurnGap", unfollowed := true, recurses := true, named := ["loop.example/weatherarchive/impl.monthDays"], apart := false, laid := [("loop.example/weatherarchive/impl.monthDays", laid_loop_example_weatherarchive_impl_monthDays)] }
def FnDateTurnGapSaid : Prop := fnDateTurnGapRow.holds Tryd.pinned (OpenSpec.ofChange fnDateTurnGapSpec)

/-- ITS FALSE NEIGHBOUR: 'it returns false'. Refute it at one input. -/
def fnDateTurnGapWrong : ChangeSpec := { name := "fnDateTurnGap", vars := ["loop.example/weatherarchive/impl.monthDays"], fn := fun _ => fun
  | [d, g1] => { results := [.lit (.bool false)], args := [d], vars := [g1] }
  | _ => none }
def FnDateTurnGapWrongFalsely : Prop := fnDateTurnGapRow.holds Tryd.pinned (OpenSpec.ofChange fnDateTurnGapWrong)

/-- 'laws.FnDateWeek': WHATEVER THE INPUT: true; the input reads as it did. -/
def fnDateWeekSpec : ChangeSpec := { name := "fnDateWeek", vars := ["loop.example/weatherarchive/impl.monthDays"], fn := fun _ => fun
  | [d, g1] => { results := [.lit (.bool true)], args := [d], vars := [g1] }
  | _ => none }
def fnDateWeekRow : OpenClaim := { program := "ythlabofegjfmfaadoor", sum := "42d3df9e37f113290861bf4b99aee55e1d0de93beef7173ffa0671b03d804cbd", func := "loop.example/weatherarchive/laws.FnDateWeek", spec := "fnDateWeek", unfollowed := true, recurses := true, named := ["loop.example/weatherarchive/impl.monthDays"], apart := false, laid := [("loop.example/weatherarchive/impl.monthDays", laid_loop_example_weatherarchive_impl_monthDays)] }
def FnDateWeekSaid : Prop := fnDateWeekRow.holds Tryd.pinned (OpenSpec.ofChange fnDateWeekSpec)

/-- ITS FALSE NEIGHBOUR: 'it returns false'. Refute it at one input. -/
def fnDateWeekWrong : ChangeSpec := { name := "fnDateWeek", vars := ["loop.example/weatherarchive/impl.monthDays"], fn := fun _ => fun
  | [d, g1] => { results := [.lit (.bool false)], args := [d], vars := [g1] }
  | _ => none }
def FnDateWeekWrongFalsely : Prop := fnDateWeekRow.holds Tryd.pinned (OpenSpec.ofChange fnDateWeekWrong)

/-- 'laws.FnExactDateValid': WHATEVER THE INPUT: true; the input reads as it did. -/
def fnExactDateValidSpec : ChangeSpec := { name := "fnExactDateValid", vars := ["loop.example/weatherarchive/impl.monthDays"], fn := fun _ => fun
  | [d1, d2, g1] => { results := [.lit (.bool true)], args := [d1, d2], vars := [g1] }
  | _ => none }
def fnExactDateValidRow : OpenClaim := { program := "ythlabofegjfmfaadoor", sum := "42d3df9e37f113290861bf4b99aee55e1d0de93beef7173ffa0671b03d804cbd", func := "loop.example/weatherarchive/laws.FnExactDateValid", spec := "fnExactDateValid", named := ["loop.example/weatherarchive/impl.monthDays"], apart := false, laid := [("loop.example/weatherarchive/impl.monthDays", laid_loop_example_weatherarchive_impl_monthDays)] }
def FnExactDateValidSaid : Prop := fnExactDateValidRow.holds Tryd.pinned (OpenSpec.ofChange fnExactDateValidSpec)

/-- ITS FALSE NEIGHBOUR: 'it returns false'. Refute it at one input. -/
def fnExactDateValidWrong : ChangeSpec := { name := "fnExactDateValid", vars := ["loop.example/weatherarchive/impl.monthDays"], fn := fun _ => fun
  | [d1, d2, g1] => { results := [.lit (.bool false)], args := [d1, d2], vars := [g1] }
  | _ => none }
def FnExactDateValidWrongFalsely : Prop := fnExactDateValidRow.holds Tryd.pinned (OpenSpec.ofChange fnExactDateValidWrong)

/-- 'laws.FnExactDayOf': WHATEVER THE INPUT: true; the input reads as it did. -/
def fnExactDayOfSpec : ChangeSpec := { name := "fnExactDayOf", vars := ["loop.example/weatherarchive/impl.monthDays"], fn := fun _ => fun
  | [d1, d2, g1] => { results := [.lit (.bool true)], args := [d1, d2], vars := [g1] }
  | _ => none }
def fnExactDayOfRow : OpenClaim := { program := "ythlabofegjfmfaadoor", sum := "42d3df9e37f113290861bf4b99aee55e1d0de93beef7173ffa0671b03d804cbd", func := "loop.example/weatherarchive/laws.FnExactDayOf", spec := "fnExactDayOf", unfollowed := true, recurses := true, named := ["loop.example/weatherarchive/impl.monthDays"], apart := false, laid := [("loop.example/weatherarchive/impl.monthDays", laid_loop_example_weatherarchive_impl_monthDays)] }
def FnExactDayOfSaid : Prop := fnExactDayOfRow.holds Tryd.pinned (OpenSpec.ofChange fnExactDayOfSpec)

/-- ITS FALSE NEIGHBOUR: 'it returns false'. Refute it at one input. -/
def fnExactDayOfWrong : ChangeSpec := { name := "fnExactDayOf", vars := ["loop.example/weatherarchive/impl.monthDays"], fn := fun _ => fun
  | [d1, d2, g1] => { results := [.lit (.bool false)], args := [d1, d2], vars := [g1] }
  | _ => none }
def FnExactDayOfWrongFalsely : Prop := fnExactDayOfRow.holds Tryd.pinned (OpenSpec.ofChange fnExactDayOfWrong)

/-- 'laws.FnExactDateOf': WHATEVER THE INPUT: true; the input reads as it did. -/
def fnExactDateOfSpec : ChangeSpec := { name := "fnExactDateOf", vars := ["loop.example/weatherarchive/impl.monthDays"], fn := fun _ => fun
  | [d1, d2, g1] => { results := [.lit (.bool true)], args := [d1, d2], vars := [g1] }
  | _ => none }
def fnExactDateOfRow : OpenClaim := { program := "ythlabofegjfmfaadoor", sum := "42d3df9e37f113290861bf4b99aee55e1d0de93beef7173ffa0671b03d804cbd", func := "loop.example/weatherarchive/laws.FnExactDateOf", spec := "fnExactDateOf", unfollowed := true, recurses := true, named := ["loop.example/weatherarchive/impl.monthDays"], apart := false, laid := [("loop.example/weatherarchive/impl.monthDays", laid_loop_example_weatherarchive_impl_monthDays)] }
def FnExactDateOfSaid : Prop := fnExactDateOfRow.holds Tryd.pinned (OpenSpec.ofChange fnExactDateOfSpec)

/-- ITS FALSE NEIGHBOUR: 'it returns false'. Refute it at one input. -/
def fnExactDateOfWrong : ChangeSpec := { name := "fnExactDateOf", vars := ["loop.example/weatherarchive/impl.monthDays"], fn := fun _ => fun
  | [d1, d2, g1] => { results := [.lit (.bool false)], args := [d1, d2], vars := [g1] }
  | _ => none }
def FnExactDateOfWrongFalsely : Prop := fnExactDateOfRow.holds Tryd.pinned (OpenSpec.ofChange fnExactDateOfWrong)

/-- 'laws.FnExactDateTurn': WHATEVER THE INPUT: true; the input reads as it did. -/
def fnExactDateTurnSpec : ChangeSpec := { name := "fnExactDateTurn", vars := ["loop.example/weatherarchive/impl.monthDays"], fn := fun _ => fun
  | [d1, d2, g1] => { results := [.lit (.bool true)], args := [d1, d2], vars := [g1] }
  | _ => none }
def fnExactDateTurnRow : OpenClaim := { program := "ythlabofegjfmfaadoor", sum := "42d3df9e37f113290861bf4b99aee55e1d0de93beef7173ffa0671b03d804cbd", func := "loop.example/weatherarchive/laws.FnExactDateTurn", spec := "fnExactDateTurn", unfollowed := true, recurses := true, named := ["loop.example/weatherarchive/impl.monthDays"], apart := false, laid := [("loop.example/weatherarchive/impl.monthDays", laid_loop_example_weatherarchive_impl_monthDays)] }
def FnExactDateTurnSaid : Prop := fnExactDateTurnRow.holds Tryd.pinned (OpenSpec.ofChange fnExactDateTurnSpec)

/-- ITS FALSE NEIGHBOUR: 'it returns false'. Refute it at one input. -/
def fnExactDateTurnWrong : ChangeSpec := { name := "fnExactDateTurn", vars := ["loop.example/weatherarchive/impl.monthDays"], fn := fun _ => fun
  | [d1, d2, g1] => { results := [.lit (.bool false)], args := [d1, d2], vars := [g1] }
  | _ => none }
def FnExactDateTurnWrongFalsely : Prop := fnExactDateTurnRow.holds Tryd.pinned (OpenSpec.ofChange fnExactDateTurnWrong)

/- THE SECOND FORM. 'bulk': how many values and letters a reading holds, each counted each time it is reached (what is shared counts as often as it is met; a slice's spare places count too). A statement '..UptoSaid' is the law's where the arguments, and the package variables that the reading takes, are together of bulk at most 1048576: NARROWER than '..Said'. Prove '..Said' where nothing that the law and all that it calls make is longer than what came in: it says more and counts as full. Else prove '..UptoSaid'. A law counts once. -/
mutual
def uptoBulk {H : Type} : DataW H → Nat
  | .lit (.string bytes) => bytes.length + 1
  | .lit _ => 1
  | .nil => 1
  | .ptr d => uptoBulk d + 1
  | .slice elems spare => uptoBulkAll elems + uptoBulkAll spare + 1
  | .agg parts => uptoBulkAll parts + 1
  | .iface _ d => uptoBulk d + 1
  | .map entries => uptoBulkEntries entries + 1
  | .held _ => 1
def uptoBulkAll {H : Type} : List (DataW H) → Nat
  | [] => 0
  | d :: r => uptoBulk d + uptoBulkAll r
def uptoBulkEntries {H : Type} : List (Lit × DataW H) → Nat
  | [] => 0
  | x :: r => uptoBulkEntry x + uptoBulkEntries r
def uptoBulkEntry {H : Type} : Lit × DataW H → Nat
  | (.string bytes, d) => bytes.length + uptoBulk d + 1
  | (_, d) => uptoBulk d + 1
 end
def uptoSmall : (H : Type) → List (DataW H) → Bool := fun _ ds => decide (uptoBulkAll ds ≤ 1048576)
def OpenSpec.upto (s : _root_.Go.ChangeSpec) : _root_.Go.OpenSpec := { _root_.Go.OpenSpec.ofChange s with cond := some uptoSmall }

/-- 'laws.FnDayOf', WHERE WHAT IT READS IS OF BULK AT MOST 1048576: true; the input reads as it did. -/
def fnDayOfUptoRow : OpenClaim := { program := "ythlabofegjfmfaadoor", sum := "42d3df9e37f113290861bf4b99aee55e1d0de93beef7173ffa0671b03d804cbd", func := "loop.example/weatherarchive/laws.FnDayOf", spec := "fnDayOf", unfollowed := true, recurses := true, named := ["loop.example/weatherarchive/impl.monthDays"], apart := false, laid := [("loop.example/weatherarchive/impl.monthDays", laid_loop_example_weatherarchive_impl_monthDays)], narrowed := true }
def FnDayOfUptoSaid : Prop := fnDayOfUptoRow.holds Tryd.pinned (OpenSpec.upto fnDayOfSpec)

/-- 'laws.FnDateOf', WHERE WHAT IT READS IS OF BULK AT MOST 1048576: true; the input reads as it did. -/
def fnDateOfUptoRow : OpenClaim := { program := "ythlabofegjfmfaadoor", sum := "42d3df9e37f113290861bf4b99aee55e1d0de93beef7173ffa0671b03d804cbd", func := "loop.example/weatherarchive/laws.FnDateOf", spec := "fnDateOf", unfollowed := true, recurses := true, named := ["loop.example/weatherarchive/impl.monthDays"], apart := false, laid := [("loop.example/weatherarchive/impl.monthDays", laid_loop_example_weatherarchive_impl_monthDays)], narrowed := true }
def FnDateOfUptoSaid : Prop := fnDateOfUptoRow.holds Tryd.pinned (OpenSpec.upto fnDateOfSpec)

/-- 'laws.FnDateNext', WHERE WHAT IT READS IS OF BULK AT MOST 1048576: true; the input reads as it did. -/
def fnDateNextUptoRow : OpenClaim := { program := "ythlabofegjfmfaadoor", sum := "42d3df9e37f113290861bf4b99aee55e1d0de93beef7173ffa0671b03d804cbd", func := "loop.example/weatherarchive/laws.FnDateNext", spec := "fnDateNext", unfollowed := true, recurses := true, named := ["loop.example/weatherarchive/impl.monthDays"], apart := false, laid := [("loop.example/weatherarchive/impl.monthDays", laid_loop_example_weatherarchive_impl_monthDays)], narrowed := true }
def FnDateNextUptoSaid : Prop := fnDateNextUptoRow.holds Tryd.pinned (OpenSpec.upto fnDateNextSpec)

/-- 'laws.FnYearLong', WHERE WHAT IT READS IS OF BULK AT MOST 1048576: true; the input reads as it did. -/
def fnYearLongUptoRow : OpenClaim := { program := "ythlabofegjfmfaadoor", sum := "42d3df9e37f113290861bf4b99aee55e1d0de93beef7173ffa0671b03d804cbd", func := "loop.example/weatherarchive/laws.FnYearLong", spec := "fnYearLong", unfollowed := true, recurses := true, named := ["loop.example/weatherarchive/impl.monthDays"], apart := false, laid := [("loop.example/weatherarchive/impl.monthDays", laid_loop_example_weatherarchive_impl_monthDays)], narrowed := true }
def FnYearLongUptoSaid : Prop := fnYearLongUptoRow.holds Tryd.pinned (OpenSpec.upto fnYearLongSpec)

/-- 'laws.FnYearLeap', WHERE WHAT IT READS IS OF BULK AT MOST 1048576: true; the input reads as it did. -/
def fnYearLeapUptoRow : OpenClaim := { program := "ythlabofegjfmfaadoor", sum := "42d3df9e37f113290861bf4b99aee55e1d0de93beef7173ffa0671b03d804cbd", func := "loop.example/weatherarchive/laws.FnYearLeap", spec := "fnYearLeap", named := ["loop.example/weatherarchive/impl.monthDays"], apart := false, laid := [("loop.example/weatherarchive/impl.monthDays", laid_loop_example_weatherarchive_impl_monthDays)], narrowed := true }
def FnYearLeapUptoSaid : Prop := fnYearLeapUptoRow.holds Tryd.pinned (OpenSpec.upto fnYearLeapSpec)

/-- 'laws.FnDateValid', WHERE WHAT IT READS IS OF BULK AT MOST 1048576: true; the input reads as it did. -/
def fnDateValidUptoRow : OpenClaim := { program := "ythlabofegjfmfaadoor", sum := "42d3df9e37f113290861bf4b99aee55e1d0de93beef7173ffa0671b03d804cbd", func := "loop.example/weatherarchive/laws.FnDateValid", spec := "fnDateValid", named := ["loop.example/weatherarchive/impl.monthDays"], apart := false, laid := [("loop.example/weatherarchive/impl.monthDays", laid_loop_example_weatherarchive_impl_monthDays)], narrowed := true }
def FnDateValidUptoSaid : Prop := fnDateValidUptoRow.holds Tryd.pinned (OpenSpec.upto fnDateValidSpec)

/-- 'laws.FnDateTurn', WHERE WHAT IT READS IS OF BULK AT MOST 1048576: true; the input reads as it did. -/
def fnDateTurnUptoRow : OpenClaim := { program := "ythlabofegjfmfaadoor", sum := "42d3df9e37f113290861bf4b99aee55e1d0de93beef7173ffa0671b03d804cbd", func := "loop.example/weatherarchive/laws.FnDateTurn", spec := "fnDateTurn", unfollowed := true, recurses := true, named := ["loop.example/weatherarchive/impl.monthDays"], apart := false, laid := [("loop.example/weatherarchive/impl.monthDays", laid_loop_example_weatherarchive_impl_monthDays)], narrowed := true }
def FnDateTurnUptoSaid : Prop := fnDateTurnUptoRow.holds Tryd.pinned (OpenSpec.upto fnDateTurnSpec)

/-- 'laws.FnDateTurnGap', WHERE WHAT IT READS IS OF BULK AT MOST 1048576: true; the input reads as it did. -/
def fnDateTurnGapUptoRow : OpenClaim := { program := "ythlabofegjfmfaadoor", sum := "42d3df9e37f113290861bf4b99aee55e1d0de93beef7173ffa0671b03d804cbd", func := "loop.example/weatherarchive/laws.FnDateTurnGap", spec := "fnDateTurnGap", unfollowed := true, recurses := true, named := ["loop.example/weatherarchive/impl.monthDays"], apart := false, laid := [("loop.example/weatherarchive/impl.monthDays", laid_loop_example_weatherarchive_impl_monthDays)], narrowed := true }
def FnDateTurnGapUptoSaid : Prop := fnDateTurnGapUptoRow.holds Tryd.pinned (OpenSpec.upto fnDateTurnGapSpec)

/-- 'laws.FnDateWeek', WHERE WHAT IT READS IS OF BULK AT MOST 1048576: true; the input reads as it did. -/
def fnDateWeekUptoRow : OpenClaim := { program := "ythlabofegjfmfaadoor", sum := "42d3df9e37f113290861bf4b99aee55e1d0de93beef7173ffa0671b03d804cbd", func := "loop.example/weatherarchive/laws.FnDateWeek", spec := "fnDateWeek", unfollowed := true, recurses := true, named := ["loop.example/weatherarchive/impl.monthDays"], apart := false, laid := [("loop.example/weatherarchive/impl.monthDays", laid_loop_example_weatherarchive_impl_monthDays)], narrowed := true }
def FnDateWeekUptoSaid : Prop := fnDateWeekUptoRow.holds Tryd.pinned (OpenSpec.upto fnDateWeekSpec)

/-- 'laws.FnExactDateValid', WHERE WHAT IT READS IS OF BULK AT MOST 1048576: true; the input reads as it did. -/
def fnExactDateValidUptoRow : OpenClaim := { program := "ythlabofegjfmfaadoor", sum := "42d3df9e37f113290861bf4b99aee55e1d0de93beef7173ffa0671b03d804cbd", func := "loop.example/weatherarchive/laws.FnExactDateValid", spec := "fnExactDateValid", named := ["loop.example/weatherarchive/impl.monthDays"], apart := false, laid := [("loop.example/weatherarchive/impl.monthDays", laid_loop_example_weatherarchive_impl_monthDays)], narrowed := true }
def FnExactDateValidUptoSaid : Prop := fnExactDateValidUptoRow.holds Tryd.pinned (OpenSpec.upto fnExactDateValidSpec)

/-- 'laws.FnExactDayOf', WHERE WHAT IT READS IS OF BULK AT MOST 1048576: true; the input reads as it did. -/
def fnExactDayOfUptoRow : OpenClaim := { program := "ythlabofegjfmfaadoor", sum := "42d3df9e37f113290861bf4b99aee55e1d0de93beef7173ffa0671b03d804cbd", func := "loop.example/weatherarchive/laws.FnExactDayOf", spec := "fnExactDayOf", unfollowed := true, recurses := true, named := ["loop.example/weatherarchive/impl.monthDays"], apart := false, laid := [("loop.example/weatherarchive/impl.monthDays", laid_loop_example_weatherarchive_impl_monthDays)], narrowed := true }
def FnExactDayOfUptoSaid : Prop := fnExactDayOfUptoRow.holds Tryd.pinned (OpenSpec.upto fnExactDayOfSpec)

/-- 'laws.FnExactDateOf', WHERE WHAT IT READS IS OF BULK AT MOST 1048576: true; the input reads as it did. -/
def fnExactDateOfUptoRow : OpenClaim := { program := "ythlabofegjfmfaadoor", sum := "42d3df9e37f113290861bf4b99aee55e1d0de93beef7173ffa0671b03d804cbd", func := "loop.example/weatherarchive/laws.FnExactDateOf", spec := "fnExactDateOf", unfollowed := true, recurses := true, named := ["loop.example/weatherarchive/impl.monthDays"], apart := false, laid := [("loop.example/weatherarchive/impl.monthDays", laid_loop_example_weatherarchive_impl_monthDays)], narrowed := true }
def FnExactDateOfUptoSaid : Prop := fnExactDateOfUptoRow.holds Tryd.pinned (OpenSpec.upto fnExactDateOfSpec)

/-- 'laws.FnExactDateTurn', WHERE WHAT IT READS IS OF BULK AT MOST 1048576: true; the input reads as it did. -/
def fnExactDateTurnUptoRow : OpenClaim := { program := "ythlabofegjfmfaadoor", sum := "42d3df9e37f113290861bf4b99aee55e1d0de93beef7173ffa0671b03d804cbd", func := "loop.example/weatherarchive/laws.FnExactDateTurn", spec := "fnExactDateTurn", unfollowed := true, recurses := true, named := ["loop.example/weatherarchive/impl.monthDays"], apart := false, laid := [("loop.example/weatherarchive/impl.monthDays", laid_loop_example_weatherarchive_impl_monthDays)], narrowed := true }
def FnExactDateTurnUptoSaid : Prop := fnExactDateTurnUptoRow.holds Tryd.pinned (OpenSpec.upto fnExactDateTurnSpec)

end Rows
end Go.Proofs.YthlabofegjfmfaaDoor
