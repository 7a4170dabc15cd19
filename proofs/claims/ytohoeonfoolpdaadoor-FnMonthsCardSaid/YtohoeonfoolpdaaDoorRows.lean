/-
  NARROWER THAN 'FOR EVERY INPUT', by the rows' own cells (each row's printed sentence says how): FnMonths: laid · FnMonthsDays: laid · FnMonthsTwo: laid · FnExactMonthsOf: laid.
  DERIVED. THE GIVEN ROWS OF THIS SEAT. 4 by the template 'for every input the law returns true; each argument reads behind the call as it read before'; 0 by the template 'total and deterministic' (their statements: YtohoeonfoolpdaaDoorTotals.lean).
  GIVEN WITH THE SEED: the statements are not yours to turn. If you find one false, say at which input.
  Laid BY PROGRAM, IN A SANDBOX (cutbox-rows.mjs): the forced cells as the released guide's own fill.sh prints them over the translation 6faf3c6b29273687… (all of the seat's roots in one cut). By AI agents, Wed Nov 11 2026. No macro, syntax, notation, axiom, sorry.
-/
import Derived.Test.YtohoeonfoolpdaaDoorChecked
import GoSem.Claim
import GoSem.ClaimJoined
import GoSem.ClaimMapViews
import Derived.JoinedTies
import Derived.KernelRfl
namespace Go.Proofs.YtohoeonfoolpdaaDoor
/- THE CELL 'sum', in the pinned program and in every row, IS THE sha256 OF THE DUMP (.gsa) THAT YtohoeonfoolpdaaDoorProg.lean LOADS. Nothing in Lean hashes anything: it is a label: what it is worth is what the hold of that sum in a sandbox is worth. -/
noncomputable def Tryd.pinned : Pinned := { name := "ytohoeonfoolpdaadoor", sum := "6faf3c6b29273687d20ec5719acf1b894c2ab438fa16e77be8f87c611d66d04b", checked := Tryd.checked }
namespace Rows
def none {H : Type} : Left H := { results := [], args := [] }

/- WHAT THE LISTED PACKAGE-LEVEL VARIABLES READ AS WHEN THE CALL BEGINS. Each datum BY PROGRAM (the guide's laid-datum.mjs) off the statement by which the dump's own 'gosem.cut.vars' lays the variable. In a bare row this is a premise. The card (YtohoeonfoolpdaaDoorCards.lean) ties it to the program's text. -/
def laid_loop_example_weatherarchive_impl_monthDays {H : Type} : DataW H := .agg [.lit (.int .i64 31), .lit (.int .i64 28), .lit (.int .i64 31), .lit (.int .i64 30), .lit (.int .i64 31), .lit (.int .i64 30), .lit (.int .i64 31), .lit (.int .i64 31), .lit (.int .i64 30), .lit (.int .i64 31), .lit (.int .i64 30), .lit (.int .i64 31)]

/-- 'laws.FnMonths': WHATEVER THE INPUT: true; the input reads as it did. -/
def fnMonthsSpec : ChangeSpec := { name := "fnMonths", vars := ["loop.example/weatherarchive/impl.monthDays"], fn := fun _ => fun
  | [d, g1] => { results := [.lit (.bool true)], args := [d], vars := [g1] }
  | _ => none }
def fnMonthsRow : OpenClaim := { program := "ytohoeonfoolpdaadoor", sum := "6faf3c6b29273687d20ec5719acf1b894c2ab438fa16e77be8f87c611d66d04b", func := "loop.example/weatherarchive/laws.FnMonths", spec := "fnMonths", unfollowed := true, recurses := true, named := ["loop.example/weatherarchive/impl.monthDays"], apart := false, laid := [("loop.example/weatherarchive/impl.monthDays", laid_loop_example_weatherarchive_impl_monthDays)] }
def FnMonthsSaid : Prop := fnMonthsRow.holds Tryd.pinned (OpenSpec.ofChange fnMonthsSpec)

/-- ITS FALSE NEIGHBOUR: 'it returns false'. Refute it at one input. -/
def fnMonthsWrong : ChangeSpec := { name := "fnMonths", vars := ["loop.example/weatherarchive/impl.monthDays"], fn := fun _ => fun
  | [d, g1] => { results := [.lit (.bool false)], args := [d], vars := [g1] }
  | _ => none }
def FnMonthsWrongFalsely : Prop := fnMonthsRow.holds Tryd.pinned (OpenSpec.ofChange fnMonthsWrong)

/-- 'laws.FnMonthsDays': WHATEVER THE INPUT: true; the input reads as it did. -/
def fnMonthsDaysSpec : ChangeSpec := { name := "fnMonthsDays", vars := ["loop.example/weatherarchive/impl.monthDays"], fn := fun _ => fun
  | [d, g1] => { results := [.lit (.bool true)], args := [d], vars := [g1] }
  | _ => none }
def fnMonthsDaysRow : OpenClaim := { program := "ytohoeonfoolpdaadoor", sum := "6faf3c6b29273687d20ec5719acf1b894c2ab438fa16e77be8f87c611d66d04b", func := "loop.example/weatherarchive/laws.FnMonthsDays", spec := "fnMonthsDays", unfollowed := true, recurses := true, named := ["loop.example/weatherarchive/impl.monthDays"], apart := false, laid := [("loop.example/weatherarchive/impl.monthDays", laid_loop_example_weatherarchive_impl_monthDays)] }
def FnMonthsDaysSaid : Prop := fnMonthsDaysRow.holds Tryd.pinned (OpenSpec.ofChange fnMonthsDaysSpec)

/-- ITS FALSE NEIGHBOUR: 'it returns false'. Refute it at one input. -/
def fnMonthsDaysWrong : ChangeSpec := { name := "fnMonthsDays", vars := ["loop.example/weatherarchive/impl.monthDays"], fn := fun _ => fun
  | [d, g1] => { results := [.lit (.bool false)], args := [d], vars := [g1] }
  | _ => none }
def FnMonthsDaysWrongFalsely : Prop := fnMonthsDaysRow.holds Tryd.pinned (OpenSpec.ofChange fnMonthsDaysWrong)

/-- 'laws.FnMonthsTwo': WHATEVER THE INPUT: true; the input reads as it did. -/
def fnMonthsTwoSpec : ChangeSpec := { name := "fnMonthsTwo", vars := ["loop.example/weatherarchive/impl.monthDays"], fn := fun _ => fun
  | [d, g1] => { results := [.lit (.bool true)], args := [d], vars := [g1] }
  | _ => none }
def fnMonthsTwoRow : OpenClaim := { program := "ytohoeonfoolpdaadoor", sum := "6faf3c6b29273687d20ec5719acf1b894c2ab438fa16e77be8f87c611d66d04b", func := "loop.example/weatherarchive/laws.FnMonthsTwo", spec := "fnMonthsTwo", unfollowed := true, recurses := true, named := ["loop.example/weatherarchive/impl.monthDays"], apart := false, laid := [("loop.example/weatherarchive/impl.monthDays", laid_loop_example_weatherarchive_impl_monthDays)] }
def FnMonthsTwoSaid : Prop := fnMonthsTwoRow.holds Tryd.pinned (OpenSpec.ofChange fnMonthsTwoSpec)

/-- ITS FALSE NEIGHBOUR: 'it returns false'. Refute it at one input. -/
def fnMonthsTwoWrong : ChangeSpec := { name := "fnMonthsTwo", vars := ["loop.example/weatherarchive/impl.monthDays"], fn := fun _ => fun
  | [d, g1] => { results := [.lit (.bool false)], args := [d], vars := [g1] }
  | _ => none }
def FnMonthsTwoWrongFalsely : Prop := fnMonthsTwoRow.holds Tryd.pinned (OpenSpec.ofChange fnMonthsTwoWrong)

/-- 'laws.FnExactMonthsOf': WHATEVER THE INPUT: true; the input reads as it did. -/
def fnExactMonthsOfSpec : ChangeSpec := { name := "fnExactMonthsOf", vars := ["loop.example/weatherarchive/impl.monthDays"], fn := fun _ => fun
  | [d1, d2, d3, g1] => { results := [.lit (.bool true)], args := [d1, d2, d3], vars := [g1] }
  | _ => none }
def fnExactMonthsOfRow : OpenClaim := { program := "ytohoeonfoolpdaadoor", sum := "6faf3c6b29273687d20ec5719acf1b894c2ab438fa16e77be8f87c611d66d04b", func := "loop.example/weatherarchive/laws.FnExactMonthsOf", spec := "fnExactMonthsOf", unfollowed := true, recurses := true, named := ["loop.example/weatherarchive/impl.monthDays"], apart := false, laid := [("loop.example/weatherarchive/impl.monthDays", laid_loop_example_weatherarchive_impl_monthDays)] }
def FnExactMonthsOfSaid : Prop := fnExactMonthsOfRow.holds Tryd.pinned (OpenSpec.ofChange fnExactMonthsOfSpec)

/-- ITS FALSE NEIGHBOUR: 'it returns false'. Refute it at one input. -/
def fnExactMonthsOfWrong : ChangeSpec := { name := "fnExactMonthsOf", vars := ["loop.example/weatherarchive/impl.monthDays"], fn := fun _ => fun
  | [d1, d2, d3, g1] => { results := [.lit (.bool false)], args := [d1, d2, d3], vars := [g1] }
  | _ => none }
def FnExactMonthsOfWrongFalsely : Prop := fnExactMonthsOfRow.holds Tryd.pinned (OpenSpec.ofChange fnExactMonthsOfWrong)

/- THE SECOND FORM. 'bulk': how many values and letters a reading holds, each counted each time it is reached (what is shared counts as often as it is met; a slice's spare places count too). A statement '..UptoSaid' is the law's where the arguments, and the package variables that the reading takes, are together of bulk at most 1048576: NARROWER than '..Said'. Prove '..Said' where nothing that the law and all that it calls make is longer than what came in: it says more and counts as full. Else prove '..UptoSaid'. A law counts once. -/
mutual
def uptoBulk {H : Type} : DataW H → Nat
  | .lit (.string bytes) => bytes.length + 1
  | .lit _ => 1
  | .nil => 1
  | .ptr d => uptoBulk d + 1
  | .slice elems spare => uptoBulkAll elems + uptoBulkAll spare + 1
  | .agg parts => uptoBulkAll parts + 1
  | .iface _ d => uptoBulk d + 1
  | .map entries => uptoBulkEntries entries + 1
  | .held _ => 1
def uptoBulkAll {H : Type} : List (DataW H) → Nat
  | [] => 0
  | d :: r => uptoBulk d + uptoBulkAll r
def uptoBulkEntries {H : Type} : List (Lit × DataW H) → Nat
  | [] => 0
  | x :: r => uptoBulkEntry x + uptoBulkEntries r
def uptoBulkEntry {H : Type} : Lit × DataW H → Nat
  | (.string bytes, d) => bytes.length + uptoBulk d + 1
  | (_, d) => uptoBulk d + 1
 end
def uptoSmall : (H : Type) → List (DataW H) → Bool := fun _ ds => decide (uptoBulkAll ds ≤ 1048576)
def OpenSpec.upto (s : _root_.Go.ChangeSpec) : _root_.Go.OpenSpec := { _root_.Go.OpenSpec.ofChange s with cond := some uptoSmall }

/-- 'laws.FnMonths', WHERE WHAT IT READS IS OF BULK AT MOST 1048576: true; the input reads as it did. -/
def fnMonthsUptoRow : OpenClaim := { program := "ytohoeonfoolpdaadoor", sum := "6faf3c6b29273687d20ec5719acf1b894c2ab438fa16e77be8f87c611d66d04b", func := "loop.example/weatherarchive/laws.FnMonths", spec := "fnMonths", unfollowed := true, recurses := true, named := ["loop.example/weatherarchive/impl.monthDays"], apart := false, laid := [("loop.example/weatherarchive/impl.monthDays", laid_loop_example_weatherarchive_impl_monthDays)], narrowed := true }
def FnMonthsUptoSaid : Prop := fnMonthsUptoRow.holds Tryd.pinned (OpenSpec.upto fnMonthsSpec)

/-- 'laws.FnMonthsDays', WHERE WHAT IT READS IS OF BULK AT MOST 1048576: true; the input reads as it did. -/
def fnMonthsDaysUptoRow : OpenClaim := { program := "ytohoeonfoolpdaadoor", sum := "6faf3c6b29273687d20ec5719acf1b894c2ab438fa16e77be8f87c611d66d04b", func := "loop.example/weatherarchive/laws.FnMonthsDays", spec := "fnMonthsDays", unfollowed := true, recurses := true, named := ["loop.example/weatherarchive/impl.monthDays"], apart := false, laid := [("loop.example/weatherarchive/impl.monthDays", laid_loop_example_weatherarchive_impl_monthDays)], narrowed := true }
def FnMonthsDaysUptoSaid : Prop := fnMonthsDaysUptoRow.holds Tryd.pinned (OpenSpec.upto fnMonthsDaysSpec)

/-- 'laws.FnMonthsTwo', WHERE WHAT IT READS IS OF BULK AT MOST 1048576: true; the input reads as it did. -/
def fnMonthsTwoUptoRow : OpenClaim := { program := "ytohoeonfoolpdaadoor", sum := "6faf3c6b29273687d20ec5719acf1b894c2ab438fa16e77be8f87c611d66d04b", func := "loop.example/weatherarchive/laws.FnMonthsTwo", spec := "fnMonthsTwo", unfollowed := true, recurses := true, named := ["loop.example/weatherarchive/impl.monthDays"], apart := false, laid := [("loop.example/weatherarchive/impl.monthDays", laid_loop_example_weatherarchive_impl_monthDays)], narrowed := true }
def FnMonthsTwoUptoSaid : Prop := fnMonthsTwoUptoRow.holds Tryd.pinned (OpenSpec.upto fnMonthsTwoSpec)

/-- 'laws.FnExactMonthsOf', WHERE WHAT IT READS IS OF BULK AT MOST 1048576: true; the input reads as it did. -/
def fnExactMonthsOfUptoRow : OpenClaim := { program := "ytohoeonfoolpdaadoor", sum := "6faf3c6b29273687d20ec5719acf1b894c2ab438fa16e77be8f87c611d66d04b", func := "loop.example/weatherarchive/laws.FnExactMonthsOf", spec := "fnExactMonthsOf", unfollowed := true, recurses := true, named := ["loop.example/weatherarchive/impl.monthDays"], apart := false, laid := [("loop.example/weatherarchive/impl.monthDays", laid_loop_example_weatherarchive_impl_monthDays)], narrowed := true }
def FnExactMonthsOfUptoSaid : Prop := fnExactMonthsOfUptoRow.holds Tryd.pinned (OpenSpec.upto fnExactMonthsOfSpec)

end Rows
end Go.Proofs.YtohoeonfoolpdaaDoor
