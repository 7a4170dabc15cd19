/-
  No cell of these rows narrows 'for every input' (looked for: loops, veiled, ifaces, maps, wideKeys, modest, calm, conditions, laid).
  DERIVED. THE GIVEN ROWS OF THIS SEAT. 10 by the template 'for every input the law returns true; each argument reads behind the call as it read before'; 0 by the template 'total and deterministic' (their statements: YtehjjoalnfpgdaaTotals.lean).
  GIVEN WITH THE SEED: the statements are not yours to turn. If you find one false, say at which input.
  Laid BY PROGRAM, IN A SANDBOX (cutbox-rows.mjs): the forced cells as the released guide's own fill.sh prints them over the translation 7cd25c2ff08206b8… (all of the seat's roots in one cut). By AI agents, Wed Nov 11 2026. No macro, syntax, notation, axiom, sorry.
-/
import Derived.Test.YtehjjoalnfpgdaaChecked
import GoSem.Claim
import GoSem.ClaimJoined
import GoSem.ClaimMapViews
import Derived.JoinedTies
import Derived.KernelRfl
namespace Go.Proofs.Ytehjjoalnfpgdaa
/- THE CELL 'sum', in the pinned program and in every row, IS THE sha256 OF THE DUMP (.gsa) THAT YtehjjoalnfpgdaaProg.lean LOADS. Nothing in Lean hashes anything: it is a label: what it is worth is what the hold of that sum in a sandbox is worth. -/
noncomputable def Try.pinned : Pinned := { name := "ytehjjoalnfpgdaa", sum := "7cd25c2ff08206b815516b69321019ddbf62297fb039a13686565f9f63f15e57", checked := Try.checked }
namespace Rows
def none {H : Type} : Left H := { results := [], args := [] }

/-- 'laws.FnAdjust': WHATEVER THE INPUT: true; the input reads as it did. -/
def fnAdjustSpec : ChangeSpec := { name := "fnAdjust", fn := fun _ => fun
  | [d] => { results := [.lit (.bool true)], args := [d] }
  | _ => none }
def fnAdjustRow : OpenClaim := { program := "ytehjjoalnfpgdaa", sum := "7cd25c2ff08206b815516b69321019ddbf62297fb039a13686565f9f63f15e57", func := "loop.example/weatherarchive/laws.FnAdjust", spec := "fnAdjust", unfollowed := true, recurses := true, apart := false }
def FnAdjustSaid : Prop := fnAdjustRow.holds Try.pinned (OpenSpec.ofChange fnAdjustSpec)

/-- ITS FALSE NEIGHBOUR: 'it returns false'. Refute it at one input. -/
def fnAdjustWrong : ChangeSpec := { name := "fnAdjust", fn := fun _ => fun
  | [d] => { results := [.lit (.bool false)], args := [d] }
  | _ => none }
def FnAdjustWrongFalsely : Prop := fnAdjustRow.holds Try.pinned (OpenSpec.ofChange fnAdjustWrong)

/-- 'laws.FnAdjustTwice': WHATEVER THE INPUT: true; the input reads as it did. -/
def fnAdjustTwiceSpec : ChangeSpec := { name := "fnAdjustTwice", fn := fun _ => fun
  | [d] => { results := [.lit (.bool true)], args := [d] }
  | _ => none }
def fnAdjustTwiceRow : OpenClaim := { program := "ytehjjoalnfpgdaa", sum := "7cd25c2ff08206b815516b69321019ddbf62297fb039a13686565f9f63f15e57", func := "loop.example/weatherarchive/laws.FnAdjustTwice", spec := "fnAdjustTwice", unfollowed := true, recurses := true, apart := false }
def FnAdjustTwiceSaid : Prop := fnAdjustTwiceRow.holds Try.pinned (OpenSpec.ofChange fnAdjustTwiceSpec)

/-- ITS FALSE NEIGHBOUR: 'it returns false'. Refute it at one input. -/
def fnAdjustTwiceWrong : ChangeSpec := { name := "fnAdjustTwice", fn := fun _ => fun
  | [d] => { results := [.lit (.bool false)], args := [d] }
  | _ => none }
def FnAdjustTwiceWrongFalsely : Prop := fnAdjustTwiceRow.holds Try.pinned (OpenSpec.ofChange fnAdjustTwiceWrong)

/-- 'laws.FnAdjustBack': WHATEVER THE INPUT: true; the input reads as it did. -/
def fnAdjustBackSpec : ChangeSpec := { name := "fnAdjustBack", fn := fun _ => fun
  | [d] => { results := [.lit (.bool true)], args := [d] }
  | _ => none }
def fnAdjustBackRow : OpenClaim := { program := "ytehjjoalnfpgdaa", sum := "7cd25c2ff08206b815516b69321019ddbf62297fb039a13686565f9f63f15e57", func := "loop.example/weatherarchive/laws.FnAdjustBack", spec := "fnAdjustBack", unfollowed := true, recurses := true, apart := false }
def FnAdjustBackSaid : Prop := fnAdjustBackRow.holds Try.pinned (OpenSpec.ofChange fnAdjustBackSpec)

/-- ITS FALSE NEIGHBOUR: 'it returns false'. Refute it at one input. -/
def fnAdjustBackWrong : ChangeSpec := { name := "fnAdjustBack", fn := fun _ => fun
  | [d] => { results := [.lit (.bool false)], args := [d] }
  | _ => none }
def FnAdjustBackWrongFalsely : Prop := fnAdjustBackRow.holds Try.pinned (OpenSpec.ofChange fnAdjustBackWrong)

/-- 'laws.FnAdjustLast': WHATEVER THE INPUT: true; the input reads as it did. -/
def fnAdjustLastSpec : ChangeSpec := { name := "fnAdjustLast", fn := fun _ => fun
  | [d] => { results := [.lit (.bool true)], args := [d] }
  | _ => none }
def fnAdjustLastRow : OpenClaim := { program := "ytehjjoalnfpgdaa", sum := "7cd25c2ff08206b815516b69321019ddbf62297fb039a13686565f9f63f15e57", func := "loop.example/weatherarchive/laws.FnAdjustLast", spec := "fnAdjustLast", unfollowed := true, recurses := true, apart := false }
def FnAdjustLastSaid : Prop := fnAdjustLastRow.holds Try.pinned (OpenSpec.ofChange fnAdjustLastSpec)

/-- ITS FALSE NEIGHBOUR: 'it returns false'. Refute it at one input. -/
def fnAdjustLastWrong : ChangeSpec := { name := "fnAdjustLast", fn := fun _ => fun
  | [d] => { results := [.lit (.bool false)], args := [d] }
  | _ => none }
def FnAdjustLastWrongFalsely : Prop := fnAdjustLastRow.holds Try.pinned (OpenSpec.ofChange fnAdjustLastWrong)

/-- 'laws.FnAdjustCost': WHATEVER THE INPUT: true; the input reads as it did. -/
def fnAdjustCostSpec : ChangeSpec := { name := "fnAdjustCost", fn := fun _ => fun
  | [d] => { results := [.lit (.bool true)], args := [d] }
  | _ => none }
def fnAdjustCostRow : OpenClaim := { program := "ytehjjoalnfpgdaa", sum := "7cd25c2ff08206b815516b69321019ddbf62297fb039a13686565f9f63f15e57", func := "loop.example/weatherarchive/laws.FnAdjustCost", spec := "fnAdjustCost", unfollowed := true, recurses := true, apart := false }
def FnAdjustCostSaid : Prop := fnAdjustCostRow.holds Try.pinned (OpenSpec.ofChange fnAdjustCostSpec)

/-- ITS FALSE NEIGHBOUR: 'it returns false'. Refute it at one input. -/
def fnAdjustCostWrong : ChangeSpec := { name := "fnAdjustCost", fn := fun _ => fun
  | [d] => { results := [.lit (.bool false)], args := [d] }
  | _ => none }
def FnAdjustCostWrongFalsely : Prop := fnAdjustCostRow.holds Try.pinned (OpenSpec.ofChange fnAdjustCostWrong)

/-- 'laws.FnAdjustSteps': WHATEVER THE INPUT: true; the input reads as it did. -/
def fnAdjustStepsSpec : ChangeSpec := { name := "fnAdjustSteps", fn := fun _ => fun
  | [d] => { results := [.lit (.bool true)], args := [d] }
  | _ => none }
def fnAdjustStepsRow : OpenClaim := { program := "ytehjjoalnfpgdaa", sum := "7cd25c2ff08206b815516b69321019ddbf62297fb039a13686565f9f63f15e57", func := "loop.example/weatherarchive/laws.FnAdjustSteps", spec := "fnAdjustSteps", unfollowed := true, recurses := true, apart := false }
def FnAdjustStepsSaid : Prop := fnAdjustStepsRow.holds Try.pinned (OpenSpec.ofChange fnAdjustStepsSpec)

/-- ITS FALSE NEIGHBOUR: 'it returns false'. Refute it at one input. -/
def fnAdjustStepsWrong : ChangeSpec := { name := "fnAdjustSteps", fn := fun _ => fun
  | [d] => { results := [.lit (.bool false)], args := [d] }
  | _ => none }
def FnAdjustStepsWrongFalsely : Prop := fnAdjustStepsRow.holds Try.pinned (OpenSpec.ofChange fnAdjustStepsWrong)

/-- 'laws.FnAdjustBackAny': WHATEVER THE INPUT: true; the input reads as it did. -/
def fnAdjustBackAnySpec : ChangeSpec := { name := "fnAdjustBackAny", fn := fun _ => fun
  | [d] => { results := [.lit (.bool true)], args := [d] }
  | _ => none }
def fnAdjustBackAnyRow : OpenClaim := { program := "ytehjjoalnfpgdaa", sum := "7cd25c2ff08206b815516b69321019ddbf62297fb039a13686565f9f63f15e57", func := "loop.example/weatherarchive/laws.FnAdjustBackAny", spec := "fnAdjustBackAny", unfollowed := true, recurses := true, apart := false }
def FnAdjustBackAnySaid : Prop := fnAdjustBackAnyRow.holds Try.pinned (OpenSpec.ofChange fnAdjustBackAnySpec)

/-- ITS FALSE NEIGHBOUR: 'it returns false'. Refute it at one input. -/
def fnAdjustBackAnyWrong : ChangeSpec := { name := "fnAdjustBackAny", fn := fun _ => fun
  | [d] => { results := [.lit (.bool false)], args := [d] }
  | _ => none }
def FnAdjustBackAnyWrongFalsely : Prop := fnAdjustBackAnyRow.holds Try.pinned (OpenSpec.ofChange fnAdjustBackAnyWrong)

/-- 'laws.FnExactAdjustSteps': WHATEVER THE INPUT: true; the input reads as it did. -/
def fnExactAdjustStepsSpec : ChangeSpec := { name := "fnExactAdjustSteps", fn := fun _ => fun
  | [d1, d2] => { results := [.lit (.bool true)], args := [d1, d2] }
  | _ => none }
def fnExactAdjustStepsRow : OpenClaim := { program := "ytehjjoalnfpgdaa", sum := "7cd25c2ff08206b815516b69321019ddbf62297fb039a13686565f9f63f15e57", func := "loop.example/weatherarchive/laws.FnExactAdjustSteps", spec := "fnExactAdjustSteps", unfollowed := true, recurses := true, apart := false }
def FnExactAdjustStepsSaid : Prop := fnExactAdjustStepsRow.holds Try.pinned (OpenSpec.ofChange fnExactAdjustStepsSpec)

/-- ITS FALSE NEIGHBOUR: 'it returns false'. Refute it at one input. -/
def fnExactAdjustStepsWrong : ChangeSpec := { name := "fnExactAdjustSteps", fn := fun _ => fun
  | [d1, d2] => { results := [.lit (.bool false)], args := [d1, d2] }
  | _ => none }
def FnExactAdjustStepsWrongFalsely : Prop := fnExactAdjustStepsRow.holds Try.pinned (OpenSpec.ofChange fnExactAdjustStepsWrong)

/-- 'laws.FnExactAdjustOf': WHATEVER THE INPUT: true; the input reads as it did. -/
def fnExactAdjustOfSpec : ChangeSpec := { name := "fnExactAdjustOf", fn := fun _ => fun
  | [d1, d2] => { results := [.lit (.bool true)], args := [d1, d2] }
  | _ => none }
def fnExactAdjustOfRow : OpenClaim := { program := "ytehjjoalnfpgdaa", sum := "7cd25c2ff08206b815516b69321019ddbf62297fb039a13686565f9f63f15e57", func := "loop.example/weatherarchive/laws.FnExactAdjustOf", spec := "fnExactAdjustOf", unfollowed := true, recurses := true, apart := false }
def FnExactAdjustOfSaid : Prop := fnExactAdjustOfRow.holds Try.pinned (OpenSpec.ofChange fnExactAdjustOfSpec)

/-- ITS FALSE NEIGHBOUR: 'it returns false'. Refute it at one input. -/
def fnExactAdjustOfWrong : ChangeSpec := { name := "fnExactAdjustOf", fn := fun _ => fun
  | [d1, d2] => { results := [.lit (.bool false)], args := [d1, d2] }
  | _ => none }
def FnExactAdjustOfWrongFalsely : Prop := fnExactAdjustOfRow.holds Try.pinned (OpenSpec.ofChange fnExactAdjustOfWrong)

/-- 'laws.FnExactAdjustBack': WHATEVER THE INPUT: true; the input reads as it did. -/
def fnExactAdjustBackSpec : ChangeSpec := { name := "fnExactAdjustBack", fn := fun _ => fun
  | [d1, d2, d3] => { results := [.lit (.bool true)], args := [d1, d2, d3] }
  | _ => none }
def fnExactAdjustBackRow : OpenClaim := { program := "ytehjjoalnfpgdaa", sum := "7cd25c2ff08206b815516b69321019ddbf62297fb039a13686565f9f63f15e57", func := "loop.example/weatherarchive/laws.FnExactAdjustBack", spec := "fnExactAdjustBack", unfollowed := true, recurses := true, apart := false }
def FnExactAdjustBackSaid : Prop := fnExactAdjustBackRow.holds Try.pinned (OpenSpec.ofChange fnExactAdjustBackSpec)

/-- ITS FALSE NEIGHBOUR: 'it returns false'. Refute it at one input. -/
def fnExactAdjustBackWrong : ChangeSpec := { name := "fnExactAdjustBack", fn := fun _ => fun
  | [d1, d2, d3] => { results := [.lit (.bool false)], args := [d1, d2, d3] }
  | _ => none }
def FnExactAdjustBackWrongFalsely : Prop := fnExactAdjustBackRow.holds Try.pinned (OpenSpec.ofChange fnExactAdjustBackWrong)

/- THE SECOND FORM. 'bulk': how many values and letters a reading holds, each counted each time it is reached (what is shared counts as often as it is met; a slice's spare places count too). A statement '..UptoSaid' is the law's where the arguments, and the package variables that the reading takes, are together of bulk at most 1048576: NARROWER than '..Said'. Prove '..Said' where nothing that the law and all that it calls make is longer than what came in: it says more and counts as full. Else prove '..UptoSaid'. A law counts once. -/
mutual
def uptoBulk {H : Type} : DataW H → Nat
  | .lit (.string bytes) => bytes.length + 1
  | .lit _ => 1
  | .nil => 1
  | .ptr d => uptoBulk d + 1
  | .slice elems spare => uptoBulkAll elems + uptoBulkAll spare + 1
  | .agg parts => uptoBulkAll parts + 1
  | .iface _ d => uptoBulk d + 1
  | .map entries => uptoBulkEntries entries + 1
  | .held _ => 1
def uptoBulkAll {H : Type} : List (DataW H) → Nat
  | [] => 0
  | d :: r => uptoBulk d + uptoBulkAll r
def uptoBulkEntries {H : Type} : List (Lit × DataW H) → Nat
  | [] => 0
  | x :: r => uptoBulkEntry x + uptoBulkEntries r
def uptoBulkEntry {H : Type} : Lit × DataW H → Nat
  | (.string bytes, d) => bytes.length + uptoBulk d + 1
  | (_, d) => uptoBulk d + 1
 end
def uptoSmall : (H : Type) → List (DataW H) → Bool := fun _ ds => decide (uptoBulkAll ds ≤ 1048576)
def OpenSpec.upto (s : _root_.Go.ChangeSpec) : _root_.Go.OpenSpec := { _root_.Go.OpenSpec.ofChange s with cond := some uptoSmall }

/-- 'laws.FnAdjust', WHERE WHAT IT READS IS OF BULK AT MOST 1048576: true; the input reads as it did. -/
def fnAdjustUptoRow : OpenClaim := { program := "ytehjjoalnfpgdaa", sum := "7cd25c2ff08206b815516b69321019ddbf62297fb039a13686565f9f63f15e57", func := "loop.example/weatherarchive/laws.FnAdjust", spec := "fnAdjust", unfollowed := true, recurses := true, apart := false, narrowed := true }
def FnAdjustUptoSaid : Prop := fnAdjustUptoRow.holds Try.pinned (OpenSpec.upto fnAdjustSpec)

/-- 'laws.FnAdjustTwice', WHERE WHAT IT READS IS OF BULK AT MOST 1048576: true; the input reads as it did. -/
def fnAdjustTwiceUptoRow : OpenClaim := { program := "ytehjjoalnfpgdaa", sum := "7cd25c2ff08206b815516b69321019ddbf62297fb039a13686565f9f63f15e57", func := "loop.example/weatherarchive/laws.FnAdjustTwice", spec := "fnAdjustTwice", unfollowed := true, recurses := true, apart := false, narrowed := true }
def FnAdjustTwiceUptoSaid : Prop := fnAdjustTwiceUptoRow.holds Try.pinned (OpenSpec.upto fnAdjustTwiceSpec)

/-- 'laws.FnAdjustBack', WHERE WHAT IT READS IS OF BULK AT MOST 1048576: true; the input reads as it did. -/
def fnAdjustBackUptoRow : OpenClaim := { program := "ytehjjoalnfpgdaa", sum := "7cd25c2ff08206b815516b69321019ddbf62297fb039a13686565f9f63f15e57", func := "loop.example/weatherarchive/laws.FnAdjustBack", spec := "fnAdjustBack", unfollowed := true, recurses := true, apart := false, narrowed := true }
def FnAdjustBackUptoSaid : Prop := fnAdjustBackUptoRow.holds Try.pinned (OpenSpec.upto fnAdjustBackSpec)

/-- 'laws.FnAdjustLast', WHERE WHAT IT READS IS OF BULK AT MOST 1048576: true; the input reads as it did. -/
def fnAdjustLastUptoRow : OpenClaim := { program := "ytehjjoalnfpgdaa", sum := "7cd25c2ff08206b815516b69321019ddbf62297fb039a13686565f9f63f15e57", func := "loop.example/weatherarchive/laws.FnAdjustLast", spec := "fnAdjustLast", unfollowed := true, recurses := true, apart := false, narrowed := true }
def FnAdjustLastUptoSaid : Prop := fnAdjustLastUptoRow.holds Try.pinned (OpenSpec.upto fnAdjustLastSpec)

/-- 'laws.FnAdjustCost', WHERE WHAT IT READS IS OF BULK AT MOST 1048576: true; the input reads as it did. -/
def fnAdjustCostUptoRow : OpenClaim := { program := "ytehjjoalnfpgdaa", sum := "7cd25c2ff08206b815516b69321019ddbf62297fb039a13686565f9f63f15e57", func := "loop.example/weatherarchive/laws.FnAdjustCost", spec := "fnAdjustCost", unfollowed := true, recurses := true, apart := false, narrowed := true }
def FnAdjustCostUptoSaid : Prop := fnAdjustCostUptoRow.holds Try.pinned (OpenSpec.upto fnAdjustCostSpec)

/-- 'laws.FnAdjustSteps', WHERE WHAT IT READS IS OF BULK AT MOST 1048576: true; the input reads as it did. -/
def fnAdjustStepsUptoRow : OpenClaim := { program := "ytehjjoalnfpgdaa", sum := "7cd25c2ff08206b815516b69321019ddbf62297fb039a13686565f9f63f15e57", func := "loop.example/weatherarchive/laws.FnAdjustSteps", spec := "fnAdjustSteps", unfollowed := true, recurses := true, apart := false, narrowed := true }
def FnAdjustStepsUptoSaid : Prop := fnAdjustStepsUptoRow.holds Try.pinned (OpenSpec.upto fnAdjustStepsSpec)

/-- 'laws.FnAdjustBackAny', WHERE WHAT IT READS IS OF BULK AT MOST 1048576: true; the input reads as it did. -/
def fnAdjustBackAnyUptoRow : OpenClaim := { program := "ytehjjoalnfpgdaa", sum := "7cd25c2ff08206b815516b69321019ddbf62297fb039a13686565f9f63f15e57", func := "loop.example/weatherarchive/laws.FnAdjustBackAny", spec := "fnAdjustBackAny", unfollowed := true, recurses := true, apart := false, narrowed := true }
def FnAdjustBackAnyUptoSaid : Prop := fnAdjustBackAnyUptoRow.holds Try.pinned (OpenSpec.upto fnAdjustBackAnySpec)

/-- 'laws.FnExactAdjustSteps', WHERE WHAT IT READS IS OF BULK AT MOST 1048576: true; the input reads as it did. -/
def fnExactAdjustStepsUptoRow : OpenClaim := { program := "ytehjjoalnfpgdaa", sum := "7cd25c2ff08206b815516b69321019ddbf62297fb039a13686565f9f63f15e57", func := "loop.example/weatherarchive/laws.FnExactAdjustSteps", spec := "fnExactAdjustSteps", unfollowed := true, recurses := true, apart := false, narrowed := true }
def FnExactAdjustStepsUptoSaid : Prop := fnExactAdjustStepsUptoRow.holds Try.pinned (OpenSpec.upto fnExactAdjustStepsSpec)

/-- 'laws.FnExactAdjustOf', WHERE WHAT IT READS IS OF BULK AT MOST 1048576: true; the input reads as it did. -/
def fnExactAdjustOfUptoRow : OpenClaim := { program := "ytehjjoalnfpgdaa", sum := "7cd25c2ff08206b815516b69321019ddbf62297fb039a13686565f9f63f15e57", func := "loop.example/weatherarchive/laws.FnExactAdjustOf", spec := "fnExactAdjustOf", unfollowed := true, recurses := true, apart := false, narrowed := true }
def FnExactAdjustOfUptoSaid : Prop := fnExactAdjustOfUptoRow.holds Try.pinned (OpenSpec.upto fnExactAdjustOfSpec)

/-- 'laws.FnExactAdjustBack', WHERE WHAT IT READS IS OF BULK AT MOST 1048576: true; the input reads as it did. -/
def fnExactAdjustBackUptoRow : OpenClaim := { program := "ytehjjoalnfpgdaa", sum := "7cd25c2ff08206b815516b69321019ddbf62297fb039a13686565f9f63f15e57", func := "loop.example/weatherarchive/laws.FnExactAdjustBack", spec := "fnExactAdjustBack", unfollowed := true, recurses := true, apart := false, narrowed := true }
def FnExactAdjustBackUptoSaid : Prop := fnExactAdjustBackUptoRow.holds Try.pinned (OpenSpec.upto fnExactAdjustBackSpec)

end Rows
end Go.Proofs.Ytehjjoalnfpgdaa
