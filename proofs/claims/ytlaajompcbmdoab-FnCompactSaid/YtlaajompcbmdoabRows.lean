/-
  No cell of these rows narrows 'for every input' (looked for: loops, veiled, ifaces, maps, wideKeys, modest, calm, conditions, laid).
  DERIVED. THE GIVEN ROWS OF THIS SEAT. 12 by the template 'for every input the law returns true; each argument reads behind the call as it read before'; 0 by the template 'total and deterministic' (their statements: YtlaajompcbmdoabTotals.lean).
  GIVEN WITH THE SEED: the statements are not yours to turn. If you find one false, say at which input.
  Laid BY PROGRAM, IN A SANDBOX (cutbox-rows.mjs): the forced cells as the released guide's own fill.sh prints them over the translation 8c2ac856b72a030e… (all of the seat's roots in one cut). By AI agents, Wed Nov 11 2026. No macro, syntax, notation, axiom, sorry.
-/
import Derived.Test.YtlaajompcbmdoabChecked
import GoSem.Claim
import GoSem.ClaimJoined
import GoSem.ClaimMapViews
import Derived.JoinedTies
import Derived.KernelRfl
namespace Go.Proofs.Ytlaajompcbmdoab
/- THE CELL 'sum', in the pinned program and in every row, IS THE sha256 OF THE DUMP (.gsa) THAT YtlaajompcbmdoabProg.lean LOADS. Nothing in Lean hashes anything: it is a label: what it is worth is what the hold of that sum in a sandbox is worth. -/
noncomputable def Try.pinned : Pinned := { name := "ytlaajompcbmdoab", sum := "8c2ac856b72a030eb3a9afa468c40effa8d3060e4fbfd692e3ab505258fda184", checked := Try.checked }
namespace Rows
def none {H : Type} : Left H := { results := [], args := [] }

/-- 'laws.FnExactHistoryOf': WHATEVER THE INPUT: true; the input reads as it did. -/
def fnExactHistoryOfSpec : ChangeSpec := { name := "fnExactHistoryOf", fn := fun _ => fun
  | [d1, d2] => { results := [.lit (.bool true)], args := [d1, d2] }
  | _ => none }
def fnExactHistoryOfRow : OpenClaim := { program := "ytlaajompcbmdoab", sum := "8c2ac856b72a030eb3a9afa468c40effa8d3060e4fbfd692e3ab505258fda184", func := "loop.example/weatherarchive/laws.FnExactHistoryOf", spec := "fnExactHistoryOf", apart := false }
def FnExactHistoryOfSaid : Prop := fnExactHistoryOfRow.holds Try.pinned (OpenSpec.ofChange fnExactHistoryOfSpec)

/-- ITS FALSE NEIGHBOUR: 'it returns false'. Refute it at one input. -/
def fnExactHistoryOfWrong : ChangeSpec := { name := "fnExactHistoryOf", fn := fun _ => fun
  | [d1, d2] => { results := [.lit (.bool false)], args := [d1, d2] }
  | _ => none }
def FnExactHistoryOfWrongFalsely : Prop := fnExactHistoryOfRow.holds Try.pinned (OpenSpec.ofChange fnExactHistoryOfWrong)

/-- 'laws.FnHistory': WHATEVER THE INPUT: true; the input reads as it did. -/
def fnHistorySpec : ChangeSpec := { name := "fnHistory", fn := fun _ => fun
  | [d] => { results := [.lit (.bool true)], args := [d] }
  | _ => none }
def fnHistoryRow : OpenClaim := { program := "ytlaajompcbmdoab", sum := "8c2ac856b72a030eb3a9afa468c40effa8d3060e4fbfd692e3ab505258fda184", func := "loop.example/weatherarchive/laws.FnHistory", spec := "fnHistory", apart := false }
def FnHistorySaid : Prop := fnHistoryRow.holds Try.pinned (OpenSpec.ofChange fnHistorySpec)

/-- ITS FALSE NEIGHBOUR: 'it returns false'. Refute it at one input. -/
def fnHistoryWrong : ChangeSpec := { name := "fnHistory", fn := fun _ => fun
  | [d] => { results := [.lit (.bool false)], args := [d] }
  | _ => none }
def FnHistoryWrongFalsely : Prop := fnHistoryRow.holds Try.pinned (OpenSpec.ofChange fnHistoryWrong)

/-- 'laws.FnHistoryVersions': WHATEVER THE INPUT: true; the input reads as it did. -/
def fnHistoryVersionsSpec : ChangeSpec := { name := "fnHistoryVersions", fn := fun _ => fun
  | [d] => { results := [.lit (.bool true)], args := [d] }
  | _ => none }
def fnHistoryVersionsRow : OpenClaim := { program := "ytlaajompcbmdoab", sum := "8c2ac856b72a030eb3a9afa468c40effa8d3060e4fbfd692e3ab505258fda184", func := "loop.example/weatherarchive/laws.FnHistoryVersions", spec := "fnHistoryVersions", apart := false }
def FnHistoryVersionsSaid : Prop := fnHistoryVersionsRow.holds Try.pinned (OpenSpec.ofChange fnHistoryVersionsSpec)

/-- ITS FALSE NEIGHBOUR: 'it returns false'. Refute it at one input. -/
def fnHistoryVersionsWrong : ChangeSpec := { name := "fnHistoryVersions", fn := fun _ => fun
  | [d] => { results := [.lit (.bool false)], args := [d] }
  | _ => none }
def FnHistoryVersionsWrongFalsely : Prop := fnHistoryVersionsRow.holds Try.pinned (OpenSpec.ofChange fnHistoryVersionsWrong)

/-- 'laws.FnExactVersionOf': WHATEVER THE INPUT: true; the input reads as it did. -/
def fnExactVersionOfSpec : ChangeSpec := { name := "fnExactVersionOf", fn := fun _ => fun
  | [d1, d2, d3] => { results := [.lit (.bool true)], args := [d1, d2, d3] }
  | _ => none }
def fnExactVersionOfRow : OpenClaim := { program := "ytlaajompcbmdoab", sum := "8c2ac856b72a030eb3a9afa468c40effa8d3060e4fbfd692e3ab505258fda184", func := "loop.example/weatherarchive/laws.FnExactVersionOf", spec := "fnExactVersionOf", apart := false }
def FnExactVersionOfSaid : Prop := fnExactVersionOfRow.holds Try.pinned (OpenSpec.ofChange fnExactVersionOfSpec)

/-- ITS FALSE NEIGHBOUR: 'it returns false'. Refute it at one input. -/
def fnExactVersionOfWrong : ChangeSpec := { name := "fnExactVersionOf", fn := fun _ => fun
  | [d1, d2, d3] => { results := [.lit (.bool false)], args := [d1, d2, d3] }
  | _ => none }
def FnExactVersionOfWrongFalsely : Prop := fnExactVersionOfRow.holds Try.pinned (OpenSpec.ofChange fnExactVersionOfWrong)

/-- 'laws.FnVersion': WHATEVER THE INPUT: true; the input reads as it did. -/
def fnVersionSpec : ChangeSpec := { name := "fnVersion", fn := fun _ => fun
  | [d] => { results := [.lit (.bool true)], args := [d] }
  | _ => none }
def fnVersionRow : OpenClaim := { program := "ytlaajompcbmdoab", sum := "8c2ac856b72a030eb3a9afa468c40effa8d3060e4fbfd692e3ab505258fda184", func := "loop.example/weatherarchive/laws.FnVersion", spec := "fnVersion", apart := false }
def FnVersionSaid : Prop := fnVersionRow.holds Try.pinned (OpenSpec.ofChange fnVersionSpec)

/-- ITS FALSE NEIGHBOUR: 'it returns false'. Refute it at one input. -/
def fnVersionWrong : ChangeSpec := { name := "fnVersion", fn := fun _ => fun
  | [d] => { results := [.lit (.bool false)], args := [d] }
  | _ => none }
def FnVersionWrongFalsely : Prop := fnVersionRow.holds Try.pinned (OpenSpec.ofChange fnVersionWrong)

/-- 'laws.FnVersionNone': WHATEVER THE INPUT: true; the input reads as it did. -/
def fnVersionNoneSpec : ChangeSpec := { name := "fnVersionNone", fn := fun _ => fun
  | [d] => { results := [.lit (.bool true)], args := [d] }
  | _ => none }
def fnVersionNoneRow : OpenClaim := { program := "ytlaajompcbmdoab", sum := "8c2ac856b72a030eb3a9afa468c40effa8d3060e4fbfd692e3ab505258fda184", func := "loop.example/weatherarchive/laws.FnVersionNone", spec := "fnVersionNone", apart := false }
def FnVersionNoneSaid : Prop := fnVersionNoneRow.holds Try.pinned (OpenSpec.ofChange fnVersionNoneSpec)

/-- ITS FALSE NEIGHBOUR: 'it returns false'. Refute it at one input. -/
def fnVersionNoneWrong : ChangeSpec := { name := "fnVersionNone", fn := fun _ => fun
  | [d] => { results := [.lit (.bool false)], args := [d] }
  | _ => none }
def FnVersionNoneWrongFalsely : Prop := fnVersionNoneRow.holds Try.pinned (OpenSpec.ofChange fnVersionNoneWrong)

/-- 'laws.FnExactCompactOf': WHATEVER THE INPUT: true; the input reads as it did. -/
def fnExactCompactOfSpec : ChangeSpec := { name := "fnExactCompactOf", fn := fun _ => fun
  | [d] => { results := [.lit (.bool true)], args := [d] }
  | _ => none }
def fnExactCompactOfRow : OpenClaim := { program := "ytlaajompcbmdoab", sum := "8c2ac856b72a030eb3a9afa468c40effa8d3060e4fbfd692e3ab505258fda184", func := "loop.example/weatherarchive/laws.FnExactCompactOf", spec := "fnExactCompactOf", apart := false }
def FnExactCompactOfSaid : Prop := fnExactCompactOfRow.holds Try.pinned (OpenSpec.ofChange fnExactCompactOfSpec)

/-- ITS FALSE NEIGHBOUR: 'it returns false'. Refute it at one input. -/
def fnExactCompactOfWrong : ChangeSpec := { name := "fnExactCompactOf", fn := fun _ => fun
  | [d] => { results := [.lit (.bool false)], args := [d] }
  | _ => none }
def FnExactCompactOfWrongFalsely : Prop := fnExactCompactOfRow.holds Try.pinned (OpenSpec.ofChange fnExactCompactOfWrong)

/-- 'laws.FnCompact': WHATEVER THE INPUT: true; the input reads as it did. -/
def fnCompactSpec : ChangeSpec := { name := "fnCompact", fn := fun _ => fun
  | [d] => { results := [.lit (.bool true)], args := [d] }
  | _ => none }
def fnCompactRow : OpenClaim := { program := "ytlaajompcbmdoab", sum := "8c2ac856b72a030eb3a9afa468c40effa8d3060e4fbfd692e3ab505258fda184", func := "loop.example/weatherarchive/laws.FnCompact", spec := "fnCompact", apart := false }
def FnCompactSaid : Prop := fnCompactRow.holds Try.pinned (OpenSpec.ofChange fnCompactSpec)

/-- ITS FALSE NEIGHBOUR: 'it returns false'. Refute it at one input. -/
def fnCompactWrong : ChangeSpec := { name := "fnCompact", fn := fun _ => fun
  | [d] => { results := [.lit (.bool false)], args := [d] }
  | _ => none }
def FnCompactWrongFalsely : Prop := fnCompactRow.holds Try.pinned (OpenSpec.ofChange fnCompactWrong)

/-- 'laws.FnCompactTwice': WHATEVER THE INPUT: true; the input reads as it did. -/
def fnCompactTwiceSpec : ChangeSpec := { name := "fnCompactTwice", fn := fun _ => fun
  | [d] => { results := [.lit (.bool true)], args := [d] }
  | _ => none }
def fnCompactTwiceRow : OpenClaim := { program := "ytlaajompcbmdoab", sum := "8c2ac856b72a030eb3a9afa468c40effa8d3060e4fbfd692e3ab505258fda184", func := "loop.example/weatherarchive/laws.FnCompactTwice", spec := "fnCompactTwice", apart := false }
def FnCompactTwiceSaid : Prop := fnCompactTwiceRow.holds Try.pinned (OpenSpec.ofChange fnCompactTwiceSpec)

/-- ITS FALSE NEIGHBOUR: 'it returns false'. Refute it at one input. -/
def fnCompactTwiceWrong : ChangeSpec := { name := "fnCompactTwice", fn := fun _ => fun
  | [d] => { results := [.lit (.bool false)], args := [d] }
  | _ => none }
def FnCompactTwiceWrongFalsely : Prop := fnCompactTwiceRow.holds Try.pinned (OpenSpec.ofChange fnCompactTwiceWrong)

/-- 'laws.FnExactDiffOf': WHATEVER THE INPUT: true; the input reads as it did. -/
def fnExactDiffOfSpec : ChangeSpec := { name := "fnExactDiffOf", fn := fun _ => fun
  | [d1, d2, d3] => { results := [.lit (.bool true)], args := [d1, d2, d3] }
  | _ => none }
def fnExactDiffOfRow : OpenClaim := { program := "ytlaajompcbmdoab", sum := "8c2ac856b72a030eb3a9afa468c40effa8d3060e4fbfd692e3ab505258fda184", func := "loop.example/weatherarchive/laws.FnExactDiffOf", spec := "fnExactDiffOf", unfollowed := true, recurses := true, apart := false }
def FnExactDiffOfSaid : Prop := fnExactDiffOfRow.holds Try.pinned (OpenSpec.ofChange fnExactDiffOfSpec)

/-- ITS FALSE NEIGHBOUR: 'it returns false'. Refute it at one input. -/
def fnExactDiffOfWrong : ChangeSpec := { name := "fnExactDiffOf", fn := fun _ => fun
  | [d1, d2, d3] => { results := [.lit (.bool false)], args := [d1, d2, d3] }
  | _ => none }
def FnExactDiffOfWrongFalsely : Prop := fnExactDiffOfRow.holds Try.pinned (OpenSpec.ofChange fnExactDiffOfWrong)

/-- 'laws.FnDiff': WHATEVER THE INPUT: true; the input reads as it did. -/
def fnDiffSpec : ChangeSpec := { name := "fnDiff", fn := fun _ => fun
  | [d] => { results := [.lit (.bool true)], args := [d] }
  | _ => none }
def fnDiffRow : OpenClaim := { program := "ytlaajompcbmdoab", sum := "8c2ac856b72a030eb3a9afa468c40effa8d3060e4fbfd692e3ab505258fda184", func := "loop.example/weatherarchive/laws.FnDiff", spec := "fnDiff", unfollowed := true, recurses := true, apart := false }
def FnDiffSaid : Prop := fnDiffRow.holds Try.pinned (OpenSpec.ofChange fnDiffSpec)

/-- ITS FALSE NEIGHBOUR: 'it returns false'. Refute it at one input. -/
def fnDiffWrong : ChangeSpec := { name := "fnDiff", fn := fun _ => fun
  | [d] => { results := [.lit (.bool false)], args := [d] }
  | _ => none }
def FnDiffWrongFalsely : Prop := fnDiffRow.holds Try.pinned (OpenSpec.ofChange fnDiffWrong)

/-- 'laws.FnDiffTurned': WHATEVER THE INPUT: true; the input reads as it did. -/
def fnDiffTurnedSpec : ChangeSpec := { name := "fnDiffTurned", fn := fun _ => fun
  | [d] => { results := [.lit (.bool true)], args := [d] }
  | _ => none }
def fnDiffTurnedRow : OpenClaim := { program := "ytlaajompcbmdoab", sum := "8c2ac856b72a030eb3a9afa468c40effa8d3060e4fbfd692e3ab505258fda184", func := "loop.example/weatherarchive/laws.FnDiffTurned", spec := "fnDiffTurned", unfollowed := true, recurses := true, apart := false }
def FnDiffTurnedSaid : Prop := fnDiffTurnedRow.holds Try.pinned (OpenSpec.ofChange fnDiffTurnedSpec)

/-- ITS FALSE NEIGHBOUR: 'it returns false'. Refute it at one input. -/
def fnDiffTurnedWrong : ChangeSpec := { name := "fnDiffTurned", fn := fun _ => fun
  | [d] => { results := [.lit (.bool false)], args := [d] }
  | _ => none }
def FnDiffTurnedWrongFalsely : Prop := fnDiffTurnedRow.holds Try.pinned (OpenSpec.ofChange fnDiffTurnedWrong)

/- THE SECOND FORM. 'bulk': how many values and letters a reading holds, each counted each time it is reached (what is shared counts as often as it is met; a slice's spare places count too). A statement '..UptoSaid' is the law's where the arguments, and the package variables that the reading takes, are together of bulk at most 1048576: NARROWER than '..Said'. Prove '..Said' where nothing that the law and all that it calls make is longer than what came in: it says more and counts as full. Else prove '..UptoSaid'. A law counts once. -/
mutual
def uptoBulk {H : Type} : DataW H → Nat
  | .lit (.string bytes) => bytes.length + 1
  | .lit _ => 1
  | .nil => 1
  | .ptr d => uptoBulk d + 1
  | .slice elems spare => uptoBulkAll elems + uptoBulkAll spare + 1
  | .agg parts => uptoBulkAll parts + 1
  | .iface _ d => uptoBulk d + 1
  | .map entries => uptoBulkEntries entries + 1
  | .held _ => 1
def uptoBulkAll {H : Type} : List (DataW H) → Nat
  | [] => 0
  | d :: r => uptoBulk d + uptoBulkAll r
def uptoBulkEntries {H : Type} : List (Lit × DataW H) → Nat
  | [] => 0
  | x :: r => uptoBulkEntry x + uptoBulkEntries r
def uptoBulkEntry {H : Type} : Lit × DataW H → Nat
  | (.string bytes, d) => bytes.length + uptoBulk d + 1
  | (_, d) => uptoBulk d + 1
 end
def uptoSmall : (H : Type) → List (DataW H) → Bool := fun _ ds => decide (uptoBulkAll ds ≤ 1048576)
def OpenSpec.upto (s : _root_.Go.ChangeSpec) : _root_.Go.OpenSpec := { _root_.Go.OpenSpec.ofChange s with cond := some uptoSmall }

/-- 'laws.FnExactHistoryOf', WHERE WHAT IT READS IS OF BULK AT MOST 1048576: true; the input reads as it did. -/
def fnExactHistoryOfUptoRow : OpenClaim := { program := "ytlaajompcbmdoab", sum := "8c2ac856b72a030eb3a9afa468c40effa8d3060e4fbfd692e3ab505258fda184", func := "loop.example/weatherarchive/laws.FnExactHistoryOf", spec := "fnExactHistoryOf", apart := false, narrowed := true }
def FnExactHistoryOfUptoSaid : Prop := fnExactHistoryOfUptoRow.holds Try.pinned (OpenSpec.upto fnExactHistoryOfSpec)

/-- 'laws.FnHistory', WHERE WHAT IT READS IS OF BULK AT MOST 1048576: true; the input reads as it did. -/
def fnHistoryUptoRow : OpenClaim := { program := "ytlaajompcbmdoab", sum := "8c2ac856b72a030eb3a9afa468c40effa8d3060e4fbfd692e3ab505258fda184", func := "loop.example/weatherarchive/laws.FnHistory", spec := "fnHistory", apart := false, narrowed := true }
def FnHistoryUptoSaid : Prop := fnHistoryUptoRow.holds Try.pinned (OpenSpec.upto fnHistorySpec)

/-- 'laws.FnHistoryVersions', WHERE WHAT IT READS IS OF BULK AT MOST 1048576: true; the input reads as it did. -/
def fnHistoryVersionsUptoRow : OpenClaim := { program := "ytlaajompcbmdoab", sum := "8c2ac856b72a030eb3a9afa468c40effa8d3060e4fbfd692e3ab505258fda184", func := "loop.example/weatherarchive/laws.FnHistoryVersions", spec := "fnHistoryVersions", apart := false, narrowed := true }
def FnHistoryVersionsUptoSaid : Prop := fnHistoryVersionsUptoRow.holds Try.pinned (OpenSpec.upto fnHistoryVersionsSpec)

/-- 'laws.FnExactVersionOf', WHERE WHAT IT READS IS OF BULK AT MOST 1048576: true; the input reads as it did. -/
def fnExactVersionOfUptoRow : OpenClaim := { program := "ytlaajompcbmdoab", sum := "8c2ac856b72a030eb3a9afa468c40effa8d3060e4fbfd692e3ab505258fda184", func := "loop.example/weatherarchive/laws.FnExactVersionOf", spec := "fnExactVersionOf", apart := false, narrowed := true }
def FnExactVersionOfUptoSaid : Prop := fnExactVersionOfUptoRow.holds Try.pinned (OpenSpec.upto fnExactVersionOfSpec)

/-- 'laws.FnVersion', WHERE WHAT IT READS IS OF BULK AT MOST 1048576: true; the input reads as it did. -/
def fnVersionUptoRow : OpenClaim := { program := "ytlaajompcbmdoab", sum := "8c2ac856b72a030eb3a9afa468c40effa8d3060e4fbfd692e3ab505258fda184", func := "loop.example/weatherarchive/laws.FnVersion", spec := "fnVersion", apart := false, narrowed := true }
def FnVersionUptoSaid : Prop := fnVersionUptoRow.holds Try.pinned (OpenSpec.upto fnVersionSpec)

/-- 'laws.FnVersionNone', WHERE WHAT IT READS IS OF BULK AT MOST 1048576: true; the input reads as it did. -/
def fnVersionNoneUptoRow : OpenClaim := { program := "ytlaajompcbmdoab", sum := "8c2ac856b72a030eb3a9afa468c40effa8d3060e4fbfd692e3ab505258fda184", func := "loop.example/weatherarchive/laws.FnVersionNone", spec := "fnVersionNone", apart := false, narrowed := true }
def FnVersionNoneUptoSaid : Prop := fnVersionNoneUptoRow.holds Try.pinned (OpenSpec.upto fnVersionNoneSpec)

/-- 'laws.FnExactCompactOf', WHERE WHAT IT READS IS OF BULK AT MOST 1048576: true; the input reads as it did. -/
def fnExactCompactOfUptoRow : OpenClaim := { program := "ytlaajompcbmdoab", sum := "8c2ac856b72a030eb3a9afa468c40effa8d3060e4fbfd692e3ab505258fda184", func := "loop.example/weatherarchive/laws.FnExactCompactOf", spec := "fnExactCompactOf", apart := false, narrowed := true }
def FnExactCompactOfUptoSaid : Prop := fnExactCompactOfUptoRow.holds Try.pinned (OpenSpec.upto fnExactCompactOfSpec)

/-- 'laws.FnCompact', WHERE WHAT IT READS IS OF BULK AT MOST 1048576: true; the input reads as it did. -/
def fnCompactUptoRow : OpenClaim := { program := "ytlaajompcbmdoab", sum := "8c2ac856b72a030eb3a9afa468c40effa8d3060e4fbfd692e3ab505258fda184", func := "loop.example/weatherarchive/laws.FnCompact", spec := "fnCompact", apart := false, narrowed := true }
def FnCompactUptoSaid : Prop := fnCompactUptoRow.holds Try.pinned (OpenSpec.upto fnCompactSpec)

/-- 'laws.FnCompactTwice', WHERE WHAT IT READS IS OF BULK AT MOST 1048576: true; the input reads as it did. -/
def fnCompactTwiceUptoRow : OpenClaim := { program := "ytlaajompcbmdoab", sum := "8c2ac856b72a030eb3a9afa468c40effa8d3060e4fbfd692e3ab505258fda184", func := "loop.example/weatherarchive/laws.FnCompactTwice", spec := "fnCompactTwice", apart := false, narrowed := true }
def FnCompactTwiceUptoSaid : Prop := fnCompactTwiceUptoRow.holds Try.pinned (OpenSpec.upto fnCompactTwiceSpec)

/-- 'laws.FnExactDiffOf', WHERE WHAT IT READS IS OF BULK AT MOST 1048576: true; the input reads as it did. -/
def fnExactDiffOfUptoRow : OpenClaim := { program := "ytlaajompcbmdoab", sum := "8c2ac856b72a030eb3a9afa468c40effa8d3060e4fbfd692e3ab505258fda184", func := "loop.example/weatherarchive/laws.FnExactDiffOf", spec := "fnExactDiffOf", unfollowed := true, recurses := true, apart := false, narrowed := true }
def FnExactDiffOfUptoSaid : Prop := fnExactDiffOfUptoRow.holds Try.pinned (OpenSpec.upto fnExactDiffOfSpec)

/-- 'laws.FnDiff', WHERE WHAT IT READS IS OF BULK AT MOST 1048576: true; the input reads as it did. -/
def fnDiffUptoRow : OpenClaim := { program := "ytlaajompcbmdoab", sum := "8c2ac856b72a030eb3a9afa468c40effa8d3060e4fbfd692e3ab505258fda184", func := "loop.example/weatherarchive/laws.FnDiff", spec := "fnDiff", unfollowed := true, recurses := true, apart := false, narrowed := true }
def FnDiffUptoSaid : Prop := fnDiffUptoRow.holds Try.pinned (OpenSpec.upto fnDiffSpec)

/-- 'laws.FnDiffTurned', WHERE WHAT IT READS IS OF BULK AT MOST 1048576: true; the input reads as it did. -/
def fnDiffTurnedUptoRow : OpenClaim := { program := "ytlaajompcbmdoab", sum := "8c2ac856b72a030eb3a9afa468c40effa8d3060e4fbfd692e3ab505258fda184", func := "loop.example/weatherarchive/laws.FnDiffTurned", spec := "fnDiffTurned", unfollowed := true, recurses := true, apart := false, narrowed := true }
def FnDiffTurnedUptoSaid : Prop := fnDiffTurnedUptoRow.holds Try.pinned (OpenSpec.upto fnDiffTurnedSpec)

end Rows
end Go.Proofs.Ytlaajompcbmdoab
