/-
  No cell of these rows narrows 'for every input' (looked for: loops, veiled, ifaces, maps, wideKeys, modest, calm, conditions, laid).
  DERIVED. THE GIVEN ROWS OF THIS SEAT. 11 by the template 'for every input the law returns true; each argument reads behind the call as it read before'; 0 by the template 'total and deterministic' (their statements: YtalkfggkpjakiabTotals.lean).
  GIVEN WITH THE SEED: the statements are not yours to turn. If you find one false, say at which input.
  Laid BY PROGRAM, IN A SANDBOX (cutbox-rows.mjs): the forced cells as the released guide's own fill.sh prints them over the translation d34997939535aa28… (all of the seat's roots in one cut). By AI agents, Wed Nov 11 2026. No macro, syntax, notation, axiom, sorry.
-/
import Derived.Test.YtalkfggkpjakiabChecked
import GoSem.Claim
import GoSem.ClaimJoined
import GoSem.ClaimMapViews
import Derived.JoinedTies
import Derived.KernelRfl
namespace Go.Proofs.Ytalkfggkpjakiab
/- THE CELL 'sum', in the pinned program and in every row, IS THE sha256 OF THE DUMP (.gsa) THAT YtalkfggkpjakiabProg.lean LOADS. Nothing in Lean hashes anything: it is a label: what it is worth is what the hold of that sum in a sandbox is worth. -/
noncomputable def Try.pinned : Pinned := { name := "ytalkfggkpjakiab", sum := "d34997939535aa2866d311e2982e7c4417dfa730a404b6411577a0ae363c4d94", checked := Try.checked }
namespace Rows
def none {H : Type} : Left H := { results := [], args := [] }

/-- 'laws.FnRangeTenths': WHATEVER THE INPUT: true; the input reads as it did. -/
def fnRangeTenthsSpec : ChangeSpec := { name := "fnRangeTenths", fn := fun _ => fun
  | [d] => { results := [.lit (.bool true)], args := [d] }
  | _ => none }
def fnRangeTenthsRow : OpenClaim := { program := "ytalkfggkpjakiab", sum := "d34997939535aa2866d311e2982e7c4417dfa730a404b6411577a0ae363c4d94", func := "loop.example/weatherarchive/laws.FnRangeTenths", spec := "fnRangeTenths", recurses := true, apart := false }
def FnRangeTenthsSaid : Prop := fnRangeTenthsRow.holds Try.pinned (OpenSpec.ofChange fnRangeTenthsSpec)

/-- ITS FALSE NEIGHBOUR: 'it returns false'. Refute it at one input. -/
def fnRangeTenthsWrong : ChangeSpec := { name := "fnRangeTenths", fn := fun _ => fun
  | [d] => { results := [.lit (.bool false)], args := [d] }
  | _ => none }
def FnRangeTenthsWrongFalsely : Prop := fnRangeTenthsRow.holds Try.pinned (OpenSpec.ofChange fnRangeTenthsWrong)

/-- 'laws.FnRangePart': WHATEVER THE INPUT: true; the input reads as it did. -/
def fnRangePartSpec : ChangeSpec := { name := "fnRangePart", fn := fun _ => fun
  | [d] => { results := [.lit (.bool true)], args := [d] }
  | _ => none }
def fnRangePartRow : OpenClaim := { program := "ytalkfggkpjakiab", sum := "d34997939535aa2866d311e2982e7c4417dfa730a404b6411577a0ae363c4d94", func := "loop.example/weatherarchive/laws.FnRangePart", spec := "fnRangePart", apart := false }
def FnRangePartSaid : Prop := fnRangePartRow.holds Try.pinned (OpenSpec.ofChange fnRangePartSpec)

/-- ITS FALSE NEIGHBOUR: 'it returns false'. Refute it at one input. -/
def fnRangePartWrong : ChangeSpec := { name := "fnRangePart", fn := fun _ => fun
  | [d] => { results := [.lit (.bool false)], args := [d] }
  | _ => none }
def FnRangePartWrongFalsely : Prop := fnRangePartRow.holds Try.pinned (OpenSpec.ofChange fnRangePartWrong)

/-- 'laws.FnExactReportValid': WHATEVER THE INPUT: true; the input reads as it did. -/
def fnExactReportValidSpec : ChangeSpec := { name := "fnExactReportValid", fn := fun _ => fun
  | [d] => { results := [.lit (.bool true)], args := [d] }
  | _ => none }
def fnExactReportValidRow : OpenClaim := { program := "ytalkfggkpjakiab", sum := "d34997939535aa2866d311e2982e7c4417dfa730a404b6411577a0ae363c4d94", func := "loop.example/weatherarchive/laws.FnExactReportValid", spec := "fnExactReportValid", apart := false }
def FnExactReportValidSaid : Prop := fnExactReportValidRow.holds Try.pinned (OpenSpec.ofChange fnExactReportValidSpec)

/-- ITS FALSE NEIGHBOUR: 'it returns false'. Refute it at one input. -/
def fnExactReportValidWrong : ChangeSpec := { name := "fnExactReportValid", fn := fun _ => fun
  | [d] => { results := [.lit (.bool false)], args := [d] }
  | _ => none }
def FnExactReportValidWrongFalsely : Prop := fnExactReportValidRow.holds Try.pinned (OpenSpec.ofChange fnExactReportValidWrong)

/-- 'laws.FnExactReportParse': WHATEVER THE INPUT: true; the input reads as it did. -/
def fnExactReportParseSpec : ChangeSpec := { name := "fnExactReportParse", fn := fun _ => fun
  | [d] => { results := [.lit (.bool true)], args := [d] }
  | _ => none }
def fnExactReportParseRow : OpenClaim := { program := "ytalkfggkpjakiab", sum := "d34997939535aa2866d311e2982e7c4417dfa730a404b6411577a0ae363c4d94", func := "loop.example/weatherarchive/laws.FnExactReportParse", spec := "fnExactReportParse", inPlace := ["internal/bytealg.IndexByteString"], apart := false }
def FnExactReportParseSaid : Prop := fnExactReportParseRow.holds Try.pinned (OpenSpec.ofChange fnExactReportParseSpec)

/-- ITS FALSE NEIGHBOUR: 'it returns false'. Refute it at one input. -/
def fnExactReportParseWrong : ChangeSpec := { name := "fnExactReportParse", fn := fun _ => fun
  | [d] => { results := [.lit (.bool false)], args := [d] }
  | _ => none }
def FnExactReportParseWrongFalsely : Prop := fnExactReportParseRow.holds Try.pinned (OpenSpec.ofChange fnExactReportParseWrong)

/-- 'laws.FnExactKindLimits': WHATEVER THE INPUT: true; the input reads as it did. -/
def fnExactKindLimitsSpec : ChangeSpec := { name := "fnExactKindLimits", fn := fun _ => fun
  | [d] => { results := [.lit (.bool true)], args := [d] }
  | _ => none }
def fnExactKindLimitsRow : OpenClaim := { program := "ytalkfggkpjakiab", sum := "d34997939535aa2866d311e2982e7c4417dfa730a404b6411577a0ae363c4d94", func := "loop.example/weatherarchive/laws.FnExactKindLimits", spec := "fnExactKindLimits", apart := false }
def FnExactKindLimitsSaid : Prop := fnExactKindLimitsRow.holds Try.pinned (OpenSpec.ofChange fnExactKindLimitsSpec)

/-- ITS FALSE NEIGHBOUR: 'it returns false'. Refute it at one input. -/
def fnExactKindLimitsWrong : ChangeSpec := { name := "fnExactKindLimits", fn := fun _ => fun
  | [d] => { results := [.lit (.bool false)], args := [d] }
  | _ => none }
def FnExactKindLimitsWrongFalsely : Prop := fnExactKindLimitsRow.holds Try.pinned (OpenSpec.ofChange fnExactKindLimitsWrong)

/-- 'laws.FnExactRangeValid': WHATEVER THE INPUT: true; the input reads as it did. -/
def fnExactRangeValidSpec : ChangeSpec := { name := "fnExactRangeValid", fn := fun _ => fun
  | [d] => { results := [.lit (.bool true)], args := [d] }
  | _ => none }
def fnExactRangeValidRow : OpenClaim := { program := "ytalkfggkpjakiab", sum := "d34997939535aa2866d311e2982e7c4417dfa730a404b6411577a0ae363c4d94", func := "loop.example/weatherarchive/laws.FnExactRangeValid", spec := "fnExactRangeValid", apart := false }
def FnExactRangeValidSaid : Prop := fnExactRangeValidRow.holds Try.pinned (OpenSpec.ofChange fnExactRangeValidSpec)

/-- ITS FALSE NEIGHBOUR: 'it returns false'. Refute it at one input. -/
def fnExactRangeValidWrong : ChangeSpec := { name := "fnExactRangeValid", fn := fun _ => fun
  | [d] => { results := [.lit (.bool false)], args := [d] }
  | _ => none }
def FnExactRangeValidWrongFalsely : Prop := fnExactRangeValidRow.holds Try.pinned (OpenSpec.ofChange fnExactRangeValidWrong)

/-- 'laws.FnExactRangeOfC': WHATEVER THE INPUT: true; the input reads as it did. -/
def fnExactRangeOfCSpec : ChangeSpec := { name := "fnExactRangeOfC", fn := fun _ => fun
  | [d] => { results := [.lit (.bool true)], args := [d] }
  | _ => none }
def fnExactRangeOfCRow : OpenClaim := { program := "ytalkfggkpjakiab", sum := "d34997939535aa2866d311e2982e7c4417dfa730a404b6411577a0ae363c4d94", func := "loop.example/weatherarchive/laws.FnExactRangeOfC", spec := "fnExactRangeOfC", apart := false }
def FnExactRangeOfCSaid : Prop := fnExactRangeOfCRow.holds Try.pinned (OpenSpec.ofChange fnExactRangeOfCSpec)

/-- ITS FALSE NEIGHBOUR: 'it returns false'. Refute it at one input. -/
def fnExactRangeOfCWrong : ChangeSpec := { name := "fnExactRangeOfC", fn := fun _ => fun
  | [d] => { results := [.lit (.bool false)], args := [d] }
  | _ => none }
def FnExactRangeOfCWrongFalsely : Prop := fnExactRangeOfCRow.holds Try.pinned (OpenSpec.ofChange fnExactRangeOfCWrong)

/-- 'laws.FnExactRangeOfF': WHATEVER THE INPUT: true; the input reads as it did. -/
def fnExactRangeOfFSpec : ChangeSpec := { name := "fnExactRangeOfF", fn := fun _ => fun
  | [d] => { results := [.lit (.bool true)], args := [d] }
  | _ => none }
def fnExactRangeOfFRow : OpenClaim := { program := "ytalkfggkpjakiab", sum := "d34997939535aa2866d311e2982e7c4417dfa730a404b6411577a0ae363c4d94", func := "loop.example/weatherarchive/laws.FnExactRangeOfF", spec := "fnExactRangeOfF", apart := false }
def FnExactRangeOfFSaid : Prop := fnExactRangeOfFRow.holds Try.pinned (OpenSpec.ofChange fnExactRangeOfFSpec)

/-- ITS FALSE NEIGHBOUR: 'it returns false'. Refute it at one input. -/
def fnExactRangeOfFWrong : ChangeSpec := { name := "fnExactRangeOfF", fn := fun _ => fun
  | [d] => { results := [.lit (.bool false)], args := [d] }
  | _ => none }
def FnExactRangeOfFWrongFalsely : Prop := fnExactRangeOfFRow.holds Try.pinned (OpenSpec.ofChange fnExactRangeOfFWrong)

/-- 'laws.FnExactRangeMeet': WHATEVER THE INPUT: true; the input reads as it did. -/
def fnExactRangeMeetSpec : ChangeSpec := { name := "fnExactRangeMeet", fn := fun _ => fun
  | [d1, d2] => { results := [.lit (.bool true)], args := [d1, d2] }
  | _ => none }
def fnExactRangeMeetRow : OpenClaim := { program := "ytalkfggkpjakiab", sum := "d34997939535aa2866d311e2982e7c4417dfa730a404b6411577a0ae363c4d94", func := "loop.example/weatherarchive/laws.FnExactRangeMeet", spec := "fnExactRangeMeet", recurses := true, apart := false }
def FnExactRangeMeetSaid : Prop := fnExactRangeMeetRow.holds Try.pinned (OpenSpec.ofChange fnExactRangeMeetSpec)

/-- ITS FALSE NEIGHBOUR: 'it returns false'. Refute it at one input. -/
def fnExactRangeMeetWrong : ChangeSpec := { name := "fnExactRangeMeet", fn := fun _ => fun
  | [d1, d2] => { results := [.lit (.bool false)], args := [d1, d2] }
  | _ => none }
def FnExactRangeMeetWrongFalsely : Prop := fnExactRangeMeetRow.holds Try.pinned (OpenSpec.ofChange fnExactRangeMeetWrong)

/-- 'laws.FnExactRangeJoin': WHATEVER THE INPUT: true; the input reads as it did. -/
def fnExactRangeJoinSpec : ChangeSpec := { name := "fnExactRangeJoin", fn := fun _ => fun
  | [d1, d2] => { results := [.lit (.bool true)], args := [d1, d2] }
  | _ => none }
def fnExactRangeJoinRow : OpenClaim := { program := "ytalkfggkpjakiab", sum := "d34997939535aa2866d311e2982e7c4417dfa730a404b6411577a0ae363c4d94", func := "loop.example/weatherarchive/laws.FnExactRangeJoin", spec := "fnExactRangeJoin", recurses := true, apart := false }
def FnExactRangeJoinSaid : Prop := fnExactRangeJoinRow.holds Try.pinned (OpenSpec.ofChange fnExactRangeJoinSpec)

/-- ITS FALSE NEIGHBOUR: 'it returns false'. Refute it at one input. -/
def fnExactRangeJoinWrong : ChangeSpec := { name := "fnExactRangeJoin", fn := fun _ => fun
  | [d1, d2] => { results := [.lit (.bool false)], args := [d1, d2] }
  | _ => none }
def FnExactRangeJoinWrongFalsely : Prop := fnExactRangeJoinRow.holds Try.pinned (OpenSpec.ofChange fnExactRangeJoinWrong)

/-- 'laws.FnExactRangeTenths': WHATEVER THE INPUT: true; the input reads as it did. -/
def fnExactRangeTenthsSpec : ChangeSpec := { name := "fnExactRangeTenths", fn := fun _ => fun
  | [d] => { results := [.lit (.bool true)], args := [d] }
  | _ => none }
def fnExactRangeTenthsRow : OpenClaim := { program := "ytalkfggkpjakiab", sum := "d34997939535aa2866d311e2982e7c4417dfa730a404b6411577a0ae363c4d94", func := "loop.example/weatherarchive/laws.FnExactRangeTenths", spec := "fnExactRangeTenths", apart := false }
def FnExactRangeTenthsSaid : Prop := fnExactRangeTenthsRow.holds Try.pinned (OpenSpec.ofChange fnExactRangeTenthsSpec)

/-- ITS FALSE NEIGHBOUR: 'it returns false'. Refute it at one input. -/
def fnExactRangeTenthsWrong : ChangeSpec := { name := "fnExactRangeTenths", fn := fun _ => fun
  | [d] => { results := [.lit (.bool false)], args := [d] }
  | _ => none }
def FnExactRangeTenthsWrongFalsely : Prop := fnExactRangeTenthsRow.holds Try.pinned (OpenSpec.ofChange fnExactRangeTenthsWrong)

/- THE SECOND FORM. 'bulk': how many values and letters a reading holds, each counted each time it is reached (what is shared counts as often as it is met; a slice's spare places count too). A statement '..UptoSaid' is the law's where the arguments, and the package variables that the reading takes, are together of bulk at most 1048576: NARROWER than '..Said'. Prove '..Said' where nothing that the law and all that it calls make is longer than what came in: it says more and counts as full. Else prove '..UptoSaid'. A law counts once. -/
mutual
def uptoBulk {H : Type} : DataW H → Nat
  | .lit (.string bytes) => bytes.length + 1
  | .lit _ => 1
  | .nil => 1
  | .ptr d => uptoBulk d + 1
  | .slice elems spare => uptoBulkAll elems + uptoBulkAll spare + 1
  | .agg parts => uptoBulkAll parts + 1
  | .iface _ d => uptoBulk d + 1
  | .map entries => uptoBulkEntries entries + 1
  | .held _ => 1
def uptoBulkAll {H : Type} : List (DataW H) → Nat
  | [] => 0
  | d :: r => uptoBulk d + uptoBulkAll r
def uptoBulkEntries {H : Type} : List (Lit × DataW H) → Nat
  | [] => 0
  | x :: r => uptoBulkEntry x + uptoBulkEntries r
def uptoBulkEntry {H : Type} : Lit × DataW H → Nat
  | (.string bytes, d) => bytes.length + uptoBulk d + 1
  | (_, d) => uptoBulk d + 1
 end
def uptoSmall : (H : Type) → List (DataW H) → Bool := fun _ ds => decide (uptoBulkAll ds ≤ 1048576)
def OpenSpec.upto (s : _root_.Go.ChangeSpec) : _root_.Go.OpenSpec := { _root_.Go.OpenSpec.ofChange s with cond := some uptoSmall }

/-- 'laws.FnRangeTenths', WHERE WHAT IT READS IS OF BULK AT MOST 1048576: true; the input reads as it did. -/
def fnRangeTenthsUptoRow : OpenClaim := { program := "ytalkfggkpjakiab", sum := "d34997939535aa2866d311e2982e7c4417dfa730a404b6411577a0ae363c4d94", func := "loop.example/weatherarchive/laws.FnRangeTenths", spec := "fnRangeTenths", recurses := true, apart := false, narrowed := true }
def FnRangeTenthsUptoSaid : Prop := fnRangeTenthsUptoRow.holds Try.pinned (OpenSpec.upto fnRangeTenthsSpec)

/-- 'laws.FnRangePart', WHERE WHAT IT READS IS OF BULK AT MOST 1048576: true; the input reads as it did. -/
def fnRangePartUptoRow : OpenClaim := { program := "ytalkfggkpjakiab", sum := "d34997939535aa2866d311e2982e7c4417dfa730a404b6411577a0ae363c4d94", func := "loop.example/weatherarchive/laws.FnRangePart", spec := "fnRangePart", apart := false, narrowed := true }
def FnRangePartUptoSaid : Prop := fnRangePartUptoRow.holds Try.pinned (OpenSpec.upto fnRangePartSpec)

/-- 'laws.FnExactReportValid', WHERE WHAT IT READS IS OF BULK AT MOST 1048576: true; the input reads as it did. -/
def fnExactReportValidUptoRow : OpenClaim := { program := "ytalkfggkpjakiab", sum := "d34997939535aa2866d311e2982e7c4417dfa730a404b6411577a0ae363c4d94", func := "loop.example/weatherarchive/laws.FnExactReportValid", spec := "fnExactReportValid", apart := false, narrowed := true }
def FnExactReportValidUptoSaid : Prop := fnExactReportValidUptoRow.holds Try.pinned (OpenSpec.upto fnExactReportValidSpec)

/-- 'laws.FnExactReportParse', WHERE WHAT IT READS IS OF BULK AT MOST 1048576: true; the input reads as it did. -/
def fnExactReportParseUptoRow : OpenClaim := { program := "ytalkfggkpjakiab", sum := "d34997939535aa2866d311e2982e7c4417dfa730a404b6411577a0ae363c4d94", func := "loop.example/weatherarchive/laws.FnExactReportParse", spec := "fnExactReportParse", inPlace := ["internal/bytealg.IndexByteString"], apart := false, narrowed := true }
def FnExactReportParseUptoSaid : Prop := fnExactReportParseUptoRow.holds Try.pinned (OpenSpec.upto fnExactReportParseSpec)

/-- 'laws.FnExactKindLimits', WHERE WHAT IT READS IS OF BULK AT MOST 1048576: true; the input reads as it did. -/
def fnExactKindLimitsUptoRow : OpenClaim := { program := "ytalkfggkpjakiab", sum := "d34997939535aa2866d311e2982e7c4417dfa730a404b6411577a0ae363c4d94", func := "loop.example/weatherarchive/laws.FnExactKindLimits", spec := "fnExactKindLimits", apart := false, narrowed := true }
def FnExactKindLimitsUptoSaid : Prop := fnExactKindLimitsUptoRow.holds Try.pinned (OpenSpec.upto fnExactKindLimitsSpec)

/-- 'laws.FnExactRangeValid', WHERE WHAT IT READS IS OF BULK AT MOST 1048576: true; the input reads as it did. -/
def fnExactRangeValidUptoRow : OpenClaim := { program := "ytalkfggkpjakiab", sum := "d34997939535aa2866d311e2982e7c4417dfa730a404b6411577a0ae363c4d94", func := "loop.example/weatherarchive/laws.FnExactRangeValid", spec := "fnExactRangeValid", apart := false, narrowed := true }
def FnExactRangeValidUptoSaid : Prop := fnExactRangeValidUptoRow.holds Try.pinned (OpenSpec.upto fnExactRangeValidSpec)

/-- 'laws.FnExactRangeOfC', WHERE WHAT IT READS IS OF BULK AT MOST 1048576: true; the input reads as it did. -/
def fnExactRangeOfCUptoRow : OpenClaim := { program := "ytalkfggkpjakiab", sum := "d34997939535aa2866d311e2982e7c4417dfa730a404b6411577a0ae363c4d94", func := "loop.example/weatherarchive/laws.FnExactRangeOfC", spec := "fnExactRangeOfC", apart := false, narrowed := true }
def FnExactRangeOfCUptoSaid : Prop := fnExactRangeOfCUptoRow.holds Try.pinned (OpenSpec.upto fnExactRangeOfCSpec)

/-- 'laws.FnExactRangeOfF', WHERE WHAT IT READS IS OF BULK AT MOST 1048576: true; the input reads as it did. -/
def fnExactRangeOfFUptoRow : OpenClaim := { program := "ytalkfggkpjakiab", sum := "d34997939535aa2866d311e2982e7c4417dfa730a404b6411577a0ae363c4d94", func := "loop.example/weatherarchive/laws.FnExactRangeOfF", spec := "fnExactRangeOfF", apart := false, narrowed := true }
def FnExactRangeOfFUptoSaid : Prop := fnExactRangeOfFUptoRow.holds Try.pinned (OpenSpec.upto fnExactRangeOfFSpec)

/-- 'laws.FnExactRangeMeet', WHERE WHAT IT READS IS OF BULK AT MOST 1048576: true; the input reads as it did. -/
def fnExactRangeMeetUptoRow : OpenClaim := { program := "ytalkfggkpjakiab", sum := "d34997939535aa2866d311e2982e7c4417dfa730a404b6411577a0ae363c4d94", func := "loop.example/weatherarchive/laws.FnExactRangeMeet", spec := "fnExactRangeMeet", recurses := true, apart := false, narrowed := true }
def FnExactRangeMeetUptoSaid : Prop := fnExactRangeMeetUptoRow.holds Try.pinned (OpenSpec.upto fnExactRangeMeetSpec)

/-- 'laws.FnExactRangeJoin', WHERE WHAT IT READS IS OF BULK AT MOST 1048576: true; the input reads as it did. -/
def fnExactRangeJoinUptoRow : OpenClaim := { program := "ytalkfggkpjakiab", sum := "d34997939535aa2866d311e2982e7c4417dfa730a404b6411577a0ae363c4d94", func := "loop.example/weatherarchive/laws.FnExactRangeJoin", spec := "fnExactRangeJoin", recurses := true, apart := false, narrowed := true }
def FnExactRangeJoinUptoSaid : Prop := fnExactRangeJoinUptoRow.holds Try.pinned (OpenSpec.upto fnExactRangeJoinSpec)

/-- 'laws.FnExactRangeTenths', WHERE WHAT IT READS IS OF BULK AT MOST 1048576: true; the input reads as it did. -/
def fnExactRangeTenthsUptoRow : OpenClaim := { program := "ytalkfggkpjakiab", sum := "d34997939535aa2866d311e2982e7c4417dfa730a404b6411577a0ae363c4d94", func := "loop.example/weatherarchive/laws.FnExactRangeTenths", spec := "fnExactRangeTenths", apart := false, narrowed := true }
def FnExactRangeTenthsUptoSaid : Prop := fnExactRangeTenthsUptoRow.holds Try.pinned (OpenSpec.upto fnExactRangeTenthsSpec)

end Rows
end Go.Proofs.Ytalkfggkpjakiab
