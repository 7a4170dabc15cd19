/-
  No cell of these rows narrows 'for every input' (looked for: loops, veiled, ifaces, maps, wideKeys, modest, calm, conditions, laid).
  DERIVED. THE GIVEN ROWS OF THIS SEAT. 9 by the template 'for every input the law returns true; each argument reads behind the call as it read before'; 0 by the template 'total and deterministic' (their statements: YtalkfggkpjakiaaTotals.lean).
  GIVEN WITH THE SEED: the statements are not yours to turn. If you find one false, say at which input.
  Laid BY PROGRAM, IN A SANDBOX (cutbox-rows.mjs): the forced cells as the released guide's own fill.sh prints them over the translation b9a8ead9763c2eff… (all of the seat's roots in one cut). By AI agents, Wed Nov 11 2026. No macro, syntax, notation, axiom, sorry.
-/
import Derived.Test.YtalkfggkpjakiaaChecked
import GoSem.Claim
import GoSem.ClaimJoined
import GoSem.ClaimMapViews
import Derived.JoinedTies
import Derived.KernelRfl
namespace Go.Proofs.Ytalkfggkpjakiaa
/- THE CELL 'sum', in the pinned program and in every row, IS THE sha256 OF THE DUMP (.gsa) THAT YtalkfggkpjakiaaProg.lean LOADS. Nothing in Lean hashes anything: it is a label: what it is worth is what the hold of that sum in a sandbox is worth. -/
noncomputable def Try.pinned : Pinned := { name := "ytalkfggkpjakiaa", sum := "b9a8ead9763c2eff4ef0ff30ef2aac60a4fc7c4f8f2e30daa134f386849c996b", checked := Try.checked }
namespace Rows
def none {H : Type} : Left H := { results := [], args := [] }

/-- 'laws.FnReportParseBad': WHATEVER THE INPUT: true; the input reads as it did. -/
def fnReportParseBadSpec : ChangeSpec := { name := "fnReportParseBad", fn := fun _ => fun
  | [d] => { results := [.lit (.bool true)], args := [d] }
  | _ => none }
def fnReportParseBadRow : OpenClaim := { program := "ytalkfggkpjakiaa", sum := "b9a8ead9763c2eff4ef0ff30ef2aac60a4fc7c4f8f2e30daa134f386849c996b", func := "loop.example/weatherarchive/laws.FnReportParseBad", spec := "fnReportParseBad", inPlace := ["internal/bytealg.IndexByteString"], recurses := true, apart := false }
def FnReportParseBadSaid : Prop := fnReportParseBadRow.holds Try.pinned (OpenSpec.ofChange fnReportParseBadSpec)

/-- ITS FALSE NEIGHBOUR: 'it returns false'. Refute it at one input. -/
def fnReportParseBadWrong : ChangeSpec := { name := "fnReportParseBad", fn := fun _ => fun
  | [d] => { results := [.lit (.bool false)], args := [d] }
  | _ => none }
def FnReportParseBadWrongFalsely : Prop := fnReportParseBadRow.holds Try.pinned (OpenSpec.ofChange fnReportParseBadWrong)

/-- 'laws.FnReportLimits': WHATEVER THE INPUT: true; the input reads as it did. -/
def fnReportLimitsSpec : ChangeSpec := { name := "fnReportLimits", fn := fun _ => fun
  | [d] => { results := [.lit (.bool true)], args := [d] }
  | _ => none }
def fnReportLimitsRow : OpenClaim := { program := "ytalkfggkpjakiaa", sum := "b9a8ead9763c2eff4ef0ff30ef2aac60a4fc7c4f8f2e30daa134f386849c996b", func := "loop.example/weatherarchive/laws.FnReportLimits", spec := "fnReportLimits", apart := false }
def FnReportLimitsSaid : Prop := fnReportLimitsRow.holds Try.pinned (OpenSpec.ofChange fnReportLimitsSpec)

/-- ITS FALSE NEIGHBOUR: 'it returns false'. Refute it at one input. -/
def fnReportLimitsWrong : ChangeSpec := { name := "fnReportLimits", fn := fun _ => fun
  | [d] => { results := [.lit (.bool false)], args := [d] }
  | _ => none }
def FnReportLimitsWrongFalsely : Prop := fnReportLimitsRow.holds Try.pinned (OpenSpec.ofChange fnReportLimitsWrong)

/-- 'laws.FnKindLimits': WHATEVER THE INPUT: true; the input reads as it did. -/
def fnKindLimitsSpec : ChangeSpec := { name := "fnKindLimits", fn := fun _ => fun
  | [d] => { results := [.lit (.bool true)], args := [d] }
  | _ => none }
def fnKindLimitsRow : OpenClaim := { program := "ytalkfggkpjakiaa", sum := "b9a8ead9763c2eff4ef0ff30ef2aac60a4fc7c4f8f2e30daa134f386849c996b", func := "loop.example/weatherarchive/laws.FnKindLimits", spec := "fnKindLimits", apart := false }
def FnKindLimitsSaid : Prop := fnKindLimitsRow.holds Try.pinned (OpenSpec.ofChange fnKindLimitsSpec)

/-- ITS FALSE NEIGHBOUR: 'it returns false'. Refute it at one input. -/
def fnKindLimitsWrong : ChangeSpec := { name := "fnKindLimits", fn := fun _ => fun
  | [d] => { results := [.lit (.bool false)], args := [d] }
  | _ => none }
def FnKindLimitsWrongFalsely : Prop := fnKindLimitsRow.holds Try.pinned (OpenSpec.ofChange fnKindLimitsWrong)

/-- 'laws.FnRangeOfC': WHATEVER THE INPUT: true; the input reads as it did. -/
def fnRangeOfCSpec : ChangeSpec := { name := "fnRangeOfC", fn := fun _ => fun
  | [d] => { results := [.lit (.bool true)], args := [d] }
  | _ => none }
def fnRangeOfCRow : OpenClaim := { program := "ytalkfggkpjakiaa", sum := "b9a8ead9763c2eff4ef0ff30ef2aac60a4fc7c4f8f2e30daa134f386849c996b", func := "loop.example/weatherarchive/laws.FnRangeOfC", spec := "fnRangeOfC", apart := false }
def FnRangeOfCSaid : Prop := fnRangeOfCRow.holds Try.pinned (OpenSpec.ofChange fnRangeOfCSpec)

/-- ITS FALSE NEIGHBOUR: 'it returns false'. Refute it at one input. -/
def fnRangeOfCWrong : ChangeSpec := { name := "fnRangeOfC", fn := fun _ => fun
  | [d] => { results := [.lit (.bool false)], args := [d] }
  | _ => none }
def FnRangeOfCWrongFalsely : Prop := fnRangeOfCRow.holds Try.pinned (OpenSpec.ofChange fnRangeOfCWrong)

/-- 'laws.FnRangeOfF': WHATEVER THE INPUT: true; the input reads as it did. -/
def fnRangeOfFSpec : ChangeSpec := { name := "fnRangeOfF", fn := fun _ => fun
  | [d] => { results := [.lit (.bool true)], args := [d] }
  | _ => none }
def fnRangeOfFRow : OpenClaim := { program := "ytalkfggkpjakiaa", sum := "b9a8ead9763c2eff4ef0ff30ef2aac60a4fc7c4f8f2e30daa134f386849c996b", func := "loop.example/weatherarchive/laws.FnRangeOfF", spec := "fnRangeOfF", apart := false }
def FnRangeOfFSaid : Prop := fnRangeOfFRow.holds Try.pinned (OpenSpec.ofChange fnRangeOfFSpec)

/-- ITS FALSE NEIGHBOUR: 'it returns false'. Refute it at one input. -/
def fnRangeOfFWrong : ChangeSpec := { name := "fnRangeOfF", fn := fun _ => fun
  | [d] => { results := [.lit (.bool false)], args := [d] }
  | _ => none }
def FnRangeOfFWrongFalsely : Prop := fnRangeOfFRow.holds Try.pinned (OpenSpec.ofChange fnRangeOfFWrong)

/-- 'laws.FnRangeFreeze': WHATEVER THE INPUT: true; the input reads as it did. -/
def fnRangeFreezeSpec : ChangeSpec := { name := "fnRangeFreeze", fn := fun _ => fun
  | [d] => { results := [.lit (.bool true)], args := [d] }
  | _ => none }
def fnRangeFreezeRow : OpenClaim := { program := "ytalkfggkpjakiaa", sum := "b9a8ead9763c2eff4ef0ff30ef2aac60a4fc7c4f8f2e30daa134f386849c996b", func := "loop.example/weatherarchive/laws.FnRangeFreeze", spec := "fnRangeFreeze", apart := false }
def FnRangeFreezeSaid : Prop := fnRangeFreezeRow.holds Try.pinned (OpenSpec.ofChange fnRangeFreezeSpec)

/-- ITS FALSE NEIGHBOUR: 'it returns false'. Refute it at one input. -/
def fnRangeFreezeWrong : ChangeSpec := { name := "fnRangeFreeze", fn := fun _ => fun
  | [d] => { results := [.lit (.bool false)], args := [d] }
  | _ => none }
def FnRangeFreezeWrongFalsely : Prop := fnRangeFreezeRow.holds Try.pinned (OpenSpec.ofChange fnRangeFreezeWrong)

/-- 'laws.FnRangeMeet': WHATEVER THE INPUT: true; the input reads as it did. -/
def fnRangeMeetSpec : ChangeSpec := { name := "fnRangeMeet", fn := fun _ => fun
  | [d] => { results := [.lit (.bool true)], args := [d] }
  | _ => none }
def fnRangeMeetRow : OpenClaim := { program := "ytalkfggkpjakiaa", sum := "b9a8ead9763c2eff4ef0ff30ef2aac60a4fc7c4f8f2e30daa134f386849c996b", func := "loop.example/weatherarchive/laws.FnRangeMeet", spec := "fnRangeMeet", recurses := true, apart := false }
def FnRangeMeetSaid : Prop := fnRangeMeetRow.holds Try.pinned (OpenSpec.ofChange fnRangeMeetSpec)

/-- ITS FALSE NEIGHBOUR: 'it returns false'. Refute it at one input. -/
def fnRangeMeetWrong : ChangeSpec := { name := "fnRangeMeet", fn := fun _ => fun
  | [d] => { results := [.lit (.bool false)], args := [d] }
  | _ => none }
def FnRangeMeetWrongFalsely : Prop := fnRangeMeetRow.holds Try.pinned (OpenSpec.ofChange fnRangeMeetWrong)

/-- 'laws.FnRangeMeetNone': WHATEVER THE INPUT: true; the input reads as it did. -/
def fnRangeMeetNoneSpec : ChangeSpec := { name := "fnRangeMeetNone", fn := fun _ => fun
  | [d] => { results := [.lit (.bool true)], args := [d] }
  | _ => none }
def fnRangeMeetNoneRow : OpenClaim := { program := "ytalkfggkpjakiaa", sum := "b9a8ead9763c2eff4ef0ff30ef2aac60a4fc7c4f8f2e30daa134f386849c996b", func := "loop.example/weatherarchive/laws.FnRangeMeetNone", spec := "fnRangeMeetNone", recurses := true, apart := false }
def FnRangeMeetNoneSaid : Prop := fnRangeMeetNoneRow.holds Try.pinned (OpenSpec.ofChange fnRangeMeetNoneSpec)

/-- ITS FALSE NEIGHBOUR: 'it returns false'. Refute it at one input. -/
def fnRangeMeetNoneWrong : ChangeSpec := { name := "fnRangeMeetNone", fn := fun _ => fun
  | [d] => { results := [.lit (.bool false)], args := [d] }
  | _ => none }
def FnRangeMeetNoneWrongFalsely : Prop := fnRangeMeetNoneRow.holds Try.pinned (OpenSpec.ofChange fnRangeMeetNoneWrong)

/-- 'laws.FnRangeJoin': WHATEVER THE INPUT: true; the input reads as it did. -/
def fnRangeJoinSpec : ChangeSpec := { name := "fnRangeJoin", fn := fun _ => fun
  | [d] => { results := [.lit (.bool true)], args := [d] }
  | _ => none }
def fnRangeJoinRow : OpenClaim := { program := "ytalkfggkpjakiaa", sum := "b9a8ead9763c2eff4ef0ff30ef2aac60a4fc7c4f8f2e30daa134f386849c996b", func := "loop.example/weatherarchive/laws.FnRangeJoin", spec := "fnRangeJoin", recurses := true, apart := false }
def FnRangeJoinSaid : Prop := fnRangeJoinRow.holds Try.pinned (OpenSpec.ofChange fnRangeJoinSpec)

/-- ITS FALSE NEIGHBOUR: 'it returns false'. Refute it at one input. -/
def fnRangeJoinWrong : ChangeSpec := { name := "fnRangeJoin", fn := fun _ => fun
  | [d] => { results := [.lit (.bool false)], args := [d] }
  | _ => none }
def FnRangeJoinWrongFalsely : Prop := fnRangeJoinRow.holds Try.pinned (OpenSpec.ofChange fnRangeJoinWrong)

/- THE SECOND FORM. 'bulk': how many values and letters a reading holds, each counted each time it is reached (what is shared counts as often as it is met; a slice's spare places count too). A statement '..UptoSaid' is the law's where the arguments, and the package variables that the reading takes, are together of bulk at most 1048576: NARROWER than '..Said'. Prove '..Said' where nothing that the law and all that it calls make is longer than what came in: it says more and counts as full. Else prove '..UptoSaid'. A law counts once. -/
mutual
def uptoBulk {H : Type} : DataW H → Nat
  | .lit (.string bytes) => bytes.length + 1
  | .lit _ => 1
  | .nil => 1
  | .ptr d => uptoBulk d + 1
  | .slice elems spare => uptoBulkAll elems + uptoBulkAll spare + 1
  | .agg parts => uptoBulkAll parts + 1
  | .iface _ d => uptoBulk d + 1
  | .map entries => uptoBulkEntries entries + 1
  | .held _ => 1
def uptoBulkAll {H : Type} : List (DataW H) → Nat
  | [] => 0
  | d :: r => uptoBulk d + uptoBulkAll r
def uptoBulkEntries {H : Type} : List (Lit × DataW H) → Nat
  | [] => 0
  | x :: r => uptoBulkEntry x + uptoBulkEntries r
def uptoBulkEntry {H : Type} : Lit × DataW H → Nat
  | (.string bytes, d) => bytes.length + uptoBulk d + 1
  | (_, d) => uptoBulk d + 1
 end
def uptoSmall : (H : Type) → List (DataW H) → Bool := fun _ ds => decide (uptoBulkAll ds ≤ 1048576)
def OpenSpec.upto (s : _root_.Go.ChangeSpec) : _root_.Go.OpenSpec := { _root_.Go.OpenSpec.ofChange s with cond := some uptoSmall }

/-- 'laws.FnReportParseBad', WHERE WHAT IT READS IS OF BULK AT MOST 1048576: true; the input reads as it did. -/
def fnReportParseBadUptoRow : OpenClaim := { program := "ytalkfggkpjakiaa", sum := "b9a8ead9763c2eff4ef0ff30ef2aac60a4fc7c4f8f2e30daa134f386849c996b", func := "loop.example/weatherarchive/laws.FnReportParseBad", spec := "fnReportParseBad", inPlace := ["internal/bytealg.IndexByteString"], recurses := true, apart := false, narrowed := true }
def FnReportParseBadUptoSaid : Prop := fnReportParseBadUptoRow.holds Try.pinned (OpenSpec.upto fnReportParseBadSpec)

/-- 'laws.FnReportLimits', WHERE WHAT IT READS IS OF BULK AT MOST 1048576: true; the input reads as it did. -/
def fnReportLimitsUptoRow : OpenClaim := { program := "ytalkfggkpjakiaa", sum := "b9a8ead9763c2eff4ef0ff30ef2aac60a4fc7c4f8f2e30daa134f386849c996b", func := "loop.example/weatherarchive/laws.FnReportLimits", spec := "fnReportLimits", apart := false, narrowed := true }
def FnReportLimitsUptoSaid : Prop := fnReportLimitsUptoRow.holds Try.pinned (OpenSpec.upto fnReportLimitsSpec)

/-- 'laws.FnKindLimits', WHERE WHAT IT READS IS OF BULK AT MOST 1048576: true; the input reads as it did. -/
def fnKindLimitsUptoRow : OpenClaim := { program := "ytalkfggkpjakiaa", sum := "b9a8ead9763c2eff4ef0ff30ef2aac60a4fc7c4f8f2e30daa134f386849c996b", func := "loop.example/weatherarchive/laws.FnKindLimits", spec := "fnKindLimits", apart := false, narrowed := true }
def FnKindLimitsUptoSaid : Prop := fnKindLimitsUptoRow.holds Try.pinned (OpenSpec.upto fnKindLimitsSpec)

/-- 'laws.FnRangeOfC', WHERE WHAT IT READS IS OF BULK AT MOST 1048576: true; the input reads as it did. -/
def fnRangeOfCUptoRow : OpenClaim := { program := "ytalkfggkpjakiaa", sum := "b9a8ead9763c2eff4ef0ff30ef2aac60a4fc7c4f8f2e30daa134f386849c996b", func := "loop.example/weatherarchive/laws.FnRangeOfC", spec := "fnRangeOfC", apart := false, narrowed := true }
def FnRangeOfCUptoSaid : Prop := fnRangeOfCUptoRow.holds Try.pinned (OpenSpec.upto fnRangeOfCSpec)

/-- 'laws.FnRangeOfF', WHERE WHAT IT READS IS OF BULK AT MOST 1048576: true; the input reads as it did. -/
def fnRangeOfFUptoRow : OpenClaim := { program := "ytalkfggkpjakiaa", sum := "b9a8ead9763c2eff4ef0ff30ef2aac60a4fc7c4f8f2e30daa134f386849c996b", func := "loop.example/weatherarchive/laws.FnRangeOfF", spec := "fnRangeOfF", apart := false, narrowed := true }
def FnRangeOfFUptoSaid : Prop := fnRangeOfFUptoRow.holds Try.pinned (OpenSpec.upto fnRangeOfFSpec)

/-- 'laws.FnRangeFreeze', WHERE WHAT IT READS IS OF BULK AT MOST 1048576: true; the input reads as it did. -/
def fnRangeFreezeUptoRow : OpenClaim := { program := "ytalkfggkpjakiaa", sum := "b9a8ead9763c2eff4ef0ff30ef2aac60a4fc7c4f8f2e30daa134f386849c996b", func := "loop.example/weatherarchive/laws.FnRangeFreeze", spec := "fnRangeFreeze", apart := false, narrowed := true }
def FnRangeFreezeUptoSaid : Prop := fnRangeFreezeUptoRow.holds Try.pinned (OpenSpec.upto fnRangeFreezeSpec)

/-- 'laws.FnRangeMeet', WHERE WHAT IT READS IS OF BULK AT MOST 1048576: true; the input reads as it did. -/
def fnRangeMeetUptoRow : OpenClaim := { program := "ytalkfggkpjakiaa", sum := "b9a8ead9763c2eff4ef0ff30ef2aac60a4fc7c4f8f2e30daa134f386849c996b", func := "loop.example/weatherarchive/laws.FnRangeMeet", spec := "fnRangeMeet", recurses := true, apart := false, narrowed := true }
def FnRangeMeetUptoSaid : Prop := fnRangeMeetUptoRow.holds Try.pinned (OpenSpec.upto fnRangeMeetSpec)

/-- 'laws.FnRangeMeetNone', WHERE WHAT IT READS IS OF BULK AT MOST 1048576: true; the input reads as it did. -/
def fnRangeMeetNoneUptoRow : OpenClaim := { program := "ytalkfggkpjakiaa", sum := "b9a8ead9763c2eff4ef0ff30ef2aac60a4fc7c4f8f2e30daa134f386849c996b", func := "loop.example/weatherarchive/laws.FnRangeMeetNone", spec := "fnRangeMeetNone", recurses := true, apart := false, narrowed := true }
def FnRangeMeetNoneUptoSaid : Prop := fnRangeMeetNoneUptoRow.holds Try.pinned (OpenSpec.upto fnRangeMeetNoneSpec)

/-- 'laws.FnRangeJoin', WHERE WHAT IT READS IS OF BULK AT MOST 1048576: true; the input reads as it did. -/
def fnRangeJoinUptoRow : OpenClaim := { program := "ytalkfggkpjakiaa", sum := "b9a8ead9763c2eff4ef0ff30ef2aac60a4fc7c4f8f2e30daa134f386849c996b", func := "loop.example/weatherarchive/laws.FnRangeJoin", spec := "fnRangeJoin", recurses := true, apart := false, narrowed := true }
def FnRangeJoinUptoSaid : Prop := fnRangeJoinUptoRow.holds Try.pinned (OpenSpec.upto fnRangeJoinSpec)

end Rows
end Go.Proofs.Ytalkfggkpjakiaa
