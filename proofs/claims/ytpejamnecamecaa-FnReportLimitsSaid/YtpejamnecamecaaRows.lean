/-
  No cell of these rows narrows 'for every input' (looked for: loops, veiled, ifaces, maps, wideKeys, modest, calm, conditions, laid).
  DERIVED. THE GIVEN ROWS OF THIS SEAT. 6 by the template 'for every input the law returns true; each argument reads behind the call as it read before'; 0 by the template 'total and deterministic' (their statements: YtpejamnecamecaaTotals.lean).
  GIVEN WITH THE SEED: the statements are not yours to turn. If you find one false, say at which input.
  Laid BY PROGRAM, IN A SANDBOX (cutbox-rows.mjs): the forced cells as the released guide's own fill.sh prints them over the translation 3ce5d993c4c82865… (all of the seat's roots in one cut). By AI agents, Wed Nov 11 2026. No macro, syntax, notation, axiom, sorry.
-/
import Derived.Test.YtpejamnecamecaaChecked
import GoSem.Claim
import GoSem.ClaimJoined
import GoSem.ClaimMapViews
import Derived.JoinedTies
import Derived.KernelRfl
namespace Go.Proofs.Ytpejamnecamecaa
/- THE CELL 'sum', in the pinned program and in every row, IS THE sha256 OF THE DUMP (.gsa) THAT YtpejamnecamecaaProg.lean LOADS. Nothing in Lean hashes anything: it is a label: what it is worth is what the hold of that sum in a sandbox is worth. -/
noncomputable def Try.pinned : Pinned := { name := "ytpejamnecamecaa", sum := "3ce5d993c4c8286512719dcf007422491e465db289409086b85a40a21f042b65", checked := Try.checked }
namespace Rows
def none {H : Type} : Left H := { results := [], args := [] }

/-- 'laws.FnReportParseBad': WHATEVER THE INPUT: true; the input reads as it did. -/
def fnReportParseBadSpec : ChangeSpec := { name := "fnReportParseBad", fn := fun _ => fun
  | [d] => { results := [.lit (.bool true)], args := [d] }
  | _ => none }
def fnReportParseBadRow : OpenClaim := { program := "ytpejamnecamecaa", sum := "3ce5d993c4c8286512719dcf007422491e465db289409086b85a40a21f042b65", func := "loop.example/weatherarchive/laws.FnReportParseBad", spec := "fnReportParseBad", inPlace := ["internal/bytealg.IndexByteString"], recurses := true, apart := false }
def FnReportParseBadSaid : Prop := fnReportParseBadRow.holds Try.pinned (OpenSpec.ofChange fnReportParseBadSpec)

/-- ITS FALSE NEIGHBOUR: 'it returns false'. Refute it at one input. -/
def fnReportParseBadWrong : ChangeSpec := { name := "fnReportParseBad", fn := fun _ => fun
  | [d] => { results := [.lit (.bool false)], args := [d] }
  | _ => none }
def FnReportParseBadWrongFalsely : Prop := fnReportParseBadRow.holds Try.pinned (OpenSpec.ofChange fnReportParseBadWrong)

/-- 'laws.FnReportLimits': WHATEVER THE INPUT: true; the input reads as it did. -/
def fnReportLimitsSpec : ChangeSpec := { name := "fnReportLimits", fn := fun _ => fun
  | [d] => { results := [.lit (.bool true)], args := [d] }
  | _ => none }
def fnReportLimitsRow : OpenClaim := { program := "ytpejamnecamecaa", sum := "3ce5d993c4c8286512719dcf007422491e465db289409086b85a40a21f042b65", func := "loop.example/weatherarchive/laws.FnReportLimits", spec := "fnReportLimits", apart := false }
def FnReportLimitsSaid : Prop := fnReportLimitsRow.holds Try.pinned (OpenSpec.ofChange fnReportLimitsSpec)

/-- ITS FALSE NEIGHBOUR: 'it returns false'. Refute it at one input. -/
def fnReportLimitsWrong : ChangeSpec := { name := "fnReportLimits", fn := fun _ => fun
  | [d] => { results := [.lit (.bool false)], args := [d] }
  | _ => none }
def FnReportLimitsWrongFalsely : Prop := fnReportLimitsRow.holds Try.pinned (OpenSpec.ofChange fnReportLimitsWrong)

/-- 'laws.FnKindLimits': WHATEVER THE INPUT: true; the input reads as it did. -/
def fnKindLimitsSpec : ChangeSpec := { name := "fnKindLimits", fn := fun _ => fun
  | [d] => { results := [.lit (.bool true)], args := [d] }
  | _ => none }
def fnKindLimitsRow : OpenClaim := { program := "ytpejamnecamecaa", sum := "3ce5d993c4c8286512719dcf007422491e465db289409086b85a40a21f042b65", func := "loop.example/weatherarchive/laws.FnKindLimits", spec := "fnKindLimits", apart := false }
def FnKindLimitsSaid : Prop := fnKindLimitsRow.holds Try.pinned (OpenSpec.ofChange fnKindLimitsSpec)

/-- ITS FALSE NEIGHBOUR: 'it returns false'. Refute it at one input. -/
def fnKindLimitsWrong : ChangeSpec := { name := "fnKindLimits", fn := fun _ => fun
  | [d] => { results := [.lit (.bool false)], args := [d] }
  | _ => none }
def FnKindLimitsWrongFalsely : Prop := fnKindLimitsRow.holds Try.pinned (OpenSpec.ofChange fnKindLimitsWrong)

/-- 'laws.FnExactReportValid': WHATEVER THE INPUT: true; the input reads as it did. -/
def fnExactReportValidSpec : ChangeSpec := { name := "fnExactReportValid", fn := fun _ => fun
  | [d] => { results := [.lit (.bool true)], args := [d] }
  | _ => none }
def fnExactReportValidRow : OpenClaim := { program := "ytpejamnecamecaa", sum := "3ce5d993c4c8286512719dcf007422491e465db289409086b85a40a21f042b65", func := "loop.example/weatherarchive/laws.FnExactReportValid", spec := "fnExactReportValid", apart := false }
def FnExactReportValidSaid : Prop := fnExactReportValidRow.holds Try.pinned (OpenSpec.ofChange fnExactReportValidSpec)

/-- ITS FALSE NEIGHBOUR: 'it returns false'. Refute it at one input. -/
def fnExactReportValidWrong : ChangeSpec := { name := "fnExactReportValid", fn := fun _ => fun
  | [d] => { results := [.lit (.bool false)], args := [d] }
  | _ => none }
def FnExactReportValidWrongFalsely : Prop := fnExactReportValidRow.holds Try.pinned (OpenSpec.ofChange fnExactReportValidWrong)

/-- 'laws.FnExactReportParse': WHATEVER THE INPUT: true; the input reads as it did. -/
def fnExactReportParseSpec : ChangeSpec := { name := "fnExactReportParse", fn := fun _ => fun
  | [d] => { results := [.lit (.bool true)], args := [d] }
  | _ => none }
def fnExactReportParseRow : OpenClaim := { program := "ytpejamnecamecaa", sum := "3ce5d993c4c8286512719dcf007422491e465db289409086b85a40a21f042b65", func := "loop.example/weatherarchive/laws.FnExactReportParse", spec := "fnExactReportParse", inPlace := ["internal/bytealg.IndexByteString"], apart := false }
def FnExactReportParseSaid : Prop := fnExactReportParseRow.holds Try.pinned (OpenSpec.ofChange fnExactReportParseSpec)

/-- ITS FALSE NEIGHBOUR: 'it returns false'. Refute it at one input. -/
def fnExactReportParseWrong : ChangeSpec := { name := "fnExactReportParse", fn := fun _ => fun
  | [d] => { results := [.lit (.bool false)], args := [d] }
  | _ => none }
def FnExactReportParseWrongFalsely : Prop := fnExactReportParseRow.holds Try.pinned (OpenSpec.ofChange fnExactReportParseWrong)

/-- 'laws.FnExactKindLimits': WHATEVER THE INPUT: true; the input reads as it did. -/
def fnExactKindLimitsSpec : ChangeSpec := { name := "fnExactKindLimits", fn := fun _ => fun
  | [d] => { results := [.lit (.bool true)], args := [d] }
  | _ => none }
def fnExactKindLimitsRow : OpenClaim := { program := "ytpejamnecamecaa", sum := "3ce5d993c4c8286512719dcf007422491e465db289409086b85a40a21f042b65", func := "loop.example/weatherarchive/laws.FnExactKindLimits", spec := "fnExactKindLimits", apart := false }
def FnExactKindLimitsSaid : Prop := fnExactKindLimitsRow.holds Try.pinned (OpenSpec.ofChange fnExactKindLimitsSpec)

/-- ITS FALSE NEIGHBOUR: 'it returns false'. Refute it at one input. -/
def fnExactKindLimitsWrong : ChangeSpec := { name := "fnExactKindLimits", fn := fun _ => fun
  | [d] => { results := [.lit (.bool false)], args := [d] }
  | _ => none }
def FnExactKindLimitsWrongFalsely : Prop := fnExactKindLimitsRow.holds Try.pinned (OpenSpec.ofChange fnExactKindLimitsWrong)

/- THE SECOND FORM. 'bulk': how many values and letters a reading holds, each counted each time it is reached (what is shared counts as often as it is met; a slice's spare places count too). A statement '..UptoSaid' is the law's where the arguments, and the package variables that the reading takes, are together of bulk at most 1048576: NARROWER than '..Said'. Prove '..Said' where nothing that the law and all that it calls make is longer than what came in: it says more and counts as full. Else prove '..UptoSaid'. A law counts once. -/
mutual
def uptoBulk {H : Type} : DataW H → Nat
  | .lit (.string bytes) => bytes.length + 1
  | .lit _ => 1
  | .nil => 1
  | .ptr d => uptoBulk d + 1
  | .slice elems spare => uptoBulkAll elems + uptoBulkAll spare + 1
  | .agg parts => uptoBulkAll parts + 1
  | .iface _ d => uptoBulk d + 1
  | .map entries => uptoBulkEntries entries + 1
  | .held _ => 1
def uptoBulkAll {H : Type} : List (DataW H) → Nat
  | [] => 0
  | d :: r => uptoBulk d + uptoBulkAll r
def uptoBulkEntries {H : Type} : List (Lit × DataW H) → Nat
  | [] => 0
  | x :: r => uptoBulkEntry x + uptoBulkEntries r
def uptoBulkEntry {H : Type} : Lit × DataW H → Nat
  | (.string bytes, d) => bytes.length + uptoBulk d + 1
  | (_, d) => uptoBulk d + 1
 end
def uptoSmall : (H : Type) → List (DataW H) → Bool := fun _ ds => decide (uptoBulkAll ds ≤ 1048576)
def OpenSpec.upto (s : _root_.Go.ChangeSpec) : _root_.Go.OpenSpec := { _root_.Go.OpenSpec.ofChange s with cond := some uptoSmall }

/-- 'laws.FnReportParseBad', WHERE WHAT IT READS IS OF BULK AT MOST 1048576: true; the input reads as it did. -/
def fnReportParseBadUptoRow : OpenClaim := { program := "ytpejamnecamecaa", sum := "3ce5d993c4c8286512719dcf007422491e465db289409086b85a40a21f042b65", func := "loop.example/weatherarchive/laws.FnReportParseBad", spec := "fnReportParseBad", inPlace := ["internal/bytealg.IndexByteString"], recurses := true, apart := false, narrowed := true }
def FnReportParseBadUptoSaid : Prop := fnReportParseBadUptoRow.holds Try.pinned (OpenSpec.upto fnReportParseBadSpec)

/-- 'laws.FnReportLimits', WHERE WHAT IT READS IS OF BULK AT MOST 1048576: true; the input reads as it did. -/
def fnReportLimitsUptoRow : OpenClaim := { program := "ytpejamnecamecaa", sum := "3ce5d993c4c8286512719dcf007422491e465db289409086b85a40a21f042b65", func := "loop.example/weatherarchive/laws.FnReportLimits", spec := "fnReportLimits", apart := false, narrowed := true }
def FnReportLimitsUptoSaid : Prop := fnReportLimitsUptoRow.holds Try.pinned (OpenSpec.upto fnReportLimitsSpec)

/-- 'laws.FnKindLimits', WHERE WHAT IT READS IS OF BULK AT MOST 1048576: true; the input reads as it did. -/
def fnKindLimitsUptoRow : OpenClaim := { program := "ytpejamnecamecaa", sum := "3ce5d993c4c8286512719dcf007422491e465db289409086b85a40a21f042b65", func := "loop.example/weatherarchive/laws.FnKindLimits", spec := "fnKindLimits", apart := false, narrowed := true }
def FnKindLimitsUptoSaid : Prop := fnKindLimitsUptoRow.holds Try.pinned (OpenSpec.upto fnKindLimitsSpec)

/-- 'laws.FnExactReportValid', WHERE WHAT IT READS IS OF BULK AT MOST 1048576: true; the input reads as it did. -/
def fnExactReportValidUptoRow : OpenClaim := { program := "ytpejamnecamecaa", sum := "3ce5d993c4c8286512719dcf007422491e465db289409086b85a40a21f042b65", func := "loop.example/weatherarchive/laws.FnExactReportValid", spec := "fnExactReportValid", apart := false, narrowed := true }
def FnExactReportValidUptoSaid : Prop := fnExactReportValidUptoRow.holds Try.pinned (OpenSpec.upto fnExactReportValidSpec)

/-- 'laws.FnExactReportParse', WHERE WHAT IT READS IS OF BULK AT MOST 1048576: true; the input reads as it did. -/
def fnExactReportParseUptoRow : OpenClaim := { program := "ytpejamnecamecaa", sum := "3ce5d993c4c8286512719dcf007422491e465db289409086b85a40a21f042b65", func := "loop.example/weatherarchive/laws.FnExactReportParse", spec := "fnExactReportParse", inPlace := ["internal/bytealg.IndexByteString"], apart := false, narrowed := true }
def FnExactReportParseUptoSaid : Prop := fnExactReportParseUptoRow.holds Try.pinned (OpenSpec.upto fnExactReportParseSpec)

/-- 'laws.FnExactKindLimits', WHERE WHAT IT READS IS OF BULK AT MOST 1048576: true; the input reads as it did. -/
def fnExactKindLimitsUptoRow : OpenClaim := { program := "ytpejamnecamecaa", sum := "3ce5d993c4c8286512719dcf007422491e465db289409086b85a40a21f042b65", func := "loop.example/weatherarchive/laws.FnExactKindLimits", spec := "fnExactKindLimits", apart := false, narrowed := true }
def FnExactKindLimitsUptoSaid : Prop := fnExactKindLimitsUptoRow.holds Try.pinned (OpenSpec.upto fnExactKindLimitsSpec)

end Rows
end Go.Proofs.Ytpejamnecamecaa
