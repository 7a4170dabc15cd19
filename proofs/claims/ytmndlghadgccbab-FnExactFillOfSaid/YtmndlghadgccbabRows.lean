/-
  No cell of these rows narrows 'for every input' (looked for: loops, veiled, ifaces, maps, wideKeys, modest, calm, conditions, laid).
  DERIVED. THE GIVEN ROWS OF THIS SEAT. 13 by the template 'for every input the law returns true; each argument reads behind the call as it read before'; 0 by the template 'total and deterministic' (their statements: YtmndlghadgccbabTotals.lean).
  GIVEN WITH THE SEED: the statements are not yours to turn. If you find one false, say at which input.
  Laid BY PROGRAM, IN A SANDBOX (cutbox-rows.mjs): the forced cells as the released guide's own fill.sh prints them over the translation 747a95bf3385ea8d… (all of the seat's roots in one cut). By AI agents, Wed Nov 11 2026. No macro, syntax, notation, axiom, sorry.
-/
import Derived.Test.YtmndlghadgccbabChecked
import GoSem.Claim
import GoSem.ClaimJoined
import GoSem.ClaimMapViews
import Derived.JoinedTies
import Derived.KernelRfl
namespace Go.Proofs.Ytmndlghadgccbab
/- THE CELL 'sum', in the pinned program and in every row, IS THE sha256 OF THE DUMP (.gsa) THAT YtmndlghadgccbabProg.lean LOADS. Nothing in Lean hashes anything: it is a label: what it is worth is what the hold of that sum in a sandbox is worth. -/
noncomputable def Try.pinned : Pinned := { name := "ytmndlghadgccbab", sum := "747a95bf3385ea8d442cb9d30e7925d5306379ccb2aeb1785251bbdf7498647a", checked := Try.checked }
namespace Rows
def none {H : Type} : Left H := { results := [], args := [] }

/-- 'laws.FnFill': WHATEVER THE INPUT: true; the input reads as it did. -/
def fnFillSpec : ChangeSpec := { name := "fnFill", fn := fun _ => fun
  | [d] => { results := [.lit (.bool true)], args := [d] }
  | _ => none }
def fnFillRow : OpenClaim := { program := "ytmndlghadgccbab", sum := "747a95bf3385ea8d442cb9d30e7925d5306379ccb2aeb1785251bbdf7498647a", func := "loop.example/weatherarchive/laws.FnFill", spec := "fnFill", recurses := true, apart := false }
def FnFillSaid : Prop := fnFillRow.holds Try.pinned (OpenSpec.ofChange fnFillSpec)

/-- ITS FALSE NEIGHBOUR: 'it returns false'. Refute it at one input. -/
def fnFillWrong : ChangeSpec := { name := "fnFill", fn := fun _ => fun
  | [d] => { results := [.lit (.bool false)], args := [d] }
  | _ => none }
def FnFillWrongFalsely : Prop := fnFillRow.holds Try.pinned (OpenSpec.ofChange fnFillWrong)

/-- 'laws.FnFillTight': WHATEVER THE INPUT: true; the input reads as it did. -/
def fnFillTightSpec : ChangeSpec := { name := "fnFillTight", fn := fun _ => fun
  | [d] => { results := [.lit (.bool true)], args := [d] }
  | _ => none }
def fnFillTightRow : OpenClaim := { program := "ytmndlghadgccbab", sum := "747a95bf3385ea8d442cb9d30e7925d5306379ccb2aeb1785251bbdf7498647a", func := "loop.example/weatherarchive/laws.FnFillTight", spec := "fnFillTight", recurses := true, apart := false }
def FnFillTightSaid : Prop := fnFillTightRow.holds Try.pinned (OpenSpec.ofChange fnFillTightSpec)

/-- ITS FALSE NEIGHBOUR: 'it returns false'. Refute it at one input. -/
def fnFillTightWrong : ChangeSpec := { name := "fnFillTight", fn := fun _ => fun
  | [d] => { results := [.lit (.bool false)], args := [d] }
  | _ => none }
def FnFillTightWrongFalsely : Prop := fnFillTightRow.holds Try.pinned (OpenSpec.ofChange fnFillTightWrong)

/-- 'laws.FnFillKnown': WHATEVER THE INPUT: true; the input reads as it did. -/
def fnFillKnownSpec : ChangeSpec := { name := "fnFillKnown", fn := fun _ => fun
  | [d] => { results := [.lit (.bool true)], args := [d] }
  | _ => none }
def fnFillKnownRow : OpenClaim := { program := "ytmndlghadgccbab", sum := "747a95bf3385ea8d442cb9d30e7925d5306379ccb2aeb1785251bbdf7498647a", func := "loop.example/weatherarchive/laws.FnFillKnown", spec := "fnFillKnown", recurses := true, apart := false }
def FnFillKnownSaid : Prop := fnFillKnownRow.holds Try.pinned (OpenSpec.ofChange fnFillKnownSpec)

/-- ITS FALSE NEIGHBOUR: 'it returns false'. Refute it at one input. -/
def fnFillKnownWrong : ChangeSpec := { name := "fnFillKnown", fn := fun _ => fun
  | [d] => { results := [.lit (.bool false)], args := [d] }
  | _ => none }
def FnFillKnownWrongFalsely : Prop := fnFillKnownRow.holds Try.pinned (OpenSpec.ofChange fnFillKnownWrong)

/-- 'laws.FnFillBack': WHATEVER THE INPUT: true; the input reads as it did. -/
def fnFillBackSpec : ChangeSpec := { name := "fnFillBack", fn := fun _ => fun
  | [d] => { results := [.lit (.bool true)], args := [d] }
  | _ => none }
def fnFillBackRow : OpenClaim := { program := "ytmndlghadgccbab", sum := "747a95bf3385ea8d442cb9d30e7925d5306379ccb2aeb1785251bbdf7498647a", func := "loop.example/weatherarchive/laws.FnFillBack", spec := "fnFillBack", recurses := true, apart := false }
def FnFillBackSaid : Prop := fnFillBackRow.holds Try.pinned (OpenSpec.ofChange fnFillBackSpec)

/-- ITS FALSE NEIGHBOUR: 'it returns false'. Refute it at one input. -/
def fnFillBackWrong : ChangeSpec := { name := "fnFillBack", fn := fun _ => fun
  | [d] => { results := [.lit (.bool false)], args := [d] }
  | _ => none }
def FnFillBackWrongFalsely : Prop := fnFillBackRow.holds Try.pinned (OpenSpec.ofChange fnFillBackWrong)

/-- 'laws.FnFillMore': WHATEVER THE INPUT: true; the input reads as it did. -/
def fnFillMoreSpec : ChangeSpec := { name := "fnFillMore", fn := fun _ => fun
  | [d1, d2] => { results := [.lit (.bool true)], args := [d1, d2] }
  | _ => none }
def fnFillMoreRow : OpenClaim := { program := "ytmndlghadgccbab", sum := "747a95bf3385ea8d442cb9d30e7925d5306379ccb2aeb1785251bbdf7498647a", func := "loop.example/weatherarchive/laws.FnFillMore", spec := "fnFillMore", recurses := true, apart := false }
def FnFillMoreSaid : Prop := fnFillMoreRow.holds Try.pinned (OpenSpec.ofChange fnFillMoreSpec)

/-- ITS FALSE NEIGHBOUR: 'it returns false'. Refute it at one input. -/
def fnFillMoreWrong : ChangeSpec := { name := "fnFillMore", fn := fun _ => fun
  | [d1, d2] => { results := [.lit (.bool false)], args := [d1, d2] }
  | _ => none }
def FnFillMoreWrongFalsely : Prop := fnFillMoreRow.holds Try.pinned (OpenSpec.ofChange fnFillMoreWrong)

/-- 'laws.FnFillStep': WHATEVER THE INPUT: true; the input reads as it did. -/
def fnFillStepSpec : ChangeSpec := { name := "fnFillStep", fn := fun _ => fun
  | [d] => { results := [.lit (.bool true)], args := [d] }
  | _ => none }
def fnFillStepRow : OpenClaim := { program := "ytmndlghadgccbab", sum := "747a95bf3385ea8d442cb9d30e7925d5306379ccb2aeb1785251bbdf7498647a", func := "loop.example/weatherarchive/laws.FnFillStep", spec := "fnFillStep", recurses := true, apart := false }
def FnFillStepSaid : Prop := fnFillStepRow.holds Try.pinned (OpenSpec.ofChange fnFillStepSpec)

/-- ITS FALSE NEIGHBOUR: 'it returns false'. Refute it at one input. -/
def fnFillStepWrong : ChangeSpec := { name := "fnFillStep", fn := fun _ => fun
  | [d] => { results := [.lit (.bool false)], args := [d] }
  | _ => none }
def FnFillStepWrongFalsely : Prop := fnFillStepRow.holds Try.pinned (OpenSpec.ofChange fnFillStepWrong)

/-- 'laws.FnFillFits': WHATEVER THE INPUT: true; the input reads as it did. -/
def fnFillFitsSpec : ChangeSpec := { name := "fnFillFits", fn := fun _ => fun
  | [d] => { results := [.lit (.bool true)], args := [d] }
  | _ => none }
def fnFillFitsRow : OpenClaim := { program := "ytmndlghadgccbab", sum := "747a95bf3385ea8d442cb9d30e7925d5306379ccb2aeb1785251bbdf7498647a", func := "loop.example/weatherarchive/laws.FnFillFits", spec := "fnFillFits", recurses := true, apart := false }
def FnFillFitsSaid : Prop := fnFillFitsRow.holds Try.pinned (OpenSpec.ofChange fnFillFitsSpec)

/-- ITS FALSE NEIGHBOUR: 'it returns false'. Refute it at one input. -/
def fnFillFitsWrong : ChangeSpec := { name := "fnFillFits", fn := fun _ => fun
  | [d] => { results := [.lit (.bool false)], args := [d] }
  | _ => none }
def FnFillFitsWrongFalsely : Prop := fnFillFitsRow.holds Try.pinned (OpenSpec.ofChange fnFillFitsWrong)

/-- 'laws.FnFillWidth': WHATEVER THE INPUT: true; the input reads as it did. -/
def fnFillWidthSpec : ChangeSpec := { name := "fnFillWidth", fn := fun _ => fun
  | [d] => { results := [.lit (.bool true)], args := [d] }
  | _ => none }
def fnFillWidthRow : OpenClaim := { program := "ytmndlghadgccbab", sum := "747a95bf3385ea8d442cb9d30e7925d5306379ccb2aeb1785251bbdf7498647a", func := "loop.example/weatherarchive/laws.FnFillWidth", spec := "fnFillWidth", apart := false }
def FnFillWidthSaid : Prop := fnFillWidthRow.holds Try.pinned (OpenSpec.ofChange fnFillWidthSpec)

/-- ITS FALSE NEIGHBOUR: 'it returns false'. Refute it at one input. -/
def fnFillWidthWrong : ChangeSpec := { name := "fnFillWidth", fn := fun _ => fun
  | [d] => { results := [.lit (.bool false)], args := [d] }
  | _ => none }
def FnFillWidthWrongFalsely : Prop := fnFillWidthRow.holds Try.pinned (OpenSpec.ofChange fnFillWidthWrong)

/-- 'laws.FnExactFillOf': WHATEVER THE INPUT: true; the input reads as it did. -/
def fnExactFillOfSpec : ChangeSpec := { name := "fnExactFillOf", fn := fun _ => fun
  | [d1, d2, d3, d4] => { results := [.lit (.bool true)], args := [d1, d2, d3, d4] }
  | _ => none }
def fnExactFillOfRow : OpenClaim := { program := "ytmndlghadgccbab", sum := "747a95bf3385ea8d442cb9d30e7925d5306379ccb2aeb1785251bbdf7498647a", func := "loop.example/weatherarchive/laws.FnExactFillOf", spec := "fnExactFillOf", recurses := true, apart := false }
def FnExactFillOfSaid : Prop := fnExactFillOfRow.holds Try.pinned (OpenSpec.ofChange fnExactFillOfSpec)

/-- ITS FALSE NEIGHBOUR: 'it returns false'. Refute it at one input. -/
def fnExactFillOfWrong : ChangeSpec := { name := "fnExactFillOf", fn := fun _ => fun
  | [d1, d2, d3, d4] => { results := [.lit (.bool false)], args := [d1, d2, d3, d4] }
  | _ => none }
def FnExactFillOfWrongFalsely : Prop := fnExactFillOfRow.holds Try.pinned (OpenSpec.ofChange fnExactFillOfWrong)

/-- 'laws.FnExactFillFits': WHATEVER THE INPUT: true; the input reads as it did. -/
def fnExactFillFitsSpec : ChangeSpec := { name := "fnExactFillFits", fn := fun _ => fun
  | [d1, d2, d3, d4, d5] => { results := [.lit (.bool true)], args := [d1, d2, d3, d4, d5] }
  | _ => none }
def fnExactFillFitsRow : OpenClaim := { program := "ytmndlghadgccbab", sum := "747a95bf3385ea8d442cb9d30e7925d5306379ccb2aeb1785251bbdf7498647a", func := "loop.example/weatherarchive/laws.FnExactFillFits", spec := "fnExactFillFits", apart := false }
def FnExactFillFitsSaid : Prop := fnExactFillFitsRow.holds Try.pinned (OpenSpec.ofChange fnExactFillFitsSpec)

/-- ITS FALSE NEIGHBOUR: 'it returns false'. Refute it at one input. -/
def fnExactFillFitsWrong : ChangeSpec := { name := "fnExactFillFits", fn := fun _ => fun
  | [d1, d2, d3, d4, d5] => { results := [.lit (.bool false)], args := [d1, d2, d3, d4, d5] }
  | _ => none }
def FnExactFillFitsWrongFalsely : Prop := fnExactFillFitsRow.holds Try.pinned (OpenSpec.ofChange fnExactFillFitsWrong)

/-- 'laws.FnExactFillWidth': WHATEVER THE INPUT: true; the input reads as it did. -/
def fnExactFillWidthSpec : ChangeSpec := { name := "fnExactFillWidth", fn := fun _ => fun
  | [d] => { results := [.lit (.bool true)], args := [d] }
  | _ => none }
def fnExactFillWidthRow : OpenClaim := { program := "ytmndlghadgccbab", sum := "747a95bf3385ea8d442cb9d30e7925d5306379ccb2aeb1785251bbdf7498647a", func := "loop.example/weatherarchive/laws.FnExactFillWidth", spec := "fnExactFillWidth", apart := false }
def FnExactFillWidthSaid : Prop := fnExactFillWidthRow.holds Try.pinned (OpenSpec.ofChange fnExactFillWidthSpec)

/-- ITS FALSE NEIGHBOUR: 'it returns false'. Refute it at one input. -/
def fnExactFillWidthWrong : ChangeSpec := { name := "fnExactFillWidth", fn := fun _ => fun
  | [d] => { results := [.lit (.bool false)], args := [d] }
  | _ => none }
def FnExactFillWidthWrongFalsely : Prop := fnExactFillWidthRow.holds Try.pinned (OpenSpec.ofChange fnExactFillWidthWrong)

/-- 'laws.FnExactAboveOf': WHATEVER THE INPUT: true; the input reads as it did. -/
def fnExactAboveOfSpec : ChangeSpec := { name := "fnExactAboveOf", fn := fun _ => fun
  | [d1, d2] => { results := [.lit (.bool true)], args := [d1, d2] }
  | _ => none }
def fnExactAboveOfRow : OpenClaim := { program := "ytmndlghadgccbab", sum := "747a95bf3385ea8d442cb9d30e7925d5306379ccb2aeb1785251bbdf7498647a", func := "loop.example/weatherarchive/laws.FnExactAboveOf", spec := "fnExactAboveOf", apart := false }
def FnExactAboveOfSaid : Prop := fnExactAboveOfRow.holds Try.pinned (OpenSpec.ofChange fnExactAboveOfSpec)

/-- ITS FALSE NEIGHBOUR: 'it returns false'. Refute it at one input. -/
def fnExactAboveOfWrong : ChangeSpec := { name := "fnExactAboveOf", fn := fun _ => fun
  | [d1, d2] => { results := [.lit (.bool false)], args := [d1, d2] }
  | _ => none }
def FnExactAboveOfWrongFalsely : Prop := fnExactAboveOfRow.holds Try.pinned (OpenSpec.ofChange fnExactAboveOfWrong)

/-- 'laws.FnExactSpellOf': WHATEVER THE INPUT: true; the input reads as it did. -/
def fnExactSpellOfSpec : ChangeSpec := { name := "fnExactSpellOf", fn := fun _ => fun
  | [d1, d2] => { results := [.lit (.bool true)], args := [d1, d2] }
  | _ => none }
def fnExactSpellOfRow : OpenClaim := { program := "ytmndlghadgccbab", sum := "747a95bf3385ea8d442cb9d30e7925d5306379ccb2aeb1785251bbdf7498647a", func := "loop.example/weatherarchive/laws.FnExactSpellOf", spec := "fnExactSpellOf", apart := false }
def FnExactSpellOfSaid : Prop := fnExactSpellOfRow.holds Try.pinned (OpenSpec.ofChange fnExactSpellOfSpec)

/-- ITS FALSE NEIGHBOUR: 'it returns false'. Refute it at one input. -/
def fnExactSpellOfWrong : ChangeSpec := { name := "fnExactSpellOf", fn := fun _ => fun
  | [d1, d2] => { results := [.lit (.bool false)], args := [d1, d2] }
  | _ => none }
def FnExactSpellOfWrongFalsely : Prop := fnExactSpellOfRow.holds Try.pinned (OpenSpec.ofChange fnExactSpellOfWrong)

/- THE SECOND FORM. 'bulk': how many values and letters a reading holds, each counted each time it is reached (what is shared counts as often as it is met; a slice's spare places count too). A statement '..UptoSaid' is the law's where the arguments, and the package variables that the reading takes, are together of bulk at most 1048576: NARROWER than '..Said'. Prove '..Said' where nothing that the law and all that it calls make is longer than what came in: it says more and counts as full. Else prove '..UptoSaid'. A law counts once. -/
mutual
def uptoBulk {H : Type} : DataW H → Nat
  | .lit (.string bytes) => bytes.length + 1
  | .lit _ => 1
  | .nil => 1
  | .ptr d => uptoBulk d + 1
  | .slice elems spare => uptoBulkAll elems + uptoBulkAll spare + 1
  | .agg parts => uptoBulkAll parts + 1
  | .iface _ d => uptoBulk d + 1
  | .map entries => uptoBulkEntries entries + 1
  | .held _ => 1
def uptoBulkAll {H : Type} : List (DataW H) → Nat
  | [] => 0
  | d :: r => uptoBulk d + uptoBulkAll r
def uptoBulkEntries {H : Type} : List (Lit × DataW H) → Nat
  | [] => 0
  | x :: r => uptoBulkEntry x + uptoBulkEntries r
def uptoBulkEntry {H : Type} : Lit × DataW H → Nat
  | (.string bytes, d) => bytes.length + uptoBulk d + 1
  | (_, d) => uptoBulk d + 1
 end
def uptoSmall : (H : Type) → List (DataW H) → Bool := fun _ ds => decide (uptoBulkAll ds ≤ 1048576)
def OpenSpec.upto (s : _root_.Go.ChangeSpec) : _root_.Go.OpenSpec := { _root_.Go.OpenSpec.ofChange s with cond := some uptoSmall }

/-- 'laws.FnFill', WHERE WHAT IT READS IS OF BULK AT MOST 1048576: true; the input reads as it did. -/
def fnFillUptoRow : OpenClaim := { program := "ytmndlghadgccbab", sum := "747a95bf3385ea8d442cb9d30e7925d5306379ccb2aeb1785251bbdf7498647a", func := "loop.example/weatherarchive/laws.FnFill", spec := "fnFill", recurses := true, apart := false, narrowed := true }
def FnFillUptoSaid : Prop := fnFillUptoRow.holds Try.pinned (OpenSpec.upto fnFillSpec)

/-- 'laws.FnFillTight', WHERE WHAT IT READS IS OF BULK AT MOST 1048576: true; the input reads as it did. -/
def fnFillTightUptoRow : OpenClaim := { program := "ytmndlghadgccbab", sum := "747a95bf3385ea8d442cb9d30e7925d5306379ccb2aeb1785251bbdf7498647a", func := "loop.example/weatherarchive/laws.FnFillTight", spec := "fnFillTight", recurses := true, apart := false, narrowed := true }
def FnFillTightUptoSaid : Prop := fnFillTightUptoRow.holds Try.pinned (OpenSpec.upto fnFillTightSpec)

/-- 'laws.FnFillKnown', WHERE WHAT IT READS IS OF BULK AT MOST 1048576: true; the input reads as it did. -/
def fnFillKnownUptoRow : OpenClaim := { program := "ytmndlghadgccbab", sum := "747a95bf3385ea8d442cb9d30e7925d5306379ccb2aeb1785251bbdf7498647a", func := "loop.example/weatherarchive/laws.FnFillKnown", spec := "fnFillKnown", recurses := true, apart := false, narrowed := true }
def FnFillKnownUptoSaid : Prop := fnFillKnownUptoRow.holds Try.pinned (OpenSpec.upto fnFillKnownSpec)

/-- 'laws.FnFillBack', WHERE WHAT IT READS IS OF BULK AT MOST 1048576: true; the input reads as it did. -/
def fnFillBackUptoRow : OpenClaim := { program := "ytmndlghadgccbab", sum := "747a95bf3385ea8d442cb9d30e7925d5306379ccb2aeb1785251bbdf7498647a", func := "loop.example/weatherarchive/laws.FnFillBack", spec := "fnFillBack", recurses := true, apart := false, narrowed := true }
def FnFillBackUptoSaid : Prop := fnFillBackUptoRow.holds Try.pinned (OpenSpec.upto fnFillBackSpec)

/-- 'laws.FnFillMore', WHERE WHAT IT READS IS OF BULK AT MOST 1048576: true; the input reads as it did. -/
def fnFillMoreUptoRow : OpenClaim := { program := "ytmndlghadgccbab", sum := "747a95bf3385ea8d442cb9d30e7925d5306379ccb2aeb1785251bbdf7498647a", func := "loop.example/weatherarchive/laws.FnFillMore", spec := "fnFillMore", recurses := true, apart := false, narrowed := true }
def FnFillMoreUptoSaid : Prop := fnFillMoreUptoRow.holds Try.pinned (OpenSpec.upto fnFillMoreSpec)

/-- 'laws.FnFillStep', WHERE WHAT IT READS IS OF BULK AT MOST 1048576: true; the input reads as it did. -/
def fnFillStepUptoRow : OpenClaim := { program := "ytmndlghadgccbab", sum := "747a95bf3385ea8d442cb9d30e7925d5306379ccb2aeb1785251bbdf7498647a", func := "loop.example/weatherarchive/laws.FnFillStep", spec := "fnFillStep", recurses := true, apart := false, narrowed := true }
def FnFillStepUptoSaid : Prop := fnFillStepUptoRow.holds Try.pinned (OpenSpec.upto fnFillStepSpec)

/-- 'laws.FnFillFits', WHERE WHAT IT READS IS OF BULK AT MOST 1048576: true; the input reads as it did. -/
def fnFillFitsUptoRow : OpenClaim := { program := "ytmndlghadgccbab", sum := "747a95bf3385ea8d442cb9d30e7925d5306379ccb2aeb1785251bbdf7498647a", func := "loop.example/weatherarchive/laws.FnFillFits", spec := "fnFillFits", recurses := true, apart := false, narrowed := true }
def FnFillFitsUptoSaid : Prop := fnFillFitsUptoRow.holds Try.pinned (OpenSpec.upto fnFillFitsSpec)

/-- 'laws.FnFillWidth', WHERE WHAT IT READS IS OF BULK AT MOST 1048576: true; the input reads as it did. -/
def fnFillWidthUptoRow : OpenClaim := { program := "ytmndlghadgccbab", sum := "747a95bf3385ea8d442cb9d30e7925d5306379ccb2aeb1785251bbdf7498647a", func := "loop.example/weatherarchive/laws.FnFillWidth", spec := "fnFillWidth", apart := false, narrowed := true }
def FnFillWidthUptoSaid : Prop := fnFillWidthUptoRow.holds Try.pinned (OpenSpec.upto fnFillWidthSpec)

/-- 'laws.FnExactFillOf', WHERE WHAT IT READS IS OF BULK AT MOST 1048576: true; the input reads as it did. -/
def fnExactFillOfUptoRow : OpenClaim := { program := "ytmndlghadgccbab", sum := "747a95bf3385ea8d442cb9d30e7925d5306379ccb2aeb1785251bbdf7498647a", func := "loop.example/weatherarchive/laws.FnExactFillOf", spec := "fnExactFillOf", recurses := true, apart := false, narrowed := true }
def FnExactFillOfUptoSaid : Prop := fnExactFillOfUptoRow.holds Try.pinned (OpenSpec.upto fnExactFillOfSpec)

/-- 'laws.FnExactFillFits', WHERE WHAT IT READS IS OF BULK AT MOST 1048576: true; the input reads as it did. -/
def fnExactFillFitsUptoRow : OpenClaim := { program := "ytmndlghadgccbab", sum := "747a95bf3385ea8d442cb9d30e7925d5306379ccb2aeb1785251bbdf7498647a", func := "loop.example/weatherarchive/laws.FnExactFillFits", spec := "fnExactFillFits", apart := false, narrowed := true }
def FnExactFillFitsUptoSaid : Prop := fnExactFillFitsUptoRow.holds Try.pinned (OpenSpec.upto fnExactFillFitsSpec)

/-- 'laws.FnExactFillWidth', WHERE WHAT IT READS IS OF BULK AT MOST 1048576: true; the input reads as it did. -/
def fnExactFillWidthUptoRow : OpenClaim := { program := "ytmndlghadgccbab", sum := "747a95bf3385ea8d442cb9d30e7925d5306379ccb2aeb1785251bbdf7498647a", func := "loop.example/weatherarchive/laws.FnExactFillWidth", spec := "fnExactFillWidth", apart := false, narrowed := true }
def FnExactFillWidthUptoSaid : Prop := fnExactFillWidthUptoRow.holds Try.pinned (OpenSpec.upto fnExactFillWidthSpec)

/-- 'laws.FnExactAboveOf', WHERE WHAT IT READS IS OF BULK AT MOST 1048576: true; the input reads as it did. -/
def fnExactAboveOfUptoRow : OpenClaim := { program := "ytmndlghadgccbab", sum := "747a95bf3385ea8d442cb9d30e7925d5306379ccb2aeb1785251bbdf7498647a", func := "loop.example/weatherarchive/laws.FnExactAboveOf", spec := "fnExactAboveOf", apart := false, narrowed := true }
def FnExactAboveOfUptoSaid : Prop := fnExactAboveOfUptoRow.holds Try.pinned (OpenSpec.upto fnExactAboveOfSpec)

/-- 'laws.FnExactSpellOf', WHERE WHAT IT READS IS OF BULK AT MOST 1048576: true; the input reads as it did. -/
def fnExactSpellOfUptoRow : OpenClaim := { program := "ytmndlghadgccbab", sum := "747a95bf3385ea8d442cb9d30e7925d5306379ccb2aeb1785251bbdf7498647a", func := "loop.example/weatherarchive/laws.FnExactSpellOf", spec := "fnExactSpellOf", apart := false, narrowed := true }
def FnExactSpellOfUptoSaid : Prop := fnExactSpellOfUptoRow.holds Try.pinned (OpenSpec.upto fnExactSpellOfSpec)

end Rows
end Go.Proofs.Ytmndlghadgccbab
