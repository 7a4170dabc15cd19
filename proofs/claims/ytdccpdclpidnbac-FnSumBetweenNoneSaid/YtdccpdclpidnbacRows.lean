/-
  No cell of these rows narrows 'for every input' (looked for: loops, veiled, ifaces, maps, wideKeys, modest, calm, conditions, laid).
  DERIVED. THE GIVEN ROWS OF THIS SEAT. 13 by the template 'for every input the law returns true; each argument reads behind the call as it read before'; 0 by the template 'total and deterministic' (their statements: YtdccpdclpidnbacTotals.lean).
  GIVEN WITH THE SEED: the statements are not yours to turn. If you find one false, say at which input.
  Laid BY PROGRAM, IN A SANDBOX (cutbox-rows.mjs): the forced cells as the released guide's own fill.sh prints them over the translation 099779e3e00bf59b… (all of the seat's roots in one cut). By AI agents, Wed Nov 11 2026. No macro, syntax, notation, axiom, sorry.
-/
import Derived.Test.YtdccpdclpidnbacChecked
import GoSem.Claim
import GoSem.ClaimJoined
import GoSem.ClaimMapViews
import Derived.JoinedTies
import Derived.KernelRfl
namespace Go.Proofs.Ytdccpdclpidnbac
/- THE CELL 'sum', in the pinned program and in every row, IS THE sha256 OF THE DUMP (.gsa) THAT YtdccpdclpidnbacProg.lean LOADS. Nothing in Lean hashes anything: it is a label: what it is worth is what the hold of that sum in a sandbox is worth. -/
noncomputable def Try.pinned : Pinned := { name := "ytdccpdclpidnbac", sum := "099779e3e00bf59b5674ac105d16d70689bc12eb6461f43f9a2d1cc3f151d3c6", checked := Try.checked }
namespace Rows
def none {H : Type} : Left H := { results := [], args := [] }

/-- 'laws.FnPairs': WHATEVER THE INPUT: true; the input reads as it did. -/
def fnPairsSpec : ChangeSpec := { name := "fnPairs", fn := fun _ => fun
  | [d] => { results := [.lit (.bool true)], args := [d] }
  | _ => none }
def fnPairsRow : OpenClaim := { program := "ytdccpdclpidnbac", sum := "099779e3e00bf59b5674ac105d16d70689bc12eb6461f43f9a2d1cc3f151d3c6", func := "loop.example/weatherarchive/laws.FnPairs", spec := "fnPairs", inPlace := ["slices.overlaps[int]"], unfollowed := true, recurses := true, apart := false }
def FnPairsSaid : Prop := fnPairsRow.holds Try.pinned (OpenSpec.ofChange fnPairsSpec)

/-- ITS FALSE NEIGHBOUR: 'it returns false'. Refute it at one input. -/
def fnPairsWrong : ChangeSpec := { name := "fnPairs", fn := fun _ => fun
  | [d] => { results := [.lit (.bool false)], args := [d] }
  | _ => none }
def FnPairsWrongFalsely : Prop := fnPairsRow.holds Try.pinned (OpenSpec.ofChange fnPairsWrong)

/-- 'laws.FnPairsBack': WHATEVER THE INPUT: true; the input reads as it did. -/
def fnPairsBackSpec : ChangeSpec := { name := "fnPairsBack", fn := fun _ => fun
  | [d] => { results := [.lit (.bool true)], args := [d] }
  | _ => none }
def fnPairsBackRow : OpenClaim := { program := "ytdccpdclpidnbac", sum := "099779e3e00bf59b5674ac105d16d70689bc12eb6461f43f9a2d1cc3f151d3c6", func := "loop.example/weatherarchive/laws.FnPairsBack", spec := "fnPairsBack", inPlace := ["slices.overlaps[int]"], unfollowed := true, recurses := true, apart := false }
def FnPairsBackSaid : Prop := fnPairsBackRow.holds Try.pinned (OpenSpec.ofChange fnPairsBackSpec)

/-- ITS FALSE NEIGHBOUR: 'it returns false'. Refute it at one input. -/
def fnPairsBackWrong : ChangeSpec := { name := "fnPairsBack", fn := fun _ => fun
  | [d] => { results := [.lit (.bool false)], args := [d] }
  | _ => none }
def FnPairsBackWrongFalsely : Prop := fnPairsBackRow.holds Try.pinned (OpenSpec.ofChange fnPairsBackWrong)

/-- 'laws.FnTrend': WHATEVER THE INPUT: true; the input reads as it did. -/
def fnTrendSpec : ChangeSpec := { name := "fnTrend", fn := fun _ => fun
  | [d] => { results := [.lit (.bool true)], args := [d] }
  | _ => none }
def fnTrendRow : OpenClaim := { program := "ytdccpdclpidnbac", sum := "099779e3e00bf59b5674ac105d16d70689bc12eb6461f43f9a2d1cc3f151d3c6", func := "loop.example/weatherarchive/laws.FnTrend", spec := "fnTrend", unfollowed := true, recurses := true, apart := false }
def FnTrendSaid : Prop := fnTrendRow.holds Try.pinned (OpenSpec.ofChange fnTrendSpec)

/-- ITS FALSE NEIGHBOUR: 'it returns false'. Refute it at one input. -/
def fnTrendWrong : ChangeSpec := { name := "fnTrend", fn := fun _ => fun
  | [d] => { results := [.lit (.bool false)], args := [d] }
  | _ => none }
def FnTrendWrongFalsely : Prop := fnTrendRow.holds Try.pinned (OpenSpec.ofChange fnTrendWrong)

/-- 'laws.FnTrendLine': WHATEVER THE INPUT: true; the input reads as it did. -/
def fnTrendLineSpec : ChangeSpec := { name := "fnTrendLine", fn := fun _ => fun
  | [d] => { results := [.lit (.bool true)], args := [d] }
  | _ => none }
def fnTrendLineRow : OpenClaim := { program := "ytdccpdclpidnbac", sum := "099779e3e00bf59b5674ac105d16d70689bc12eb6461f43f9a2d1cc3f151d3c6", func := "loop.example/weatherarchive/laws.FnTrendLine", spec := "fnTrendLine", unfollowed := true, recurses := true, apart := false }
def FnTrendLineSaid : Prop := fnTrendLineRow.holds Try.pinned (OpenSpec.ofChange fnTrendLineSpec)

/-- ITS FALSE NEIGHBOUR: 'it returns false'. Refute it at one input. -/
def fnTrendLineWrong : ChangeSpec := { name := "fnTrendLine", fn := fun _ => fun
  | [d] => { results := [.lit (.bool false)], args := [d] }
  | _ => none }
def FnTrendLineWrongFalsely : Prop := fnTrendLineRow.holds Try.pinned (OpenSpec.ofChange fnTrendLineWrong)

/-- 'laws.FnExactPairsOf': WHATEVER THE INPUT: true; the input reads as it did. -/
def fnExactPairsOfSpec : ChangeSpec := { name := "fnExactPairsOf", fn := fun _ => fun
  | [d] => { results := [.lit (.bool true)], args := [d] }
  | _ => none }
def fnExactPairsOfRow : OpenClaim := { program := "ytdccpdclpidnbac", sum := "099779e3e00bf59b5674ac105d16d70689bc12eb6461f43f9a2d1cc3f151d3c6", func := "loop.example/weatherarchive/laws.FnExactPairsOf", spec := "fnExactPairsOf", unfollowed := true, recurses := true, apart := false }
def FnExactPairsOfSaid : Prop := fnExactPairsOfRow.holds Try.pinned (OpenSpec.ofChange fnExactPairsOfSpec)

/-- ITS FALSE NEIGHBOUR: 'it returns false'. Refute it at one input. -/
def fnExactPairsOfWrong : ChangeSpec := { name := "fnExactPairsOf", fn := fun _ => fun
  | [d] => { results := [.lit (.bool false)], args := [d] }
  | _ => none }
def FnExactPairsOfWrongFalsely : Prop := fnExactPairsOfRow.holds Try.pinned (OpenSpec.ofChange fnExactPairsOfWrong)

/-- 'laws.FnExactTrendOf': WHATEVER THE INPUT: true; the input reads as it did. -/
def fnExactTrendOfSpec : ChangeSpec := { name := "fnExactTrendOf", fn := fun _ => fun
  | [d] => { results := [.lit (.bool true)], args := [d] }
  | _ => none }
def fnExactTrendOfRow : OpenClaim := { program := "ytdccpdclpidnbac", sum := "099779e3e00bf59b5674ac105d16d70689bc12eb6461f43f9a2d1cc3f151d3c6", func := "loop.example/weatherarchive/laws.FnExactTrendOf", spec := "fnExactTrendOf", unfollowed := true, recurses := true, apart := false }
def FnExactTrendOfSaid : Prop := fnExactTrendOfRow.holds Try.pinned (OpenSpec.ofChange fnExactTrendOfSpec)

/-- ITS FALSE NEIGHBOUR: 'it returns false'. Refute it at one input. -/
def fnExactTrendOfWrong : ChangeSpec := { name := "fnExactTrendOf", fn := fun _ => fun
  | [d] => { results := [.lit (.bool false)], args := [d] }
  | _ => none }
def FnExactTrendOfWrongFalsely : Prop := fnExactTrendOfRow.holds Try.pinned (OpenSpec.ofChange fnExactTrendOfWrong)

/-- 'laws.FnSums': WHATEVER THE INPUT: true; the input reads as it did. -/
def fnSumsSpec : ChangeSpec := { name := "fnSums", fn := fun _ => fun
  | [d] => { results := [.lit (.bool true)], args := [d] }
  | _ => none }
def fnSumsRow : OpenClaim := { program := "ytdccpdclpidnbac", sum := "099779e3e00bf59b5674ac105d16d70689bc12eb6461f43f9a2d1cc3f151d3c6", func := "loop.example/weatherarchive/laws.FnSums", spec := "fnSums", apart := false }
def FnSumsSaid : Prop := fnSumsRow.holds Try.pinned (OpenSpec.ofChange fnSumsSpec)

/-- ITS FALSE NEIGHBOUR: 'it returns false'. Refute it at one input. -/
def fnSumsWrong : ChangeSpec := { name := "fnSums", fn := fun _ => fun
  | [d] => { results := [.lit (.bool false)], args := [d] }
  | _ => none }
def FnSumsWrongFalsely : Prop := fnSumsRow.holds Try.pinned (OpenSpec.ofChange fnSumsWrong)

/-- 'laws.FnSumsLast': WHATEVER THE INPUT: true; the input reads as it did. -/
def fnSumsLastSpec : ChangeSpec := { name := "fnSumsLast", fn := fun _ => fun
  | [d] => { results := [.lit (.bool true)], args := [d] }
  | _ => none }
def fnSumsLastRow : OpenClaim := { program := "ytdccpdclpidnbac", sum := "099779e3e00bf59b5674ac105d16d70689bc12eb6461f43f9a2d1cc3f151d3c6", func := "loop.example/weatherarchive/laws.FnSumsLast", spec := "fnSumsLast", apart := false }
def FnSumsLastSaid : Prop := fnSumsLastRow.holds Try.pinned (OpenSpec.ofChange fnSumsLastSpec)

/-- ITS FALSE NEIGHBOUR: 'it returns false'. Refute it at one input. -/
def fnSumsLastWrong : ChangeSpec := { name := "fnSumsLast", fn := fun _ => fun
  | [d] => { results := [.lit (.bool false)], args := [d] }
  | _ => none }
def FnSumsLastWrongFalsely : Prop := fnSumsLastRow.holds Try.pinned (OpenSpec.ofChange fnSumsLastWrong)

/-- 'laws.FnSumBetween': WHATEVER THE INPUT: true; the input reads as it did. -/
def fnSumBetweenSpec : ChangeSpec := { name := "fnSumBetween", fn := fun _ => fun
  | [d1, d2] => { results := [.lit (.bool true)], args := [d1, d2] }
  | _ => none }
def fnSumBetweenRow : OpenClaim := { program := "ytdccpdclpidnbac", sum := "099779e3e00bf59b5674ac105d16d70689bc12eb6461f43f9a2d1cc3f151d3c6", func := "loop.example/weatherarchive/laws.FnSumBetween", spec := "fnSumBetween", apart := false }
def FnSumBetweenSaid : Prop := fnSumBetweenRow.holds Try.pinned (OpenSpec.ofChange fnSumBetweenSpec)

/-- ITS FALSE NEIGHBOUR: 'it returns false'. Refute it at one input. -/
def fnSumBetweenWrong : ChangeSpec := { name := "fnSumBetween", fn := fun _ => fun
  | [d1, d2] => { results := [.lit (.bool false)], args := [d1, d2] }
  | _ => none }
def FnSumBetweenWrongFalsely : Prop := fnSumBetweenRow.holds Try.pinned (OpenSpec.ofChange fnSumBetweenWrong)

/-- 'laws.FnSumBetweenDays': WHATEVER THE INPUT: true; the input reads as it did. -/
def fnSumBetweenDaysSpec : ChangeSpec := { name := "fnSumBetweenDays", fn := fun _ => fun
  | [d1, d2] => { results := [.lit (.bool true)], args := [d1, d2] }
  | _ => none }
def fnSumBetweenDaysRow : OpenClaim := { program := "ytdccpdclpidnbac", sum := "099779e3e00bf59b5674ac105d16d70689bc12eb6461f43f9a2d1cc3f151d3c6", func := "loop.example/weatherarchive/laws.FnSumBetweenDays", spec := "fnSumBetweenDays", apart := false }
def FnSumBetweenDaysSaid : Prop := fnSumBetweenDaysRow.holds Try.pinned (OpenSpec.ofChange fnSumBetweenDaysSpec)

/-- ITS FALSE NEIGHBOUR: 'it returns false'. Refute it at one input. -/
def fnSumBetweenDaysWrong : ChangeSpec := { name := "fnSumBetweenDays", fn := fun _ => fun
  | [d1, d2] => { results := [.lit (.bool false)], args := [d1, d2] }
  | _ => none }
def FnSumBetweenDaysWrongFalsely : Prop := fnSumBetweenDaysRow.holds Try.pinned (OpenSpec.ofChange fnSumBetweenDaysWrong)

/-- 'laws.FnSumBetweenNone': WHATEVER THE INPUT: true; the input reads as it did. -/
def fnSumBetweenNoneSpec : ChangeSpec := { name := "fnSumBetweenNone", fn := fun _ => fun
  | [d] => { results := [.lit (.bool true)], args := [d] }
  | _ => none }
def fnSumBetweenNoneRow : OpenClaim := { program := "ytdccpdclpidnbac", sum := "099779e3e00bf59b5674ac105d16d70689bc12eb6461f43f9a2d1cc3f151d3c6", func := "loop.example/weatherarchive/laws.FnSumBetweenNone", spec := "fnSumBetweenNone", apart := false }
def FnSumBetweenNoneSaid : Prop := fnSumBetweenNoneRow.holds Try.pinned (OpenSpec.ofChange fnSumBetweenNoneSpec)

/-- ITS FALSE NEIGHBOUR: 'it returns false'. Refute it at one input. -/
def fnSumBetweenNoneWrong : ChangeSpec := { name := "fnSumBetweenNone", fn := fun _ => fun
  | [d] => { results := [.lit (.bool false)], args := [d] }
  | _ => none }
def FnSumBetweenNoneWrongFalsely : Prop := fnSumBetweenNoneRow.holds Try.pinned (OpenSpec.ofChange fnSumBetweenNoneWrong)

/-- 'laws.FnExactSumsOf': WHATEVER THE INPUT: true; the input reads as it did. -/
def fnExactSumsOfSpec : ChangeSpec := { name := "fnExactSumsOf", fn := fun _ => fun
  | [d] => { results := [.lit (.bool true)], args := [d] }
  | _ => none }
def fnExactSumsOfRow : OpenClaim := { program := "ytdccpdclpidnbac", sum := "099779e3e00bf59b5674ac105d16d70689bc12eb6461f43f9a2d1cc3f151d3c6", func := "loop.example/weatherarchive/laws.FnExactSumsOf", spec := "fnExactSumsOf", apart := false }
def FnExactSumsOfSaid : Prop := fnExactSumsOfRow.holds Try.pinned (OpenSpec.ofChange fnExactSumsOfSpec)

/-- ITS FALSE NEIGHBOUR: 'it returns false'. Refute it at one input. -/
def fnExactSumsOfWrong : ChangeSpec := { name := "fnExactSumsOf", fn := fun _ => fun
  | [d] => { results := [.lit (.bool false)], args := [d] }
  | _ => none }
def FnExactSumsOfWrongFalsely : Prop := fnExactSumsOfRow.holds Try.pinned (OpenSpec.ofChange fnExactSumsOfWrong)

/-- 'laws.FnExactSumBetween': WHATEVER THE INPUT: true; the input reads as it did. -/
def fnExactSumBetweenSpec : ChangeSpec := { name := "fnExactSumBetween", fn := fun _ => fun
  | [d1, d2, d3] => { results := [.lit (.bool true)], args := [d1, d2, d3] }
  | _ => none }
def fnExactSumBetweenRow : OpenClaim := { program := "ytdccpdclpidnbac", sum := "099779e3e00bf59b5674ac105d16d70689bc12eb6461f43f9a2d1cc3f151d3c6", func := "loop.example/weatherarchive/laws.FnExactSumBetween", spec := "fnExactSumBetween", apart := false }
def FnExactSumBetweenSaid : Prop := fnExactSumBetweenRow.holds Try.pinned (OpenSpec.ofChange fnExactSumBetweenSpec)

/-- ITS FALSE NEIGHBOUR: 'it returns false'. Refute it at one input. -/
def fnExactSumBetweenWrong : ChangeSpec := { name := "fnExactSumBetween", fn := fun _ => fun
  | [d1, d2, d3] => { results := [.lit (.bool false)], args := [d1, d2, d3] }
  | _ => none }
def FnExactSumBetweenWrongFalsely : Prop := fnExactSumBetweenRow.holds Try.pinned (OpenSpec.ofChange fnExactSumBetweenWrong)

/- THE SECOND FORM. 'bulk': how many values and letters a reading holds, each counted each time it is reached (what is shared counts as often as it is met; a slice's spare places count too). A statement '..UptoSaid' is the law's where the arguments, and the package variables that the reading takes, are together of bulk at most 1048576: NARROWER than '..Said'. Prove '..Said' where nothing that the law and all that it calls make is longer than what came in: it says more and counts as full. Else prove '..UptoSaid'. A law counts once. -/
mutual
def uptoBulk {H : Type} : DataW H → Nat
  | .lit (.string bytes) => bytes.length + 1
  | .lit _ => 1
  | .nil => 1
  | .ptr d => uptoBulk d + 1
  | .slice elems spare => uptoBulkAll elems + uptoBulkAll spare + 1
  | .agg parts => uptoBulkAll parts + 1
  | .iface _ d => uptoBulk d + 1
  | .map entries => uptoBulkEntries entries + 1
  | .held _ => 1
def uptoBulkAll {H : Type} : List (DataW H) → Nat
  | [] => 0
  | d :: r => uptoBulk d + uptoBulkAll r
def uptoBulkEntries {H : Type} : List (Lit × DataW H) → Nat
  | [] => 0
  | x :: r => uptoBulkEntry x + uptoBulkEntries r
def uptoBulkEntry {H : Type} : Lit × DataW H → Nat
  | (.string bytes, d) => bytes.length + uptoBulk d + 1
  | (_, d) => uptoBulk d + 1
 end
def uptoSmall : (H : Type) → List (DataW H) → Bool := fun _ ds => decide (uptoBulkAll ds ≤ 1048576)
def OpenSpec.upto (s : _root_.Go.ChangeSpec) : _root_.Go.OpenSpec := { _root_.Go.OpenSpec.ofChange s with cond := some uptoSmall }

/-- 'laws.FnPairs', WHERE WHAT IT READS IS OF BULK AT MOST 1048576: true; the input reads as it did. -/
def fnPairsUptoRow : OpenClaim := { program := "ytdccpdclpidnbac", sum := "099779e3e00bf59b5674ac105d16d70689bc12eb6461f43f9a2d1cc3f151d3c6", func := "loop.example/weatherarchive/laws.FnPairs", spec := "fnPairs", inPlace := ["slices.overlaps[int]"], unfollowed := true, recurses := true, apart := false, narrowed := true }
def FnPairsUptoSaid : Prop := fnPairsUptoRow.holds Try.pinned (OpenSpec.upto fnPairsSpec)

/-- 'laws.FnPairsBack', WHERE WHAT IT READS IS OF BULK AT MOST 1048576: true; the input reads as it did. -/
def fnPairsBackUptoRow : OpenClaim := { program := "ytdccpdclpidnbac", sum := "099779e3e00bf59b5674ac105d16d70689bc12eb6461f43f9a2d1cc3f151d3c6", func := "loop.example/weatherarchive/laws.FnPairsBack", spec := "fnPairsBack", inPlace := ["slices.overlaps[int]"], unfollowed := true, recurses := true, apart := false, narrowed := true }
def FnPairsBackUptoSaid : Prop := fnPairsBackUptoRow.holds Try.pinned (OpenSpec.upto fnPairsBackSpec)

/-- 'laws.FnTrend', WHERE WHAT IT READS IS OF BULK AT MOST 1048576: true; the input reads as it did. -/
def fnTrendUptoRow : OpenClaim := { program := "ytdccpdclpidnbac", sum := "099779e3e00bf59b5674ac105d16d70689bc12eb6461f43f9a2d1cc3f151d3c6", func := "loop.example/weatherarchive/laws.FnTrend", spec := "fnTrend", unfollowed := true, recurses := true, apart := false, narrowed := true }
def FnTrendUptoSaid : Prop := fnTrendUptoRow.holds Try.pinned (OpenSpec.upto fnTrendSpec)

/-- 'laws.FnTrendLine', WHERE WHAT IT READS IS OF BULK AT MOST 1048576: true; the input reads as it did. -/
def fnTrendLineUptoRow : OpenClaim := { program := "ytdccpdclpidnbac", sum := "099779e3e00bf59b5674ac105d16d70689bc12eb6461f43f9a2d1cc3f151d3c6", func := "loop.example/weatherarchive/laws.FnTrendLine", spec := "fnTrendLine", unfollowed := true, recurses := true, apart := false, narrowed := true }
def FnTrendLineUptoSaid : Prop := fnTrendLineUptoRow.holds Try.pinned (OpenSpec.upto fnTrendLineSpec)

/-- 'laws.FnExactPairsOf', WHERE WHAT IT READS IS OF BULK AT MOST 1048576: true; the input reads as it did. -/
def fnExactPairsOfUptoRow : OpenClaim := { program := "ytdccpdclpidnbac", sum := "099779e3e00bf59b5674ac105d16d70689bc12eb6461f43f9a2d1cc3f151d3c6", func := "loop.example/weatherarchive/laws.FnExactPairsOf", spec := "fnExactPairsOf", unfollowed := true, recurses := true, apart := false, narrowed := true }
def FnExactPairsOfUptoSaid : Prop := fnExactPairsOfUptoRow.holds Try.pinned (OpenSpec.upto fnExactPairsOfSpec)

/-- 'laws.FnExactTrendOf', WHERE WHAT IT READS IS OF BULK AT MOST 1048576: true; the input reads as it did. -/
def fnExactTrendOfUptoRow : OpenClaim := { program := "ytdccpdclpidnbac", sum := "099779e3e00bf59b5674ac105d16d70689bc12eb6461f43f9a2d1cc3f151d3c6", func := "loop.example/weatherarchive/laws.FnExactTrendOf", spec := "fnExactTrendOf", unfollowed := true, recurses := true, apart := false, narrowed := true }
def FnExactTrendOfUptoSaid : Prop := fnExactTrendOfUptoRow.holds Try.pinned (OpenSpec.upto fnExactTrendOfSpec)

/-- 'laws.FnSums', WHERE WHAT IT READS IS OF BULK AT MOST 1048576: true; the input reads as it did. -/
def fnSumsUptoRow : OpenClaim := { program := "ytdccpdclpidnbac", sum := "099779e3e00bf59b5674ac105d16d70689bc12eb6461f43f9a2d1cc3f151d3c6", func := "loop.example/weatherarchive/laws.FnSums", spec := "fnSums", apart := false, narrowed := true }
def FnSumsUptoSaid : Prop := fnSumsUptoRow.holds Try.pinned (OpenSpec.upto fnSumsSpec)

/-- 'laws.FnSumsLast', WHERE WHAT IT READS IS OF BULK AT MOST 1048576: true; the input reads as it did. -/
def fnSumsLastUptoRow : OpenClaim := { program := "ytdccpdclpidnbac", sum := "099779e3e00bf59b5674ac105d16d70689bc12eb6461f43f9a2d1cc3f151d3c6", func := "loop.example/weatherarchive/laws.FnSumsLast", spec := "fnSumsLast", apart := false, narrowed := true }
def FnSumsLastUptoSaid : Prop := fnSumsLastUptoRow.holds Try.pinned (OpenSpec.upto fnSumsLastSpec)

/-- 'laws.FnSumBetween', WHERE WHAT IT READS IS OF BULK AT MOST 1048576: true; the input reads as it did. -/
def fnSumBetweenUptoRow : OpenClaim := { program := "ytdccpdclpidnbac", sum := "099779e3e00bf59b5674ac105d16d70689bc12eb6461f43f9a2d1cc3f151d3c6", func := "loop.example/weatherarchive/laws.FnSumBetween", spec := "fnSumBetween", apart := false, narrowed := true }
def FnSumBetweenUptoSaid : Prop := fnSumBetweenUptoRow.holds Try.pinned (OpenSpec.upto fnSumBetweenSpec)

/-- 'laws.FnSumBetweenDays', WHERE WHAT IT READS IS OF BULK AT MOST 1048576: true; the input reads as it did. -/
def fnSumBetweenDaysUptoRow : OpenClaim := { program := "ytdccpdclpidnbac", sum := "099779e3e00bf59b5674ac105d16d70689bc12eb6461f43f9a2d1cc3f151d3c6", func := "loop.example/weatherarchive/laws.FnSumBetweenDays", spec := "fnSumBetweenDays", apart := false, narrowed := true }
def FnSumBetweenDaysUptoSaid : Prop := fnSumBetweenDaysUptoRow.holds Try.pinned (OpenSpec.upto fnSumBetweenDaysSpec)

/-- 'laws.FnSumBetweenNone', WHERE WHAT IT READS IS OF BULK AT MOST 1048576: true; the input reads as it did. -/
def fnSumBetweenNoneUptoRow : OpenClaim := { program := "ytdccpdclpidnbac", sum := "099779e3e00bf59b5674ac105d16d70689bc12eb6461f43f9a2d1cc3f151d3c6", func := "loop.example/weatherarchive/laws.FnSumBetweenNone", spec := "fnSumBetweenNone", apart := false, narrowed := true }
def FnSumBetweenNoneUptoSaid : Prop := fnSumBetweenNoneUptoRow.holds Try.pinned (OpenSpec.upto fnSumBetweenNoneSpec)

/-- 'laws.FnExactSumsOf', WHERE WHAT IT READS IS OF BULK AT MOST 1048576: true; the input reads as it did. -/
def fnExactSumsOfUptoRow : OpenClaim := { program := "ytdccpdclpidnbac", sum := "099779e3e00bf59b5674ac105d16d70689bc12eb6461f43f9a2d1cc3f151d3c6", func := "loop.example/weatherarchive/laws.FnExactSumsOf", spec := "fnExactSumsOf", apart := false, narrowed := true }
def FnExactSumsOfUptoSaid : Prop := fnExactSumsOfUptoRow.holds Try.pinned (OpenSpec.upto fnExactSumsOfSpec)

/-- 'laws.FnExactSumBetween', WHERE WHAT IT READS IS OF BULK AT MOST 1048576: true; the input reads as it did. -/
def fnExactSumBetweenUptoRow : OpenClaim := { program := "ytdccpdclpidnbac", sum := "099779e3e00bf59b5674ac105d16d70689bc12eb6461f43f9a2d1cc3f151d3c6", func := "loop.example/weatherarchive/laws.FnExactSumBetween", spec := "fnExactSumBetween", apart := false, narrowed := true }
def FnExactSumBetweenUptoSaid : Prop := fnExactSumBetweenUptoRow.holds Try.pinned (OpenSpec.upto fnExactSumBetweenSpec)

end Rows
end Go.Proofs.Ytdccpdclpidnbac
