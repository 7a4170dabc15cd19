/-
  No cell of these rows narrows 'for every input' (looked for: loops, veiled, ifaces, maps, wideKeys, modest, calm, conditions, laid).
  DERIVED. THE GIVEN ROWS OF THIS SEAT. 9 by the template 'for every input the law returns true; each argument reads behind the call as it read before'; 0 by the template 'total and deterministic' (their statements: YtmndlghadgccbaeTotals.lean).
  GIVEN WITH THE SEED: the statements are not yours to turn. If you find one false, say at which input.
  Laid BY PROGRAM, IN A SANDBOX (cutbox-rows.mjs): the forced cells as the released guide's own fill.sh prints them over the translation 146729a96606ba93… (all of the seat's roots in one cut). By AI agents, Wed Nov 11 2026. No macro, syntax, notation, axiom, sorry.
-/
import Derived.Test.YtmndlghadgccbaeChecked
import GoSem.Claim
import GoSem.ClaimJoined
import GoSem.ClaimMapViews
import Derived.JoinedTies
import Derived.KernelRfl
namespace Go.Proofs.Ytmndlghadgccbae
/- THE CELL 'sum', in the pinned program and in every row, IS THE sha256 OF THE DUMP (.gsa) THAT YtmndlghadgccbaeProg.lean LOADS. Nothing in Lean hashes anything: it is a label: what it is worth is what the hold of that sum in a sandbox is worth. -/
noncomputable def Try.pinned : Pinned := { name := "ytmndlghadgccbae", sum := "146729a96606ba93725690e8b361f86fce57d288cb5ec9bcbcf24960eda419ca", checked := Try.checked }
namespace Rows
def none {H : Type} : Left H := { results := [], args := [] }

/-- 'laws.FnSorted': WHATEVER THE INPUT: true; the input reads as it did. -/
def fnSortedSpec : ChangeSpec := { name := "fnSorted", fn := fun _ => fun
  | [d] => { results := [.lit (.bool true)], args := [d] }
  | _ => none }
def fnSortedRow : OpenClaim := { program := "ytmndlghadgccbae", sum := "146729a96606ba93725690e8b361f86fce57d288cb5ec9bcbcf24960eda419ca", func := "loop.example/weatherarchive/laws.FnSorted", spec := "fnSorted", inPlace := ["slices.overlaps[int]"], unfollowed := true, recurses := true, apart := false }
def FnSortedSaid : Prop := fnSortedRow.holds Try.pinned (OpenSpec.ofChange fnSortedSpec)

/-- ITS FALSE NEIGHBOUR: 'it returns false'. Refute it at one input. -/
def fnSortedWrong : ChangeSpec := { name := "fnSorted", fn := fun _ => fun
  | [d] => { results := [.lit (.bool false)], args := [d] }
  | _ => none }
def FnSortedWrongFalsely : Prop := fnSortedRow.holds Try.pinned (OpenSpec.ofChange fnSortedWrong)

/-- 'laws.FnSortedBack': WHATEVER THE INPUT: true; the input reads as it did. -/
def fnSortedBackSpec : ChangeSpec := { name := "fnSortedBack", fn := fun _ => fun
  | [d] => { results := [.lit (.bool true)], args := [d] }
  | _ => none }
def fnSortedBackRow : OpenClaim := { program := "ytmndlghadgccbae", sum := "146729a96606ba93725690e8b361f86fce57d288cb5ec9bcbcf24960eda419ca", func := "loop.example/weatherarchive/laws.FnSortedBack", spec := "fnSortedBack", inPlace := ["slices.overlaps[int]"], unfollowed := true, recurses := true, apart := false }
def FnSortedBackSaid : Prop := fnSortedBackRow.holds Try.pinned (OpenSpec.ofChange fnSortedBackSpec)

/-- ITS FALSE NEIGHBOUR: 'it returns false'. Refute it at one input. -/
def fnSortedBackWrong : ChangeSpec := { name := "fnSortedBack", fn := fun _ => fun
  | [d] => { results := [.lit (.bool false)], args := [d] }
  | _ => none }
def FnSortedBackWrongFalsely : Prop := fnSortedBackRow.holds Try.pinned (OpenSpec.ofChange fnSortedBackWrong)

/-- 'laws.FnQuantile': WHATEVER THE INPUT: true; the input reads as it did. -/
def fnQuantileSpec : ChangeSpec := { name := "fnQuantile", fn := fun _ => fun
  | [d] => { results := [.lit (.bool true)], args := [d] }
  | _ => none }
def fnQuantileRow : OpenClaim := { program := "ytmndlghadgccbae", sum := "146729a96606ba93725690e8b361f86fce57d288cb5ec9bcbcf24960eda419ca", func := "loop.example/weatherarchive/laws.FnQuantile", spec := "fnQuantile", inPlace := ["slices.overlaps[int]"], unfollowed := true, recurses := true, apart := false }
def FnQuantileSaid : Prop := fnQuantileRow.holds Try.pinned (OpenSpec.ofChange fnQuantileSpec)

/-- ITS FALSE NEIGHBOUR: 'it returns false'. Refute it at one input. -/
def fnQuantileWrong : ChangeSpec := { name := "fnQuantile", fn := fun _ => fun
  | [d] => { results := [.lit (.bool false)], args := [d] }
  | _ => none }
def FnQuantileWrongFalsely : Prop := fnQuantileRow.holds Try.pinned (OpenSpec.ofChange fnQuantileWrong)

/-- 'laws.FnQuantileMedian': WHATEVER THE INPUT: true; the input reads as it did. -/
def fnQuantileMedianSpec : ChangeSpec := { name := "fnQuantileMedian", fn := fun _ => fun
  | [d] => { results := [.lit (.bool true)], args := [d] }
  | _ => none }
def fnQuantileMedianRow : OpenClaim := { program := "ytmndlghadgccbae", sum := "146729a96606ba93725690e8b361f86fce57d288cb5ec9bcbcf24960eda419ca", func := "loop.example/weatherarchive/laws.FnQuantileMedian", spec := "fnQuantileMedian", inPlace := ["slices.overlaps[int]"], unfollowed := true, recurses := true, apart := false }
def FnQuantileMedianSaid : Prop := fnQuantileMedianRow.holds Try.pinned (OpenSpec.ofChange fnQuantileMedianSpec)

/-- ITS FALSE NEIGHBOUR: 'it returns false'. Refute it at one input. -/
def fnQuantileMedianWrong : ChangeSpec := { name := "fnQuantileMedian", fn := fun _ => fun
  | [d] => { results := [.lit (.bool false)], args := [d] }
  | _ => none }
def FnQuantileMedianWrongFalsely : Prop := fnQuantileMedianRow.holds Try.pinned (OpenSpec.ofChange fnQuantileMedianWrong)

/-- 'laws.FnAbove': WHATEVER THE INPUT: true; the input reads as it did. -/
def fnAboveSpec : ChangeSpec := { name := "fnAbove", fn := fun _ => fun
  | [d] => { results := [.lit (.bool true)], args := [d] }
  | _ => none }
def fnAboveRow : OpenClaim := { program := "ytmndlghadgccbae", sum := "146729a96606ba93725690e8b361f86fce57d288cb5ec9bcbcf24960eda419ca", func := "loop.example/weatherarchive/laws.FnAbove", spec := "fnAbove", apart := false }
def FnAboveSaid : Prop := fnAboveRow.holds Try.pinned (OpenSpec.ofChange fnAboveSpec)

/-- ITS FALSE NEIGHBOUR: 'it returns false'. Refute it at one input. -/
def fnAboveWrong : ChangeSpec := { name := "fnAbove", fn := fun _ => fun
  | [d] => { results := [.lit (.bool false)], args := [d] }
  | _ => none }
def FnAboveWrongFalsely : Prop := fnAboveRow.holds Try.pinned (OpenSpec.ofChange fnAboveWrong)

/-- 'laws.FnSpell': WHATEVER THE INPUT: true; the input reads as it did. -/
def fnSpellSpec : ChangeSpec := { name := "fnSpell", fn := fun _ => fun
  | [d] => { results := [.lit (.bool true)], args := [d] }
  | _ => none }
def fnSpellRow : OpenClaim := { program := "ytmndlghadgccbae", sum := "146729a96606ba93725690e8b361f86fce57d288cb5ec9bcbcf24960eda419ca", func := "loop.example/weatherarchive/laws.FnSpell", spec := "fnSpell", apart := false }
def FnSpellSaid : Prop := fnSpellRow.holds Try.pinned (OpenSpec.ofChange fnSpellSpec)

/-- ITS FALSE NEIGHBOUR: 'it returns false'. Refute it at one input. -/
def fnSpellWrong : ChangeSpec := { name := "fnSpell", fn := fun _ => fun
  | [d] => { results := [.lit (.bool false)], args := [d] }
  | _ => none }
def FnSpellWrongFalsely : Prop := fnSpellRow.holds Try.pinned (OpenSpec.ofChange fnSpellWrong)

/-- 'laws.FnSpellLongest': WHATEVER THE INPUT: true; the input reads as it did. -/
def fnSpellLongestSpec : ChangeSpec := { name := "fnSpellLongest", fn := fun _ => fun
  | [d] => { results := [.lit (.bool true)], args := [d] }
  | _ => none }
def fnSpellLongestRow : OpenClaim := { program := "ytmndlghadgccbae", sum := "146729a96606ba93725690e8b361f86fce57d288cb5ec9bcbcf24960eda419ca", func := "loop.example/weatherarchive/laws.FnSpellLongest", spec := "fnSpellLongest", apart := false }
def FnSpellLongestSaid : Prop := fnSpellLongestRow.holds Try.pinned (OpenSpec.ofChange fnSpellLongestSpec)

/-- ITS FALSE NEIGHBOUR: 'it returns false'. Refute it at one input. -/
def fnSpellLongestWrong : ChangeSpec := { name := "fnSpellLongest", fn := fun _ => fun
  | [d] => { results := [.lit (.bool false)], args := [d] }
  | _ => none }
def FnSpellLongestWrongFalsely : Prop := fnSpellLongestRow.holds Try.pinned (OpenSpec.ofChange fnSpellLongestWrong)

/-- 'laws.FnExactSortedOf': WHATEVER THE INPUT: true; the input reads as it did. -/
def fnExactSortedOfSpec : ChangeSpec := { name := "fnExactSortedOf", fn := fun _ => fun
  | [d] => { results := [.lit (.bool true)], args := [d] }
  | _ => none }
def fnExactSortedOfRow : OpenClaim := { program := "ytmndlghadgccbae", sum := "146729a96606ba93725690e8b361f86fce57d288cb5ec9bcbcf24960eda419ca", func := "loop.example/weatherarchive/laws.FnExactSortedOf", spec := "fnExactSortedOf", inPlace := ["slices.overlaps[int]"], unfollowed := true, recurses := true, apart := false }
def FnExactSortedOfSaid : Prop := fnExactSortedOfRow.holds Try.pinned (OpenSpec.ofChange fnExactSortedOfSpec)

/-- ITS FALSE NEIGHBOUR: 'it returns false'. Refute it at one input. -/
def fnExactSortedOfWrong : ChangeSpec := { name := "fnExactSortedOf", fn := fun _ => fun
  | [d] => { results := [.lit (.bool false)], args := [d] }
  | _ => none }
def FnExactSortedOfWrongFalsely : Prop := fnExactSortedOfRow.holds Try.pinned (OpenSpec.ofChange fnExactSortedOfWrong)

/-- 'laws.FnExactQuantileOf': WHATEVER THE INPUT: true; the input reads as it did. -/
def fnExactQuantileOfSpec : ChangeSpec := { name := "fnExactQuantileOf", fn := fun _ => fun
  | [d1, d2, d3] => { results := [.lit (.bool true)], args := [d1, d2, d3] }
  | _ => none }
def fnExactQuantileOfRow : OpenClaim := { program := "ytmndlghadgccbae", sum := "146729a96606ba93725690e8b361f86fce57d288cb5ec9bcbcf24960eda419ca", func := "loop.example/weatherarchive/laws.FnExactQuantileOf", spec := "fnExactQuantileOf", inPlace := ["slices.overlaps[int]"], unfollowed := true, recurses := true, apart := false }
def FnExactQuantileOfSaid : Prop := fnExactQuantileOfRow.holds Try.pinned (OpenSpec.ofChange fnExactQuantileOfSpec)

/-- ITS FALSE NEIGHBOUR: 'it returns false'. Refute it at one input. -/
def fnExactQuantileOfWrong : ChangeSpec := { name := "fnExactQuantileOf", fn := fun _ => fun
  | [d1, d2, d3] => { results := [.lit (.bool false)], args := [d1, d2, d3] }
  | _ => none }
def FnExactQuantileOfWrongFalsely : Prop := fnExactQuantileOfRow.holds Try.pinned (OpenSpec.ofChange fnExactQuantileOfWrong)

/- THE SECOND FORM. 'bulk': how many values and letters a reading holds, each counted each time it is reached (what is shared counts as often as it is met; a slice's spare places count too). A statement '..UptoSaid' is the law's where the arguments, and the package variables that the reading takes, are together of bulk at most 1048576: NARROWER than '..Said'. Prove '..Said' where nothing that the law and all that it calls make is longer than what came in: it says more and counts as full. Else prove '..UptoSaid'. A law counts once. -/
mutual
def uptoBulk {H : Type} : DataW H → Nat
  | .lit (.string bytes) => bytes.length + 1
  | .lit _ => 1
  | .nil => 1
  | .ptr d => uptoBulk d + 1
  | .slice elems spare => uptoBulkAll elems + uptoBulkAll spare + 1
  | .agg parts => uptoBulkAll parts + 1
  | .iface _ d => uptoBulk d + 1
  | .map entries => uptoBulkEntries entries + 1
  | .held _ => 1
def uptoBulkAll {H : Type} : List (DataW H) → Nat
  | [] => 0
  | d :: r => uptoBulk d + uptoBulkAll r
def uptoBulkEntries {H : Type} : List (Lit × DataW H) → Nat
  | [] => 0
  | x :: r => uptoBulkEntry x + uptoBulkEntries r
def uptoBulkEntry {H : Type} : Lit × DataW H → Nat
  | (.string bytes, d) => bytes.length + uptoBulk d + 1
  | (_, d) => uptoBulk d + 1
 end
def uptoSmall : (H : Type) → List (DataW H) → Bool := fun _ ds => decide (uptoBulkAll ds ≤ 1048576)
def OpenSpec.upto (s : _root_.Go.ChangeSpec) : _root_.Go.OpenSpec := { _root_.Go.OpenSpec.ofChange s with cond := some uptoSmall }

/-- 'laws.FnSorted', WHERE WHAT IT READS IS OF BULK AT MOST 1048576: true; the input reads as it did. -/
def fnSortedUptoRow : OpenClaim := { program := "ytmndlghadgccbae", sum := "146729a96606ba93725690e8b361f86fce57d288cb5ec9bcbcf24960eda419ca", func := "loop.example/weatherarchive/laws.FnSorted", spec := "fnSorted", inPlace := ["slices.overlaps[int]"], unfollowed := true, recurses := true, apart := false, narrowed := true }
def FnSortedUptoSaid : Prop := fnSortedUptoRow.holds Try.pinned (OpenSpec.upto fnSortedSpec)

/-- 'laws.FnSortedBack', WHERE WHAT IT READS IS OF BULK AT MOST 1048576: true; the input reads as it did. -/
def fnSortedBackUptoRow : OpenClaim := { program := "ytmndlghadgccbae", sum := "146729a96606ba93725690e8b361f86fce57d288cb5ec9bcbcf24960eda419ca", func := "loop.example/weatherarchive/laws.FnSortedBack", spec := "fnSortedBack", inPlace := ["slices.overlaps[int]"], unfollowed := true, recurses := true, apart := false, narrowed := true }
def FnSortedBackUptoSaid : Prop := fnSortedBackUptoRow.holds Try.pinned (OpenSpec.upto fnSortedBackSpec)

/-- 'laws.FnQuantile', WHERE WHAT IT READS IS OF BULK AT MOST 1048576: true; the input reads as it did. -/
def fnQuantileUptoRow : OpenClaim := { program := "ytmndlghadgccbae", sum := "146729a96606ba93725690e8b361f86fce57d288cb5ec9bcbcf24960eda419ca", func := "loop.example/weatherarchive/laws.FnQuantile", spec := "fnQuantile", inPlace := ["slices.overlaps[int]"], unfollowed := true, recurses := true, apart := false, narrowed := true }
def FnQuantileUptoSaid : Prop := fnQuantileUptoRow.holds Try.pinned (OpenSpec.upto fnQuantileSpec)

/-- 'laws.FnQuantileMedian', WHERE WHAT IT READS IS OF BULK AT MOST 1048576: true; the input reads as it did. -/
def fnQuantileMedianUptoRow : OpenClaim := { program := "ytmndlghadgccbae", sum := "146729a96606ba93725690e8b361f86fce57d288cb5ec9bcbcf24960eda419ca", func := "loop.example/weatherarchive/laws.FnQuantileMedian", spec := "fnQuantileMedian", inPlace := ["slices.overlaps[int]"], unfollowed := true, recurses := true, apart := false, narrowed := true }
def FnQuantileMedianUptoSaid : Prop := fnQuantileMedianUptoRow.holds Try.pinned (OpenSpec.upto fnQuantileMedianSpec)

/-- 'laws.FnAbove', WHERE WHAT IT READS IS OF BULK AT MOST 1048576: true; the input reads as it did. -/
def fnAboveUptoRow : OpenClaim := { program := "ytmndlghadgccbae", sum := "146729a96606ba93725690e8b361f86fce57d288cb5ec9bcbcf24960eda419ca", func := "loop.example/weatherarchive/laws.FnAbove", spec := "fnAbove", apart := false, narrowed := true }
def FnAboveUptoSaid : Prop := fnAboveUptoRow.holds Try.pinned (OpenSpec.upto fnAboveSpec)

/-- 'laws.FnSpell', WHERE WHAT IT READS IS OF BULK AT MOST 1048576: true; the input reads as it did. -/
def fnSpellUptoRow : OpenClaim := { program := "ytmndlghadgccbae", sum := "146729a96606ba93725690e8b361f86fce57d288cb5ec9bcbcf24960eda419ca", func := "loop.example/weatherarchive/laws.FnSpell", spec := "fnSpell", apart := false, narrowed := true }
def FnSpellUptoSaid : Prop := fnSpellUptoRow.holds Try.pinned (OpenSpec.upto fnSpellSpec)

/-- 'laws.FnSpellLongest', WHERE WHAT IT READS IS OF BULK AT MOST 1048576: true; the input reads as it did. -/
def fnSpellLongestUptoRow : OpenClaim := { program := "ytmndlghadgccbae", sum := "146729a96606ba93725690e8b361f86fce57d288cb5ec9bcbcf24960eda419ca", func := "loop.example/weatherarchive/laws.FnSpellLongest", spec := "fnSpellLongest", apart := false, narrowed := true }
def FnSpellLongestUptoSaid : Prop := fnSpellLongestUptoRow.holds Try.pinned (OpenSpec.upto fnSpellLongestSpec)

/-- 'laws.FnExactSortedOf', WHERE WHAT IT READS IS OF BULK AT MOST 1048576: true; the input reads as it did. -/
def fnExactSortedOfUptoRow : OpenClaim := { program := "ytmndlghadgccbae", sum := "146729a96606ba93725690e8b361f86fce57d288cb5ec9bcbcf24960eda419ca", func := "loop.example/weatherarchive/laws.FnExactSortedOf", spec := "fnExactSortedOf", inPlace := ["slices.overlaps[int]"], unfollowed := true, recurses := true, apart := false, narrowed := true }
def FnExactSortedOfUptoSaid : Prop := fnExactSortedOfUptoRow.holds Try.pinned (OpenSpec.upto fnExactSortedOfSpec)

/-- 'laws.FnExactQuantileOf', WHERE WHAT IT READS IS OF BULK AT MOST 1048576: true; the input reads as it did. -/
def fnExactQuantileOfUptoRow : OpenClaim := { program := "ytmndlghadgccbae", sum := "146729a96606ba93725690e8b361f86fce57d288cb5ec9bcbcf24960eda419ca", func := "loop.example/weatherarchive/laws.FnExactQuantileOf", spec := "fnExactQuantileOf", inPlace := ["slices.overlaps[int]"], unfollowed := true, recurses := true, apart := false, narrowed := true }
def FnExactQuantileOfUptoSaid : Prop := fnExactQuantileOfUptoRow.holds Try.pinned (OpenSpec.upto fnExactQuantileOfSpec)

end Rows
end Go.Proofs.Ytmndlghadgccbae
