/-
  No cell of these rows narrows 'for every input' (looked for: loops, veiled, ifaces, maps, wideKeys, modest, calm, conditions, laid).
  DERIVED. THE GIVEN ROWS OF THIS SEAT. 11 by the template 'for every input the law returns true; each argument reads behind the call as it read before'; 0 by the template 'total and deterministic' (their statements: YtpgdbhafdnfhcaaTotals.lean).
  GIVEN WITH THE SEED: the statements are not yours to turn. If you find one false, say at which input.
  Laid BY PROGRAM, IN A SANDBOX (cutbox-rows.mjs): the forced cells as the released guide's own fill.sh prints them over the translation ec9c2dd999e92cde… (all of the seat's roots in one cut). By AI agents, Wed Nov 11 2026. No macro, syntax, notation, axiom, sorry.
-/
import Derived.Test.YtpgdbhafdnfhcaaChecked
import GoSem.Claim
import GoSem.ClaimJoined
import GoSem.ClaimMapViews
import Derived.JoinedTies
import Derived.KernelRfl
namespace Go.Proofs.Ytpgdbhafdnfhcaa
/- THE CELL 'sum', in the pinned program and in every row, IS THE sha256 OF THE DUMP (.gsa) THAT YtpgdbhafdnfhcaaProg.lean LOADS. Nothing in Lean hashes anything: it is a label: what it is worth is what the hold of that sum in a sandbox is worth. -/
noncomputable def Try.pinned : Pinned := { name := "ytpgdbhafdnfhcaa", sum := "ec9c2dd999e92cdececa0947a272575fc9a702f0c15e02c1c5b603fea00289af", checked := Try.checked }
namespace Rows
def none {H : Type} : Left H := { results := [], args := [] }

/-- 'laws.FnExactDiffOf': WHATEVER THE INPUT: true; the input reads as it did. -/
def fnExactDiffOfSpec : ChangeSpec := { name := "fnExactDiffOf", fn := fun _ => fun
  | [d1, d2, d3] => { results := [.lit (.bool true)], args := [d1, d2, d3] }
  | _ => none }
def fnExactDiffOfRow : OpenClaim := { program := "ytpgdbhafdnfhcaa", sum := "ec9c2dd999e92cdececa0947a272575fc9a702f0c15e02c1c5b603fea00289af", func := "loop.example/weatherarchive/laws.FnExactDiffOf", spec := "fnExactDiffOf", unfollowed := true, recurses := true, apart := false }
def FnExactDiffOfSaid : Prop := fnExactDiffOfRow.holds Try.pinned (OpenSpec.ofChange fnExactDiffOfSpec)

/-- ITS FALSE NEIGHBOUR: 'it returns false'. Refute it at one input. -/
def fnExactDiffOfWrong : ChangeSpec := { name := "fnExactDiffOf", fn := fun _ => fun
  | [d1, d2, d3] => { results := [.lit (.bool false)], args := [d1, d2, d3] }
  | _ => none }
def FnExactDiffOfWrongFalsely : Prop := fnExactDiffOfRow.holds Try.pinned (OpenSpec.ofChange fnExactDiffOfWrong)

/-- 'laws.FnDiff': WHATEVER THE INPUT: true; the input reads as it did. -/
def fnDiffSpec : ChangeSpec := { name := "fnDiff", fn := fun _ => fun
  | [d] => { results := [.lit (.bool true)], args := [d] }
  | _ => none }
def fnDiffRow : OpenClaim := { program := "ytpgdbhafdnfhcaa", sum := "ec9c2dd999e92cdececa0947a272575fc9a702f0c15e02c1c5b603fea00289af", func := "loop.example/weatherarchive/laws.FnDiff", spec := "fnDiff", unfollowed := true, recurses := true, apart := false }
def FnDiffSaid : Prop := fnDiffRow.holds Try.pinned (OpenSpec.ofChange fnDiffSpec)

/-- ITS FALSE NEIGHBOUR: 'it returns false'. Refute it at one input. -/
def fnDiffWrong : ChangeSpec := { name := "fnDiff", fn := fun _ => fun
  | [d] => { results := [.lit (.bool false)], args := [d] }
  | _ => none }
def FnDiffWrongFalsely : Prop := fnDiffRow.holds Try.pinned (OpenSpec.ofChange fnDiffWrong)

/-- 'laws.FnDiffTurned': WHATEVER THE INPUT: true; the input reads as it did. -/
def fnDiffTurnedSpec : ChangeSpec := { name := "fnDiffTurned", fn := fun _ => fun
  | [d] => { results := [.lit (.bool true)], args := [d] }
  | _ => none }
def fnDiffTurnedRow : OpenClaim := { program := "ytpgdbhafdnfhcaa", sum := "ec9c2dd999e92cdececa0947a272575fc9a702f0c15e02c1c5b603fea00289af", func := "loop.example/weatherarchive/laws.FnDiffTurned", spec := "fnDiffTurned", unfollowed := true, recurses := true, apart := false }
def FnDiffTurnedSaid : Prop := fnDiffTurnedRow.holds Try.pinned (OpenSpec.ofChange fnDiffTurnedSpec)

/-- ITS FALSE NEIGHBOUR: 'it returns false'. Refute it at one input. -/
def fnDiffTurnedWrong : ChangeSpec := { name := "fnDiffTurned", fn := fun _ => fun
  | [d] => { results := [.lit (.bool false)], args := [d] }
  | _ => none }
def FnDiffTurnedWrongFalsely : Prop := fnDiffTurnedRow.holds Try.pinned (OpenSpec.ofChange fnDiffTurnedWrong)

/-- 'laws.FnBest': WHATEVER THE INPUT: true; the input reads as it did. -/
def fnBestSpec : ChangeSpec := { name := "fnBest", fn := fun _ => fun
  | [d] => { results := [.lit (.bool true)], args := [d] }
  | _ => none }
def fnBestRow : OpenClaim := { program := "ytpgdbhafdnfhcaa", sum := "ec9c2dd999e92cdececa0947a272575fc9a702f0c15e02c1c5b603fea00289af", func := "loop.example/weatherarchive/laws.FnBest", spec := "fnBest", unfollowed := true, recurses := true, apart := false }
def FnBestSaid : Prop := fnBestRow.holds Try.pinned (OpenSpec.ofChange fnBestSpec)

/-- ITS FALSE NEIGHBOUR: 'it returns false'. Refute it at one input. -/
def fnBestWrong : ChangeSpec := { name := "fnBest", fn := fun _ => fun
  | [d] => { results := [.lit (.bool false)], args := [d] }
  | _ => none }
def FnBestWrongFalsely : Prop := fnBestRow.holds Try.pinned (OpenSpec.ofChange fnBestWrong)

/-- 'laws.FnBestOrder': WHATEVER THE INPUT: true; the input reads as it did. -/
def fnBestOrderSpec : ChangeSpec := { name := "fnBestOrder", fn := fun _ => fun
  | [d1, d2] => { results := [.lit (.bool true)], args := [d1, d2] }
  | _ => none }
def fnBestOrderRow : OpenClaim := { program := "ytpgdbhafdnfhcaa", sum := "ec9c2dd999e92cdececa0947a272575fc9a702f0c15e02c1c5b603fea00289af", func := "loop.example/weatherarchive/laws.FnBestOrder", spec := "fnBestOrder", unfollowed := true, recurses := true, apart := false }
def FnBestOrderSaid : Prop := fnBestOrderRow.holds Try.pinned (OpenSpec.ofChange fnBestOrderSpec)

/-- ITS FALSE NEIGHBOUR: 'it returns false'. Refute it at one input. -/
def fnBestOrderWrong : ChangeSpec := { name := "fnBestOrder", fn := fun _ => fun
  | [d1, d2] => { results := [.lit (.bool false)], args := [d1, d2] }
  | _ => none }
def FnBestOrderWrongFalsely : Prop := fnBestOrderRow.holds Try.pinned (OpenSpec.ofChange fnBestOrderWrong)

/-- 'laws.FnBestFree': WHATEVER THE INPUT: true; the input reads as it did. -/
def fnBestFreeSpec : ChangeSpec := { name := "fnBestFree", fn := fun _ => fun
  | [d] => { results := [.lit (.bool true)], args := [d] }
  | _ => none }
def fnBestFreeRow : OpenClaim := { program := "ytpgdbhafdnfhcaa", sum := "ec9c2dd999e92cdececa0947a272575fc9a702f0c15e02c1c5b603fea00289af", func := "loop.example/weatherarchive/laws.FnBestFree", spec := "fnBestFree", unfollowed := true, recurses := true, apart := false }
def FnBestFreeSaid : Prop := fnBestFreeRow.holds Try.pinned (OpenSpec.ofChange fnBestFreeSpec)

/-- ITS FALSE NEIGHBOUR: 'it returns false'. Refute it at one input. -/
def fnBestFreeWrong : ChangeSpec := { name := "fnBestFree", fn := fun _ => fun
  | [d] => { results := [.lit (.bool false)], args := [d] }
  | _ => none }
def FnBestFreeWrongFalsely : Prop := fnBestFreeRow.holds Try.pinned (OpenSpec.ofChange fnBestFreeWrong)

/-- 'laws.FnBestPrice': WHATEVER THE INPUT: true; the input reads as it did. -/
def fnBestPriceSpec : ChangeSpec := { name := "fnBestPrice", fn := fun _ => fun
  | [d] => { results := [.lit (.bool true)], args := [d] }
  | _ => none }
def fnBestPriceRow : OpenClaim := { program := "ytpgdbhafdnfhcaa", sum := "ec9c2dd999e92cdececa0947a272575fc9a702f0c15e02c1c5b603fea00289af", func := "loop.example/weatherarchive/laws.FnBestPrice", spec := "fnBestPrice", unfollowed := true, recurses := true, apart := false }
def FnBestPriceSaid : Prop := fnBestPriceRow.holds Try.pinned (OpenSpec.ofChange fnBestPriceSpec)

/-- ITS FALSE NEIGHBOUR: 'it returns false'. Refute it at one input. -/
def fnBestPriceWrong : ChangeSpec := { name := "fnBestPrice", fn := fun _ => fun
  | [d] => { results := [.lit (.bool false)], args := [d] }
  | _ => none }
def FnBestPriceWrongFalsely : Prop := fnBestPriceRow.holds Try.pinned (OpenSpec.ofChange fnBestPriceWrong)

/-- 'laws.FnExactCutsBest': WHATEVER THE INPUT: true; the input reads as it did. -/
def fnExactCutsBestSpec : ChangeSpec := { name := "fnExactCutsBest", fn := fun _ => fun
  | [d1, d2] => { results := [.lit (.bool true)], args := [d1, d2] }
  | _ => none }
def fnExactCutsBestRow : OpenClaim := { program := "ytpgdbhafdnfhcaa", sum := "ec9c2dd999e92cdececa0947a272575fc9a702f0c15e02c1c5b603fea00289af", func := "loop.example/weatherarchive/laws.FnExactCutsBest", spec := "fnExactCutsBest", unfollowed := true, recurses := true, apart := false }
def FnExactCutsBestSaid : Prop := fnExactCutsBestRow.holds Try.pinned (OpenSpec.ofChange fnExactCutsBestSpec)

/-- ITS FALSE NEIGHBOUR: 'it returns false'. Refute it at one input. -/
def fnExactCutsBestWrong : ChangeSpec := { name := "fnExactCutsBest", fn := fun _ => fun
  | [d1, d2] => { results := [.lit (.bool false)], args := [d1, d2] }
  | _ => none }
def FnExactCutsBestWrongFalsely : Prop := fnExactCutsBestRow.holds Try.pinned (OpenSpec.ofChange fnExactCutsBestWrong)

/-- 'laws.FnDoubtful': WHATEVER THE INPUT: true; the input reads as it did. -/
def fnDoubtfulSpec : ChangeSpec := { name := "fnDoubtful", fn := fun _ => fun
  | [d] => { results := [.lit (.bool true)], args := [d] }
  | _ => none }
def fnDoubtfulRow : OpenClaim := { program := "ytpgdbhafdnfhcaa", sum := "ec9c2dd999e92cdececa0947a272575fc9a702f0c15e02c1c5b603fea00289af", func := "loop.example/weatherarchive/laws.FnDoubtful", spec := "fnDoubtful", unfollowed := true, recurses := true, apart := false }
def FnDoubtfulSaid : Prop := fnDoubtfulRow.holds Try.pinned (OpenSpec.ofChange fnDoubtfulSpec)

/-- ITS FALSE NEIGHBOUR: 'it returns false'. Refute it at one input. -/
def fnDoubtfulWrong : ChangeSpec := { name := "fnDoubtful", fn := fun _ => fun
  | [d] => { results := [.lit (.bool false)], args := [d] }
  | _ => none }
def FnDoubtfulWrongFalsely : Prop := fnDoubtfulRow.holds Try.pinned (OpenSpec.ofChange fnDoubtfulWrong)

/-- 'laws.FnNearest': WHATEVER THE INPUT: true; the input reads as it did. -/
def fnNearestSpec : ChangeSpec := { name := "fnNearest", fn := fun _ => fun
  | [d] => { results := [.lit (.bool true)], args := [d] }
  | _ => none }
def fnNearestRow : OpenClaim := { program := "ytpgdbhafdnfhcaa", sum := "ec9c2dd999e92cdececa0947a272575fc9a702f0c15e02c1c5b603fea00289af", func := "loop.example/weatherarchive/laws.FnNearest", spec := "fnNearest", unfollowed := true, recurses := true, apart := false }
def FnNearestSaid : Prop := fnNearestRow.holds Try.pinned (OpenSpec.ofChange fnNearestSpec)

/-- ITS FALSE NEIGHBOUR: 'it returns false'. Refute it at one input. -/
def fnNearestWrong : ChangeSpec := { name := "fnNearest", fn := fun _ => fun
  | [d] => { results := [.lit (.bool false)], args := [d] }
  | _ => none }
def FnNearestWrongFalsely : Prop := fnNearestRow.holds Try.pinned (OpenSpec.ofChange fnNearestWrong)

/-- 'laws.FnNearestAll': WHATEVER THE INPUT: true; the input reads as it did. -/
def fnNearestAllSpec : ChangeSpec := { name := "fnNearestAll", fn := fun _ => fun
  | [d] => { results := [.lit (.bool true)], args := [d] }
  | _ => none }
def fnNearestAllRow : OpenClaim := { program := "ytpgdbhafdnfhcaa", sum := "ec9c2dd999e92cdececa0947a272575fc9a702f0c15e02c1c5b603fea00289af", func := "loop.example/weatherarchive/laws.FnNearestAll", spec := "fnNearestAll", unfollowed := true, recurses := true, apart := false }
def FnNearestAllSaid : Prop := fnNearestAllRow.holds Try.pinned (OpenSpec.ofChange fnNearestAllSpec)

/-- ITS FALSE NEIGHBOUR: 'it returns false'. Refute it at one input. -/
def fnNearestAllWrong : ChangeSpec := { name := "fnNearestAll", fn := fun _ => fun
  | [d] => { results := [.lit (.bool false)], args := [d] }
  | _ => none }
def FnNearestAllWrongFalsely : Prop := fnNearestAllRow.holds Try.pinned (OpenSpec.ofChange fnNearestAllWrong)

/- THE SECOND FORM. 'bulk': how many values and letters a reading holds, each counted each time it is reached (what is shared counts as often as it is met; a slice's spare places count too). A statement '..UptoSaid' is the law's where the arguments, and the package variables that the reading takes, are together of bulk at most 1048576: NARROWER than '..Said'. Prove '..Said' where nothing that the law and all that it calls make is longer than what came in: it says more and counts as full. Else prove '..UptoSaid'. A law counts once. -/
mutual
def uptoBulk {H : Type} : DataW H → Nat
  | .lit (.string bytes) => bytes.length + 1
  | .lit _ => 1
  | .nil => 1
  | .ptr d => uptoBulk d + 1
  | .slice elems spare => uptoBulkAll elems + uptoBulkAll spare + 1
  | .agg parts => uptoBulkAll parts + 1
  | .iface _ d => uptoBulk d + 1
  | .map entries => uptoBulkEntries entries + 1
  | .held _ => 1
def uptoBulkAll {H : Type} : List (DataW H) → Nat
  | [] => 0
  | d :: r => uptoBulk d + uptoBulkAll r
def uptoBulkEntries {H : Type} : List (Lit × DataW H) → Nat
  | [] => 0
  | x :: r => uptoBulkEntry x + uptoBulkEntries r
def uptoBulkEntry {H : Type} : Lit × DataW H → Nat
  | (.string bytes, d) => bytes.length + uptoBulk d + 1
  | (_, d) => uptoBulk d + 1
 end
def uptoSmall : (H : Type) → List (DataW H) → Bool := fun _ ds => decide (uptoBulkAll ds ≤ 1048576)
def OpenSpec.upto (s : _root_.Go.ChangeSpec) : _root_.Go.OpenSpec := { _root_.Go.OpenSpec.ofChange s with cond := some uptoSmall }

/-- 'laws.FnExactDiffOf', WHERE WHAT IT READS IS OF BULK AT MOST 1048576: true; the input reads as it did. -/
def fnExactDiffOfUptoRow : OpenClaim := { program := "ytpgdbhafdnfhcaa", sum := "ec9c2dd999e92cdececa0947a272575fc9a702f0c15e02c1c5b603fea00289af", func := "loop.example/weatherarchive/laws.FnExactDiffOf", spec := "fnExactDiffOf", unfollowed := true, recurses := true, apart := false, narrowed := true }
def FnExactDiffOfUptoSaid : Prop := fnExactDiffOfUptoRow.holds Try.pinned (OpenSpec.upto fnExactDiffOfSpec)

/-- 'laws.FnDiff', WHERE WHAT IT READS IS OF BULK AT MOST 1048576: true; the input reads as it did. -/
def fnDiffUptoRow : OpenClaim := { program := "ytpgdbhafdnfhcaa", sum := "ec9c2dd999e92cdececa0947a272575fc9a702f0c15e02c1c5b603fea00289af", func := "loop.example/weatherarchive/laws.FnDiff", spec := "fnDiff", unfollowed := true, recurses := true, apart := false, narrowed := true }
def FnDiffUptoSaid : Prop := fnDiffUptoRow.holds Try.pinned (OpenSpec.upto fnDiffSpec)

/-- 'laws.FnDiffTurned', WHERE WHAT IT READS IS OF BULK AT MOST 1048576: true; the input reads as it did. -/
def fnDiffTurnedUptoRow : OpenClaim := { program := "ytpgdbhafdnfhcaa", sum := "ec9c2dd999e92cdececa0947a272575fc9a702f0c15e02c1c5b603fea00289af", func := "loop.example/weatherarchive/laws.FnDiffTurned", spec := "fnDiffTurned", unfollowed := true, recurses := true, apart := false, narrowed := true }
def FnDiffTurnedUptoSaid : Prop := fnDiffTurnedUptoRow.holds Try.pinned (OpenSpec.upto fnDiffTurnedSpec)

/-- 'laws.FnBest', WHERE WHAT IT READS IS OF BULK AT MOST 1048576: true; the input reads as it did. -/
def fnBestUptoRow : OpenClaim := { program := "ytpgdbhafdnfhcaa", sum := "ec9c2dd999e92cdececa0947a272575fc9a702f0c15e02c1c5b603fea00289af", func := "loop.example/weatherarchive/laws.FnBest", spec := "fnBest", unfollowed := true, recurses := true, apart := false, narrowed := true }
def FnBestUptoSaid : Prop := fnBestUptoRow.holds Try.pinned (OpenSpec.upto fnBestSpec)

/-- 'laws.FnBestOrder', WHERE WHAT IT READS IS OF BULK AT MOST 1048576: true; the input reads as it did. -/
def fnBestOrderUptoRow : OpenClaim := { program := "ytpgdbhafdnfhcaa", sum := "ec9c2dd999e92cdececa0947a272575fc9a702f0c15e02c1c5b603fea00289af", func := "loop.example/weatherarchive/laws.FnBestOrder", spec := "fnBestOrder", unfollowed := true, recurses := true, apart := false, narrowed := true }
def FnBestOrderUptoSaid : Prop := fnBestOrderUptoRow.holds Try.pinned (OpenSpec.upto fnBestOrderSpec)

/-- 'laws.FnBestFree', WHERE WHAT IT READS IS OF BULK AT MOST 1048576: true; the input reads as it did. -/
def fnBestFreeUptoRow : OpenClaim := { program := "ytpgdbhafdnfhcaa", sum := "ec9c2dd999e92cdececa0947a272575fc9a702f0c15e02c1c5b603fea00289af", func := "loop.example/weatherarchive/laws.FnBestFree", spec := "fnBestFree", unfollowed := true, recurses := true, apart := false, narrowed := true }
def FnBestFreeUptoSaid : Prop := fnBestFreeUptoRow.holds Try.pinned (OpenSpec.upto fnBestFreeSpec)

/-- 'laws.FnBestPrice', WHERE WHAT IT READS IS OF BULK AT MOST 1048576: true; the input reads as it did. -/
def fnBestPriceUptoRow : OpenClaim := { program := "ytpgdbhafdnfhcaa", sum := "ec9c2dd999e92cdececa0947a272575fc9a702f0c15e02c1c5b603fea00289af", func := "loop.example/weatherarchive/laws.FnBestPrice", spec := "fnBestPrice", unfollowed := true, recurses := true, apart := false, narrowed := true }
def FnBestPriceUptoSaid : Prop := fnBestPriceUptoRow.holds Try.pinned (OpenSpec.upto fnBestPriceSpec)

/-- 'laws.FnExactCutsBest', WHERE WHAT IT READS IS OF BULK AT MOST 1048576: true; the input reads as it did. -/
def fnExactCutsBestUptoRow : OpenClaim := { program := "ytpgdbhafdnfhcaa", sum := "ec9c2dd999e92cdececa0947a272575fc9a702f0c15e02c1c5b603fea00289af", func := "loop.example/weatherarchive/laws.FnExactCutsBest", spec := "fnExactCutsBest", unfollowed := true, recurses := true, apart := false, narrowed := true }
def FnExactCutsBestUptoSaid : Prop := fnExactCutsBestUptoRow.holds Try.pinned (OpenSpec.upto fnExactCutsBestSpec)

/-- 'laws.FnDoubtful', WHERE WHAT IT READS IS OF BULK AT MOST 1048576: true; the input reads as it did. -/
def fnDoubtfulUptoRow : OpenClaim := { program := "ytpgdbhafdnfhcaa", sum := "ec9c2dd999e92cdececa0947a272575fc9a702f0c15e02c1c5b603fea00289af", func := "loop.example/weatherarchive/laws.FnDoubtful", spec := "fnDoubtful", unfollowed := true, recurses := true, apart := false, narrowed := true }
def FnDoubtfulUptoSaid : Prop := fnDoubtfulUptoRow.holds Try.pinned (OpenSpec.upto fnDoubtfulSpec)

/-- 'laws.FnNearest', WHERE WHAT IT READS IS OF BULK AT MOST 1048576: true; the input reads as it did. -/
def fnNearestUptoRow : OpenClaim := { program := "ytpgdbhafdnfhcaa", sum := "ec9c2dd999e92cdececa0947a272575fc9a702f0c15e02c1c5b603fea00289af", func := "loop.example/weatherarchive/laws.FnNearest", spec := "fnNearest", unfollowed := true, recurses := true, apart := false, narrowed := true }
def FnNearestUptoSaid : Prop := fnNearestUptoRow.holds Try.pinned (OpenSpec.upto fnNearestSpec)

/-- 'laws.FnNearestAll', WHERE WHAT IT READS IS OF BULK AT MOST 1048576: true; the input reads as it did. -/
def fnNearestAllUptoRow : OpenClaim := { program := "ytpgdbhafdnfhcaa", sum := "ec9c2dd999e92cdececa0947a272575fc9a702f0c15e02c1c5b603fea00289af", func := "loop.example/weatherarchive/laws.FnNearestAll", spec := "fnNearestAll", unfollowed := true, recurses := true, apart := false, narrowed := true }
def FnNearestAllUptoSaid : Prop := fnNearestAllUptoRow.holds Try.pinned (OpenSpec.upto fnNearestAllSpec)

end Rows
end Go.Proofs.Ytpgdbhafdnfhcaa
