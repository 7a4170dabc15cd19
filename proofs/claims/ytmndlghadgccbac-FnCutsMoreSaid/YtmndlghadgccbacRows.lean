/-
  No cell of these rows narrows 'for every input' (looked for: loops, veiled, ifaces, maps, wideKeys, modest, calm, conditions, laid).
  DERIVED. THE GIVEN ROWS OF THIS SEAT. 13 by the template 'for every input the law returns true; each argument reads behind the call as it read before'; 0 by the template 'total and deterministic' (their statements: YtmndlghadgccbacTotals.lean).
  GIVEN WITH THE SEED: the statements are not yours to turn. If you find one false, say at which input.
  Laid BY PROGRAM, IN A SANDBOX (cutbox-rows.mjs): the forced cells as the released guide's own fill.sh prints them over the translation 8435eaeea9d5229c… (all of the seat's roots in one cut). By AI agents, Wed Nov 11 2026. No macro, syntax, notation, axiom, sorry.
-/
import Derived.Test.YtmndlghadgccbacChecked
import GoSem.Claim
import GoSem.ClaimJoined
import GoSem.ClaimMapViews
import Derived.JoinedTies
import Derived.KernelRfl
namespace Go.Proofs.Ytmndlghadgccbac
/- THE CELL 'sum', in the pinned program and in every row, IS THE sha256 OF THE DUMP (.gsa) THAT YtmndlghadgccbacProg.lean LOADS. Nothing in Lean hashes anything: it is a label: what it is worth is what the hold of that sum in a sandbox is worth. -/
noncomputable def Try.pinned : Pinned := { name := "ytmndlghadgccbac", sum := "8435eaeea9d5229c441903827eb39e4b82c376ed1827b47f9a3a062b819c6f5a", checked := Try.checked }
namespace Rows
def none {H : Type} : Left H := { results := [], args := [] }

/-- 'laws.FnPart': WHATEVER THE INPUT: true; the input reads as it did. -/
def fnPartSpec : ChangeSpec := { name := "fnPart", fn := fun _ => fun
  | [d] => { results := [.lit (.bool true)], args := [d] }
  | _ => none }
def fnPartRow : OpenClaim := { program := "ytmndlghadgccbac", sum := "8435eaeea9d5229c441903827eb39e4b82c376ed1827b47f9a3a062b819c6f5a", func := "loop.example/weatherarchive/laws.FnPart", spec := "fnPart", unfollowed := true, recurses := true, apart := false }
def FnPartSaid : Prop := fnPartRow.holds Try.pinned (OpenSpec.ofChange fnPartSpec)

/-- ITS FALSE NEIGHBOUR: 'it returns false'. Refute it at one input. -/
def fnPartWrong : ChangeSpec := { name := "fnPart", fn := fun _ => fun
  | [d] => { results := [.lit (.bool false)], args := [d] }
  | _ => none }
def FnPartWrongFalsely : Prop := fnPartRow.holds Try.pinned (OpenSpec.ofChange fnPartWrong)

/-- 'laws.FnPartAdded': WHATEVER THE INPUT: true; the input reads as it did. -/
def fnPartAddedSpec : ChangeSpec := { name := "fnPartAdded", fn := fun _ => fun
  | [d] => { results := [.lit (.bool true)], args := [d] }
  | _ => none }
def fnPartAddedRow : OpenClaim := { program := "ytmndlghadgccbac", sum := "8435eaeea9d5229c441903827eb39e4b82c376ed1827b47f9a3a062b819c6f5a", func := "loop.example/weatherarchive/laws.FnPartAdded", spec := "fnPartAdded", unfollowed := true, recurses := true, apart := false }
def FnPartAddedSaid : Prop := fnPartAddedRow.holds Try.pinned (OpenSpec.ofChange fnPartAddedSpec)

/-- ITS FALSE NEIGHBOUR: 'it returns false'. Refute it at one input. -/
def fnPartAddedWrong : ChangeSpec := { name := "fnPartAdded", fn := fun _ => fun
  | [d] => { results := [.lit (.bool false)], args := [d] }
  | _ => none }
def FnPartAddedWrongFalsely : Prop := fnPartAddedRow.holds Try.pinned (OpenSpec.ofChange fnPartAddedWrong)

/-- 'laws.FnCutsCost': WHATEVER THE INPUT: true; the input reads as it did. -/
def fnCutsCostSpec : ChangeSpec := { name := "fnCutsCost", fn := fun _ => fun
  | [d] => { results := [.lit (.bool true)], args := [d] }
  | _ => none }
def fnCutsCostRow : OpenClaim := { program := "ytmndlghadgccbac", sum := "8435eaeea9d5229c441903827eb39e4b82c376ed1827b47f9a3a062b819c6f5a", func := "loop.example/weatherarchive/laws.FnCutsCost", spec := "fnCutsCost", unfollowed := true, recurses := true, apart := false }
def FnCutsCostSaid : Prop := fnCutsCostRow.holds Try.pinned (OpenSpec.ofChange fnCutsCostSpec)

/-- ITS FALSE NEIGHBOUR: 'it returns false'. Refute it at one input. -/
def fnCutsCostWrong : ChangeSpec := { name := "fnCutsCost", fn := fun _ => fun
  | [d] => { results := [.lit (.bool false)], args := [d] }
  | _ => none }
def FnCutsCostWrongFalsely : Prop := fnCutsCostRow.holds Try.pinned (OpenSpec.ofChange fnCutsCostWrong)

/-- 'laws.FnCutsMore': WHATEVER THE INPUT: true; the input reads as it did. -/
def fnCutsMoreSpec : ChangeSpec := { name := "fnCutsMore", fn := fun _ => fun
  | [d1, d2] => { results := [.lit (.bool true)], args := [d1, d2] }
  | _ => none }
def fnCutsMoreRow : OpenClaim := { program := "ytmndlghadgccbac", sum := "8435eaeea9d5229c441903827eb39e4b82c376ed1827b47f9a3a062b819c6f5a", func := "loop.example/weatherarchive/laws.FnCutsMore", spec := "fnCutsMore", unfollowed := true, recurses := true, apart := false }
def FnCutsMoreSaid : Prop := fnCutsMoreRow.holds Try.pinned (OpenSpec.ofChange fnCutsMoreSpec)

/-- ITS FALSE NEIGHBOUR: 'it returns false'. Refute it at one input. -/
def fnCutsMoreWrong : ChangeSpec := { name := "fnCutsMore", fn := fun _ => fun
  | [d1, d2] => { results := [.lit (.bool false)], args := [d1, d2] }
  | _ => none }
def FnCutsMoreWrongFalsely : Prop := fnCutsMoreRow.holds Try.pinned (OpenSpec.ofChange fnCutsMoreWrong)

/-- 'laws.FnBest': WHATEVER THE INPUT: true; the input reads as it did. -/
def fnBestSpec : ChangeSpec := { name := "fnBest", fn := fun _ => fun
  | [d] => { results := [.lit (.bool true)], args := [d] }
  | _ => none }
def fnBestRow : OpenClaim := { program := "ytmndlghadgccbac", sum := "8435eaeea9d5229c441903827eb39e4b82c376ed1827b47f9a3a062b819c6f5a", func := "loop.example/weatherarchive/laws.FnBest", spec := "fnBest", unfollowed := true, recurses := true, apart := false }
def FnBestSaid : Prop := fnBestRow.holds Try.pinned (OpenSpec.ofChange fnBestSpec)

/-- ITS FALSE NEIGHBOUR: 'it returns false'. Refute it at one input. -/
def fnBestWrong : ChangeSpec := { name := "fnBest", fn := fun _ => fun
  | [d] => { results := [.lit (.bool false)], args := [d] }
  | _ => none }
def FnBestWrongFalsely : Prop := fnBestRow.holds Try.pinned (OpenSpec.ofChange fnBestWrong)

/-- 'laws.FnBestOrder': WHATEVER THE INPUT: true; the input reads as it did. -/
def fnBestOrderSpec : ChangeSpec := { name := "fnBestOrder", fn := fun _ => fun
  | [d1, d2] => { results := [.lit (.bool true)], args := [d1, d2] }
  | _ => none }
def fnBestOrderRow : OpenClaim := { program := "ytmndlghadgccbac", sum := "8435eaeea9d5229c441903827eb39e4b82c376ed1827b47f9a3a062b819c6f5a", func := "loop.example/weatherarchive/laws.FnBestOrder", spec := "fnBestOrder", unfollowed := true, recurses := true, apart := false }
def FnBestOrderSaid : Prop := fnBestOrderRow.holds Try.pinned (OpenSpec.ofChange fnBestOrderSpec)

/-- ITS FALSE NEIGHBOUR: 'it returns false'. Refute it at one input. -/
def fnBestOrderWrong : ChangeSpec := { name := "fnBestOrder", fn := fun _ => fun
  | [d1, d2] => { results := [.lit (.bool false)], args := [d1, d2] }
  | _ => none }
def FnBestOrderWrongFalsely : Prop := fnBestOrderRow.holds Try.pinned (OpenSpec.ofChange fnBestOrderWrong)

/-- 'laws.FnBestFree': WHATEVER THE INPUT: true; the input reads as it did. -/
def fnBestFreeSpec : ChangeSpec := { name := "fnBestFree", fn := fun _ => fun
  | [d] => { results := [.lit (.bool true)], args := [d] }
  | _ => none }
def fnBestFreeRow : OpenClaim := { program := "ytmndlghadgccbac", sum := "8435eaeea9d5229c441903827eb39e4b82c376ed1827b47f9a3a062b819c6f5a", func := "loop.example/weatherarchive/laws.FnBestFree", spec := "fnBestFree", unfollowed := true, recurses := true, apart := false }
def FnBestFreeSaid : Prop := fnBestFreeRow.holds Try.pinned (OpenSpec.ofChange fnBestFreeSpec)

/-- ITS FALSE NEIGHBOUR: 'it returns false'. Refute it at one input. -/
def fnBestFreeWrong : ChangeSpec := { name := "fnBestFree", fn := fun _ => fun
  | [d] => { results := [.lit (.bool false)], args := [d] }
  | _ => none }
def FnBestFreeWrongFalsely : Prop := fnBestFreeRow.holds Try.pinned (OpenSpec.ofChange fnBestFreeWrong)

/-- 'laws.FnBestPrice': WHATEVER THE INPUT: true; the input reads as it did. -/
def fnBestPriceSpec : ChangeSpec := { name := "fnBestPrice", fn := fun _ => fun
  | [d] => { results := [.lit (.bool true)], args := [d] }
  | _ => none }
def fnBestPriceRow : OpenClaim := { program := "ytmndlghadgccbac", sum := "8435eaeea9d5229c441903827eb39e4b82c376ed1827b47f9a3a062b819c6f5a", func := "loop.example/weatherarchive/laws.FnBestPrice", spec := "fnBestPrice", unfollowed := true, recurses := true, apart := false }
def FnBestPriceSaid : Prop := fnBestPriceRow.holds Try.pinned (OpenSpec.ofChange fnBestPriceSpec)

/-- ITS FALSE NEIGHBOUR: 'it returns false'. Refute it at one input. -/
def fnBestPriceWrong : ChangeSpec := { name := "fnBestPrice", fn := fun _ => fun
  | [d] => { results := [.lit (.bool false)], args := [d] }
  | _ => none }
def FnBestPriceWrongFalsely : Prop := fnBestPriceRow.holds Try.pinned (OpenSpec.ofChange fnBestPriceWrong)

/-- 'laws.FnCutsPart': WHATEVER THE INPUT: true; the input reads as it did. -/
def fnCutsPartSpec : ChangeSpec := { name := "fnCutsPart", fn := fun _ => fun
  | [d1, d2] => { results := [.lit (.bool true)], args := [d1, d2] }
  | _ => none }
def fnCutsPartRow : OpenClaim := { program := "ytmndlghadgccbac", sum := "8435eaeea9d5229c441903827eb39e4b82c376ed1827b47f9a3a062b819c6f5a", func := "loop.example/weatherarchive/laws.FnCutsPart", spec := "fnCutsPart", apart := false }
def FnCutsPartSaid : Prop := fnCutsPartRow.holds Try.pinned (OpenSpec.ofChange fnCutsPartSpec)

/-- ITS FALSE NEIGHBOUR: 'it returns false'. Refute it at one input. -/
def fnCutsPartWrong : ChangeSpec := { name := "fnCutsPart", fn := fun _ => fun
  | [d1, d2] => { results := [.lit (.bool false)], args := [d1, d2] }
  | _ => none }
def FnCutsPartWrongFalsely : Prop := fnCutsPartRow.holds Try.pinned (OpenSpec.ofChange fnCutsPartWrong)

/-- 'laws.FnExactCutsValid': WHATEVER THE INPUT: true; the input reads as it did. -/
def fnExactCutsValidSpec : ChangeSpec := { name := "fnExactCutsValid", fn := fun _ => fun
  | [d1, d2] => { results := [.lit (.bool true)], args := [d1, d2] }
  | _ => none }
def fnExactCutsValidRow : OpenClaim := { program := "ytmndlghadgccbac", sum := "8435eaeea9d5229c441903827eb39e4b82c376ed1827b47f9a3a062b819c6f5a", func := "loop.example/weatherarchive/laws.FnExactCutsValid", spec := "fnExactCutsValid", apart := false }
def FnExactCutsValidSaid : Prop := fnExactCutsValidRow.holds Try.pinned (OpenSpec.ofChange fnExactCutsValidSpec)

/-- ITS FALSE NEIGHBOUR: 'it returns false'. Refute it at one input. -/
def fnExactCutsValidWrong : ChangeSpec := { name := "fnExactCutsValid", fn := fun _ => fun
  | [d1, d2] => { results := [.lit (.bool false)], args := [d1, d2] }
  | _ => none }
def FnExactCutsValidWrongFalsely : Prop := fnExactCutsValidRow.holds Try.pinned (OpenSpec.ofChange fnExactCutsValidWrong)

/-- 'laws.FnExactPartCost': WHATEVER THE INPUT: true; the input reads as it did. -/
def fnExactPartCostSpec : ChangeSpec := { name := "fnExactPartCost", fn := fun _ => fun
  | [d] => { results := [.lit (.bool true)], args := [d] }
  | _ => none }
def fnExactPartCostRow : OpenClaim := { program := "ytmndlghadgccbac", sum := "8435eaeea9d5229c441903827eb39e4b82c376ed1827b47f9a3a062b819c6f5a", func := "loop.example/weatherarchive/laws.FnExactPartCost", spec := "fnExactPartCost", unfollowed := true, recurses := true, apart := false }
def FnExactPartCostSaid : Prop := fnExactPartCostRow.holds Try.pinned (OpenSpec.ofChange fnExactPartCostSpec)

/-- ITS FALSE NEIGHBOUR: 'it returns false'. Refute it at one input. -/
def fnExactPartCostWrong : ChangeSpec := { name := "fnExactPartCost", fn := fun _ => fun
  | [d] => { results := [.lit (.bool false)], args := [d] }
  | _ => none }
def FnExactPartCostWrongFalsely : Prop := fnExactPartCostRow.holds Try.pinned (OpenSpec.ofChange fnExactPartCostWrong)

/-- 'laws.FnExactCutsCost': WHATEVER THE INPUT: true; the input reads as it did. -/
def fnExactCutsCostSpec : ChangeSpec := { name := "fnExactCutsCost", fn := fun _ => fun
  | [d1, d2, d3] => { results := [.lit (.bool true)], args := [d1, d2, d3] }
  | _ => none }
def fnExactCutsCostRow : OpenClaim := { program := "ytmndlghadgccbac", sum := "8435eaeea9d5229c441903827eb39e4b82c376ed1827b47f9a3a062b819c6f5a", func := "loop.example/weatherarchive/laws.FnExactCutsCost", spec := "fnExactCutsCost", unfollowed := true, recurses := true, apart := false }
def FnExactCutsCostSaid : Prop := fnExactCutsCostRow.holds Try.pinned (OpenSpec.ofChange fnExactCutsCostSpec)

/-- ITS FALSE NEIGHBOUR: 'it returns false'. Refute it at one input. -/
def fnExactCutsCostWrong : ChangeSpec := { name := "fnExactCutsCost", fn := fun _ => fun
  | [d1, d2, d3] => { results := [.lit (.bool false)], args := [d1, d2, d3] }
  | _ => none }
def FnExactCutsCostWrongFalsely : Prop := fnExactCutsCostRow.holds Try.pinned (OpenSpec.ofChange fnExactCutsCostWrong)

/-- 'laws.FnExactCutsBest': WHATEVER THE INPUT: true; the input reads as it did. -/
def fnExactCutsBestSpec : ChangeSpec := { name := "fnExactCutsBest", fn := fun _ => fun
  | [d1, d2] => { results := [.lit (.bool true)], args := [d1, d2] }
  | _ => none }
def fnExactCutsBestRow : OpenClaim := { program := "ytmndlghadgccbac", sum := "8435eaeea9d5229c441903827eb39e4b82c376ed1827b47f9a3a062b819c6f5a", func := "loop.example/weatherarchive/laws.FnExactCutsBest", spec := "fnExactCutsBest", unfollowed := true, recurses := true, apart := false }
def FnExactCutsBestSaid : Prop := fnExactCutsBestRow.holds Try.pinned (OpenSpec.ofChange fnExactCutsBestSpec)

/-- ITS FALSE NEIGHBOUR: 'it returns false'. Refute it at one input. -/
def fnExactCutsBestWrong : ChangeSpec := { name := "fnExactCutsBest", fn := fun _ => fun
  | [d1, d2] => { results := [.lit (.bool false)], args := [d1, d2] }
  | _ => none }
def FnExactCutsBestWrongFalsely : Prop := fnExactCutsBestRow.holds Try.pinned (OpenSpec.ofChange fnExactCutsBestWrong)

/- THE SECOND FORM. 'bulk': how many values and letters a reading holds, each counted each time it is reached (what is shared counts as often as it is met; a slice's spare places count too). A statement '..UptoSaid' is the law's where the arguments, and the package variables that the reading takes, are together of bulk at most 1048576: NARROWER than '..Said'. Prove '..Said' where nothing that the law and all that it calls make is longer than what came in: it says more and counts as full. Else prove '..UptoSaid'. A law counts once. -/
mutual
def uptoBulk {H : Type} : DataW H → Nat
  | .lit (.string bytes) => bytes.length + 1
  | .lit _ => 1
  | .nil => 1
  | .ptr d => uptoBulk d + 1
  | .slice elems spare => uptoBulkAll elems + uptoBulkAll spare + 1
  | .agg parts => uptoBulkAll parts + 1
  | .iface _ d => uptoBulk d + 1
  | .map entries => uptoBulkEntries entries + 1
  | .held _ => 1
def uptoBulkAll {H : Type} : List (DataW H) → Nat
  | [] => 0
  | d :: r => uptoBulk d + uptoBulkAll r
def uptoBulkEntries {H : Type} : List (Lit × DataW H) → Nat
  | [] => 0
  | x :: r => uptoBulkEntry x + uptoBulkEntries r
def uptoBulkEntry {H : Type} : Lit × DataW H → Nat
  | (.string bytes, d) => bytes.length + uptoBulk d + 1
  | (_, d) => uptoBulk d + 1
 end
def uptoSmall : (H : Type) → List (DataW H) → Bool := fun _ ds => decide (uptoBulkAll ds ≤ 1048576)
def OpenSpec.upto (s : _root_.Go.ChangeSpec) : _root_.Go.OpenSpec := { _root_.Go.OpenSpec.ofChange s with cond := some uptoSmall }

/-- 'laws.FnPart', WHERE WHAT IT READS IS OF BULK AT MOST 1048576: true; the input reads as it did. -/
def fnPartUptoRow : OpenClaim := { program := "ytmndlghadgccbac", sum := "8435eaeea9d5229c441903827eb39e4b82c376ed1827b47f9a3a062b819c6f5a", func := "loop.example/weatherarchive/laws.FnPart", spec := "fnPart", unfollowed := true, recurses := true, apart := false, narrowed := true }
def FnPartUptoSaid : Prop := fnPartUptoRow.holds Try.pinned (OpenSpec.upto fnPartSpec)

/-- 'laws.FnPartAdded', WHERE WHAT IT READS IS OF BULK AT MOST 1048576: true; the input reads as it did. -/
def fnPartAddedUptoRow : OpenClaim := { program := "ytmndlghadgccbac", sum := "8435eaeea9d5229c441903827eb39e4b82c376ed1827b47f9a3a062b819c6f5a", func := "loop.example/weatherarchive/laws.FnPartAdded", spec := "fnPartAdded", unfollowed := true, recurses := true, apart := false, narrowed := true }
def FnPartAddedUptoSaid : Prop := fnPartAddedUptoRow.holds Try.pinned (OpenSpec.upto fnPartAddedSpec)

/-- 'laws.FnCutsCost', WHERE WHAT IT READS IS OF BULK AT MOST 1048576: true; the input reads as it did. -/
def fnCutsCostUptoRow : OpenClaim := { program := "ytmndlghadgccbac", sum := "8435eaeea9d5229c441903827eb39e4b82c376ed1827b47f9a3a062b819c6f5a", func := "loop.example/weatherarchive/laws.FnCutsCost", spec := "fnCutsCost", unfollowed := true, recurses := true, apart := false, narrowed := true }
def FnCutsCostUptoSaid : Prop := fnCutsCostUptoRow.holds Try.pinned (OpenSpec.upto fnCutsCostSpec)

/-- 'laws.FnCutsMore', WHERE WHAT IT READS IS OF BULK AT MOST 1048576: true; the input reads as it did. -/
def fnCutsMoreUptoRow : OpenClaim := { program := "ytmndlghadgccbac", sum := "8435eaeea9d5229c441903827eb39e4b82c376ed1827b47f9a3a062b819c6f5a", func := "loop.example/weatherarchive/laws.FnCutsMore", spec := "fnCutsMore", unfollowed := true, recurses := true, apart := false, narrowed := true }
def FnCutsMoreUptoSaid : Prop := fnCutsMoreUptoRow.holds Try.pinned (OpenSpec.upto fnCutsMoreSpec)

/-- 'laws.FnBest', WHERE WHAT IT READS IS OF BULK AT MOST 1048576: true; the input reads as it did. -/
def fnBestUptoRow : OpenClaim := { program := "ytmndlghadgccbac", sum := "8435eaeea9d5229c441903827eb39e4b82c376ed1827b47f9a3a062b819c6f5a", func := "loop.example/weatherarchive/laws.FnBest", spec := "fnBest", unfollowed := true, recurses := true, apart := false, narrowed := true }
def FnBestUptoSaid : Prop := fnBestUptoRow.holds Try.pinned (OpenSpec.upto fnBestSpec)

/-- 'laws.FnBestOrder', WHERE WHAT IT READS IS OF BULK AT MOST 1048576: true; the input reads as it did. -/
def fnBestOrderUptoRow : OpenClaim := { program := "ytmndlghadgccbac", sum := "8435eaeea9d5229c441903827eb39e4b82c376ed1827b47f9a3a062b819c6f5a", func := "loop.example/weatherarchive/laws.FnBestOrder", spec := "fnBestOrder", unfollowed := true, recurses := true, apart := false, narrowed := true }
def FnBestOrderUptoSaid : Prop := fnBestOrderUptoRow.holds Try.pinned (OpenSpec.upto fnBestOrderSpec)

/-- 'laws.FnBestFree', WHERE WHAT IT READS IS OF BULK AT MOST 1048576: true; the input reads as it did. -/
def fnBestFreeUptoRow : OpenClaim := { program := "ytmndlghadgccbac", sum := "8435eaeea9d5229c441903827eb39e4b82c376ed1827b47f9a3a062b819c6f5a", func := "loop.example/weatherarchive/laws.FnBestFree", spec := "fnBestFree", unfollowed := true, recurses := true, apart := false, narrowed := true }
def FnBestFreeUptoSaid : Prop := fnBestFreeUptoRow.holds Try.pinned (OpenSpec.upto fnBestFreeSpec)

/-- 'laws.FnBestPrice', WHERE WHAT IT READS IS OF BULK AT MOST 1048576: true; the input reads as it did. -/
def fnBestPriceUptoRow : OpenClaim := { program := "ytmndlghadgccbac", sum := "8435eaeea9d5229c441903827eb39e4b82c376ed1827b47f9a3a062b819c6f5a", func := "loop.example/weatherarchive/laws.FnBestPrice", spec := "fnBestPrice", unfollowed := true, recurses := true, apart := false, narrowed := true }
def FnBestPriceUptoSaid : Prop := fnBestPriceUptoRow.holds Try.pinned (OpenSpec.upto fnBestPriceSpec)

/-- 'laws.FnCutsPart', WHERE WHAT IT READS IS OF BULK AT MOST 1048576: true; the input reads as it did. -/
def fnCutsPartUptoRow : OpenClaim := { program := "ytmndlghadgccbac", sum := "8435eaeea9d5229c441903827eb39e4b82c376ed1827b47f9a3a062b819c6f5a", func := "loop.example/weatherarchive/laws.FnCutsPart", spec := "fnCutsPart", apart := false, narrowed := true }
def FnCutsPartUptoSaid : Prop := fnCutsPartUptoRow.holds Try.pinned (OpenSpec.upto fnCutsPartSpec)

/-- 'laws.FnExactCutsValid', WHERE WHAT IT READS IS OF BULK AT MOST 1048576: true; the input reads as it did. -/
def fnExactCutsValidUptoRow : OpenClaim := { program := "ytmndlghadgccbac", sum := "8435eaeea9d5229c441903827eb39e4b82c376ed1827b47f9a3a062b819c6f5a", func := "loop.example/weatherarchive/laws.FnExactCutsValid", spec := "fnExactCutsValid", apart := false, narrowed := true }
def FnExactCutsValidUptoSaid : Prop := fnExactCutsValidUptoRow.holds Try.pinned (OpenSpec.upto fnExactCutsValidSpec)

/-- 'laws.FnExactPartCost', WHERE WHAT IT READS IS OF BULK AT MOST 1048576: true; the input reads as it did. -/
def fnExactPartCostUptoRow : OpenClaim := { program := "ytmndlghadgccbac", sum := "8435eaeea9d5229c441903827eb39e4b82c376ed1827b47f9a3a062b819c6f5a", func := "loop.example/weatherarchive/laws.FnExactPartCost", spec := "fnExactPartCost", unfollowed := true, recurses := true, apart := false, narrowed := true }
def FnExactPartCostUptoSaid : Prop := fnExactPartCostUptoRow.holds Try.pinned (OpenSpec.upto fnExactPartCostSpec)

/-- 'laws.FnExactCutsCost', WHERE WHAT IT READS IS OF BULK AT MOST 1048576: true; the input reads as it did. -/
def fnExactCutsCostUptoRow : OpenClaim := { program := "ytmndlghadgccbac", sum := "8435eaeea9d5229c441903827eb39e4b82c376ed1827b47f9a3a062b819c6f5a", func := "loop.example/weatherarchive/laws.FnExactCutsCost", spec := "fnExactCutsCost", unfollowed := true, recurses := true, apart := false, narrowed := true }
def FnExactCutsCostUptoSaid : Prop := fnExactCutsCostUptoRow.holds Try.pinned (OpenSpec.upto fnExactCutsCostSpec)

/-- 'laws.FnExactCutsBest', WHERE WHAT IT READS IS OF BULK AT MOST 1048576: true; the input reads as it did. -/
def fnExactCutsBestUptoRow : OpenClaim := { program := "ytmndlghadgccbac", sum := "8435eaeea9d5229c441903827eb39e4b82c376ed1827b47f9a3a062b819c6f5a", func := "loop.example/weatherarchive/laws.FnExactCutsBest", spec := "fnExactCutsBest", unfollowed := true, recurses := true, apart := false, narrowed := true }
def FnExactCutsBestUptoSaid : Prop := fnExactCutsBestUptoRow.holds Try.pinned (OpenSpec.upto fnExactCutsBestSpec)

end Rows
end Go.Proofs.Ytmndlghadgccbac
