/-
  No cell of these rows narrows 'for every input' (looked for: loops, veiled, ifaces, maps, wideKeys, modest, calm, conditions, laid).
  DERIVED. THE GIVEN ROWS OF THIS SEAT. 13 by the template 'for every input the law returns true; each argument reads behind the call as it read before'; 0 by the template 'total and deterministic' (their statements: YtaghgapkjdkkfaaTotals.lean).
  GIVEN WITH THE SEED: the statements are not yours to turn. If you find one false, say at which input.
  Laid BY PROGRAM, IN A SANDBOX (cutbox-rows.mjs): the forced cells as the released guide's own fill.sh prints them over the translation 5abb423a6a38a90f… (all of the seat's roots in one cut). By AI agents, Wed Nov 11 2026. No macro, syntax, notation, axiom, sorry.
-/
import Derived.Test.YtaghgapkjdkkfaaChecked
import GoSem.Claim
import GoSem.ClaimJoined
import GoSem.ClaimMapViews
import Derived.JoinedTies
import Derived.KernelRfl
namespace Go.Proofs.Ytaghgapkjdkkfaa
/- THE CELL 'sum', in the pinned program and in every row, IS THE sha256 OF THE DUMP (.gsa) THAT YtaghgapkjdkkfaaProg.lean LOADS. Nothing in Lean hashes anything: it is a label: what it is worth is what the hold of that sum in a sandbox is worth. -/
noncomputable def Try.pinned : Pinned := { name := "ytaghgapkjdkkfaa", sum := "5abb423a6a38a90f70f34b4a6e130ff2dc5389182fe659364d86d49cb6e55e78", checked := Try.checked }
namespace Rows
def none {H : Type} : Left H := { results := [], args := [] }

/-- 'laws.FnFlags': WHATEVER THE INPUT: true; the input reads as it did. -/
def fnFlagsSpec : ChangeSpec := { name := "fnFlags", fn := fun _ => fun
  | [d] => { results := [.lit (.bool true)], args := [d] }
  | _ => none }
def fnFlagsRow : OpenClaim := { program := "ytaghgapkjdkkfaa", sum := "5abb423a6a38a90f70f34b4a6e130ff2dc5389182fe659364d86d49cb6e55e78", func := "loop.example/weatherarchive/laws.FnFlags", spec := "fnFlags", unfollowed := true, recurses := true, apart := false }
def FnFlagsSaid : Prop := fnFlagsRow.holds Try.pinned (OpenSpec.ofChange fnFlagsSpec)

/-- ITS FALSE NEIGHBOUR: 'it returns false'. Refute it at one input. -/
def fnFlagsWrong : ChangeSpec := { name := "fnFlags", fn := fun _ => fun
  | [d] => { results := [.lit (.bool false)], args := [d] }
  | _ => none }
def FnFlagsWrongFalsely : Prop := fnFlagsRow.holds Try.pinned (OpenSpec.ofChange fnFlagsWrong)

/-- 'laws.FnFlagsStep': WHATEVER THE INPUT: true; the input reads as it did. -/
def fnFlagsStepSpec : ChangeSpec := { name := "fnFlagsStep", fn := fun _ => fun
  | [d] => { results := [.lit (.bool true)], args := [d] }
  | _ => none }
def fnFlagsStepRow : OpenClaim := { program := "ytaghgapkjdkkfaa", sum := "5abb423a6a38a90f70f34b4a6e130ff2dc5389182fe659364d86d49cb6e55e78", func := "loop.example/weatherarchive/laws.FnFlagsStep", spec := "fnFlagsStep", unfollowed := true, recurses := true, apart := false }
def FnFlagsStepSaid : Prop := fnFlagsStepRow.holds Try.pinned (OpenSpec.ofChange fnFlagsStepSpec)

/-- ITS FALSE NEIGHBOUR: 'it returns false'. Refute it at one input. -/
def fnFlagsStepWrong : ChangeSpec := { name := "fnFlagsStep", fn := fun _ => fun
  | [d] => { results := [.lit (.bool false)], args := [d] }
  | _ => none }
def FnFlagsStepWrongFalsely : Prop := fnFlagsStepRow.holds Try.pinned (OpenSpec.ofChange fnFlagsStepWrong)

/-- 'laws.FnFlagsSame': WHATEVER THE INPUT: true; the input reads as it did. -/
def fnFlagsSameSpec : ChangeSpec := { name := "fnFlagsSame", fn := fun _ => fun
  | [d] => { results := [.lit (.bool true)], args := [d] }
  | _ => none }
def fnFlagsSameRow : OpenClaim := { program := "ytaghgapkjdkkfaa", sum := "5abb423a6a38a90f70f34b4a6e130ff2dc5389182fe659364d86d49cb6e55e78", func := "loop.example/weatherarchive/laws.FnFlagsSame", spec := "fnFlagsSame", unfollowed := true, recurses := true, apart := false }
def FnFlagsSameSaid : Prop := fnFlagsSameRow.holds Try.pinned (OpenSpec.ofChange fnFlagsSameSpec)

/-- ITS FALSE NEIGHBOUR: 'it returns false'. Refute it at one input. -/
def fnFlagsSameWrong : ChangeSpec := { name := "fnFlagsSame", fn := fun _ => fun
  | [d] => { results := [.lit (.bool false)], args := [d] }
  | _ => none }
def FnFlagsSameWrongFalsely : Prop := fnFlagsSameRow.holds Try.pinned (OpenSpec.ofChange fnFlagsSameWrong)

/-- 'laws.FnFlagsAdded': WHATEVER THE INPUT: true; the input reads as it did. -/
def fnFlagsAddedSpec : ChangeSpec := { name := "fnFlagsAdded", fn := fun _ => fun
  | [d] => { results := [.lit (.bool true)], args := [d] }
  | _ => none }
def fnFlagsAddedRow : OpenClaim := { program := "ytaghgapkjdkkfaa", sum := "5abb423a6a38a90f70f34b4a6e130ff2dc5389182fe659364d86d49cb6e55e78", func := "loop.example/weatherarchive/laws.FnFlagsAdded", spec := "fnFlagsAdded", unfollowed := true, recurses := true, apart := false }
def FnFlagsAddedSaid : Prop := fnFlagsAddedRow.holds Try.pinned (OpenSpec.ofChange fnFlagsAddedSpec)

/-- ITS FALSE NEIGHBOUR: 'it returns false'. Refute it at one input. -/
def fnFlagsAddedWrong : ChangeSpec := { name := "fnFlagsAdded", fn := fun _ => fun
  | [d] => { results := [.lit (.bool false)], args := [d] }
  | _ => none }
def FnFlagsAddedWrongFalsely : Prop := fnFlagsAddedRow.holds Try.pinned (OpenSpec.ofChange fnFlagsAddedWrong)

/-- 'laws.FnFlagsClean': WHATEVER THE INPUT: true; the input reads as it did. -/
def fnFlagsCleanSpec : ChangeSpec := { name := "fnFlagsClean", fn := fun _ => fun
  | [d] => { results := [.lit (.bool true)], args := [d] }
  | _ => none }
def fnFlagsCleanRow : OpenClaim := { program := "ytaghgapkjdkkfaa", sum := "5abb423a6a38a90f70f34b4a6e130ff2dc5389182fe659364d86d49cb6e55e78", func := "loop.example/weatherarchive/laws.FnFlagsClean", spec := "fnFlagsClean", apart := false }
def FnFlagsCleanSaid : Prop := fnFlagsCleanRow.holds Try.pinned (OpenSpec.ofChange fnFlagsCleanSpec)

/-- ITS FALSE NEIGHBOUR: 'it returns false'. Refute it at one input. -/
def fnFlagsCleanWrong : ChangeSpec := { name := "fnFlagsClean", fn := fun _ => fun
  | [d] => { results := [.lit (.bool false)], args := [d] }
  | _ => none }
def FnFlagsCleanWrongFalsely : Prop := fnFlagsCleanRow.holds Try.pinned (OpenSpec.ofChange fnFlagsCleanWrong)

/-- 'laws.FnFlagsTwice': WHATEVER THE INPUT: true; the input reads as it did. -/
def fnFlagsTwiceSpec : ChangeSpec := { name := "fnFlagsTwice", fn := fun _ => fun
  | [d] => { results := [.lit (.bool true)], args := [d] }
  | _ => none }
def fnFlagsTwiceRow : OpenClaim := { program := "ytaghgapkjdkkfaa", sum := "5abb423a6a38a90f70f34b4a6e130ff2dc5389182fe659364d86d49cb6e55e78", func := "loop.example/weatherarchive/laws.FnFlagsTwice", spec := "fnFlagsTwice", apart := false }
def FnFlagsTwiceSaid : Prop := fnFlagsTwiceRow.holds Try.pinned (OpenSpec.ofChange fnFlagsTwiceSpec)

/-- ITS FALSE NEIGHBOUR: 'it returns false'. Refute it at one input. -/
def fnFlagsTwiceWrong : ChangeSpec := { name := "fnFlagsTwice", fn := fun _ => fun
  | [d] => { results := [.lit (.bool false)], args := [d] }
  | _ => none }
def FnFlagsTwiceWrongFalsely : Prop := fnFlagsTwiceRow.holds Try.pinned (OpenSpec.ofChange fnFlagsTwiceWrong)

/-- 'laws.FnSeriesKnown': WHATEVER THE INPUT: true; the input reads as it did. -/
def fnSeriesKnownSpec : ChangeSpec := { name := "fnSeriesKnown", fn := fun _ => fun
  | [d] => { results := [.lit (.bool true)], args := [d] }
  | _ => none }
def fnSeriesKnownRow : OpenClaim := { program := "ytaghgapkjdkkfaa", sum := "5abb423a6a38a90f70f34b4a6e130ff2dc5389182fe659364d86d49cb6e55e78", func := "loop.example/weatherarchive/laws.FnSeriesKnown", spec := "fnSeriesKnown", apart := false }
def FnSeriesKnownSaid : Prop := fnSeriesKnownRow.holds Try.pinned (OpenSpec.ofChange fnSeriesKnownSpec)

/-- ITS FALSE NEIGHBOUR: 'it returns false'. Refute it at one input. -/
def fnSeriesKnownWrong : ChangeSpec := { name := "fnSeriesKnown", fn := fun _ => fun
  | [d] => { results := [.lit (.bool false)], args := [d] }
  | _ => none }
def FnSeriesKnownWrongFalsely : Prop := fnSeriesKnownRow.holds Try.pinned (OpenSpec.ofChange fnSeriesKnownWrong)

/-- 'laws.FnSeriesPart': WHATEVER THE INPUT: true; the input reads as it did. -/
def fnSeriesPartSpec : ChangeSpec := { name := "fnSeriesPart", fn := fun _ => fun
  | [d1, d2] => { results := [.lit (.bool true)], args := [d1, d2] }
  | _ => none }
def fnSeriesPartRow : OpenClaim := { program := "ytaghgapkjdkkfaa", sum := "5abb423a6a38a90f70f34b4a6e130ff2dc5389182fe659364d86d49cb6e55e78", func := "loop.example/weatherarchive/laws.FnSeriesPart", spec := "fnSeriesPart", apart := false }
def FnSeriesPartSaid : Prop := fnSeriesPartRow.holds Try.pinned (OpenSpec.ofChange fnSeriesPartSpec)

/-- ITS FALSE NEIGHBOUR: 'it returns false'. Refute it at one input. -/
def fnSeriesPartWrong : ChangeSpec := { name := "fnSeriesPart", fn := fun _ => fun
  | [d1, d2] => { results := [.lit (.bool false)], args := [d1, d2] }
  | _ => none }
def FnSeriesPartWrongFalsely : Prop := fnSeriesPartRow.holds Try.pinned (OpenSpec.ofChange fnSeriesPartWrong)

/-- 'laws.FnFlagsWide': WHATEVER THE INPUT: true; the input reads as it did. -/
def fnFlagsWideSpec : ChangeSpec := { name := "fnFlagsWide", fn := fun _ => fun
  | [d] => { results := [.lit (.bool true)], args := [d] }
  | _ => none }
def fnFlagsWideRow : OpenClaim := { program := "ytaghgapkjdkkfaa", sum := "5abb423a6a38a90f70f34b4a6e130ff2dc5389182fe659364d86d49cb6e55e78", func := "loop.example/weatherarchive/laws.FnFlagsWide", spec := "fnFlagsWide", unfollowed := true, recurses := true, apart := false }
def FnFlagsWideSaid : Prop := fnFlagsWideRow.holds Try.pinned (OpenSpec.ofChange fnFlagsWideSpec)

/-- ITS FALSE NEIGHBOUR: 'it returns false'. Refute it at one input. -/
def fnFlagsWideWrong : ChangeSpec := { name := "fnFlagsWide", fn := fun _ => fun
  | [d] => { results := [.lit (.bool false)], args := [d] }
  | _ => none }
def FnFlagsWideWrongFalsely : Prop := fnFlagsWideRow.holds Try.pinned (OpenSpec.ofChange fnFlagsWideWrong)

/-- 'laws.FnExactSeriesValid': WHATEVER THE INPUT: true; the input reads as it did. -/
def fnExactSeriesValidSpec : ChangeSpec := { name := "fnExactSeriesValid", fn := fun _ => fun
  | [d] => { results := [.lit (.bool true)], args := [d] }
  | _ => none }
def fnExactSeriesValidRow : OpenClaim := { program := "ytaghgapkjdkkfaa", sum := "5abb423a6a38a90f70f34b4a6e130ff2dc5389182fe659364d86d49cb6e55e78", func := "loop.example/weatherarchive/laws.FnExactSeriesValid", spec := "fnExactSeriesValid", apart := false }
def FnExactSeriesValidSaid : Prop := fnExactSeriesValidRow.holds Try.pinned (OpenSpec.ofChange fnExactSeriesValidSpec)

/-- ITS FALSE NEIGHBOUR: 'it returns false'. Refute it at one input. -/
def fnExactSeriesValidWrong : ChangeSpec := { name := "fnExactSeriesValid", fn := fun _ => fun
  | [d] => { results := [.lit (.bool false)], args := [d] }
  | _ => none }
def FnExactSeriesValidWrongFalsely : Prop := fnExactSeriesValidRow.holds Try.pinned (OpenSpec.ofChange fnExactSeriesValidWrong)

/-- 'laws.FnExactFlagsOf': WHATEVER THE INPUT: true; the input reads as it did. -/
def fnExactFlagsOfSpec : ChangeSpec := { name := "fnExactFlagsOf", fn := fun _ => fun
  | [d1, d2, d3, d4] => { results := [.lit (.bool true)], args := [d1, d2, d3, d4] }
  | _ => none }
def fnExactFlagsOfRow : OpenClaim := { program := "ytaghgapkjdkkfaa", sum := "5abb423a6a38a90f70f34b4a6e130ff2dc5389182fe659364d86d49cb6e55e78", func := "loop.example/weatherarchive/laws.FnExactFlagsOf", spec := "fnExactFlagsOf", unfollowed := true, recurses := true, apart := false }
def FnExactFlagsOfSaid : Prop := fnExactFlagsOfRow.holds Try.pinned (OpenSpec.ofChange fnExactFlagsOfSpec)

/-- ITS FALSE NEIGHBOUR: 'it returns false'. Refute it at one input. -/
def fnExactFlagsOfWrong : ChangeSpec := { name := "fnExactFlagsOf", fn := fun _ => fun
  | [d1, d2, d3, d4] => { results := [.lit (.bool false)], args := [d1, d2, d3, d4] }
  | _ => none }
def FnExactFlagsOfWrongFalsely : Prop := fnExactFlagsOfRow.holds Try.pinned (OpenSpec.ofChange fnExactFlagsOfWrong)

/-- 'laws.FnExactFlagsClean': WHATEVER THE INPUT: true; the input reads as it did. -/
def fnExactFlagsCleanSpec : ChangeSpec := { name := "fnExactFlagsClean", fn := fun _ => fun
  | [d1, d2] => { results := [.lit (.bool true)], args := [d1, d2] }
  | _ => none }
def fnExactFlagsCleanRow : OpenClaim := { program := "ytaghgapkjdkkfaa", sum := "5abb423a6a38a90f70f34b4a6e130ff2dc5389182fe659364d86d49cb6e55e78", func := "loop.example/weatherarchive/laws.FnExactFlagsClean", spec := "fnExactFlagsClean", apart := false }
def FnExactFlagsCleanSaid : Prop := fnExactFlagsCleanRow.holds Try.pinned (OpenSpec.ofChange fnExactFlagsCleanSpec)

/-- ITS FALSE NEIGHBOUR: 'it returns false'. Refute it at one input. -/
def fnExactFlagsCleanWrong : ChangeSpec := { name := "fnExactFlagsClean", fn := fun _ => fun
  | [d1, d2] => { results := [.lit (.bool false)], args := [d1, d2] }
  | _ => none }
def FnExactFlagsCleanWrongFalsely : Prop := fnExactFlagsCleanRow.holds Try.pinned (OpenSpec.ofChange fnExactFlagsCleanWrong)

/-- 'laws.FnExactSeriesKnown': WHATEVER THE INPUT: true; the input reads as it did. -/
def fnExactSeriesKnownSpec : ChangeSpec := { name := "fnExactSeriesKnown", fn := fun _ => fun
  | [d] => { results := [.lit (.bool true)], args := [d] }
  | _ => none }
def fnExactSeriesKnownRow : OpenClaim := { program := "ytaghgapkjdkkfaa", sum := "5abb423a6a38a90f70f34b4a6e130ff2dc5389182fe659364d86d49cb6e55e78", func := "loop.example/weatherarchive/laws.FnExactSeriesKnown", spec := "fnExactSeriesKnown", apart := false }
def FnExactSeriesKnownSaid : Prop := fnExactSeriesKnownRow.holds Try.pinned (OpenSpec.ofChange fnExactSeriesKnownSpec)

/-- ITS FALSE NEIGHBOUR: 'it returns false'. Refute it at one input. -/
def fnExactSeriesKnownWrong : ChangeSpec := { name := "fnExactSeriesKnown", fn := fun _ => fun
  | [d] => { results := [.lit (.bool false)], args := [d] }
  | _ => none }
def FnExactSeriesKnownWrongFalsely : Prop := fnExactSeriesKnownRow.holds Try.pinned (OpenSpec.ofChange fnExactSeriesKnownWrong)

/- THE SECOND FORM. 'bulk': how many values and letters a reading holds, each counted each time it is reached (what is shared counts as often as it is met; a slice's spare places count too). A statement '..UptoSaid' is the law's where the arguments, and the package variables that the reading takes, are together of bulk at most 1048576: NARROWER than '..Said'. Prove '..Said' where nothing that the law and all that it calls make is longer than what came in: it says more and counts as full. Else prove '..UptoSaid'. A law counts once. -/
mutual
def uptoBulk {H : Type} : DataW H → Nat
  | .lit (.string bytes) => bytes.length + 1
  | .lit _ => 1
  | .nil => 1
  | .ptr d => uptoBulk d + 1
  | .slice elems spare => uptoBulkAll elems + uptoBulkAll spare + 1
  | .agg parts => uptoBulkAll parts + 1
  | .iface _ d => uptoBulk d + 1
  | .map entries => uptoBulkEntries entries + 1
  | .held _ => 1
def uptoBulkAll {H : Type} : List (DataW H) → Nat
  | [] => 0
  | d :: r => uptoBulk d + uptoBulkAll r
def uptoBulkEntries {H : Type} : List (Lit × DataW H) → Nat
  | [] => 0
  | x :: r => uptoBulkEntry x + uptoBulkEntries r
def uptoBulkEntry {H : Type} : Lit × DataW H → Nat
  | (.string bytes, d) => bytes.length + uptoBulk d + 1
  | (_, d) => uptoBulk d + 1
 end
def uptoSmall : (H : Type) → List (DataW H) → Bool := fun _ ds => decide (uptoBulkAll ds ≤ 1048576)
def OpenSpec.upto (s : _root_.Go.ChangeSpec) : _root_.Go.OpenSpec := { _root_.Go.OpenSpec.ofChange s with cond := some uptoSmall }

/-- 'laws.FnFlags', WHERE WHAT IT READS IS OF BULK AT MOST 1048576: true; the input reads as it did. -/
def fnFlagsUptoRow : OpenClaim := { program := "ytaghgapkjdkkfaa", sum := "5abb423a6a38a90f70f34b4a6e130ff2dc5389182fe659364d86d49cb6e55e78", func := "loop.example/weatherarchive/laws.FnFlags", spec := "fnFlags", unfollowed := true, recurses := true, apart := false, narrowed := true }
def FnFlagsUptoSaid : Prop := fnFlagsUptoRow.holds Try.pinned (OpenSpec.upto fnFlagsSpec)

/-- 'laws.FnFlagsStep', WHERE WHAT IT READS IS OF BULK AT MOST 1048576: true; the input reads as it did. -/
def fnFlagsStepUptoRow : OpenClaim := { program := "ytaghgapkjdkkfaa", sum := "5abb423a6a38a90f70f34b4a6e130ff2dc5389182fe659364d86d49cb6e55e78", func := "loop.example/weatherarchive/laws.FnFlagsStep", spec := "fnFlagsStep", unfollowed := true, recurses := true, apart := false, narrowed := true }
def FnFlagsStepUptoSaid : Prop := fnFlagsStepUptoRow.holds Try.pinned (OpenSpec.upto fnFlagsStepSpec)

/-- 'laws.FnFlagsSame', WHERE WHAT IT READS IS OF BULK AT MOST 1048576: true; the input reads as it did. -/
def fnFlagsSameUptoRow : OpenClaim := { program := "ytaghgapkjdkkfaa", sum := "5abb423a6a38a90f70f34b4a6e130ff2dc5389182fe659364d86d49cb6e55e78", func := "loop.example/weatherarchive/laws.FnFlagsSame", spec := "fnFlagsSame", unfollowed := true, recurses := true, apart := false, narrowed := true }
def FnFlagsSameUptoSaid : Prop := fnFlagsSameUptoRow.holds Try.pinned (OpenSpec.upto fnFlagsSameSpec)

/-- 'laws.FnFlagsAdded', WHERE WHAT IT READS IS OF BULK AT MOST 1048576: true; the input reads as it did. -/
def fnFlagsAddedUptoRow : OpenClaim := { program := "ytaghgapkjdkkfaa", sum := "5abb423a6a38a90f70f34b4a6e130ff2dc5389182fe659364d86d49cb6e55e78", func := "loop.example/weatherarchive/laws.FnFlagsAdded", spec := "fnFlagsAdded", unfollowed := true, recurses := true, apart := false, narrowed := true }
def FnFlagsAddedUptoSaid : Prop := fnFlagsAddedUptoRow.holds Try.pinned (OpenSpec.upto fnFlagsAddedSpec)

/-- 'laws.FnFlagsClean', WHERE WHAT IT READS IS OF BULK AT MOST 1048576: true; the input reads as it did. -/
def fnFlagsCleanUptoRow : OpenClaim := { program := "ytaghgapkjdkkfaa", sum := "5abb423a6a38a90f70f34b4a6e130ff2dc5389182fe659364d86d49cb6e55e78", func := "loop.example/weatherarchive/laws.FnFlagsClean", spec := "fnFlagsClean", apart := false, narrowed := true }
def FnFlagsCleanUptoSaid : Prop := fnFlagsCleanUptoRow.holds Try.pinned (OpenSpec.upto fnFlagsCleanSpec)

/-- 'laws.FnFlagsTwice', WHERE WHAT IT READS IS OF BULK AT MOST 1048576: true; the input reads as it did. -/
def fnFlagsTwiceUptoRow : OpenClaim := { program := "ytaghgapkjdkkfaa", sum := "5abb423a6a38a90f70f34b4a6e130ff2dc5389182fe659364d86d49cb6e55e78", func := "loop.example/weatherarchive/laws.FnFlagsTwice", spec := "fnFlagsTwice", apart := false, narrowed := true }
def FnFlagsTwiceUptoSaid : Prop := fnFlagsTwiceUptoRow.holds Try.pinned (OpenSpec.upto fnFlagsTwiceSpec)

/-- 'laws.FnSeriesKnown', WHERE WHAT IT READS IS OF BULK AT MOST 1048576: true; the input reads as it did. -/
def fnSeriesKnownUptoRow : OpenClaim := { program := "ytaghgapkjdkkfaa", sum := "5abb423a6a38a90f70f34b4a6e130ff2dc5389182fe659364d86d49cb6e55e78", func := "loop.example/weatherarchive/laws.FnSeriesKnown", spec := "fnSeriesKnown", apart := false, narrowed := true }
def FnSeriesKnownUptoSaid : Prop := fnSeriesKnownUptoRow.holds Try.pinned (OpenSpec.upto fnSeriesKnownSpec)

/-- 'laws.FnSeriesPart', WHERE WHAT IT READS IS OF BULK AT MOST 1048576: true; the input reads as it did. -/
def fnSeriesPartUptoRow : OpenClaim := { program := "ytaghgapkjdkkfaa", sum := "5abb423a6a38a90f70f34b4a6e130ff2dc5389182fe659364d86d49cb6e55e78", func := "loop.example/weatherarchive/laws.FnSeriesPart", spec := "fnSeriesPart", apart := false, narrowed := true }
def FnSeriesPartUptoSaid : Prop := fnSeriesPartUptoRow.holds Try.pinned (OpenSpec.upto fnSeriesPartSpec)

/-- 'laws.FnFlagsWide', WHERE WHAT IT READS IS OF BULK AT MOST 1048576: true; the input reads as it did. -/
def fnFlagsWideUptoRow : OpenClaim := { program := "ytaghgapkjdkkfaa", sum := "5abb423a6a38a90f70f34b4a6e130ff2dc5389182fe659364d86d49cb6e55e78", func := "loop.example/weatherarchive/laws.FnFlagsWide", spec := "fnFlagsWide", unfollowed := true, recurses := true, apart := false, narrowed := true }
def FnFlagsWideUptoSaid : Prop := fnFlagsWideUptoRow.holds Try.pinned (OpenSpec.upto fnFlagsWideSpec)

/-- 'laws.FnExactSeriesValid', WHERE WHAT IT READS IS OF BULK AT MOST 1048576: true; the input reads as it did. -/
def fnExactSeriesValidUptoRow : OpenClaim := { program := "ytaghgapkjdkkfaa", sum := "5abb423a6a38a90f70f34b4a6e130ff2dc5389182fe659364d86d49cb6e55e78", func := "loop.example/weatherarchive/laws.FnExactSeriesValid", spec := "fnExactSeriesValid", apart := false, narrowed := true }
def FnExactSeriesValidUptoSaid : Prop := fnExactSeriesValidUptoRow.holds Try.pinned (OpenSpec.upto fnExactSeriesValidSpec)

/-- 'laws.FnExactFlagsOf', WHERE WHAT IT READS IS OF BULK AT MOST 1048576: true; the input reads as it did. -/
def fnExactFlagsOfUptoRow : OpenClaim := { program := "ytaghgapkjdkkfaa", sum := "5abb423a6a38a90f70f34b4a6e130ff2dc5389182fe659364d86d49cb6e55e78", func := "loop.example/weatherarchive/laws.FnExactFlagsOf", spec := "fnExactFlagsOf", unfollowed := true, recurses := true, apart := false, narrowed := true }
def FnExactFlagsOfUptoSaid : Prop := fnExactFlagsOfUptoRow.holds Try.pinned (OpenSpec.upto fnExactFlagsOfSpec)

/-- 'laws.FnExactFlagsClean', WHERE WHAT IT READS IS OF BULK AT MOST 1048576: true; the input reads as it did. -/
def fnExactFlagsCleanUptoRow : OpenClaim := { program := "ytaghgapkjdkkfaa", sum := "5abb423a6a38a90f70f34b4a6e130ff2dc5389182fe659364d86d49cb6e55e78", func := "loop.example/weatherarchive/laws.FnExactFlagsClean", spec := "fnExactFlagsClean", apart := false, narrowed := true }
def FnExactFlagsCleanUptoSaid : Prop := fnExactFlagsCleanUptoRow.holds Try.pinned (OpenSpec.upto fnExactFlagsCleanSpec)

/-- 'laws.FnExactSeriesKnown', WHERE WHAT IT READS IS OF BULK AT MOST 1048576: true; the input reads as it did. -/
def fnExactSeriesKnownUptoRow : OpenClaim := { program := "ytaghgapkjdkkfaa", sum := "5abb423a6a38a90f70f34b4a6e130ff2dc5389182fe659364d86d49cb6e55e78", func := "loop.example/weatherarchive/laws.FnExactSeriesKnown", spec := "fnExactSeriesKnown", apart := false, narrowed := true }
def FnExactSeriesKnownUptoSaid : Prop := fnExactSeriesKnownUptoRow.holds Try.pinned (OpenSpec.upto fnExactSeriesKnownSpec)

end Rows
end Go.Proofs.Ytaghgapkjdkkfaa
